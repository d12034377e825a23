/-
  Parts of the proof: W1, W8, SA, SB, SC, SD.
-/
import Derived.Test.YtclpcnignheijaaGreatDoorQ11
import Derived.Test.YtclpcnignheijaaGreatDoorQ24
import Derived.Test.YtclpcnignheijaaGreatDoorQ10
namespace Go.Proofs.YtclpcnignheijaaGreatDoor
open Go.RowKit
def qDQ(a:AttrQ):List UInt8:=a.name.data.toList++(if a.op.size=0 then[]else a.op.data.toList++34::(a.val.data.toList++34::(if a.any=true then[32,105]else[])))
def qCx(tl:qAg->List UInt8)(k:Nat)(x:ByteArray)(a:AttrQ)(t:NthQ)(l:qAg):List UInt8:=if k<=1 then x.data.toList else if k=2 then qDQ a else if k=8 then qKh t else if 9<=k then tl l else[]
def qG8(tl:qAg->List UInt8):Sim->List UInt8
 |.mk k x a t l=>openW.getD k []++(qCx tl k x a t l++qAq k)
def qBS(tl:qAg->List UInt8)(ms:List Sim):List UInt8:=ms.flatMap (qG8 tl)
def byT(b:Int):List UInt8:=if b=0 then[]else[UInt8.ofNat b.toNat]
def qTk(tl:qAg->List UInt8)(st:Stp):List UInt8:=byT st.1++(st.2.1.data.toList++qBS tl st.2.2)
def qCD(tl:qAg->List UInt8)(c:Cpx):List UInt8:=c.flatMap (qTk tl)
def qDB(tl:qAg->List UInt8):qAg->List UInt8
 |[]=>[]
 |c::r=>qCD tl c++r.flatMap fun c=>44::qCD tl c
def qAR:Nat->qAg->List UInt8
 |0,_=>[]
 |n+1,l=>qDB (qAR n) l
def wfL:Nat->qAg->Prop
 |0,l=>l=[]
 |n+1,l=>∀c∈l,wfC (wfL n) c
theorem qQL(n:Nat):(qFa n).length<=2:=by unfold qFa;split<;>simp
theorem qJ8(n:Int):(qFN n).length<=3:=by
 have:=qQL n.natAbs;unfold qFN;split
 ·simp;omega
 ·omega
theorem qS3{z:NthQ}(h:z.word.size<=4):(qKh z).length<=8:=by
 have h1:=qJ8 z.a;have h2:=qJ8 z.b;unfold qKh;split
 ·split
  ·have:(qG5 z.b).length<=4:=by
    unfold qG5;split
    ·simp;omega
    ·split
     ·omega
     ·simp
   simp;omega
  ·omega
 ·have:z.word.data.toList.length=z.word.size:=by rw[Array.length_toList];rfl
  omega
theorem qRs(s:ByteArray)(p q:Nat):(qCd s p q).data.toList.length<=q-p:=by
 show((s.data.toList.drop p).take (q-p)).toArray.toList.length<=q-p;simp;omega
theorem qNb{s:ByteArray}{p:Nat}{n:ByteArray}(hp:p<=s.size)(h:(qBQ s p qAI).2=some n):n.data.toList.length<=(qBQ s p qAI).1-p/\p<(qBQ s p qAI).1:=by
 refine⟨?_,qJ5 h⟩;unfold qBQ at h ⊢;split at h
 ·cases h
 ·split at h
  ·cases h
  ·split at h
   ·cases h
   ·rename_i h1 h2 h3;rw[if_neg h1,if_neg h2,if_neg h3];simp only[Option.some.injEq]at h;subst h;have:=qCV hp;rw[Array.length_toList];show(qCF s p).size<=qAy s p-p;omega
theorem qL6{s:ByteArray}{p:Nat}{x:ByteArray}(h:(qB5 s p).2=some x):x.data.toList.length<=(qB5 s p).1-p:=by
 unfold qB5 at h ⊢;split at h
 ·cases h
 ·rename_i h1;rw[if_neg h1];simp only[Option.some.injEq]at h;subst h;exact qRs _ _ _
theorem qNN(s:ByteArray):∀(l:List UInt8)(p:Nat),(qAo s l p).2=true->(qAo s l p).1=p+l.length
 |[],p,_=>rfl
 | c :: l, p, h => by
  rw[qAo]at h ⊢;split at h
  ·rename_i hc;rw[if_pos hc,qNN s l (p+1) h];simp;omega
  ·cases h
theorem qTA{i:Nat}{x:List UInt8}(h:opsW[i]? = some x):x.length<=2:=by
 have:∀y∈opsW,y.length<=2:=by decide
 exact this x (List.mem_of_getElem? h)
theorem qOT{s:ByteArray}{p:Nat}{y:AttrQ}(hp:p<=s.size)(h:(qBC s p).2=some y):(qDQ y).length<=(qBC s p).1-p+4/\p<(qBC s p).1:=by
 unfold qBC at h ⊢;have h1:=spP_le hp;have h2:=fun n=>qNb (s:=s) (p:=spP s p) (n:=n) h1.2;have h2':=qCX s (spP s p) qAI h1.2;generalize qBQ s (spP s p) qAI=r at h h2 h2';obtain⟨q,o⟩:=r;cases o with
 |none=>cases h
 | some n =>
  dsimp only at h h2 h2' ⊢;have h3:=h2 n rfl;have h4:=spP_le h2'.2;by_cases h93:qAC s (spP s q)=93
  ·rw[if_pos h93]at h ⊢;simp only[Option.some.injEq]at h;subst h;have e:qDQ ⟨n,noB,noB,false⟩=n.data.toList:=by unfold qDQ;simp[noB];rfl
   rw[e];dsimp only;omega
  ·rw [if_neg h93] at h ⊢;have h5:=qED (s:=s) qHQ 3 [] (spP s q) h4.2;have h6:=fun i=>qCp (s:=s) (words:=opsW) 3 [] (spP s q) i;generalize qCo s opsW 3 [] (spP s q)=r at h h5 h6;obtain⟨q2,o2⟩:=r;cases o2 with
   |none=>cases h
   | some i =>
    dsimp only at h h5 h6 ⊢;obtain⟨ow,how,hol⟩:=h6 i rfl;have h7:=spP_le h5.2;have h8:=qHY h7.2;have h9:∀x,(qAl s (spP s q2)).2=some x->x.data.toList.length<=(qAl s (spP s q2)).1-spP s q2:=by
     intro x hx;unfold qAl at hx ⊢;split at hx
     ·rename_i e1;rw[if_pos e1];split at hx
      ·rename_i e2;rw[if_pos e2];simp only[Option.some.injEq]at hx;subst hx;have:=qRs s (spP s q2+1) (qBq s (spP s q2+1));dsimp only;omega
      ·cases hx
     ·rename_i e1;rw[if_neg e1];exact qL6 hx
    generalize qAl s (spP s q2)=r at h h8 h9;obtain⟨q3,o3⟩:=r;cases o3 with
    |none=>cases h
    | some x =>
     dsimp only at h h8 h9 ⊢;simp only[Option.some.injEq]at h;subst h;have g1:=h9 x rfl;have g2:=spP_le h8.2;have g3:=qPl g2.2;have g4:=spP_le g3.2;have g5:(bytesOf (opsW.getD i [])).data.toList.length=ow.length:=by
      rw[List.getD_eq_getElem?_getD,how];simp[bytesOf]
     have g6:=qTA how;simp only[List.length_nil,Nat.add_zero]at hol;generalize (qON s (spP s q3)).2=bb;unfold qDQ;dsimp only;split
     ·simp only[List.append_nil];omega
     ·have:(if bb=true then([32,105]:List UInt8)else[]).length<=2:=by split<;>simp
      simp only[List.length_append,List.length_cons];generalize (if bb=true then([32,105]:List UInt8)else[])=tt at *;omega
section
variable{lf:Nat->Nat×Option (qAg×Nat×Nat)}{s:ByteArray}{W:qAg->Prop}{tl:qAg->List UInt8}
def qUR(lf:Nat->Nat×Option (qAg×Nat×Nat))(s:ByteArray)(W:qAg->Prop)(tl:qAg->List UInt8):Prop :=
 ∀p x,p<=s.size->(lf p).2=some x->(W x.1/\x.1≠[])/\(tl x.1).length<=4*((lf p).1-p)
theorem qOO(hl:qUR lf s W tl){k p:Nat}{x:Sim×Nat×Nat}(hk:k<11)(hp:p<=s.size)(h:(qAu lf s k p).2=some x) :
  ∃xx a t l,x.1=.mk k xx a t l/\wfS W x.1/\(qCx tl k xx a t l).length<=4*((qAu lf s k p).1-p)+(if k=8 then 8 else if k=2 then 4 else 0):=by
 unfold qAu at h ⊢;by_cases h1:k<=1
 ·rw[if_pos h1]at h ⊢;obtain⟨y,hy,rfl⟩:=Option.map_eq_some_iff.1 h;have:=qL6 hy;refine⟨_,_,_,_,rfl,⟨hk,fun e=>by omega,fun e=>by omega,fun _=>rfl⟩,?_⟩;unfold qCx;rw[if_pos h1];dsimp only;omega
 ·rw [if_neg h1] at h ⊢;by_cases h2:k=2
  ·rw[if_pos h2]at h ⊢;obtain⟨y,hy,rfl⟩:=Option.map_eq_some_iff.1 h;have:=qOT hp hy;refine⟨_,_,_,_,rfl,⟨hk,fun e=>by omega,fun e=>by omega,fun _=>rfl⟩,?_⟩;unfold qCx;rw[if_neg h1,if_pos h2,if_neg (by omega),if_pos h2];dsimp only;omega
  ·rw[if_neg h2]at h ⊢;by_cases h3:k=8
   ·rw[if_pos h3]at h ⊢;obtain⟨y,hy,rfl⟩:=Option.map_eq_some_iff.1 h;have hz:((-100<y.a/\y.a<100)/\(-100<y.b/\y.b<100))/\y.word.size<=4:=by
     unfold qJ7 at hy;have h5:=fun z=>qFB (s:=s) (p:=spP s p) (z:=z);generalize qAj s (spP s p)=r at hy h5;obtain⟨q,o⟩:=r;cases o with
     |none=>cases hy
     |some z =>
      simp only[Option.some.injEq]at hy;subst hy;exact h5 z rfl
    refine⟨_,_,_,_,rfl,⟨hk,fun _=>hz.1,fun e=>by omega,fun _=>rfl⟩,?_⟩;have:=qS3 hz.2;unfold qCx;rw[if_neg h1,if_neg h2,if_pos h3,if_pos h3];dsimp only;omega
   ·rw[if_neg h3]at h ⊢;by_cases h4:9<=k
    ·rw[if_pos h4]at h ⊢;obtain⟨y,hy,rfl⟩:=Option.map_eq_some_iff.1 h;obtain⟨g1,g2⟩:=hl p y hp hy;refine⟨_,_,_,_,rfl,⟨hk,fun e=>by omega,fun _=>⟨g1.2,g1.1⟩,fun e=>by omega⟩,?_⟩;unfold qCx;rw[if_neg h1,if_neg h2,if_neg h3,if_pos h4];dsimp only;omega
    ·rw[if_neg h4]at h ⊢;simp only[Option.some.injEq]at h;subst h;refine⟨_,_,_,_,rfl,⟨hk,fun e=>by omega,fun e=>by omega,fun _=>rfl⟩,?_⟩;unfold qCx;rw[if_neg h1,if_neg h2,if_neg h3,if_neg h4];simp
theorem qQ7{k:Nat}{x:List UInt8}(h:openW[k]? = some x):1<=x.length/\(k=8->x.length=11)/\(qAq k).length<=1/\(k=2->(qAq k).length=1)/\k<11:=by
 have hk:k<11:=(List.getElem?_eq_some_iff.1 h).1;rcases k with _|_|_|_|_|_|_|_|_|_|_|k
 all_goals first
  |omega
  |(simp[openW]at h;subst h;decide)
theorem qMw(hg:∀p,p<=s.size->Gd s p (lf p))(hl:qUR lf s W tl){p:Nat}{x:Sim×Nat×Nat}(hp:p<=s.size)(h:(qAe lf s p).2=some x):wfS W x.1/\(qG8 tl x.1).length<=4*((qAe lf s p).1-p):=by
 unfold qAe at h ⊢;have h1:=qED (s:=s) qEE 13 [] p hp;have h2:=fun i=>qCp (s:=s) (words:=openW) 13 [] p i;generalize qCo s openW 13 [] p=r at h h1 h2;obtain⟨q,o⟩:=r;cases o with
 |none=>cases h
 | some k =>
  dsimp only at h h1 h2 ⊢;obtain⟨ow,how,hol⟩:=h2 k rfl;obtain⟨o1,o2,o3,o4,o5⟩:=qQ7 how;have h3:=qKo hg (k:=k) h1.2;have h4:=fun y=>qOO (x:=y) hl o5 h1.2;generalize qAu lf s k q=r at h h3 h4;obtain⟨q2,o'⟩:=r;cases o' with
  |none=>cases h
  | some y =>
   dsimp only at h h3 h4 ⊢;obtain⟨xx,a,t,l,hy,hw,hlen⟩:=h4 y rfl;have h5:=qNN s (qAq k) q2;split at h
   ·rename_i hx;have h5:=h5 hx;simp only[Option.some.injEq]at h;subst h;refine⟨hw,?_⟩;dsimp only;rw[hy];have e:(openW.getD k []).length=ow.length:=by rw[List.getD_eq_getElem?_getD,how];rfl
    simp only[List.length_nil,Nat.add_zero]at hol;show(openW.getD k []++(qCx tl k xx a t l++qAq k)).length<=_;rw[List.length_append,List.length_append,e,h5];by_cases k8:k=8
    ·have:=o2 k8;rw[if_pos k8]at hlen;omega
    ·rw[if_neg k8]at hlen;by_cases k2:k=2
     ·have:=o4 k2;rw[if_pos k2]at hlen;omega
     ·rw[if_neg k2]at hlen;omega
   ·cases h
theorem qPU(l:List Sim)(m:Sim):qBS tl (l++[m])=qBS tl l++qG8 tl m:=by unfold qBS;simp
theorem qGw(hg:∀p,p<=s.size->Gd s p (lf p))(hl:qUR lf s W tl):∀f l c d p,p<=s.size->(∀m∈l,wfS W m)->∀x,(qAO lf s f l c d p).2=some x->(∀m∈x.1,wfS W m)/\(qBS tl x.1).length<=(qBS tl l).length+4*((qAO lf s f l c d p).1-p)
 |0,l,c,d,p,hp,hw,x,h=>by simp[qAO]at h
 | f + 1, l, c, d, p, hp, hw, x, h => by
  rw[qAO]at h ⊢;split at h
  ·rename_i hat;rw[if_pos hat];have h1:=fun y=>qMw (x:=y) hg hl hp;have h2:=qCc hg hp;generalize qAe lf s p=r at h h1 h2;obtain⟨q,o⟩:=r;cases o with
   |none=>cases h
   | some y =>
    dsimp only at h h1 h2 ⊢;obtain⟨g1,g2⟩:=h1 y rfl;obtain⟨⟨e1,e2,_⟩,_⟩:=h2;dsimp only at e1 e2;have e3:=(qDp hg f (l++[y.1]) (c+y.2.1) (max d y.2.2) q e2).1;obtain⟨g3,g4⟩:=qGw hg hl f (l++[y.1]) (c+y.2.1) (max d y.2.2) q e2 (by
     intro m hm;rcases List.mem_append.1 hm with hm|hm
     ·exact hw m hm
     ·rw[List.mem_singleton.1 hm];exact g1) x h
    refine⟨g3,?_⟩;rw[qPU,List.length_append]at g4;omega
  ·rename_i hat;rw[if_neg hat];simp only[Option.some.injEq]at h;subst h;exact⟨hw,by dsimp only;omega⟩
theorem qJo(hg:∀p,p<=s.size->Gd s p (lf p))(hl:qUR lf s W tl){p:Nat}{x:(ByteArray×List Sim)×Nat×Nat}(hp:p<=s.size)(h:(qAQ lf s p).2=some x):(∀m∈x.1.2,wfS W m)/\x.1.1.data.toList.length+(qBS tl x.1.2).length<=4*((qAQ lf s p).1-p):=by
 unfold qAQ at h ⊢;have h1:=qHM hp;have h2:∀n,(qB4 s p).2=some n->n.data.toList.length<=(qB4 s p).1-p:=by
  intro n hn;unfold qB4 at hn ⊢;split at hn
  ·rename_i e;rw[if_pos e];simp only[Option.some.injEq]at hn;subst hn;simp[bytesOf]
  ·rename_i e;rw[if_neg e];split at hn
   ·rename_i e2;rw[if_pos e2];simp only[Option.some.injEq]at hn;subst hn;simp[noB]
   ·rename_i e2;rw[if_neg e2];exact(qNb hp hn).1
 generalize qB4 s p=r at h h1 h2;obtain⟨q,o⟩:=r;cases o with
 |none=>cases h
 | some n =>
  dsimp only at h h1 h2 ⊢;have h3:=h2 n rfl;have h4:=qGw hg hl (s.size+1) [] 0 0 q h1.2.1 (by simp);have h5:=(qDp hg (s.size+1) [] 0 0 q h1.2.1).1;generalize qAO lf s (s.size+1) [] 0 0 q=r at h h4 h5;obtain⟨q2,o2⟩:=r;cases o2 with
  |none=>cases h
  |some y =>
   dsimp only at h h4 h5 ⊢;simp only[Option.some.injEq]at h;subst h;obtain⟨g1,g2⟩:=h4 y rfl;have e:(qBS tl []).length=0:=rfl;exact⟨g1,by dsimp only;omega⟩
theorem qUb(b:Int):(byT b).length<=1:=by unfold byT;split<;>simp
theorem qJn{q:Nat}{b:Int}(hq:q<=s.size)(h:(qBr s q).2=some b):q<(qBr s q).1:=by
 unfold qBr at h ⊢;have h1:=spP_le hq;split at h
 ·rename_i e;rw[if_pos e];have h2:spP s q<s.size:=qAX (fun e0=>by rw[e0]at e;revert e;decide);have:=spP_le (s:=s) (p:=spP s q+1) h2;dsimp only;omega
 ·rename_i e;rw[if_neg e];split at h
  ·cases h
  ·rename_i e2;rw[if_neg e2];split at h
   ·rename_i e3;rw[if_pos e3];exact e3
   ·cases h
theorem qQI(l:Cpx)(st:Stp):qCD tl (l++[st])=qCD tl l++qTk tl st:=by unfold qCD;simp
theorem qGe(hg:∀p,p<=s.size->Gd s p (lf p))(hl:qUR lf s W tl):∀f l c d b p,p<=s.size->wfC W l->((l=[]->b=0)/\(l≠[]->0<b/\b<128))->∀x,(qAN lf s f l c d b p).2=some x->(wfC W x.1/\x.1≠[])/\(qCD tl x.1).length<=(qCD tl l).length+(byT b).length+4*((qAN lf s f l c d b p).1-p)
 |0,l,c,d,b,p,hp,hw,hb,x,h=>by simp[qAN]at h
 | f + 1, l, c, d, b, p, hp, hw, hb, x, h => by
  rw[qAN]at h ⊢;have h1:=fun y=>qJo (x:=y) hg hl hp;have h2:=qCC hg hp;generalize qAQ lf s p=r at h h1 h2;obtain⟨q,o⟩:=r;cases o with
  |none=>cases h
  | some y =>
   dsimp only at h h1 h2 ⊢;obtain⟨g1,g2⟩:=h1 y rfl;obtain⟨⟨e1,e2,_⟩,_⟩:=h2;dsimp only at e1 e2;have hw':wfC W (l++[(b,y.1.1,y.1.2)]):=by
    intro i st hi;by_cases hil:i<l.length
    ·rw[List.getElem?_append_left hil]at hi;exact hw i st hi
    ·rw[List.getElem?_append_right (by omega)]at hi;have hz:i-l.length=0:=by
      cases hh:i-l.length with
      |zero=>rfl
      |succ n=>rw[hh]at hi;simp at hi
     rw[hz]at hi;simp only[List.getElem?_cons_zero,Option.some.injEq]at hi;subst hi;refine⟨g1,fun e=>hb.1 (List.eq_nil_of_length_eq_zero (by omega)),fun e=>hb.2 (fun e0=>?_)⟩;rw[e0]at hz;simp at hz;omega
   have hT:(qCD tl (l++[(b,y.1.1,y.1.2)])).length<=(qCD tl l).length+(byT b).length+4*(q-p):=by
    rw[qQI,List.length_append];unfold qTk;rw[List.length_append,List.length_append];dsimp only;omega
   have h3:=qEf (s:=s) e2;have h4:=fun b'=>qNH (s:=s) (q:=q) (b:=b');have h4':=fun b'=>qJn (s:=s) (q:=q) (b:=b') e2;generalize qBr s q=r at h h3 h4 h4';obtain⟨q2,o2⟩:=r;cases o2 with
   |none =>
    dsimp only at h h3 ⊢;simp only[Option.some.injEq]at h;subst h;exact⟨⟨hw',by simp⟩,by dsimp only;omega⟩
   |some b' =>
    dsimp only at h h3 h4 h4' ⊢;have h5:=h4' b' rfl;obtain⟨g3,g4⟩:=qGe hg hl f (l++[(b,y.1.1,y.1.2)]) (c+y.2.1) (max d y.2.2) b' q2 h3.2 hw' ⟨fun e=>by simp at e,fun _=>h4 b' rfl⟩ x h;have h6:=(qB8 hg f (l++[(b,y.1.1,y.1.2)]) (c+y.2.1) (max d y.2.2) b' q2 h3.2).1;have:=qUb b';exact⟨g3,by omega⟩
theorem qQr(l:qAg)(c:Cpx):(qDB tl (l++[c])).length<=(qDB tl l).length+(if l=[]then 0 else 1)+(qCD tl c).length:=by
 cases l with
 |nil=>simp[qDB]
 |cons c0 r=>simp[qDB];omega
theorem qLd(hg:∀p,p<=s.size->Gd s p (lf p))(hl:qUR lf s W tl):∀f l c d p,p<=s.size->(∀c∈l,wfC W c)->∀x,(qBI lf s f l c d p).2=some x->((∀c∈x.1,wfC W c)/\x.1≠[])/\(qDB tl x.1).length<=(qDB tl l).length+(if l=[]then 0 else 1)+4*((qBI lf s f l c d p).1-p)
 |0,l,c,d,p,hp,hw,x,h=>by simp[qBI]at h
 | f + 1, l, c, d, p, hp, hw, x, h => by
  rw[qBI]at h ⊢;have h0:=spP_le hp;have h1:=qGe hg hl (s.size+1) [] 0 0 0 (spP s p) h0.2 (fun i st hi=>by simp at hi) ⟨fun _=>rfl,fun e=>absurd rfl e⟩;have h2:=qB8 hg (s.size+1) [] 0 0 0 (spP s p) h0.2;generalize qAN lf s (s.size+1) [] 0 0 0 (spP s p)=r at h h1 h2;obtain⟨q,o⟩:=r;cases o with
  |none=>cases h
  | some y =>
   dsimp only at h h1 h2 ⊢;obtain⟨g1,g2⟩:=h1 y rfl;obtain⟨e1,e2,e3⟩:=h2;have hlt:=(e3 y rfl).2;have e0:(qCD tl []).length=0:=rfl;have e0':(byT 0).length=0:=rfl;have hw':∀c∈l++[y.1],wfC W c:=by
    intro c hc;rcases List.mem_append.1 hc with hc|hc
    ·exact hw c hc
    ·rw[List.mem_singleton.1 hc];exact g1.1
   have hT:=qQr (tl:=tl) l y.1;by_cases hc:qAC s q=44
   ·rw[if_pos hc]at h ⊢;have hq:=qB9 hc (by decide);obtain⟨g3,g4⟩:=qLd hg hl f (l++[y.1]) (c+y.2.1) (max d y.2.2) (q+1) hq hw' x h;have h6:=(qIB hg f (l++[y.1]) (c+y.2.1) (max d y.2.2) (q+1) hq).1;rw[if_neg (by simp)]at g4;exact⟨g3,by omega⟩
   ·rw[if_neg hc]at h ⊢;simp only[Option.some.injEq]at h;subst h;exact⟨⟨hw',by simp⟩,by dsimp only;omega⟩
end
theorem qNW(s:ByteArray):∀n,qUR (qAP s n) s (wfL n) (qAR n)
 |0=>fun p x hp h=>by simp[qAP]at h
 |n+1=>fun p x hp h=>by
  obtain⟨⟨h1,h2⟩,h3⟩:=qLd (qB0 s n) (qNW s n) (s.size+1) [] 0 0 p hp (by simp) x h;refine⟨⟨h1,h2⟩,?_⟩;have e:(qDB (qAR n) []).length=0:=rfl;rw[if_pos rfl,e]at h3;show(qDB (qAR n) x.1).length<=4*((qBI (qAP s n) s (s.size+1) [] 0 0 p).1-p);omega
section
variable{lf:Nat->Nat×Option (qAg×Nat×Nat)}{s:ByteArray}
theorem qF2:∀f l c d p x,(qAO lf s f l c d p).2=some x->l.length<=x.1.length/\(atB (qAC s p)=true->l.length<x.1.length)
 |0,l,c,d,p,x,h=>by simp[qAO]at h
 | f + 1, l, c, d, p, x, h => by
  rw[qAO]at h;by_cases ha:atB (qAC s p)=true
  ·rw[if_pos ha]at h;generalize qAe lf s p=r at h;obtain⟨q,o⟩:=r;cases o with
   |none=>cases h
   |some y =>
    have:=(qF2 f _ _ _ _ x h).1;simp only[List.length_append,List.length_cons,List.length_nil]at this;exact⟨by omega,fun _=>by omega⟩
  ·rw[if_neg ha]at h;simp only[Option.some.injEq]at h;subst h;exact⟨Nat.le_refl _,fun e=>absurd e ha⟩
def qS5(st:Stp):Prop:=st.2.1.size≠0\/st.2.2≠[]
def qS4(c:Cpx):Prop:=(∀st∈c,qS5 st)/\c≠[]
theorem qK3{p:Nat}{x:(ByteArray×List Sim)×Nat×Nat}(hp:p<=s.size)(h:(qAQ lf s p).2=some x):x.1.1.size≠0\/x.1.2≠[]:=by
 unfold qAQ qB4 at h;by_cases h42:qAC s p=42
 ·rw[if_pos h42]at h;dsimp only at h;generalize qAO lf s (s.size+1) [] 0 0 (p+1)=r at h;obtain⟨q,o⟩:=r;cases o with
  |none=>cases h
  |some y =>
   simp only[Option.some.injEq]at h;subst h;exact .inl (by show(bytesOf [42]).size≠0;decide)
 ·rw [if_neg h42] at h;by_cases ha:atB (qAC s p)=true
  ·rw[if_pos ha]at h;dsimp only at h;have h1:=fun y=>qF2 (lf:=lf) (s:=s) (s.size+1) [] 0 0 p y;generalize qAO lf s (s.size+1) [] 0 0 p=r at h h1;obtain⟨q,o⟩:=r;cases o with
   |none=>cases h
   |some y =>
    simp only[Option.some.injEq]at h;subst h;have:=(h1 y rfl).2 ha;exact .inr (fun e=>by dsimp only at e;rw[e]at this;simp at this)
  ·rw [if_neg ha] at h;have h1:=fun n=>qJ5 (s:=s) (p:=p) (x:=n);have h2:∀n,(qBQ s p qAI).2=some n->n.size≠0:=fun n hn=>by
    have hlt:=qJ5 hn;have hna:=qCV hp;unfold qBQ at hn hlt;split at hn
    ·cases hn
    ·split at hn
     ·cases hn
     ·split at hn
      ·cases hn
      ·rename_i a1 a2 a3;rw[if_neg a1,if_neg a2,if_neg a3]at hlt;simp only[Option.some.injEq]at hn;subst hn;dsimp only at hlt;omega
   generalize qBQ s p qAI=r at h h2;obtain⟨q,o⟩:=r;cases o with
   |none=>cases h
   | some n =>
    dsimp only at h;generalize qAO lf s (s.size+1) [] 0 0 q=r at h;obtain⟨q',o'⟩:=r;cases o' with
    |none=>cases h
    |some y =>
     simp only[Option.some.injEq]at h;subst h;exact .inl (h2 n rfl)
theorem qHg(hg:∀p,p<=s.size->Gd s p (lf p)):∀f l c d b p,p<=s.size->(∀st∈l,qS5 st)->∀x,(qAN lf s f l c d b p).2=some x->qS4 x.1
 |0,l,c,d,b,p,_,_,x,h=>by simp[qAN]at h
 | f + 1, l, c, d, b, p, hp, hl, x, h => by
  rw[qAN]at h;have h1:=fun y=>qK3 (lf:=lf) (x:=y) hp;have h2:=qCC hg hp;generalize qAQ lf s p=r at h h1 h2;obtain⟨q,o⟩:=r;cases o with
  |none=>cases h
  | some y =>
   have hn:∀st∈l++[(b,y.1.1,y.1.2)],qS5 st:=fun st hst=>by
    rcases List.mem_append.1 hst with hst|hst
    ·exact hl st hst
    ·rw[List.mem_singleton]at hst;subst hst;exact h1 y rfl
   have h3:=qEf (s:=s) (p:=q) h2.1.2.1;dsimp only at h;generalize qBr s q=r at h h3;obtain⟨q2,o2⟩:=r;cases o2 with
   |none =>
    simp only[Option.some.injEq]at h;subst h;exact⟨hn,by simp⟩
   |some b'=>exact qHg hg f _ _ _ _ _ h3.2 hn x h
theorem qEK(hg:∀p,p<=s.size->Gd s p (lf p)):∀f l c d p,p<=s.size->(∀cx∈l,qS4 cx)->∀x,(qBI lf s f l c d p).2=some x->(∀cx∈x.1,qS4 cx)
 |0,l,c,d,p,_,_,x,h=>by simp[qBI]at h
 | f + 1, l, c, d, p, hp, hl, x, h => by
  rw[qBI]at h;have hsp:=spP_le hp;have h1:=qHg (lf:=lf) hg (s.size+1) [] 0 0 0 (spP s p) hsp.2 (fun _ h=>by cases h);have h2:=qB8 hg (s.size+1) [] 0 0 0 (spP s p) hsp.2;generalize qAN lf s (s.size+1) [] 0 0 0 (spP s p)=r at h h1 h2;obtain⟨q,o⟩:=r;cases o with
  |none=>cases h
  | some y =>
   have hn:∀cx∈l++[y.1],qS4 cx:=fun cx hcx=>by
    rcases List.mem_append.1 hcx with hcx|hcx
    ·exact hl cx hcx
    ·rw[List.mem_singleton]at hcx;subst hcx;exact h1 y rfl
   dsimp only at h;split at h
   ·rename_i h44;exact qEK hg f _ _ _ _ (qB9 h44 (by decide)) hn x h
   ·simp only[Option.some.injEq]at h;subst h;exact hn
end
theorem qS7{k:Nat}(hk:k<11):openW.getD k []≠[]:=by
 have h:∀j,j<11->openW.getD j []≠[]:=by decide
 exact h k hk
theorem qVM{W:qAg->Prop}{tl:qAg->List UInt8}{st:Stp}(h:qS5 st)(hw:wfT W st):qTk tl st≠[]:=by
 unfold qTk;intro e;simp only[List.append_eq_nil_iff]at e;obtain⟨_,e1,e2⟩:=e;rcases h with h|h
 ·apply h;have:=congrArg List.length e1
  rwa[Array.length_toList]at this
 ·obtain⟨m,r,hm⟩:=List.exists_cons_of_ne_nil h;rw[hm]at e2;obtain⟨k,x,a,t,l⟩:=m;have hk:=(hw (.mk k x a t l) (by rw[hm];simp)).1;simp only[qBS,List.flatMap_cons,List.append_eq_nil_iff,qG8]at e2;exact qS7 hk e2.1.1
theorem qOw{s:ByteArray}{n p:Nat}{x:qAg×Nat×Nat}(hp:p<=s.size)(h:(qAP s n p).2=some x):wfL n x.1/\(qAR n x.1).length<=4*s.size/\qAR n x.1≠[]:=by
 have h1:=qNW s n p x hp h;have h2:=qB0 s n p hp;refine⟨h1.1.1,by have:=h1.2;have:=h2.2.1;omega,?_⟩;cases n with
 |zero=>simp[qAP]at h
 |succ n =>
  have h3:=qEK (lf:=qAP s n) (qB0 s n) (s.size+1) [] 0 0 p hp (fun _ h=>by cases h) x h;obtain⟨c,r,hc⟩:=List.exists_cons_of_ne_nil h1.1.2;have hwc:wfC (wfL n) c:=h1.1.1 c (by rw[hc];simp);have hokc:=h3 c (by rw[hc];simp);show qDB (qAR n) x.1≠[];rw[hc];show qCD (qAR n) c++_≠[];intro e;have e1:=(List.append_eq_nil_iff.1 e).1;obtain⟨st,r',hst⟩:=List.exists_cons_of_ne_nil hokc.2;rw[hst]at e1;simp only[qCD,List.flatMap_cons,List.append_eq_nil_iff]at e1;exact qVM (hokc.1 st (by rw[hst];simp)) (hwc 0 st (by rw[hst];rfl)).1 e1.1
def hdI:List UInt8->Int
 |[]=>0
 |c::_=>if okU c=true then(c.toNat:Int)else 0
section
variable{s B:ByteArray}{p p' q:Nat}{r:List UInt8}
theorem At.hd(h:At B p r):qAC B p=hdI r:=by
 cases r with
 |nil=>exact At.endPeek h
 | cons c r =>
  by_cases hc:okU c=true
  ·rw[At.peek h hc];simp[hdI,hc]
  ·have e:qE7 B p=(c.toNat:Int):=by
    unfold qE7;have h1:(B.data.toList.drop p)[0]? = some c:=by rw[h.1];rfl
    rw[List.getElem?_drop]at h1;simp only[Nat.add_zero]at h1;rw[h1];rfl
   unfold qAC;rw[if_neg (fun hh=>hc (by have:=hh.2;rw[e]at this;exact this))];simp[hdI,hc]
theorem qNt{f:Int->Bool}:∀(n r:List UInt8)(p k:Nat),At B p (n++r)->(∀c∈n,okU c=true/\f (c.toNat:Int)=true)->f (hdI r)=false->n.length<=k->qDm f B k p=p+n.length
 |[],r,p,k,h,_,hn,_=>qKH (by rw[At.hd (r:=r) h];exact hn)
 |c::n,r,p,k,h,hc,hn,hk=>by
  obtain⟨k,rfl⟩:∃k',k=k'+1:=⟨k-1,by simp at hk;omega⟩;have f1:=hc c (List.mem_cons_self ..);rw[qEl (by rw[At.peek (c:=c) (r:=n++r) h f1.1];exact f1.2),qNt n r (p+1) k (At.step h) (fun x hx=>hc x (List.mem_cons_of_mem _ hx)) hn (by simp at hk;omega),List.length_cons];omega
theorem qM1{f:Int->Bool}(h0:f 0=false){k:Nat}(hp:p<=s.size)(hq:q=qDm f s k p):(∀c∈(qCd s p q).data.toList,okU c=true/\f (c.toNat:Int)=true)/\(qCd s p q).data.toList.length=q-p:=by
 have hle:=qC5 f h0 s k p hp;rw[<-hq]at hle;have e:(qCd s p q).data.toList=(s.data.toList.drop p).take (q-p):=rfl;rw[e];refine⟨fun c hc=>?_,?_⟩
 ·obtain⟨i,hi⟩:=List.mem_iff_getElem?.1 hc;have hil:=(List.getElem?_eq_some_iff.1 hi).1;rw[List.length_take]at hil;rw[List.getElem?_take_of_lt (by omega),List.getElem?_drop]at hi;have hn:=qMm (f:=f) (s:=s) k p (p+i) (by omega) (by rw[<-hq];omega);have hz:qAC s (p+i)≠0:=fun e=>by rw[e,h0]at hn;cases hn
  obtain⟨c',h1,h2,h3⟩:=qFr hz;rw[h1]at hi;cases hi;exact⟨h3,by rw[<-h2];exact hn⟩
 ·have hs:s.data.toList.length=s.size:=by rw[Array.length_toList];rfl
  simp only[List.length_take,List.length_drop];omega
theorem qUL{x:ByteArray}(h:At B p (x.data.toList++r)):qCd B p (p+x.data.toList.length)=x:=by
 unfold qCd;rw[h.1,Nat.add_sub_cancel_left,List.take_left' rfl]
theorem qVT{x:ByteArray}(hp:p<=s.size)(h:qB5 s p=(q,some x))(hB:At B p' (x.data.toList++r))(hr:qBj (hdI r)=false):qB5 B p'=(p'+x.data.toList.length,some x):=by
 unfold qB5 at h;split at h
 ·cases h
 ·rename_i hc;simp only[Prod.mk.injEq,Option.some.injEq]at h;obtain⟨h1,h2⟩:=h;rw[h1]at h2;obtain⟨g1,g2⟩:=qM1 (s:=s) (f:=qBj) (by decide) hp h1.symm;rw[h2]at g1 g2;have hle:=qC5 qBj (by decide) s 16 p hp;have hne:q≠p:=fun e=>hc (.inl (h1.trans e));have hrun:=qNt x.data.toList r p' 16 hB g1 hr (by omega);unfold qB5;rw[hrun,if_neg,qUL hB];rintro(e|e)
  ·omega
  ·rw[At.hd (At.skip hB),hr]at e;cases e
theorem qQ1{n:ByteArray}(hn:NmOk n)(hB:At B p' (n.data.toList++r))(hr:qBP (hdI r)=false):qBQ B p' qAI=(p'+n.data.toList.length,some n):=by
 obtain⟨hc,h16,h0⟩:=hn.low;have he:qAy B p'=p'+n.data.toList.length:=qNt _ r p' 16 hB (fun c hx=>⟨(qCU (hc c hx)).1,(qCU (hc c hx)).2.1⟩) hr h16;have hsm:qBV n.data.toList=n.data.toList:=by
  unfold qBV
  conv=>rhs;rw[<-List.map_id n.data.toList]
  exact List.map_congr_left fun c hx=>(qCU (hc c hx)).2.2.1
 have hna:qCF B p'=n:=by
  unfold qCF;rw[he,hB.1,Nat.add_sub_cancel_left,List.take_left' rfl,hsm]
 have hl:qBY (qAC B p')=true:=by
  obtain⟨c,r',e,hc',-,-⟩:=hn;rw[e]at hB;have f:=qDa hc';rw[At.peek (c:=c) (r:=r'++r) hB f.1];exact f.2.1
 rw[qFk hl hna he rfl,At.hd (At.skip hB),hr,if_neg Bool.false_ne_true]
theorem qEU(h:At B p r)(hr:qAV (hdI r)=false):spP B p=p:=qCO (by rw[At.hd h];exact hr)
theorem qQU:∀{l:List UInt8}{p:Nat},At B p (l++r)->(∀c∈l,okU c=true)->qAo B l p=(p+l.length,true):=fun h hl=>qEA h fun c hc=>⟨hl c hc,qH6 (hl c hc)⟩
theorem qQ5{words:List (List UInt8)}{w:List UInt8}{i:Nat}(hi:words.findIdx? (·==w)=some i)(hpre:∀k,k<w.length->words.findIdx? (·==w.take k)=none/\qCQ words (w.take k) ((w.getD k 0).toNat:Int)=true)(hok:∀c∈w,okU c=true) :
  ∀(m j n p:Nat),m+j=w.length->At B p (w.drop j++r)->m<n->qCo B words n (w.take j) p=(p+m,some i)
 |0,j,n,p,hm,h,hn=>by
  obtain⟨n,rfl⟩:∃n',n=n'+1:=⟨n-1,by omega⟩;rw[qCo,show w.take j=w from List.take_of_length_le (by omega),hi];rfl
 |m+1,j,n,p,hm,h,hn=>by
  obtain⟨n,rfl⟩:∃n',n=n'+1:=⟨n-1,by omega⟩;obtain⟨h1,h2⟩:=hpre j (by omega);have hd:w.drop j=w[j]::w.drop (j+1):=List.drop_eq_getElem_cons (by omega);rw[hd]at h;have pk:qAC B p=(w[j].toNat:Int):=At.peek h (hok _ (List.getElem_mem _));have hg:w.getD j 0=w[j]:=by simp[List.getD,show j<w.length by omega]
  have hc:UInt8.ofNat ((w[j].toNat:Int)).toNat=w[j]:=by rw[Int.toNat_natCast,UInt8.ofNat_toNat]
  rw[qCo,h1,pk];dsimp only;rw[hg]at h2;have htk:w.take j++[w[j]]=w.take (j+1):=by rw[List.take_add_one,List.getElem?_eq_getElem (by omega)];rfl
  rw[if_pos h2,hc,htk,qQ5 hi hpre hok m (j+1) n (p+1) (by omega) (At.step h) (by omega)];congr 1;omega
theorem qJc{x:ByteArray}(hp:p<=s.size)(h:qAl s p=(q,some x)):∀c∈x.data.toList,okU c=true/\c≠34:=by
 unfold qAl at h;split at h
 ·rename_i h34;have hp1:=qB9 h34 (by decide);split at h
  ·simp only[Prod.mk.injEq,Option.some.injEq]at h;obtain⟨-,rfl⟩:=h;have:=(qM1 (s:=s) (p:=p+1) (f:=fun b=>b != 34&&b != 0) (k:=s.size-(p+1)) (by decide) hp1 rfl).1;intro c hc;obtain⟨g1,g2⟩:=this c hc;refine⟨g1,fun e=>?_⟩;rw[e]at g2
   revert g2
   decide
  ·cases h
 ·unfold qB5 at h;split at h
  ·cases h
  ·simp only[Prod.mk.injEq,Option.some.injEq]at h;obtain⟨-,rfl⟩:=h;have:=(qM1 (s:=s) (p:=p) (f:=qBj) (k:=16) (by decide) hp rfl).1;intro c hc;obtain⟨g1,g2⟩:=this c hc;refine⟨g1,fun e=>?_⟩;rw[e]at g2
   revert g2
   decide
theorem qTH{x:ByteArray}(hx:∀c∈x.data.toList,okU c=true/\c≠34)(h:At B p (34::(x.data.toList++34::r))):qAl B p=(p+x.data.toList.length+2,some x):=by
 have h1:=At.step h;have pk:qAC B p=34:=At.peek h (by decide);have hu:qBq B (p+1)=p+1+x.data.toList.length:=by
  unfold qBq qBM;refine qNt x.data.toList (34::r) (p+1) _ h1 (fun c hc=>⟨(hx c hc).1,?_⟩) rfl (by have:=h1.2;rw[List.length_append]at this;omega);have e1:(c.toNat:Int)≠34:=fun e=>(hx c hc).2 (UInt8.toNat_inj.1 (by show c.toNat=34;omega));have e2:=qH6 (hx c hc).1;simp[e1];omega
 have pk2:qAC B (p+1+x.data.toList.length)=34:=At.peek (At.skip h1) (by decide);unfold qAl;rw[if_pos pk,hu,if_pos pk2,qUL h1];congr 1;omega
theorem qN3{c:UInt8}(h:smU c=true):okU c=true/\qAV (c.toNat:Int)=false/\(c.toNat:Int)≠42/\atB (c.toNat:Int)=false/\qGH (c.toNat:Int)=false/\qKV (c.toNat:Int)=false:=by
 have h0:=(qDa h).1;unfold smU at h;simp only[Bool.and_eq_true,decide_eq_true_eq]at h;refine⟨h0,?_,by omega,?_,?_,?_⟩
 ·unfold qAV;simp;omega
 ·unfold atB;simp;omega
 ·unfold qGH;simp;omega
 ·unfold qKV;simp;omega
theorem NmOk.hd{n:ByteArray}(h:NmOk n)(t:List UInt8):∃c:UInt8,smU c=true/\hdI (n.data.toList++t)=(c.toNat:Int):=by
 obtain⟨c,r,e,hc,-,-⟩:=h;refine⟨c,hc,?_⟩;rw[e];show(if okU c=true then(c.toNat:Int)else 0)=_;rw[if_pos (qDa hc).1]
theorem qUY{y:AttrQ}(hp:p<=s.size)(h:qBC s p=(q,some y))(hB:At B p' (qDQ y++93::r)):qBC B p'=(p'+(qDQ y).length,some y):=by
 unfold qBC at h;have b1:=spP_le hp;have b2:=qCX s (spP s p) qAI b1.2;have hnm:=fun n=>qJ6 (s:=s) (p:=spP s p) (n:=n) (taken:=qAI);generalize qBQ s (spP s p) qAI=r1 at h b2 hnm;obtain⟨q1,o1⟩:=r1;cases o1 with
 |none=>cases h
 | some n =>
  have hn:=(hnm n rfl).1;dsimp only at h b2;have b3:=spP_le b2.2;split at h
  ·simp only[Prod.mk.injEq,Option.some.injEq]at h;obtain⟨-,rfl⟩:=h;have e0:qDQ ⟨n,noB,noB,false⟩=n.data.toList:=by unfold qDQ;simp[noB];rfl
   rw[e0]at hB ⊢;obtain⟨c,hc,hh⟩:=hn.hd (93::r);have x0:spP B p'=p':=qEU hB (by rw[hh];exact(qN3 hc).2.1);have x1:=qQ1 hn hB rfl;have h2:=At.skip hB;have x2:spP B (p'+n.data.toList.length)=p'+n.data.toList.length:=qEU h2 rfl;have pk:qAC B (p'+n.data.toList.length)=93:=At.peek h2 (by decide);unfold qBC;rw[x0,x1];dsimp only;rw[x2,if_pos pk]
  ·have b4:=qED (s:=s) qHQ 3 [] (spP s q1) b3.2;have b5:=fun i=>qCp (s:=s) (words:=opsW) 3 [] (spP s q1) i;generalize qCo s opsW 3 [] (spP s q1)=r2 at h b4 b5;obtain⟨q2,o2⟩:=r2;cases o2 with
   |none=>cases h
   | some i =>
    dsimp only at h b4;obtain⟨ow,how,-⟩:=b5 i rfl;have b6:=spP_le b4.2;have hch:=fun q x=>qJc (s:=s) (p:=spP s q2) (q:=q) (x:=x) b6.2;generalize qAl s (spP s q2)=r3 at h hch;obtain⟨q3,o3⟩:=r3;cases o3 with
    |none=>cases h
    | some x =>
     have hx:=hch q3 x rfl;simp only[Prod.mk.injEq,Option.some.injEq]at h;obtain⟨-,rfl⟩:=h;generalize (qON s (spP s q3)).2=any at hB ⊢;have hi6:i<6:=(List.getElem?_eq_some_iff.1 how).1;have hgd:opsW.getD i []=ow:=by rw[List.getD_eq_getElem?_getD,how];rfl
     rw[hgd]at hB ⊢;have hop:ow≠[]/\(∀c∈ow,okU c=true)/\qBP (hdI ow)=false/\qAV (hdI ow)=false/\hdI ow≠93/\opsW.findIdx? (·==ow)=some i/\ow.length<3/\(∀k,k<ow.length->opsW.findIdx? (·==ow.take k)=none/\qCQ opsW (ow.take k) ((ow.getD k 0).toNat:Int)=true):=by
      rcases i with _|_|_|_|_|_|i
      all_goals first
       |omega
       |(simp[opsW]at how;subst how;decide)
     obtain⟨o0,o1,o2,o3,o4,o5,o6,o7⟩:=hop;have hhd:∀t,hdI (ow++t)=hdI ow:=fun t=>by
      cases ow with
      |nil=>exact absurd rfl o0
      |cons c ow=>rfl
     have hsz:(bytesOf ow).size≠0:=by
      show ow.toArray.size≠0;simp[o0]
     have e0:qDQ ⟨n,bytesOf ow,x,any⟩=n.data.toList++(ow++34::(x.data.toList++34::(if any=true then[32,105]else[]))):=by
      unfold qDQ;dsimp only;rw[if_neg hsz];rfl
     rw[e0]at hB ⊢;have hB':At B p' (n.data.toList++(ow++(34::(x.data.toList++34::((if any=true then[32,105]else[])++93::r))))):=by simpa using hB
     obtain⟨c,hc,hh⟩:=hn.hd (ow++(34::(x.data.toList++34::((if any=true then[32,105]else[])++93::r))));have x0:spP B p'=p':=qEU hB' (by rw[hh];exact(qN3 hc).2.1);have x1:=qQ1 hn hB' (by rw[hhd];exact o2);have h2:=At.skip hB';have x2:spP B (p'+n.data.toList.length)=p'+n.data.toList.length:=qEU h2 (by rw[hhd];exact o3);have pk:qAC B (p'+n.data.toList.length)≠93:=by rw[At.hd h2,hhd];exact o4
     have x3:=qQ5 o5 o7 o1 ow.length 0 3 (p'+n.data.toList.length) (by omega) (by simpa using h2) (by omega);rw[List.take_zero]at x3;have h3:=At.skip h2;have x4:spP B (p'+n.data.toList.length+ow.length)=p'+n.data.toList.length+ow.length:=qEU h3 rfl;have x5:=qTH hx h3;have h4:At B (p'+n.data.toList.length+ow.length+x.data.toList.length+2) ((if any=true then[32,105]else[])++93::r):=by
      have a1:=At.step h3;have a2:=At.step (At.skip a1);have:p'+n.data.toList.length+ow.length+x.data.toList.length+2=p'+n.data.toList.length+ow.length+1+x.data.toList.length+1:=by omega
      rw[this];exact a2
     unfold qBC;rw[x0,x1];dsimp only;rw[x2,if_neg pk,x3];dsimp only;rw[x4,x5];dsimp only;have hl:(n.data.toList++(ow++34::(x.data.toList++34::(if any=true then[32,105]else[])))).length=n.data.toList.length+ow.length+x.data.toList.length+2+(if any=true then 2 else 0):=by
      cases any<;>simp<;>omega
     rw[hl];generalize hP:p'+n.data.toList.length+ow.length+x.data.toList.length+2=P at h4 ⊢;cases any with
     | true =>
      have h4:At B P (32::105::93::r):=h4;have y1:spP B P=P+1:=by
       have:=qN4 h4 (by decide) (by decide);exact this
      have h5:=At.step h4;have y2:qAC B (P+1)=105:=At.peek h5 (by decide);have y3:qON B (P+1)=(P+1+1,true):=by unfold qON;rw[if_pos y2]
      have y4:spP B (P+1+1)=P+1+1:=qEU (At.step h5) rfl;rw[y1,y3];dsimp only;rw[y4,hgd];congr 1;simp only[if_true];omega
     |false =>
      have h4:At B P (93::r):=h4;have y1:spP B P=P:=qEU h4 rfl;have y2:qAC B P=93:=At.peek h4 (by decide);have y3:qON B P=(P,false):=by unfold qON;rw[if_neg (by rw[y2];decide)]
      rw[y1,y3];dsimp only;rw[y1,hgd];congr 1;simp only[Bool.false_eq_true,if_false];omega
end
section
variable{s B:ByteArray}{p p' q:Nat}{r:List UInt8}
theorem qEg{k:Nat}(h:k<10):(qJw k).toNat=48+k:=by unfold qJw;rw[UInt8.toNat_ofNat'];omega
theorem qD8{k:Nat}(h:k<10):okU (qJw k)=true/\qCE ((qJw k).toNat:Int)=true:=by
 have e:=qEg h;unfold okU qCK qCE;rw[e];simp;omega
theorem qHH{n:Nat}(hn:n<100)(h:At B p (qFa n++r))(hr:qCE (hdI r)=false):qA8 B p=(p+(qFa n).length,(n:Int),true):=by
 unfold qFa at h ⊢;by_cases h10:10<=n
 ·rw[if_pos h10]at h ⊢;have h:At B p (qJw (n/10)::qJw (n%10)::r):=h;have p1:=At.peek h (qD8 (by omega)).1;have p2:=At.peek (At.step h) (qD8 (by omega)).1;have e1:=qEg (k:=n/10) (by omega);have e2:=qEg (k:=n%10) (by omega);unfold qA8;rw[p1,p2,if_pos (qD8 (by omega)).2,if_pos (qD8 (by omega)).2,e1,e2];simp;omega
 ·rw[if_neg h10]at h ⊢;have h:At B p (qJw n::r):=h;have p1:=At.peek h (qD8 (by omega)).1;have p2:=At.hd (At.step h);have e1:=qEg (k:=n) (by omega);unfold qA8;rw[p1,p2,if_pos (qD8 (by omega)).2,if_neg (by rw[hr];decide),e1];simp;omega
theorem qQK(n:Nat)(hn:n<100)(t:List UInt8):48<=hdI (qFa n++t)/\hdI (qFa n++t)<=57:=by
 unfold qFa;split
 ·have e:=qEg (k:=n/10) (by omega);have o:=(qD8 (k:=n/10) (by omega)).1;show 48<=(if okU (qJw (n/10))=true then((qJw (n/10)).toNat:Int)else 0)/\_;rw[if_pos o];show _/\(if okU (qJw (n/10))=true then((qJw (n/10)).toNat:Int)else 0)<=57;rw[if_pos o];omega
 ·have e:=qEg (k:=n) (by omega);have o:=(qD8 (k:=n) (by omega)).1;show 48<=(if okU (qJw n)=true then((qJw n).toNat:Int)else 0)/\(if okU (qJw n)=true then((qJw n).toNat:Int)else 0)<=57;rw[if_pos o];omega
theorem qUA{a:Int}(ha:-100<a/\a<100)(h:At B p (qFN a++r))(hr:qCE (hdI r)=false):qA8 B (qBN B p).1=(p+(qFN a).length,(a.natAbs:Int),true)/\(qBN B p).2.1*(a.natAbs:Int)=a/\qAC B p≠111/\qAC B p≠101/\qAV (qAC B p)=false:=by
 unfold qFN at h ⊢;by_cases hneg:a<0
 ·rw[if_pos hneg]at h ⊢;have h:At B p (45::(qFa a.natAbs++r)):=h;have p1:qAC B p=45:=At.peek h (by decide);have sg:qBN B p=(p+1,-1,true):=by unfold qBN;rw[if_pos p1]
  have c1:=qHH (n:=a.natAbs) (by omega) (At.step h) hr;rw[sg];refine⟨by rw[c1];simp;omega,by dsimp only;omega,by rw[p1];decide,by rw[p1];decide,by rw[p1];decide⟩
 ·rw[if_neg hneg]at h ⊢;have hd:=qQK a.natAbs (by omega) r;rw[<-At.hd h]at hd;have sg:qBN B p=(p,1,false):=by unfold qBN;rw[if_neg (by omega),if_neg (by omega)]
  have c1:=qHH (n:=a.natAbs) (by omega) h hr;rw[sg];refine⟨c1,by dsimp only;omega,by omega,by omega,?_⟩;unfold qAV;simp;omega
theorem qP1{b:Int}(hb:-100<b/\b<100)(h:At B p (qG5 b++r))(hr:qCE (hdI r)=false)(hr2:qAV (hdI r)=false/\hdI r≠45/\hdI r≠43):qBX B p=(p+(qG5 b).length,some b):=by
 unfold qG5 at h ⊢;by_cases hpos:0<b
 ·rw[if_pos hpos]at h ⊢;have h:At B p (43::(qFN b++r)):=h;have p1:qAC B p=43:=At.peek h (by decide);have x0:spP B p=p:=qEU h rfl;have sg:qBN B p=(p+1,1,true):=by unfold qBN;rw[if_neg (by rw[p1];decide),if_pos p1]
  have h1:=At.step h;unfold qFN at h1 ⊢;rw[if_neg (by omega)]at h1 ⊢;have c1:=qHH (n:=b.natAbs) (by omega) h1 hr;have hd:=qQK b.natAbs (by omega) r;have x1:spP B (p+1)=p+1:=qEU h1 (by unfold qAV;simp;omega);unfold qBX;simp only[x0,sg,x1,c1];simp;omega
 ·rw[if_neg hpos]at h ⊢;by_cases hneg:b<0
  ·rw[if_pos hneg]at h ⊢;unfold qFN at h ⊢;rw[if_pos hneg]at h ⊢;have h:At B p (45::(qFa b.natAbs++r)):=h;have p1:qAC B p=45:=At.peek h (by decide);have x0:spP B p=p:=qEU h rfl;have sg:qBN B p=(p+1,-1,true):=by unfold qBN;rw[if_pos p1]
   have h1:=At.step h;have c1:=qHH (n:=b.natAbs) (by omega) h1 hr;have hd:=qQK b.natAbs (by omega) r;have x1:spP B (p+1)=p+1:=qEU h1 (by unfold qAV;simp;omega);unfold qBX;simp only[x0,sg,x1,c1];simp;omega
  ·rw[if_neg hneg]at h ⊢;have h:At B p r:=h;have x0:spP B p=p:=qEU h hr2.1;have pk:=At.hd h;have sg:qBN B p=(p,1,false):=by unfold qBN;rw[pk,if_neg hr2.2.1,if_neg hr2.2.2]
   have:b=0:=by omega
   subst this;unfold qBX;simp only[x0,sg];simp
theorem qJ9{z:NthQ}(h:qAj s p=(q,some z)):z=⟨bytesOf qO4,true,2,1⟩\/z=⟨bytesOf qGK,true,2,0⟩\/(∃a b,z=⟨noB,true,a,b⟩/\(-100<a/\a<100)/\(-100<b/\b<100))\/∃b,z=⟨noB,false,0,b⟩/\(-100<b/\b<100):=by
 have hwf:=qFB (s:=s) (p:=p) (z:=z) (by rw[h]);unfold qAj at h;split at h
 ·simp only[Prod.mk.injEq]at h;obtain⟨-,h⟩:=h;split at h
  ·cases h;exact .inl rfl
  ·cases h
 ·split at h
  ·simp only[Prod.mk.injEq]at h;obtain⟨-,h⟩:=h;split at h
   ·cases h;exact .inr (.inl rfl)
   ·cases h
  ·split at h
   ·simp only[Prod.mk.injEq]at h;obtain⟨-,h⟩:=h;obtain⟨b,-,rfl⟩:=Option.map_eq_some_iff.1 h;exact .inr (.inr (.inl ⟨_,_,rfl,hwf.1.1,hwf.1.2⟩))
   ·split at h
    ·cases h
    ·simp only[Prod.mk.injEq,Option.some.injEq]at h;obtain⟨-,rfl⟩:=h;exact .inr (.inr (.inr ⟨_,rfl,hwf.1.2⟩))
theorem qV1{z:NthQ}(h:qJ7 s p=(q,some z))(hB:At B p' (qKh z++41::r)):qJ7 B p'=(p'+(qKh z).length,some z):=by
 obtain⟨q1,hz⟩:∃q1,qAj s (spP s p)=(q1,some z):=by
  unfold qJ7 at h;generalize qAj s (spP s p)=r1 at h;obtain⟨q1,o1⟩:=r1;cases o1 with
  |none=>cases h
  |some x =>
   simp only[Prod.mk.injEq,Option.some.injEq]at h;exact⟨q1,by rw[h.2]⟩
 have key:spP B p'=p'/\qAj B p'=(p'+(qKh z).length,some z):=by
  rcases qJ9 hz with rfl|rfl|⟨a,b,rfl,ha,hb⟩|⟨b,rfl,hb⟩
  ·have e0:qKh ⟨bytesOf qO4,true,2,1⟩=qO4:=rfl;rw[e0]at hB ⊢;have x1:=qQU hB (by decide);have pk:qAC B p'=111:=At.peek (c:=111) (r:=_) hB (by decide);refine⟨qCO (by rw[pk];decide),?_⟩;unfold qAj;rw[if_pos pk,x1];rfl
  ·have e0:qKh ⟨bytesOf qGK,true,2,0⟩=qGK:=rfl;rw[e0]at hB ⊢;have x1:=qQU hB (by decide);have pk:qAC B p'=101:=At.peek (c:=101) (r:=_) hB (by decide);refine⟨qCO (by rw[pk];decide),?_⟩;unfold qAj;rw[if_neg (by rw[pk];decide),if_pos pk,x1];rfl
  ·have e0:qKh ⟨noB,true,a,b⟩=qFN a++110::qG5 b:=rfl;rw[e0]at hB ⊢;have hB':At B p' (qFN a++(110::(qG5 b++41::r))):=by simpa using hB
   obtain⟨x1,x2,x3,x4,x5⟩:=qUA ha hB' rfl;have h2:=At.skip hB';have pk:qAC B (p'+(qFN a).length)=110:=At.peek h2 (by decide);have x6:=qP1 hb (At.step h2) rfl ⟨rfl,(by show(41:Int)≠45;decide),(by show(41:Int)≠43;decide)⟩;refine⟨qCO x5,?_⟩;unfold qAj;rw[if_neg x3,if_neg x4,x1];dsimp only;rw[if_pos pk,x6];simp only[Option.map_some,if_true,x2];congr 1;simp;omega
  ·have e0:qKh ⟨noB,false,0,b⟩=qFN b:=rfl;rw[e0]at hB ⊢;obtain⟨x1,x2,x3,x4,x5⟩:=qUA hb hB rfl;have h2:=At.skip hB;have pk:qAC B (p'+(qFN b).length)=41:=At.peek h2 (by decide);refine⟨qCO x5,?_⟩;unfold qAj;rw[if_neg x3,if_neg x4,x1];dsimp only;rw[if_neg (by rw[pk];decide),if_neg (by decide),x2]
 unfold qJ7;rw[key.1,key.2];dsimp only;rw[qEU (At.skip hB) rfl]
end
theorem qCs{k:Nat}{ow:List UInt8}(h:openW[k]? = some ow):k<11/\openW.getD k []=ow/\ow≠[]/\(∀c∈ow,okU c=true)/\openW.findIdx? (·==ow)=some k/\ow.length<13/\(∀j,j<ow.length->openW.findIdx? (·==ow.take j)=none/\qCQ openW (ow.take j) ((ow.getD j 0).toNat:Int)=true)/\atB (hdI ow)=true/\qBj (hdI ow)=false/\qAV (hdI ow)=false/\qGH (hdI ow)=false/\qKV (hdI ow)=false/\hdI ow≠42:=by
 have hk:k<11:=(List.getElem?_eq_some_iff.1 h).1;rcases k with _|_|_|_|_|_|_|_|_|_|_|k
 all_goals first
  |omega
  |(simp[openW]at h;subst h;decide)
section
variable{s B:ByteArray}{lf lg:Nat->Nat×Option (qAg×Nat×Nat)}{tl:qAg->List UInt8}{K:Nat}
def HLs(s B:ByteArray)(lf lg:Nat->Nat×Option (qAg×Nat×Nat))(tl:qAg->List UInt8)(K:Nat):Prop:=∀p q x,p<=s.size->lf p=(q,some x)->x.2.2<K->∀p' r,At B p' (tl x.1++r)->(r=[]\/∃t,r=41::t)->lg p'=(p'+(tl x.1).length,some x)
theorem qEB{l:List UInt8}(h:l≠[])(t:List UInt8):hdI (l++t)=hdI l:=by
 cases l with
 |nil=>exact absurd rfl h
 |cons c l=>rfl
theorem qRj(H:HLs s B lf lg tl K){p q:Nat}{x:Sim×Nat×Nat}(hp:p<=s.size)(h:qAe lf s p=(q,some x))(hK:x.2.2<=K) :
  (∃ow t,qG8 tl x.1=ow++t/\∃k:Nat,openW[k]? = some ow)/\∀p' r,At B p' (qG8 tl x.1++r)->qBj (hdI r)=false->qAe lg B p'=(p'+(qG8 tl x.1).length,some x):=by
 unfold qAe at h;have b1:=qED (s:=s) qEE 13 [] p hp;have b2:=fun i=>qCp (s:=s) (words:=openW) 13 [] p i;generalize qCo s openW 13 [] p=r1 at h b1 b2;obtain⟨q1,o1⟩:=r1;cases o1 with
 |none=>cases h
 | some k =>
  dsimp only at h b1;obtain⟨ow,how,-⟩:=b2 k rfl;obtain⟨f0,f1,f2,f3,f4,f5,f6,f7,f8,f9,f10,f11,f12⟩:=qCs how;have ask:∀y,(qAu lf s k q1).2=some y->y.2.2<=K->∃xx a t l,y.1=.mk k xx a t l/\∀p' r,At B p' (qCx tl k xx a t l++(qAq k++r))->qBj (hdI r)=false->qAu lg B k p'=(p'+(qCx tl k xx a t l).length,some y):=by
   intro y hy hyK;unfold qAu at hy;unfold qCx;by_cases k1:k<=1
   ·rw[if_pos k1]at hy;obtain⟨x0,hx0,rfl⟩:=Option.map_eq_some_iff.1 hy;refine⟨x0,qBD,qB2,[],rfl,fun p' r h' hr=>?_⟩;rw[if_pos k1]at h' ⊢;have hc:qAq k=[]:=by unfold qAq;rw[if_neg (by omega),if_neg (by omega)]
    rw[hc,List.nil_append]at h';have:=qVT (q:=(qB5 s q1).1) b1.2 (by rw[<-hx0]) h' hr;unfold qAu;rw[if_pos k1,this];rfl
   ·rw[if_neg k1]at hy;by_cases k2:k=2
    ·rw[if_pos k2]at hy;obtain⟨x0,hx0,rfl⟩:=Option.map_eq_some_iff.1 hy;refine⟨noB,x0,qB2,[],rfl,fun p' r h' hr=>?_⟩;rw[if_neg k1,if_pos k2]at h' ⊢;have hc:qAq k=[93]:=by unfold qAq;rw[if_pos k2]
     rw[hc]at h';have:=qUY (q:=(qBC s q1).1) (r:=r) b1.2 (by rw[<-hx0]) h';unfold qAu;rw[if_neg k1,if_pos k2,this];rfl
    ·rw[if_neg k2]at hy;by_cases k8:k=8
     ·rw[if_pos k8]at hy;obtain⟨x0,hx0,rfl⟩:=Option.map_eq_some_iff.1 hy;refine⟨noB,qBD,x0,[],rfl,fun p' r h' hr=>?_⟩;rw[if_neg k1,if_neg k2,if_pos k8]at h' ⊢;have hc:qAq k=[41]:=by unfold qAq;rw[if_neg k2,if_pos (by omega)]
      rw[hc]at h';have:=qV1 (q:=(qJ7 s q1).1) (r:=r) (by rw[<-hx0]) h';unfold qAu;rw[if_neg k1,if_neg k2,if_pos k8,this];rfl
     ·rw[if_neg k8]at hy;by_cases k9:9<=k
      ·rw[if_pos k9]at hy;obtain⟨x0,hx0,rfl⟩:=Option.map_eq_some_iff.1 hy;refine⟨noB,qBD,qB2,x0.1,rfl,fun p' r h' hr=>?_⟩;rw[if_neg k1,if_neg k2,if_neg k8,if_pos k9]at h' ⊢;have hc:qAq k=[41]:=by unfold qAq;rw[if_neg k2,if_pos (by omega)]
       rw[hc]at h';have:=H q1 (lf q1).1 x0 b1.2 (by rw[<-hx0]) (by dsimp only at hyK;omega) p' ([41]++r) h' (.inr ⟨r,rfl⟩);unfold qAu;rw[if_neg k1,if_neg k2,if_neg k8,if_pos k9,this];rfl
      ·rw[if_neg k9]at hy;simp only[Option.some.injEq]at hy;subst hy;refine⟨noB,qBD,qB2,[],rfl,fun p' r h' hr=>?_⟩;rw[if_neg k1,if_neg k2,if_neg k8,if_neg k9];unfold qAu;rw[if_neg k1,if_neg k2,if_neg k8,if_neg k9];rfl
  generalize qAu lf s k q1=r2 at h ask;obtain⟨q2,o2⟩:=r2;cases o2 with
  |none=>cases h
  | some y =>
   dsimp only at h;split at h;rotate_left
   ·cases h
   simp only[Prod.mk.injEq,Option.some.injEq]at h;obtain⟨-,rfl⟩:=h;obtain⟨xx,a,t,l,e1,hask⟩:=ask y rfl hK;dsimp only;rw[e1];have eT:qG8 tl (.mk k xx a t l)=ow++(qCx tl k xx a t l++qAq k):=by
    show openW.getD k []++_=_;rw[f1]
   rw[eT];refine⟨⟨ow,_,rfl,k,how⟩,fun p' r h' hr=>?_⟩;have h':At B p' (ow++(qCx tl k xx a t l++(qAq k++r))):=by simpa using h'
   have x1:=qQ5 f4 f6 f3 ow.length 0 13 p' (by omega) (by simpa using h') (by omega);rw[List.take_zero]at x1;have h2:=At.skip h';have x2:=hask _ r h2 hr;have h3:=At.skip h2;have x3:=qQU h3 (by unfold qAq;split<;>(try split)<;>decide);unfold qAe;rw[x1];dsimp only;rw[x2];dsimp only;rw[x3];simp only[if_true,<-e1,List.length_append];congr 1;omega
theorem qJT(H:HLs s B lf lg tl K)(hg:∀p,p<=s.size->Gd s p (lf p)):∀(f:Nat)(l:List Sim)(c d p q:Nat)(x:List Sim×Nat×Nat),p<=s.size->qAO lf s f l c d p=(q,some x)->d<=x.2.2/\(x.2.2<=K->∃ms,x.1=l++ms/\(atB (qAC s p)=true->ms≠[])/\ms.length<=(qBS tl ms).length/\(ms≠[]->∃(k:Nat)(ow t:List UInt8),openW[k]? = some ow/\qBS tl ms=ow++t) /\
   ∀p' r f',At B p' (qBS tl ms++r)->qBj (hdI r)=false->atB (hdI r)=false->ms.length<f'->qAO lg B f' l c d p'=(p'+(qBS tl ms).length,some x))
 |0,l,c,d,p,q,x,hp,h=>by simp[qAO]at h
 | f + 1, l, c, d, p, q, x, hp, h => by
  rw[qAO]at h;by_cases ha:atB (qAC s p)=true
  ·rw[if_pos ha]at h;have h2:=qCc hg hp;have hx:=fun q' y=>qRj (q:=q') (x:=y) H hp;generalize qAe lf s p=r1 at h h2 hx;obtain⟨q1,o1⟩:=r1;cases o1 with
   |none=>cases h
   | some y =>
    dsimp only at h;obtain⟨⟨e1,e2,_⟩,_⟩:=h2;dsimp only at e1 e2;obtain⟨i1,i2⟩:=qJT H hg f (l++[y.1]) (c+y.2.1) (max d y.2.2) q1 q x e2 h;refine⟨by omega,fun hK=>?_⟩;obtain⟨ms,g1,-,g3,g4,g5⟩:=i2 hK;obtain⟨⟨ow,t,hs1,k,hk⟩,hs2⟩:=hx q1 y rfl (by omega);obtain⟨f0,f1,f2,f3,f4,f5,f6,f7,f8,-⟩:=qCs hk;have eS:qBS tl (y.1::ms)=qG8 tl y.1++qBS tl ms:=by simp[qBS]
    have hlen:1<=(qG8 tl y.1).length:=by
     rw[hs1,List.length_append];have:0<ow.length:=List.length_pos_iff.2 f2;omega
    refine⟨y.1::ms,by rw[g1];simp,by simp,by rw[eS];simp only[List.length_cons,List.length_append];omega,fun _=>⟨k,ow,t++qBS tl ms,hk,by rw[eS,hs1,List.append_assoc]⟩,fun p' r f' h' hr ha' hf=>?_⟩;rw[eS,List.append_assoc]at h';obtain⟨f',rfl⟩:∃n,f'=n+1:=⟨f'-1,by simp at hf;omega⟩;have hhd:qBj (hdI (qBS tl ms++r))=false:=by
     cases ms with
     |nil=>exact hr
     |cons m0 ms0 =>
      obtain⟨k',ow',t',hk',e'⟩:=g4 (by simp);obtain⟨-,-,w2,-,-,-,-,-,w8,-⟩:=qCs hk';rw[e',List.append_assoc,qEB w2];exact w8
    have x1:=hs2 p' _ h' hhd;have hat:atB (qAC B p')=true:=by
     rw[At.hd h',hs1,List.append_assoc,qEB f2];exact f7
    rw[qAO,if_pos hat,x1];dsimp only;rw[g5 _ r f' (At.skip h') hr ha' (by simp at hf;omega),eS,List.length_append];congr 1;omega
  ·rw[if_neg ha]at h;simp only[Prod.mk.injEq,Option.some.injEq]at h;obtain⟨-,rfl⟩:=h;refine⟨Nat.le_refl _,fun _=>⟨[],by simp,fun e=>absurd e ha,Nat.zero_le _,fun e=>absurd rfl e,fun p' r f' h' hr ha' hf=>?_⟩⟩;obtain⟨f',rfl⟩:∃n,f'=n+1:=⟨f'-1,by simp at hf;omega⟩;rw[qAO,At.hd (r:=r) h',if_neg (by rw[ha'];decide)];rfl
def qEr(tl:qAg->List UInt8)(n:ByteArray)(ms:List Sim):List UInt8:=n.data.toList++qBS tl ms
def qPg(b:Int):Prop:=qAV b=false/\qGH b=false/\qKV b=false
theorem qH4{b:Int}(h:qBj b=false):qBP b=false:=by unfold qBj at h;simp only[Bool.or_eq_false_iff]at h;exact h.1
theorem qMI(H:HLs s B lf lg tl K)(hg:∀p,p<=s.size->Gd s p (lf p)){p q:Nat}{x:(ByteArray×List Sim)×Nat×Nat}(hp:p<=s.size)(h:qAQ lf s p=(q,some x))(hK:x.2.2<=K) :
  qEr tl x.1.1 x.1.2≠[]/\qPg (hdI (qEr tl x.1.1 x.1.2))/\∀p' r,At B p' (qEr tl x.1.1 x.1.2++r)->qBj (hdI r)=false->atB (hdI r)=false->qAQ lg B p'=(p'+(qEr tl x.1.1 x.1.2).length,some x):=by
 unfold qAQ at h;obtain⟨n,q1,hh⟩:∃n q1,qB4 s p=(q1,some n):=by
  cases hh:qB4 s p with
  |mk q1 o1 =>
   cases o1 with
   |none=>rw[hh]at h;cases h
   |some n=>exact⟨n,q1,rfl⟩
 rw[hh]at h;dsimp only at h;have hq1:=qHM hp;rw[hh]at hq1;obtain⟨y,q2,hy⟩:∃y q2,qAO lf s (s.size+1) [] 0 0 q1=(q2,some y):=by
  cases hy:qAO lf s (s.size+1) [] 0 0 q1 with
  |mk q2 o2 =>
   cases o2 with
   |none=>rw[hy]at h;cases h
   |some y=>exact⟨y,q2,rfl⟩
 rw[hy]at h;simp only[Prod.mk.injEq,Option.some.injEq]at h;obtain⟨-,rfl⟩:=h;obtain⟨-,i2⟩:=qJT H hg (s.size+1) [] 0 0 q1 q2 y hq1.2.1 hy;obtain⟨ms,g1,g2,g3,g4,g5⟩:=i2 hK;rw[List.nil_append]at g1;dsimp only;rw[g1];have fuel:∀p' (t r:List UInt8),At B p' (t++(qBS tl ms++r))->ms.length<B.size+1:=fun p' t r h'=>by
  have:=h'.2;simp only[List.length_append]at this;omega
 have hstart:∀t,hdI (qBS tl ms++t)=hdI (qBS tl ms)\/ms=[]:=fun t=>by
  cases ms with
  |nil=>exact .inr rfl
  |cons m0 ms0 =>
   obtain⟨k',ow',t',hk',e'⟩:=g4 (by simp);obtain⟨-,-,w2,-⟩:=qCs hk';left;rw[e',List.append_assoc,qEB w2,qEB w2]
 unfold qB4 at hh;by_cases h42:qAC s p=42
 ·rw[if_pos h42]at hh;simp only[Prod.mk.injEq,Option.some.injEq]at hh;obtain⟨-,rfl⟩:=hh;have eb:qEr tl (bytesOf [42]) ms=42::qBS tl ms:=rfl;rw[eb];refine⟨by simp,⟨rfl,rfl,rfl⟩,fun p' r h' hr ha=>?_⟩;have h1:=At.step h';have pk:qAC B p'=42:=At.peek h' (by decide);have x1:qB4 B p'=(p'+1,some (bytesOf [42])):=by unfold qB4;rw[if_pos pk]
  unfold qAQ;rw[x1];dsimp only;rw[g5 (p'+1) r (B.size+1) h1 hr ha (fuel p' [42] r h')];dsimp only;rw[g1];simp only[List.length_cons];congr 1;omega
 ·rw [if_neg h42] at hh;by_cases hat:atB (qAC s p)=true
  ·rw[if_pos hat]at hh;simp only[Prod.mk.injEq,Option.some.injEq]at hh;obtain⟨rfl,rfl⟩:=hh;have eb:qEr tl noB ms=qBS tl ms:=rfl;rw[eb];obtain⟨k',ow',t',hk',e'⟩:=g4 (g2 hat);obtain⟨-,-,w2,-,-,-,-,w7,w8,w9,w10,w11,w12⟩:=qCs hk';refine⟨by rw[e'];simp[w2],by rw[e',qEB w2];exact⟨w9,w10,w11⟩,fun p' r h' hr ha=>?_⟩;have pk:qAC B p'=hdI ow':=by rw[At.hd h',e',List.append_assoc,qEB w2]
   have x1:qB4 B p'=(p',some noB):=by unfold qB4;rw[pk,if_neg w12,if_pos w7]
   unfold qAQ;rw[x1];dsimp only;rw[g5 p' r (B.size+1) h' hr ha (fuel p' [] r h')];dsimp only;rw[g1]
  ·rw[if_neg hat]at hh;have hn:NmOk n:=(qJ6 (s:=s) (p:=p) (n:=n) (taken:=qAI) (by rw[hh])).1;have hne:=hn.low.2.2;obtain⟨c,hc,hcd⟩:=hn.hd (qBS tl ms);obtain⟨m1,m2,m3,m4,m5,m6⟩:=qN3 hc;refine⟨by unfold qEr;simp[hne],by unfold qEr;rw[hcd];exact⟨m2,m5,m6⟩,fun p' r h' hr ha=>?_⟩;unfold qEr at h' ⊢;rw[List.append_assoc]at h';have hnb:qBP (hdI (qBS tl ms++r))=false:=by
    rcases hstart r with e|e
    ·by_cases hm:ms=[]
     ·rw[hm];exact qH4 hr
     ·obtain⟨k',ow',t',hk',e'⟩:=g4 hm;obtain⟨-,-,w2,-,-,-,-,w7,w8,-⟩:=qCs hk';rw[e,e',qEB w2];exact qH4 w8
    ·rw[e];exact qH4 hr
   have x1:=qQ1 hn h' hnb;obtain⟨c',hc',hcd'⟩:=hn.hd (qBS tl ms++r);obtain⟨n1,n2,n3,n4,n5,n6⟩:=qN3 hc';have pk:=At.hd h';rw[hcd']at pk;have x2:qB4 B p'=(p'+n.data.toList.length,some n):=by unfold qB4;rw[pk,if_neg n3,if_neg (by rw[n4];decide)];exact x1
   unfold qAQ;rw[x2];dsimp only;rw[g5 _ r (B.size+1) (At.skip h') hr ha (fuel p' _ r h'),List.length_append];dsimp only;rw[g1];congr 1;omega
end
section
variable{s B:ByteArray}{lf lg:Nat->Nat×Option (qAg×Nat×Nat)}{tl:qAg->List UInt8}{K:Nat}
def Stopt(r:List UInt8):Prop:=r=[]\/(∃t,r=44::t)\/∃t,r=41::t
theorem Stopt.hd{r:List UInt8}(h:Stopt r):qBj (hdI r)=false/\atB (hdI r)=false/\qAV (hdI r)=false/\qGH (hdI r)=false/\qKV (hdI r)=true:=by
 rcases h with rfl|⟨t,rfl⟩|⟨t,rfl⟩<;> exact⟨rfl,rfl,rfl,rfl,rfl⟩
theorem qQC{p:Nat}{r:List UInt8}(h:At B p r)(hr:Stopt r):qBr B p=(p,none):=by
 obtain⟨-,-,h3,h4,h5⟩:=hr.hd;unfold qBr;rw[qEU h h3,At.hd h,if_neg (by rw[h4];decide),if_pos h5]
theorem qSg{q:Nat}{b:Int}(h:(qBr s q).2=some b):b=32\/b=62\/b=43\/b=126:=by
 unfold qBr at h;split at h
 ·rename_i e;simp only[Option.some.injEq]at h;subst h;unfold qGH at e;simp only[Bool.or_eq_true,beq_iff_eq]at e;omega
 ·split at h
  ·cases h
  ·split at h
   ·simp only[Option.some.injEq]at h;omega
   ·cases h
theorem qUc{p:Nat}{b:Int}{t:List UInt8}(hb:b=32\/b=62\/b=43\/b=126)(ht:qPg (hdI t))(h:At B p (byT b++t)):qBr B p=(p+1,some b)/\At B (p+1) t/\(byT b).length=1:=by
 have key:∀c:UInt8,(c.toNat:Int)=62\/(c.toNat:Int)=43\/(c.toNat:Int)=126->At B p (c::t)->qBr B p=(p+1,some (c.toNat:Int)):=by
  intro c hc h;have ok:okU c=true:=by unfold okU qCK;simp;omega
  have pk:=At.peek h ok;have x0:spP B p=p:=qCO (by rw[pk];unfold qAV;simp;omega);have x1:spP B (p+1)=p+1:=qEU (At.step h) ht.1;unfold qBr;rw[x0,pk,if_pos (by unfold qGH;simp;omega),x1]
 rcases hb with rfl|rfl|rfl|rfl
 ·have h:At B p (32::t):=h;have h1:=At.step h;have pk:qAC B p=32:=At.peek h (by decide);have x0:spP B p=p+1:=by
   unfold spP;rw[qFx (by decide) (by rw[pk];decide)];exact qEU h1 ht.1
  refine⟨?_,h1,rfl⟩;unfold qBr;rw[x0,At.hd h1,if_neg (by rw[ht.2.1];decide),if_neg (by rw[ht.2.2];decide),if_pos (by omega)]
 ·exact⟨key 62 (by decide) h,At.step (c:=62) h,rfl⟩
 ·exact⟨key 43 (by decide) h,At.step (c:=43) h,rfl⟩
 ·exact⟨key 126 (by decide) h,At.step (c:=126) h,rfl⟩
theorem qVl{b:Int}(hb:b=32\/b=62\/b=43\/b=126)(t:List UInt8):qBj (hdI (byT b++t))=false/\atB (hdI (byT b++t))=false:=by
 rcases hb with rfl|rfl|rfl|rfl<;>exact⟨rfl,rfl⟩
def qDI(tl:qAg->List UInt8):Cpx->List UInt8
 |[]=>[]
 |st::c=>qEr tl st.2.1 st.2.2++qCD tl c
theorem qK8(st:Stp)(c:Cpx):qCD tl (st::c)=byT st.1++qDI tl (st::c):=by simp[qCD,qTk,qDI,qEr]
theorem qIz(H:HLs s B lf lg tl K)(hg:∀p,p<=s.size->Gd s p (lf p)):∀(f:Nat)(l:Cpx)(c d:Nat)(b:Int)(p q:Nat)(x:Cpx×Nat×Nat),p<=s.size->qAN lf s f l c d b p=(q,some x)->d<=x.2.2/\(x.2.2<=K->∃st cs,x.1=l++st::cs/\st.1=b/\qPg (hdI (qDI tl (st::cs)))/\qDI tl (st::cs)≠[]/\(st::cs).length<=(qDI tl (st::cs)).length /\
   ∀p' r f',At B p' (qDI tl (st::cs)++r)->Stopt r->(st::cs).length<=f'->qAN lg B f' l c d b p'=(p'+(qDI tl (st::cs)).length,some x))
 |0,l,c,d,b,p,q,x,hp,h=>by simp[qAN]at h
 | f + 1, l, c, d, b, p, q, x, hp, h => by
  rw[qAN]at h;have h2:=qCC hg hp;have hx:=fun q' y=>qMI (q:=q') (x:=y) H hg hp;generalize qAQ lf s p=r1 at h h2 hx;obtain⟨q1,o1⟩:=r1;cases o1 with
  |none=>cases h
  | some y =>
   dsimp only at h;obtain⟨⟨e1,e2,_⟩,_⟩:=h2;dsimp only at e1 e2;have h3:=qEf (s:=s) e2;have h4:=fun b'=>qSg (s:=s) (q:=q1) (b:=b');generalize qBr s q1=r2 at h h3 h4;obtain⟨q2,o2⟩:=r2;cases o2 with
   |none =>
    simp only[Prod.mk.injEq,Option.some.injEq]at h;obtain⟨-,rfl⟩:=h;refine⟨by dsimp only;omega,fun hK=>?_⟩;dsimp only at hK;obtain⟨c1,c2,c3⟩:=hx q1 y rfl (by omega);have eS:qDI tl [(b,y.1.1,y.1.2)]=qEr tl y.1.1 y.1.2:=by simp[qDI,qCD]
    refine⟨(b,y.1.1,y.1.2),[],rfl,rfl,by rw[eS];exact c2,by rw[eS];exact c1,by rw[eS];exact List.length_pos_iff.2 c1,fun p' r f' h' hr hf=>?_⟩;rw[eS]at h' ⊢;obtain⟨f',rfl⟩:∃n,f'=n+1:=⟨f'-1,by simp at hf;omega⟩;obtain⟨s1,s2,-⟩:=hr.hd;rw[qAN,c3 p' r h' s1 s2];dsimp only;rw[qQC (At.skip h') hr]
   | some b' =>
    dsimp only at h h3;have hb':=h4 b' rfl;obtain⟨i1,i2⟩:=qIz H hg f (l++[(b,y.1.1,y.1.2)]) (c+y.2.1) (max d y.2.2) b' q2 q x h3.2 h;refine⟨by omega,fun hK=>?_⟩;obtain⟨st,cs,g1,g2,g3,g4,g5,g6⟩:=i2 hK;obtain⟨c1,c2,c3⟩:=hx q1 y rfl (by omega);have eS:qDI tl ((b,y.1.1,y.1.2)::st::cs)=qEr tl y.1.1 y.1.2++(byT b'++qDI tl (st::cs)):=by
     show qEr tl y.1.1 y.1.2++qCD tl (st::cs)=_;rw[qK8,g2]
    have hby:(byT b').length=1:=by rcases hb' with rfl|rfl|rfl|rfl<;>rfl
    have hbl:0<(qEr tl y.1.1 y.1.2).length:=List.length_pos_iff.2 c1;refine⟨(b,y.1.1,y.1.2),st::cs,by rw[g1];simp,rfl,by rw[eS,qEB c1];exact c2,by rw[eS];simp[c1],by rw[eS];simp only[List.length_cons,List.length_append]at g5 ⊢;omega,fun p' r f' h' hr hf=>?_⟩;rw[eS]at h' ⊢;have h':At B p' (qEr tl y.1.1 y.1.2++(byT b'++(qDI tl (st::cs)++r))):=by simpa using h'
    obtain⟨f',rfl⟩:∃n,f'=n+1:=⟨f'-1,by simp at hf;omega⟩;obtain⟨s1,s2⟩:=qVl hb' (qDI tl (st::cs)++r);have x1:=c3 p' _ h' s1 s2;obtain⟨x2,h2',-⟩:=qUc hb' (by rw[qEB g4];exact g3) (At.skip h');rw[qAN,x1];dsimp only;rw[x2];dsimp only;rw[g6 _ r f' h2' hr (by simp at hf ⊢;omega)];simp only[List.length_append,hby];congr 1;omega
theorem qNj(H:HLs s B lf lg tl K)(hg:∀p,p<=s.size->Gd s p (lf p)):∀(f:Nat)(l:qAg)(c d p q:Nat)(x:qAg×Nat×Nat),p<=s.size->qBI lf s f l c d p=(q,some x)->d<=x.2.2/\(x.2.2<=K->∃c0 cs,x.1=l++c0::cs/\qPg (hdI (qDB tl (c0::cs)))/\qDB tl (c0::cs)≠[]/\(c0::cs).length<=(qDB tl (c0::cs)).length /\
   ∀p' r f',At B p' (qDB tl (c0::cs)++r)->(r=[]\/∃t,r=41::t)->(c0::cs).length<=f'->qBI lg B f' l c d p'=(p'+(qDB tl (c0::cs)).length,some x))
 |0,l,c,d,p,q,x,hp,h=>by simp[qBI]at h
 | f + 1, l, c, d, p, q, x, hp, h => by
  rw[qBI]at h;have h0:=spP_le hp;have h1:=qB8 hg (s.size+1) [] 0 0 0 (spP s p) h0.2;have hx:=fun q' y=>qIz H hg (s.size+1) [] 0 0 0 (spP s p) q' y h0.2;generalize qAN lf s (s.size+1) [] 0 0 0 (spP s p)=r1 at h h1 hx;obtain⟨q1,o1⟩:=r1;cases o1 with
  |none=>cases h
  | some y =>
   dsimp only at h;have e2:=h1.2.1;dsimp only at e2;obtain⟨-,hy⟩:=hx q1 y rfl;have one:y.2.2<=K->qCD tl y.1≠[]/\qPg (hdI (qCD tl y.1))/\∀p' r,At B p' (qCD tl y.1++r)->Stopt r->qAN lg B (B.size+1) [] 0 0 0 (spP B p')=(p'+(qCD tl y.1).length,some y):=by
    intro hK;obtain⟨st,cs,g1,g2,g3,g4,g5,g6⟩:=hy hK;rw[List.nil_append]at g1;have e:qCD tl y.1=qDI tl (st::cs):=by rw[g1,qK8,g2];rfl
    rw[e];refine⟨g4,g3,fun p' r h' hr=>?_⟩;rw[qEU h' (by rw[qEB g4];exact g3.1)];exact g6 p' r (B.size+1) h' hr (by have:=h'.2;simp only[List.length_append]at this;omega)
   by_cases hc:qAC s q1=44
   ·rw[if_pos hc]at h;have hq:=qB9 hc (by decide);obtain⟨i1,i2⟩:=qNj H hg f (l++[y.1]) (c+y.2.1) (max d y.2.2) (q1+1) q x hq h;refine⟨by omega,fun hK=>?_⟩;obtain⟨c0,cs,g1,g2,g3,g4,g5⟩:=i2 hK;obtain⟨o1,o2,o3⟩:=one (by omega);have eL:qDB tl (y.1::c0::cs)=qCD tl y.1++44::qDB tl (c0::cs):=by simp[qDB]
    have hl:0<(qCD tl y.1).length:=List.length_pos_iff.2 o1;refine⟨y.1,c0::cs,by rw[g1];simp,by rw[eL,qEB o1];exact o2,by rw[eL];simp,by rw[eL];simp only[List.length_cons,List.length_append]at g4 ⊢;omega,fun p' r f' h' hr hf=>?_⟩;rw[eL]at h' ⊢;have h':At B p' (qCD tl y.1++(44::(qDB tl (c0::cs)++r))):=by simpa using h'
    obtain⟨f',rfl⟩:∃n,f'=n+1:=⟨f'-1,by simp at hf;omega⟩;have x1:=o3 p' _ h' (.inr (.inl ⟨_,rfl⟩));have h2:=At.skip h';have pk:qAC B (p'+(qCD tl y.1).length)=44:=At.peek h2 (by decide);rw[qBI,x1];dsimp only;rw[if_pos pk,g5 _ r f' (At.step h2) hr (by simp at hf ⊢;omega)];simp only[List.length_append,List.length_cons];congr 1;omega
   ·rw[if_neg hc]at h;simp only[Prod.mk.injEq,Option.some.injEq]at h;obtain⟨-,rfl⟩:=h;refine⟨by dsimp only;omega,fun hK=>?_⟩;dsimp only at hK;obtain⟨o1,o2,o3⟩:=one (by omega);have eL:qDB tl [y.1]=qCD tl y.1:=by simp[qDB]
    have hl:0<(qCD tl y.1).length:=List.length_pos_iff.2 o1;refine⟨y.1,[],rfl,by rw[eL];exact o2,by rw[eL];exact o1,by rw[eL];simp;omega,fun p' r f' h' hr hf=>?_⟩;rw[eL]at h' ⊢;obtain⟨f',rfl⟩:∃n,f'=n+1:=⟨f'-1,by simp at hf;omega⟩;have x1:=o3 p' r h' (hr.elim .inl fun h=>.inr (.inr h));have pk:qAC B (p'+(qCD tl y.1).length)≠44:=by
     rw[At.hd (At.skip h')];rcases hr with rfl|⟨t,rfl⟩
     ·decide
     ·show(41:Int)≠44;decide
    rw[qBI,x1];dsimp only;rw[if_neg pk]
end
theorem qQp(s B:ByteArray):∀(n K:Nat),HLs s B (qAP s n) (qAP B K) (qAR n) K
 |0,K=>fun p q x hp h=>by simp[qAP]at h
 |n+1,K=>fun p q x hp h hK p' r h' hr=>by
  obtain⟨K,rfl⟩:∃k,K=k+1:=⟨K-1,by omega⟩;rw[qAP]at h ⊢;obtain⟨-,i2⟩:=qNj (qQp s B n K) (qB0 s n) (s.size+1) [] 0 0 p q x hp h;obtain⟨c0,cs,g1,g2,g3,g4,g5⟩:=i2 (by omega);rw[List.nil_append]at g1;have h':At B p' (qDB (qAR n) x.1++r):=h';show qBI _ _ _ _ _ _ _=(p'+(qDB (qAR n) x.1).length,some x);rw[g1]at h' ⊢;exact g5 p' r (B.size+1) h' hr (by have:=h'.2;simp only[List.length_append]at this;omega)
theorem qOx{s B:ByteArray}{n c d:Nat}{l:qAg}(h:qAP s n 0=(s.size,some (l,c,d)))(hB:B.data.toList=qAR n l):qAP B (B.size+1) 0=(B.size,some (l,c,d)):=by
 have hsz:B.size=(qAR n l).length:=by rw[<-hB,Array.length_toList];rfl
 have key:∀K,d<K->qAP B K 0=(B.size,some (l,c,d)):=fun K hK=>by
  have:=qQp s B n K 0 s.size (l,c,d) (Nat.zero_le _) h hK 0 [] ⟨by simpa using hB,by simp;omega⟩ (.inl rfl);rw[Nat.zero_add,<-hsz]at this;exact this
 have h1:=qB0 B (d+1) 0 (Nat.zero_le _);rw[key (d+1) (by omega)]at h1;have:=(h1.2.2 (l,c,d) rfl).2;dsimp only at this;exact key (B.size+1) (by omega)
