/-
  Parts of the proof: W9, J4, J6.
-/
import Derived.Test.YtclpcnignheijaaGreatDoorQ23
import Derived.Test.YtclpcnignheijaaGreatDoorQ14
import Derived.Test.YtclpcnignheijaaGreatDoorI4
namespace Go.Proofs.YtclpcnignheijaaGreatDoor
open Go.RowKit
def wfS(W:qAg->Prop):Sim->Prop
 |.mk k _ _ t l=>k<11/\(k=8->(-100<t.a/\t.a<100)/\(-100<t.b/\t.b<100))/\(9<=k->l≠[]/\W l)/\(k<9->l=[])
def wfT(W:qAg->Prop)(st:Stp):Prop:=∀m∈st.2.2,wfS W m
def wfC(W:qAg->Prop)(c:Cpx):Prop:=∀i st,c[i]? = some st->wfT W st/\(i=0->st.1=0)/\(i≠0->0<st.1/\st.1<128)
theorem qFB{s:ByteArray}{p:Nat}{z:NthQ}(h:(qAj s p).2=some z):((-100<z.a/\z.a<100)/\(-100<z.b/\z.b<100))/\z.word.size<=4:=by
 have hb:=fun q=>qHi s q;have hs:=fun q=>qIK s q;have hmul:∀(q r:Nat),-100<(qBN s q).2.1*(qA8 s r).2.1/\(qBN s q).2.1*(qA8 s r).2.1<100:=fun q r=>by
  have:=hb r;rcases hs q with e|e<;>rw[e]<;>omega
 unfold qAj at h;split at h
 ·dsimp only at h;split at h
  ·simp only[Option.some.injEq]at h;subst h;exact⟨by decide,by decide⟩
  ·cases h
 ·split at h
  ·dsimp only at h;split at h
   ·simp only[Option.some.injEq]at h;subst h;exact⟨by decide,by decide⟩
   ·cases h
  ·split at h
   ·dsimp only at h;obtain⟨b,hbb,rfl⟩:=Option.map_eq_some_iff.1 h;refine⟨⟨?_,?_⟩,Nat.zero_le _⟩
    ·dsimp only;split
     ·exact hmul _ _
     ·rcases hs p with e|e<;>rw[e]<;>omega
    ·unfold qBX at hbb;split at hbb
     ·simp only[Option.some.injEq]at hbb;subst hbb;dsimp only;omega
     ·split at hbb
      ·cases hbb
      ·simp only[Option.some.injEq]at hbb;subst hbb;exact hmul _ _
   ·split at h
    ·cases h
    ·simp only[Option.some.injEq]at h;subst h;exact⟨⟨by dsimp only;omega,hmul _ _⟩,Nat.zero_le _⟩
section
variable{lf:Nat->Nat×Option (qAg×Nat×Nat)}{s:ByteArray}{W:qAg->Prop}
def LWf(lf:Nat->Nat×Option (qAg×Nat×Nat))(s:ByteArray)(W:qAg->Prop):Prop:=∀p x,p<=s.size->(lf p).2=some x->W x.1/\x.1≠[]
theorem qPo(hl:LWf lf s W){k p:Nat}{x:Sim×Nat×Nat}(hk:k<11)(hp:p<=s.size)(h:(qAu lf s k p).2=some x):wfS W x.1:=by
 unfold qAu at h;by_cases h1:k<=1
 ·rw[if_pos h1]at h;obtain⟨y,hy,rfl⟩:=Option.map_eq_some_iff.1 h;exact⟨hk,fun e=>by omega,fun e=>by omega,fun _=>rfl⟩
 ·rw [if_neg h1] at h;by_cases h2:k=2
  ·rw[if_pos h2]at h;obtain⟨y,hy,rfl⟩:=Option.map_eq_some_iff.1 h;exact⟨hk,fun e=>by omega,fun e=>by omega,fun _=>rfl⟩
  ·rw[if_neg h2]at h;by_cases h3:k=8
   ·rw[if_pos h3]at h;obtain⟨y,hy,rfl⟩:=Option.map_eq_some_iff.1 h;have hz:((-100<y.a/\y.a<100)/\(-100<y.b/\y.b<100))/\y.word.size<=4:=by
     unfold qJ7 at hy;have h5:=fun z=>qFB (s:=s) (p:=spP s p) (z:=z);generalize qAj s (spP s p)=r at hy h5;obtain⟨q,o⟩:=r;cases o with
     |none=>cases hy
     |some z =>
      simp only[Option.some.injEq]at hy;subst hy;exact h5 z rfl
    exact⟨hk,fun _=>hz.1,fun e=>by omega,fun _=>rfl⟩
   ·rw[if_neg h3]at h;by_cases h4:9<=k
    ·rw[if_pos h4]at h;obtain⟨y,hy,rfl⟩:=Option.map_eq_some_iff.1 h;obtain⟨g1,g2⟩:=hl p y hp hy;exact⟨hk,fun e=>by omega,fun _=>⟨g2,g1⟩,fun e=>by omega⟩
    ·rw[if_neg h4]at h;simp only[Option.some.injEq]at h;subst h;exact⟨hk,fun e=>by omega,fun e=>by omega,fun _=>rfl⟩
theorem qPT(hl:LWf lf s W){p:Nat}{x:Sim×Nat×Nat}(hp:p<=s.size)(h:(qAe lf s p).2=some x):wfS W x.1:=by
 unfold qAe at h;have h1:=qED (s:=s) qEE 13 [] p hp;have h2:=fun i=>qCp (s:=s) (words:=openW) 13 [] p i;generalize qCo s openW 13 [] p=r at h h1 h2;obtain⟨q,o⟩:=r;cases o with
 |none=>cases h
 | some k =>
  dsimp only at h h1 h2;obtain⟨ow,how,-⟩:=h2 k rfl;have o5:k<11:=(List.getElem?_eq_some_iff.1 how).1;have h4:=fun y=>qPo (x:=y) hl o5 h1.2;generalize qAu lf s k q=r at h h4;obtain⟨q2,o'⟩:=r;cases o' with
  |none=>cases h
  | some y =>
   dsimp only at h h4;split at h
   ·simp only[Option.some.injEq]at h;subst h;exact h4 y rfl
   ·cases h
theorem qIN(hg:∀p,p<=s.size->Gd s p (lf p))(hl:LWf lf s W):∀f l c d p,p<=s.size->(∀m∈l,wfS W m)->∀x,(qAO lf s f l c d p).2=some x->∀m∈x.1,wfS W m
 |0,l,c,d,p,hp,hw,x,h=>by simp[qAO]at h
 | f + 1, l, c, d, p, hp, hw, x, h => by
  rw[qAO]at h;split at h
  ·have h1:=fun y=>qPT (x:=y) hl hp;have h2:=qCc hg hp;generalize qAe lf s p=r at h h1 h2;obtain⟨q,o⟩:=r;cases o with
   |none=>cases h
   | some y =>
    dsimp only at h h1 h2;obtain⟨⟨e1,e2,_⟩,_⟩:=h2;dsimp only at e1 e2;exact qIN hg hl f (l++[y.1]) (c+y.2.1) (max d y.2.2) q e2 (by
     intro m hm;rcases List.mem_append.1 hm with hm|hm
     ·exact hw m hm
     ·rw[List.mem_singleton.1 hm];exact h1 y rfl) x h
  ·simp only[Option.some.injEq]at h;subst h;exact hw
theorem qK4(hg:∀p,p<=s.size->Gd s p (lf p))(hl:LWf lf s W){p:Nat}{x:(ByteArray×List Sim)×Nat×Nat}(hp:p<=s.size)(h:(qAQ lf s p).2=some x):∀m∈x.1.2,wfS W m:=by
 unfold qAQ at h;have h1:=qHM hp;generalize qB4 s p=r at h h1;obtain⟨q,o⟩:=r;cases o with
 |none=>cases h
 | some n =>
  dsimp only at h h1;have h4:=qIN hg hl (s.size+1) [] 0 0 q h1.2.1 (by simp);generalize qAO lf s (s.size+1) [] 0 0 q=r at h h4;obtain⟨q2,o2⟩:=r;cases o2 with
  |none=>cases h
  |some y =>
   dsimp only at h h4;simp only[Option.some.injEq]at h;subst h;exact h4 y rfl
theorem qNH{q:Nat}{b:Int}(h:(qBr s q).2=some b):0<b/\b<128:=by
 unfold qBr at h;split at h
 ·rename_i e;simp only[Option.some.injEq]at h;subst h;unfold qGH at e;simp only[Bool.or_eq_true,beq_iff_eq]at e;omega
 ·split at h
  ·cases h
  ·split at h
   ·simp only[Option.some.injEq]at h;subst h;decide
   ·cases h
theorem qHh(hg:∀p,p<=s.size->Gd s p (lf p))(hl:LWf lf s W):∀f l c d b p,p<=s.size->wfC W l->((l=[]->b=0)/\(l≠[]->0<b/\b<128))->∀x,(qAN lf s f l c d b p).2=some x->wfC W x.1/\x.1≠[]
 |0,l,c,d,b,p,hp,hw,hb,x,h=>by simp[qAN]at h
 | f + 1, l, c, d, b, p, hp, hw, hb, x, h => by
  rw[qAN]at h;have h1:=fun y=>qK4 (x:=y) hg hl hp;have h2:=qCC hg hp;generalize qAQ lf s p=r at h h1 h2;obtain⟨q,o⟩:=r;cases o with
  |none=>cases h
  | some y =>
   dsimp only at h h1 h2;have g1:=h1 y rfl;obtain⟨⟨e1,e2,_⟩,_⟩:=h2;dsimp only at e1 e2;have hw':wfC W (l++[(b,y.1.1,y.1.2)]):=by
    intro i st hi;by_cases hil:i<l.length
    ·rw[List.getElem?_append_left hil]at hi;exact hw i st hi
    ·rw[List.getElem?_append_right (by omega)]at hi;have hz:i-l.length=0:=by
      cases hh:i-l.length with
      |zero=>rfl
      |succ n=>rw[hh]at hi;simp at hi
     rw[hz]at hi;simp only[List.getElem?_cons_zero,Option.some.injEq]at hi;subst hi;refine⟨g1,fun e=>hb.1 (List.eq_nil_of_length_eq_zero (by omega)),fun e=>hb.2 (fun e0=>?_)⟩;rw[e0]at hz;simp at hz;omega
   have h3:=qEf (s:=s) e2;have h4:=fun b'=>qNH (s:=s) (q:=q) (b:=b');generalize qBr s q=r at h h3 h4;obtain⟨q2,o2⟩:=r;cases o2 with
   |none =>
    dsimp only at h;simp only[Option.some.injEq]at h;subst h;exact⟨hw',by simp⟩
   |some b' =>
    dsimp only at h h3 h4;exact qHh hg hl f (l++[(b,y.1.1,y.1.2)]) (c+y.2.1) (max d y.2.2) b' q2 h3.2 hw' ⟨fun e=>by simp at e,fun _=>h4 b' rfl⟩ x h
end
end Go.Proofs.YtclpcnignheijaaGreatDoor
namespace Go.Proofs.YtclpcnignheijaaGreatDoor.Num
open Go.RowKit Go.Proofs.YtclpcnignheijaaGreatDoor
def qEq(nx:Nat->Int)(t:Nat->Bool):Nat->Nat->Bool
 |0,_=>false
 |f+1,m=>if nx m<0 then false else(t (nx m).toNat||qEq nx t f (nx m).toNat)
def qMe(t:Nat->Bool)(n:Int):Bool:=if n<0 then false else t n.toNat
def qCm(b:BS)(t:Nat->Bool)(cb:Int)(m:Nat):Bool :=
 if cb=32 then qEq (qFq b) t (m+1) m
 else if cb=62 then qMe t (qFq b m)
 else if cb=43 then qMe t (qA3 b m)
 else if cb=126 then qEq (qA3 b) t (m+1) m
 else true
def qHZ(n:Int)(t:NthQ):Bool:=if t.a=0 then decide (n-t.b=0)else(decide ((n-t.b).tmod t.a=0)&&decide (0<=(n-t.b).tdiv t.a))
def qDX(b:BS):Nat->Nat->Nat
 |0,_=>1
 |f+1,m=>if qA3 b m<0 then 1 else qDX b f (qA3 b m).toNat+1
def qDg(v x:ByteArray):Bool:=Lib.containsS ((Lib.fields v.data.toList).map fun l=>(⟨l.toArray⟩:ByteArray)) x
def qCl(any:Bool)(v:ByteArray):ByteArray:=if any=true then⟨(qBV v.data.toList).toArray⟩else v
def qEt(op y x:ByteArray):Bool :=
 if (op.toList==[61])=true then(y.toList==x.toList)
 else if (op.toList==[126,61])=true then qDg y x
 else if (op.toList==[124,61])=true then((y.toList==x.toList)||Lib.hasPrefix y.data.toList (x++(⟨#[45]⟩:ByteArray)).data.toList)
 else if (op.toList==[94,61])=true then(!x.toList.isEmpty&&Lib.hasPrefix y.data.toList x.data.toList)
 else if (op.toList==[36,61])=true then(!x.toList.isEmpty&&Lib.hasSuffix y.data.toList x.data.toList)
 else if (op.toList==[42,61])=true then(!x.toList.isEmpty&&Lib.contains y.data.toList x.data.toList)
 else true
def qHN(v:ByteArray)(a:AttrQ):Bool:=qEt a.op (qCl a.any v) (qCl a.any a.val)
def qCy(b:BS)(m:Nat)(n:ByteArray):ByteArray×Bool:=match b.els[m]? with|some x=>qE6 x.attrs n|none=>(noB,false)
def idW:ByteArray:=bytesOf [105,100]
def qK0:ByteArray:=bytesOf [99,108,97,115,115]
def qN7(b:BS)(m:Nat):ByteArray:=match b.els[m]? with|some x=>qM2 b x|none=>noB
def qCF(b:BS)(m:Nat):ByteArray:=match b.els[m]? with|some x=>x.name|none=>noB
def qIL(b:BS)(ML:qAg->Nat->Bool):Sim->Nat->Bool
 |.mk k x a t l,m =>
  if k=0 then((qCy b m idW).2&&(qCy b m idW).1.toList==x.toList)
  else if k=1 then((qCy b m qK0).2&&qDg (qCy b m qK0).1 x)
  else if k=2 then((qCy b m a.name).2&&qHN (qCy b m a.name).1 a)
  else if k=3 then decide (qFq b m=-1)
  else if k=4 then(!qGk b m&&(qN7 b m).toList.isEmpty)
  else if k=5 then decide (qA3 b m=-1)
  else if k=6 then decide (qPf b m=-1)
  else if k=7 then(decide (qA3 b m=-1)&&decide (qPf b m=-1))
  else if k=8 then qHZ (qDX b (m+1) m) t
  else if k=9 then !ML l m
  else ML l m
def qQw(b:BS)(n:ByteArray)(m:Nat):Bool:=n.toList.isEmpty||(n.toList==[42]||n.toList==(qCF b m).toList)
def qGJ(b:BS)(q:Sim->Nat->Bool)(st:Stp)(m:Nat):Bool:=qQw b st.2.1 m&&st.2.2.all fun s=>q s m
def qG3(b:BS)(q:Sim->Nat->Bool):List Stp->Nat->Bool
 |[],_=>false
 |st::r,m=>qGJ b q st m&&qCm b (qG3 b q r) st.1 m
def qLS(b:BS):Nat->qAg->Nat->Bool
 |0,_,_=>false
 |d+1,l,m=>l.any fun c=>qG3 b (qIL b (qLS b d)) c.reverse m
noncomputable def qDV(b:BS)(l:qAg)(m:Nat):Bool:=qLS b (SizeOf.sizeOf l+1) l m
noncomputable def qBh(b:BS)(c:Cpx)(m:Nat):Bool:=qG3 b (qIL b (qDV b)) c.reverse m
section
variable{b:BS}
theorem qJS{M M':qAg->Nat->Bool}{s:Sim}(h:∀k x a t l m,s=.mk k x a t l->M l m=M' l m)(m:Nat):qIL b M s m=qIL b M' s m:=by
 obtain⟨k,x,a,t,l⟩:=s;simp only[qIL,h k x a t l m rfl]
theorem qE9{q q':Sim->Nat->Bool}:∀{r:List Stp},(∀st∈r,∀s∈st.2.2,∀m,q s m=q' s m)->∀m,qG3 b q r m=qG3 b q' r m
 |[],_,_=>rfl
 | st :: r, h, m => by
  have h1:qGJ b q st m=qGJ b q' st m:=by
   unfold qGJ;congr 1;rw[Bool.eq_iff_iff,List.all_eq_true,List.all_eq_true];exact forall_congr' fun s=>forall_congr' fun hs=>by rw[h st (by simp) s hs m]
  have h2:qG3 b q r=qG3 b q' r:=funext fun m=>qE9 (fun st' hs=>h st' (by simp[hs])) m;show(qGJ b q st m&&qCm b (qG3 b q r) st.1 m)=(qGJ b q' st m&&qCm b (qG3 b q' r) st.1 m);rw[h1,h2]
theorem qRk{l:qAg}{c:Cpx}{st:Stp}{k:Nat}{x:ByteArray}{a:AttrQ}{t:NthQ}{l':qAg}(h1:c∈l)(h2:st∈c)(h3:Sim.mk k x a t l'∈st.2.2):SizeOf.sizeOf l'<SizeOf.sizeOf l:=by
 have e1:=List.sizeOf_lt_of_mem h1;have e2:=List.sizeOf_lt_of_mem h2;have e3:=List.sizeOf_lt_of_mem h3;obtain⟨i,y,ms⟩:=st;simp only[Prod.mk.sizeOf_spec,Sim.mk.sizeOf_spec]at e1 e2 e3 ⊢;omega
theorem qNX:∀(d:Nat)(l:qAg)(d':Nat),SizeOf.sizeOf l<d->SizeOf.sizeOf l<d'->∀m,qLS b d l m=qLS b d' l m
 |0,_,_,h,_,_=>absurd h (by omega)
 |d+1,l,0,_,h,_=>absurd h (by omega)
 |d+1,l,d'+1,h,h',m=>by
  show(l.any fun c=>qG3 b (qIL b (qLS b d)) c.reverse m)=l.any fun c=>qG3 b (qIL b (qLS b d')) c.reverse m;rw[Bool.eq_iff_iff,List.any_eq_true,List.any_eq_true];refine exists_congr fun c=>and_congr_right fun hc=>?_;rw[qE9 (q':=qIL b (qLS b d'))];intro st hst s hs m';refine qJS (fun k x a t l' m'' e=>?_) m';subst e;have:=qRk hc (List.mem_reverse.1 hst) hs;exact qNX d l' d' (by omega) (by omega) m''
theorem qMa(l:qAg)(m:Nat):qDV b l m=l.any fun c=>qBh b c m:=by
 unfold qDV qBh;show(l.any fun c=>qG3 b (qIL b (qLS b (SizeOf.sizeOf l))) c.reverse m)=_;rw[Bool.eq_iff_iff,List.any_eq_true,List.any_eq_true];refine exists_congr fun c=>and_congr_right fun hc=>?_;rw[qE9 (q':=qIL b (qDV b))];intro st hst s hs m';refine qJS (fun k x a t l' m'' e=>?_) m';subst e;have:=qRk hc (List.mem_reverse.1 hst) hs;exact qNX _ l' _ (by omega) (by omega) m''
theorem qOZ(l:Cpx)(st:Stp)(m:Nat):qBh b (l++[st]) m=(qGJ b (qIL b (qDV b)) st m&&qCm b (qBh b l) st.1 m):=by
 unfold qBh;rw[List.reverse_append];rfl
end
def OwnC(w:World)(size:Nat)(v:Value)(n:Nat)(xs:List Value):Prop :=
 ∃ao cap,v=.slice ao n cap/\n<=cap/\cap<=maxLen/\xs.length=n*size/\(0<n->∃g,ao=some ⟨g,0,none⟩/\∀i x,xs[i]? = some x->w.cell? ⟨g,i,none⟩=some x)
section
variable(A:List Cpx)(w:World)
def selM(RL:Value->qAg->Prop)(v:Value)(ms:List Sim):Prop:=∃xs,OwnC w 11 v ms.length xs/\Row (repS RL) ms xs
def qXD(RL:Value->qAg->Prop)(c:Cpx)(vs:List Value):Prop:=∃(l:Cpx)(st:Stp)(k:Nat)(v:Value),c=l++[st]/\vs=[.int .i64 k,.int .u8 st.1,.string st.2.1,v]/\A[k]? = some c/\selM w RL v st.2.2
def selC(RL:Value->qAg->Prop)(v:Value)(c:Cpx):Prop:=∃xs,OwnC w 4 v c.length xs/\Row (qXD A w RL) (qIl c) xs
def qXx(RL:Value->qAg->Prop)(v:Value)(l:qAg):Prop:=∃xs,OwnC w 1 v l.length xs/\Row (fun c vs=>∃v',vs=[v']/\selC A w RL v' c) l xs
def SelL:Nat->Value->qAg->Prop
 |0,v,l=>v=.slice none 0 0/\l=[]
 |n+1,v,l=>qXx A w (SelL n) v l
end
def qCA(v:World):Value->Prop
 |.bool _|.int _ _|.string _|.slice none _ _=>True
 |.slice (some a) _ _=>∃c e f,v.heap[a.block]? = some (.cells c e f)
 |_=>False
def CellsTo(v v':World):Prop:=∀a x,v.cell? a=some x->qCA v x->v'.cell? a=some x
theorem CellsTo.refl(v:World):CellsTo v v:=fun _ _ h _=>h
section
variable{A:List Cpx}{P:Nat->Prop}{w w':World}
theorem Own.toC(hc:CellsTo w w'){e:TypeId}{size:Nat}{v:Value}{n:Nat}{xs:List Value}(h:Own P w e size v n xs)(hp:∀x∈xs,qCA w x):OwnC w' size v n xs/\qCA w v:=by
 obtain⟨⟨hl,⟨rfl,rfl⟩|⟨g,cap,cur,rfl,-,hg,hcap,hmx,-,ht⟩⟩,-⟩:=h
 ·exact⟨⟨none,0,rfl,Nat.le_refl _,Nat.zero_le _,hl,fun h=>absurd h (by omega)⟩,trivial⟩
 ·refine⟨⟨_,_,rfl,hcap,hmx,hl,fun _=>⟨g,rfl,fun i x hx=>?_⟩⟩,⟨_,_,_,hg⟩⟩;refine hc _ _ ?_ (hp x (List.mem_of_getElem? hx));rw[<-ht]at hx;have h2:cur.toList[i]? = some x:=by
   rw[List.getElem?_take]at hx;split at hx
   ·exact hx
   ·cases hx
  unfold World.cell?;dsimp only;rw[hg];simpa using h2
theorem Row.toC{α:Type}{R R':α->List Value->Prop}{Q:Value->Prop}(h:∀a c,R a c->R' a c/\∀x∈c,Q x):∀{l:List α}{xs:List Value},Row R l xs->Row R' l xs/\∀x∈xs,Q x
 |[],xs,hx=>⟨hx,fun x hm=>by have hx':xs=[]:=hx;rw[hx']at hm;simp at hm⟩
 |_::_,_,⟨c,r,e,h1,h2⟩=>by
  obtain⟨a1,a2⟩:=Row.toC h h2;obtain⟨b1,b2⟩:=h _ _ h1;refine⟨⟨c,r,e,b1,a1⟩,fun x hm=>?_⟩;rw[e,List.mem_append]at hm;exact hm.elim (b2 x) (a2 x)
theorem repS.toC{RL RL':Value->qAg->Prop}(hr:∀v l,RL v l->RL' v l/\qCA w v){m:Sim}{vs:List Value}(h:repS RL m vs):repS RL' m vs/\∀x∈vs,qCA w x:=by
 obtain⟨k,x,a,t,l⟩:=m;obtain⟨v,rfl,h0,h⟩:=h;obtain⟨h1,h2⟩:=hr v l h;refine⟨⟨v,rfl,h0,h1⟩,fun y hy=>?_⟩;simp only[qBJ,List.mem_cons,List.not_mem_nil,or_false]at hy;rcases hy with rfl|rfl|rfl|rfl|rfl|rfl|rfl|rfl|rfl|rfl|rfl<;>first|trivial|exact h2
theorem repM.toC(hc:CellsTo w w'){RL RL':Value->qAg->Prop}(hr:∀v l,RL v l->RL' v l/\qCA w v){v:Value}{ms:List Sim}(h:repM P w RL v ms):selM w' RL' v ms/\qCA w v:=by
 obtain⟨xs,h1,h2⟩:=h;obtain⟨a1,a2⟩:=Row.toC (fun _ _ h=>repS.toC hr h) h2;obtain⟨b1,b2⟩:=Own.toC hc h1 a2;exact⟨⟨xs,b1,a1⟩,b2⟩
theorem repT.toC(hc:CellsTo w w'){RL RL':Value->qAg->Prop}(hr:∀v l,RL v l->RL' v l/\qCA w v){c:Cpx}{vs:List Value}(h:repT A P w RL c vs):qXD A w' RL' c vs/\∀x∈vs,qCA w x:=by
 obtain⟨l,st,k,v,e,rfl,hp,h⟩:=h;obtain⟨h1,h2⟩:=h.toC hc hr;refine⟨⟨l,st,k,v,e,rfl,hp,h1⟩,fun y hy=>?_⟩;simp only[List.mem_cons,List.not_mem_nil,or_false]at hy;rcases hy with rfl|rfl|rfl|rfl<;>first|trivial|exact h2
theorem repC.toC(hc:CellsTo w w'){RL RL':Value->qAg->Prop}(hr:∀v l,RL v l->RL' v l/\qCA w v){v:Value}{c:Cpx}(h:repC A P w RL v c):selC A w' RL' v c/\qCA w v:=by
 obtain⟨xs,h1,h2⟩:=h;obtain⟨a1,a2⟩:=Row.toC (fun _ _ h=>repT.toC hc hr h) h2;obtain⟨b1,b2⟩:=Own.toC hc h1 a2;exact⟨⟨xs,b1,a1⟩,b2⟩
theorem RepL.toC(hc:CellsTo w w'):∀{n:Nat}{v:Value}{l:qAg},RepL A P w n v l->SelL A w' n v l/\qCA w v
 |0,_,_,h=>⟨h,by rw[h.1];trivial⟩
 | n + 1, v, l, h => by
  obtain⟨xs,h1,h2⟩:=h;obtain⟨a1,a2⟩:=Row.toC (R':=fun c vs=>∃v',vs=[v']/\selC A w' (SelL A w' n) v' c) (Q:=qCA w) (fun c vs ⟨v',e,h⟩=>by
   obtain⟨x1,x2⟩:=h.toC hc fun _ _ h=>RepL.toC hc h;subst e;exact⟨⟨v',rfl,x1⟩,fun y hy=>by simp at hy;rw[hy];exact x2⟩) h2
  obtain⟨b1,b2⟩:=Own.toC hc h1 a2;exact⟨⟨xs,b1,a1⟩,b2⟩
theorem SelL.get{d:Nat}{v:Value}{l:qAg}(h:SelL A w (d+1) v l){i:Nat}{c:Cpx}(hi:l[i]? = some c):∃g cap cv,v=.slice (some ⟨g,0,none⟩) l.length cap/\w.cell? ⟨g,i,none⟩=some cv/\selC A w (SelL A w d) cv c:=by
 obtain⟨xs,⟨ao,cap,rfl,hcap,hmx,hl,hg⟩,hr⟩:=h;have hlt:=(List.getElem?_eq_some_iff.1 hi).1;obtain⟨g,rfl,hcell⟩:=hg (by omega);obtain⟨cs,⟨cv,rfl,hs⟩,hj⟩:=hr.get (m:=1) (fun _ c ⟨v',e,_⟩=>by rw[e];rfl) hi;refine⟨g,cap,cv,rfl,hcell _ _ ?_,hs⟩;have:=hj 0 (by omega);simpa using this
theorem SelL.shape{d:Nat}{v:Value}{l:qAg}(h:SelL A w d v l):∃ao cap,v=.slice ao l.length cap:=by
 cases d with
 |zero=>obtain⟨rfl,rfl⟩:=h;exact⟨_,_,rfl⟩
 |succ d=>obtain⟨xs,⟨ao,cap,rfl,-⟩,-⟩:=h;exact⟨_,_,rfl⟩
theorem SelL.len{d:Nat}{v:Value}{l:qAg}(h:SelL A w d v l):l.length<=maxLen:=by
 cases d with
 |zero=>obtain⟨rfl,rfl⟩:=h;exact Nat.zero_le _
 |succ d=>obtain⟨xs,⟨ao,cap,rfl,h1,h2,-⟩,-⟩:=h;exact Nat.le_trans h1 h2
theorem Row.len{α:Type}{R:α->List Value->Prop}{m:Nat}(hm:∀a c,R a c->c.length=m):∀{l:List α}{xs:List Value},Row R l xs->xs.length=l.length*m
 |[],xs,hx=>by have hx':xs=[]:=hx;rw[hx'];simp
 |_::l,_,⟨c,r,e,h1,h2⟩=>by rw[e,List.length_append,hm _ _ h1,Row.len hm h2,List.length_cons,Nat.add_mul];omega
theorem Row.unsnoc{α:Type}{R:α->List Value->Prop}{a:α}:∀{l:List α}{xs:List Value},Row R (l++[a]) xs->∃ys c,xs=ys++c/\Row R l ys/\R a c
 |[],xs,⟨c,r,e,h1,h2⟩=>⟨[],c,by have h2':r=[]:=h2;rw[e,h2'];simp,rfl,h1⟩
 |b::l,xs,⟨c,r,e,h1,h2⟩=>by
  obtain⟨ys,c2,rfl,h3,h4⟩:=Row.unsnoc h2;exact⟨c++ys,c2,by rw[e,List.append_assoc],⟨c,ys,rfl,h1,h3⟩,h4⟩
theorem selC.last{RL:Value->qAg->Prop}{v:Value}{l:Cpx}{st:Stp}(h:selC A w RL v (l++[st])):∃g cap k mv,v=.slice (some ⟨g,0,none⟩) (l.length+1) cap/\(l.length+1<=cap/\cap<=maxLen) /\
  (w.cell? ⟨g,l.length*4,none⟩=some (.int .i64 (k:Nat))/\w.cell? ⟨g,l.length*4+1,none⟩=some (.int .u8 st.1)/\w.cell? ⟨g,l.length*4+2,none⟩=some (.string st.2.1)/\w.cell? ⟨g,l.length*4+3,none⟩=some mv) /\
  A[k]? = some (l++[st])/\selM w RL mv st.2.2/\selC A w RL (.slice (some ⟨g,0,none⟩) l.length cap) l:=by
 obtain⟨xs,⟨ao,cap,rfl,hcap,hmx,hl,hg⟩,hr⟩:=h;obtain⟨g,rfl,hcell⟩:=hg (by simp);rw[qJF]at hr;obtain⟨ys,c,rfl,h1,l',st',k,mv,e,rfl,hk,hm⟩:=Row.unsnoc hr;obtain⟨rfl,e2⟩:=List.append_inj' e rfl;simp only[List.cons.injEq,and_true]at e2;subst e2;have hlen:ys.length=l.length*4:=by
  have:=Row.len (m:=4) (fun _ _ ⟨_,_,_,_,_,e,_⟩=>by rw[e];rfl) h1;rw[this,prefs_len]
 rw[List.length_append,List.length_singleton]at *;have at':∀j x,([.int .i64 k,.int .u8 st.1,.string st.2.1,mv]:List Value)[j]? = some x->w.cell? ⟨g,l.length*4+j,none⟩=some x:=fun j x hx=>hcell _ _ (by rw[List.getElem?_append_right (by omega),hlen,Nat.add_sub_cancel_left];exact hx);refine⟨g,cap,k,mv,rfl,⟨hcap,hmx⟩,⟨at' 0 _ rfl,at' 1 _ rfl,at' 2 _ rfl,at' 3 _ rfl⟩,hk,hm,ys,⟨_,_,rfl,by omega,hmx,hlen,fun _=>⟨g,rfl,fun i x hx=>hcell i x ?_⟩⟩,h1⟩;rw[List.getElem?_append_left (List.getElem?_eq_some_iff.1 hx).1];exact hx
theorem selC.shape{RL:Value->qAg->Prop}{v:Value}{c:Cpx}(h:selC A w RL v c):∃ao cap,v=.slice ao c.length cap:=by
 obtain⟨xs,⟨ao,cap,rfl,-⟩,-⟩:=h;exact⟨_,_,rfl⟩
theorem selM.get{RL:Value->qAg->Prop}{v:Value}{ms:List Sim}(h:selM w RL v ms){i k:Nat}{x:ByteArray}{a:AttrQ}{t:NthQ}{l:qAg}(hi:ms[i]? = some (.mk k x a t l)):∃g cap lv,v=.slice (some ⟨g,0,none⟩) ms.length cap/\(∀j y,(qBJ k x a t lv)[j]? = some y->w.cell? ⟨g,i*11+j,none⟩=some y)/\a.val.size<=2000/\RL lv l:=by
 obtain⟨xs,⟨ao,cap,rfl,hcap,hmx,hl,hg⟩,hr⟩:=h;have hlt:=(List.getElem?_eq_some_iff.1 hi).1;obtain⟨g,rfl,hcell⟩:=hg (by omega);obtain⟨cs,⟨lv,rfl,hv,hs⟩,hj⟩:=hr.get (m:=11) (fun m c h=>by obtain⟨k,x,a,t,l⟩:=m;obtain⟨v,e,_⟩:=h;rw[e];rfl) hi;refine⟨g,cap,lv,rfl,fun j y hy=>hcell _ _ ?_,hv,hs⟩;rw[hj j (by have:=(List.getElem?_eq_some_iff.1 hy).1;simpa [qBJ]using this)];exact hy
theorem selM.shape{RL:Value->qAg->Prop}{v:Value}{ms:List Sim}(h:selM w RL v ms):∃ao cap,v=.slice ao ms.length cap/\ms.length<=maxLen:=by
 obtain⟨xs,⟨ao,cap,rfl,hcap,hmx,-⟩,-⟩:=h;exact⟨_,_,rfl,Nat.le_trans hcap hmx⟩
end
