/-
  Parts of the proof: J16.
-/
import Derived.Test.YtclpcnignheijaaGreatDoorQ4
namespace Go.Proofs.YtclpcnignheijaaGreatDoor.Num
open Go.RowKit Go.Proofs.YtclpcnignheijaaGreatDoor
structure BOk(b:BS):Prop where
 n:b.els.length<=5000
 par:∀(i:Nat)(x:El),b.els[i]? = some x->-1<=x.parent/\x.parent<(i:Int)
 txt:∀(i:Nat)(x:El),b.els[i]? = some x->0<=x.lo/\x.lo<=x.hi/\x.hi<=(b.txt.length:Int)
 ats:∀(i:Nat)(x:El),b.els[i]? = some x->x.attrs.length<=5000/\∀p∈x.attrs,p.2.size<=5000/\∀(j:Nat) c,p.2.data.toList[j]? = some c->c.toNat<128
theorem qNm(s:ByteArray)(p:Nat):∀l:List (List UInt8×Int),(∀x∈l,0<=x.2/\x.2<128)->∀m,(qDy s p l).2=some m->0<=m/\m<128
 |[],_,m,h=>by simp[qDy]at h
 | x :: r, hl, m, h => by
  rw[qDy]at h;split at h
  ·dsimp only at h;split at h
   ·have:=hl x (by simp);simp only[Option.some.injEq]at h;subst h;exact this
   ·cases h
  ·exact qNm s p r (fun y hy=>hl y (by simp[hy])) m h
theorem qTJ{s:ByteArray}{p:Nat}{m:Int}(h:(qFu s p).2=some m):0<=m/\m<128:=qNm s p refsL (by simp[refsL]) m h
theorem qMg(s:ByteArray)(p:Nat):0<=qAC s p/\qAC s p<128:=by
 unfold qAC;split
 ·rename_i h;have:=h.2;unfold qCK at this;simp only[Bool.or_eq_true,Bool.and_eq_true,beq_iff_eq,decide_eq_true_eq]at this;omega
 ·omega
theorem qJU{m:Int}(h:0<=m/\m<128):m.toNat.toUInt8.toNat<128:=by
 have:m.toNat.toUInt8.toNat=m.toNat%256:=rfl;omega
theorem qE8(s:ByteArray)(ends:List UInt8):∀f p acc l,(∀c∈acc,c.toNat<128)->(qB3 s ends f p acc).2=some l->∀c∈l,c.toNat<128
 |0,p,acc,l,_,h=>by simp[qB3]at h
 | f + 1, p, acc, l, ha, h => by
  rw[qB3]at h;split at h
  ·simp only[Option.some.injEq]at h;subst h;exact ha
  ·split at h
   ·split at h
    ·rename_i m hm;refine qE8 s ends f _ _ l (fun c hc=>?_) h;rcases List.mem_append.1 hc with hc|hc
     ·exact ha c hc
     ·rw[List.mem_singleton.1 hc];exact qJU (qTJ hm)
    ·cases h
   ·refine qE8 s ends f _ _ l (fun c hc=>?_) h;rcases List.mem_append.1 hc with hc|hc
    ·exact ha c hc
    ·rw[List.mem_singleton.1 hc];exact qJU (qMg s p)
def qL8(s v:ByteArray):Prop:=v.size<=s.size/\∀c∈v.data.toList,c.toNat<128
theorem qM4{s:ByteArray}{p:Nat}{m:List UInt8}(hp:p<=s.size)(h:(qBW s p).2=some m):qL8 s ⟨m.toArray⟩:=by
 have h1:=qBi s [34] p hp;have h2:=qDe s [60,34] _ h1.2;unfold qBW at h;split at h
 ·cases h
 ·split at h
  ·cases h
  ·rename_i m' hm';dsimp only at h;split at h
   ·simp only[Option.some.injEq]at h;subst h;have:=qD7 s [60,34] _ m' h1.2 hm';refine⟨?_,?_⟩
    ·show m'.toArray.size<=s.size;simp;omega
    ·intro c hc;exact qE8 s [60,34] _ _ [] m' (by simp) hm' c (by simpa using hc)
   ·cases h
theorem qOS{s:ByteArray}{p:Nat}{l:List (ByteArray×ByteArray)}{x:ByteArray×ByteArray}(hp:p<=s.size)(h:(qBk s p l).2=some x):qL8 s x.2:=by
 have h1:=qCX s p (hasN l) hp;unfold qBk at h;split at h
 ·cases h
 ·split at h
  ·rename_i e;have hlt:(qBQ s p (hasN l)).1<s.size:=qAX (by omega);split at h
   ·cases h
   ·rename_i m hm;simp only[Option.some.injEq]at h;subst h;exact qM4 hlt hm
  ·simp only[Option.some.injEq]at h;subst h;exact⟨Nat.zero_le _,by simp⟩
theorem qHb(s:ByteArray):∀f p l l',p<=s.size->(∀x∈l,qL8 s x.2)->(qBc s f p l).2=some l'->(∀x∈l',qL8 s x.2)/\l'.length+p<=l.length+s.size
 |0,p,l,l',_,_,h=>by simp[qBc]at h
 | f + 1, p, l, l', hp, hl, h => by
  have h1:=qEn (f:=qAV) (by decide) hp;have h2:=qHB s (qBM qAV s p) l h1.2;rw[qBc]at h;split at h
  ·rename_i hc;split at h
   ·cases h
   ·rename_i x hx;obtain⟨g1,g2⟩:=qHb s f (qBk s (qBM qAV s p) l).1 (l++[x]) l' h2.2 (fun y hy=>by
     rcases List.mem_append.1 hy with hy|hy
     ·exact hl y hy
     ·rw[List.mem_singleton.1 hy];exact qOS h1.2 hx) h
    rw[List.length_append,List.length_singleton]at g2;exact⟨g1,by omega⟩
  ·simp only[Option.some.injEq]at h;subst h;exact⟨hl,by omega⟩
inductive Reach (els:List El):Int->Nat->Prop
 |here {o:Int} {k:Nat}:o=(k:Int)->Reach els o k
 |up {o:Int} {k:Nat} {x:El} {i:Nat}:o=(k:Int)->els[k]? = some x->Reach els x.parent i->Reach els o i
theorem Reach.mono{els els':List El}(h:∀(k:Nat)(x:El),els[k]? = some x->∃x',els'[k]? = some x'/\x'.parent=x.parent){o:Int}{i:Nat}(r:Reach els o i):Reach els' o i:=by
 induction r with
 |here e=>exact .here e
 |up e hx _ ih =>
  obtain⟨x',h1,h2⟩:=h _ _ hx;exact .up e h1 (h2▸ih)
structure Clo(s:ByteArray)(b:BS):Prop where
 txt:∀(i:Nat)(x:El),b.els[i]? = some x->(0<=x.lo/\x.lo<=(b.txt.length:Int))/\((x.lo<=x.hi/\x.hi<=(b.txt.length:Int))\/Reach b.els b.opn i)
 ats:∀(i:Nat)(x:El),b.els[i]? = some x->x.attrs.length<=s.size/\∀p∈x.attrs,qL8 s p.2
section
variable{s:ByteArray}{b:BS}
theorem Clo.text(h:Clo s b)(l:List UInt8):Clo s (b.text l):=by
 refine⟨fun i x hx=>?_,fun i x hx=>h.ats i x hx⟩;obtain⟨h1,h2⟩:=h.txt i x hx;have:((b.text l).txt.length:Int)=b.txt.length+l.length:=by simp[BS.text]
 rw[this];exact⟨by omega,h2.imp (fun h=>by omega) fun h=>h⟩
theorem Clo.begin(h:Clo s b)(n:ByteArray){l:List (ByteArray×ByteArray)}(hl:l.length<=s.size/\∀p∈l,qL8 s p.2):Clo s (b.begin n l):=by
 have hat:∀(i:Nat)(x:El),(b.begin n l).els[i]? = some x->b.els[i]? = some x\/(i=b.els.length/\x=⟨n,b.opn,l,(b.txt.length:Int),0⟩):=by
  intro i x hx;have hx:(b.els++[(⟨n,b.opn,l,(b.txt.length:Int),0⟩:El)])[i]? = some x:=hx;by_cases hi:i<b.els.length
  ·rw[List.getElem?_append_left hi]at hx;exact .inl hx
  ·rw[List.getElem?_append_right (by omega)]at hx;cases hd:i-b.els.length with
   |zero=>rw[hd]at hx;simp at hx;exact .inr ⟨by omega,hx.symm⟩
   |succ k=>rw[hd]at hx;simp at hx
 have hnew:(b.begin n l).els[b.els.length]? = some ⟨n,b.opn,l,(b.txt.length:Int),0⟩:=(qKt b n l).2.1;refine⟨fun i x hx=>?_,fun i x hx=>?_⟩
 ·rcases hat i x hx with hx|⟨rfl,rfl⟩
  ·obtain⟨h1,h2⟩:=h.txt i x hx;refine⟨h1,h2.imp (fun h=>h) fun h=>?_⟩;refine .up (k:=b.els.length) rfl hnew (h.mono fun k x hx=>⟨x,?_,rfl⟩);show(b.els++[(⟨n,b.opn,l,(b.txt.length:Int),0⟩:El)])[k]? = some x;rw[List.getElem?_append_left (List.getElem?_eq_some_iff.1 hx).1];exact hx
  ·exact⟨⟨by dsimp only;omega,Int.le_refl _⟩,.inr (.here rfl)⟩
 ·rcases hat i x hx with hx|⟨rfl,rfl⟩
  ·exact h.ats i x hx
  ·exact hl
theorem Clo.fin{p:Nat}(hb:Go.Proofs.YtclpcnignheijaaGreatDoor.BOk b p)(h:Clo s b):Clo s b.fin:=by
 by_cases ho:b.opn=-1
 ·have:b.fin=b:=by
   unfold BS.fin;split
   ·rfl
   ·rw[if_pos ho]
  rw[this];exact h
 ·obtain⟨k,x,hk,hx⟩:=hb.at ho;have hlt:k<b.els.length:=(List.getElem?_eq_some_iff.1 hx).1;have hfin:b.fin={ els:=b.els.set k { x with hi:=(b.txt.length:Int) },txt:=b.txt,opn:=x.parent,dep:=b.dep-1 }:=by
   unfold BS.fin;rw[hk,Int.toNat_natCast,hx];dsimp only;rw[if_neg (by omega)]
  rw[hfin];have hm:∀(j:Nat)(y:El),b.els[j]? = some y->∃y',(b.els.set k { x with hi:=(b.txt.length:Int) })[j]? = some y'/\y'.parent=y.parent:=by
   intro j y hy;by_cases e:j=k
   ·subst e;rw[hx]at hy;cases hy;exact⟨_,List.getElem?_set_self hlt,rfl⟩
   ·exact⟨y,by rw[List.getElem?_set_ne (fun h=>e h.symm)];exact hy,rfl⟩
  refine⟨fun i y hy=>?_,fun i y hy=>?_⟩
  ·by_cases e:i=k
   ·subst e;simp only[List.getElem?_set_self hlt,Option.some.injEq]at hy;subst hy;obtain⟨h1,-⟩:=h.txt i x hx;exact⟨h1,.inl ⟨h1.2,Int.le_refl _⟩⟩
   ·simp only[List.getElem?_set_ne (fun h=>e h.symm)]at hy;obtain⟨h1,h2⟩:=h.txt i y hy;refine⟨h1,h2.imp (fun h=>h) fun r=>?_⟩;rw[hk]at r;cases r with
    |here e'=>exact absurd (by omega) e
    |up e' hx' r' =>
     obtain rfl:=Int.ofNat.inj e';rw[hx]at hx';cases hx';exact r'.mono hm
  ·by_cases e:i=k
   ·subst e;simp only[List.getElem?_set_self hlt,Option.some.injEq]at hy;subst hy;exact h.ats i x hx
   ·simp only[List.getElem?_set_ne (fun h=>e h.symm)]at hy;exact h.ats i y hy
theorem qRw(p:Nat)(h:Clo s b):Clo s (qEX s p b).2.1:=by
 unfold qEX;split
 ·exact h
 ·split
  ·exact h
  ·exact h.text _
theorem qSn{p q:Nat}(hb:Go.Proofs.YtclpcnignheijaaGreatDoor.BOk b p)(h:Clo s b):Clo s (endP s q b).2.1:=by
 unfold endP;split
 ·exact h
 ·split
  ·exact h
  ·split
   ·exact h
   ·split
    ·exact h
    ·split
     ·exact h
     ·exact h.fin hb
theorem qLC{p:Nat}{n:ByteArray}(hp:p<=s.size)(hb:Go.Proofs.YtclpcnignheijaaGreatDoor.BOk b p)(hn:n.size<=16)(h:Clo s b):Clo s (qBo s p b n).2.1:=by
 unfold qBo;split
 ·exact h
 ·rename_i l hl;split
  ·exact h
  ·have hg:(∀x∈l,qL8 s x.2)/\l.length+p<=0+s.size:=qHb s _ p [] l hp (by simp) hl;have hc:=h.begin n (l:=l) ⟨by omega,hg.1⟩;dsimp only;split
   ·exact hc.fin (hb.begin (Nat.lt_succ_self p) n l hn)
   ·exact hc
theorem qPD{p:Nat}(hb:Go.Proofs.YtclpcnignheijaaGreatDoor.BOk b p)(h:Clo s b):Clo s (qAW s p b).2.1:=by
 unfold qAW;split
 ·rename_i e;have hlt:p<s.size:=qAX (by omega);split
  ·exact h
  ·split
   ·exact qSn hb h
   ·unfold qCn;have l1:=qCX s (p+1) qAI hlt;split
    ·exact h
    ·rename_i n hn;exact qLC l1.2 (hb.mono (by omega)) (qFl hlt hn) h
 ·exact qRw p h
theorem qFD:∀(f p:Nat)(b:BS)(lim:Bool),p<=s.size->Go.Proofs.YtclpcnignheijaaGreatDoor.BOk b p->Clo s b->(qAr s f p b lim).2.2=0->(∃q,q<=s.size/\Go.Proofs.YtclpcnignheijaaGreatDoor.BOk (qAr s f p b lim).2.1 q)/\Clo s (qAr s f p b lim).2.1/\(qAr s f p b lim).2.1.opn=-1
 |0,p,b,lim,_,_,_,h=>by simp[qAr]at h
 | f + 1, p, b, lim, hp, hb, hc, h => by
  rw[qAr]at h ⊢;split at h
  ·rename_i e;rw[if_pos e];split at h
   ·rename_i ho;rw[if_pos ho];exact⟨⟨p,hp,hb⟩,hc,ho⟩
   ·cases h
  ·rename_i e;rw[if_neg e];split at h
   ·rename_i h2;omega
   ·rename_i h2;rw[if_neg h2];have hk:=qLf hp hb;exact qFD f _ _ _ hk.le.2 hk.ok (qPD hb hc) h
theorem qKX{s:ByteArray}(hs:s.size<=2000)(h:(qAs s).2.2=0):BOk (qAs s).2.1:=by
 obtain⟨⟨q,hq,hb⟩,hc,ho⟩:=qFD (s:=s) (s.size+1) 0 b0 false (Nat.zero_le _) qUa ⟨by intro i x h;simp[b0]at h,by intro i x h;simp[b0]at h⟩ h;have e:qAr s (s.size+1) 0 b0 false=qAs s:=rfl;rw[e]at hb hc ho;refine⟨by have:=hb.elen;omega,fun i x hx=>⟨(hb.par i x hx).1,(hb.par i x hx).2.1⟩,fun i x hx=>?_,fun i x hx=>?_⟩
 ·obtain⟨h1,h2|h2⟩:=hc.txt i x hx
  ·exact⟨h1.1,h2.1,h2.2⟩
  ·rw[ho]at h2;cases h2 with
   |here e=>omega
   |up e _ _=>omega
 ·obtain⟨h1,h2⟩:=hc.ats i x hx;refine⟨by omega,fun p hp=>⟨by have:=(h2 p hp).1;omega,fun j c hj=>(h2 p hp).2 c (List.mem_of_getElem? hj)⟩⟩
end
