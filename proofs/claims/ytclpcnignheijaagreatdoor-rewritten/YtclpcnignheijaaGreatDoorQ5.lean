/-
  Parts of the proof: P0, P1.
-/
import Derived.Test.YtclpcnignheijaaGreatDoorQ1
namespace Go.Proofs.YtclpcnignheijaaGreatDoor
open Go.RowKit
structure AttrQ where
 name:ByteArray
 op:ByteArray
 val:ByteArray
 any:Bool
structure NthQ where
 word:ByteArray
 hasN:Bool
 a:Int
 b:Int
inductive Sim where
 |mk (kind:Nat) (word:ByteArray) (attr:AttrQ) (nth:NthQ) (list:List (List (Int×ByteArray×List Sim)))
abbrev Stp:=Int×ByteArray×List Sim
abbrev Cpx:=List Stp
abbrev qAg:=List Cpx
def noB:ByteArray:=⟨#[]⟩
def qBD:AttrQ:=⟨noB,noB,noB,false⟩
def qB2:NthQ:=⟨noB,false,0,0⟩
def qB5(s:ByteArray)(p:Nat):Nat×Option ByteArray :=
 if qDm qBj s 16 p=p\/qBj (qAC s (qDm qBj s 16 p))=true then(qDm qBj s 16 p,none)else(qDm qBj s 16 p,some (qCd s p (qDm qBj s 16 p)))
def qCQ(words:List (List UInt8))(t:List UInt8)(b:Int):Bool:=words.any fun x=>t.isPrefixOf x&&(match x[t.length]? with|some c=>(c.toNat:Int)==b|none=>false)
def qCo(s:ByteArray)(words:List (List UInt8)):Nat->List UInt8->Nat->Nat×Option Nat
 |0,_,p=>(p,none)
 |n+1,t,p=>match words.findIdx? (·==t)with
  |some i=>(p,some i)
  |none=>if qCQ words t (qAC s p)=true then qCo s words n (t++[UInt8.ofNat (qAC s p).toNat]) (p+1)else(p,none)
def opsW:List (List UInt8):=[[61],[126,61],[124,61],[94,61],[36,61],[42,61]]
def openW:List (List UInt8):=[[35],[46],[91],[58,114,111,111,116],[58,101,109,112,116,121],[58,102,105,114,115,116,45,99,104,105,108,100],[58,108,97,115,116,45,99,104,105,108,100],[58,111,110,108,121,45,99,104,105,108,100],[58,110,116,104,45,99,104,105,108,100,40],[58,110,111,116,40],[58,105,115,40]]
def bytesOf(l:List UInt8):ByteArray:=⟨l.toArray⟩
def qAq(k:Nat):List UInt8:=if k=2 then[93]else if 8<=k then[41]else[]
def qBq(s:ByteArray)(p:Nat):Nat:=qBM (fun b=>b != 34&&b != 0) s p
def qAl(s:ByteArray)(p:Nat):Nat×Option ByteArray :=
 if qAC s p=34 then
  if qAC s (qBq s (p+1))=34 then(qBq s (p+1)+1,some (qCd s (p+1) (qBq s (p+1))))else(qBq s (p+1),none)
 else qB5 s p
def spP(s:ByteArray)(p:Nat):Nat:=qBM qAV s p
def qON(s:ByteArray)(p:Nat):Nat×Bool:=if qAC s p=105 then(p+1,true)else(p,false)
def qBC(s:ByteArray)(p:Nat):Nat×Option AttrQ :=
 match qBQ s (spP s p) qAI with
 |(q,none)=>(q,none)
 | (q, some n) =>
  if qAC s (spP s q)=93 then(spP s q,some ⟨n,noB,noB,false⟩)
  else match qCo s opsW 3 [] (spP s q)with
   |(q2,none)=>(q2,none)
   |(q2,some i)=>match qAl s (spP s q2)with
    |(q3,none)=>(q3,none)
    |(q3,some x)=>(spP s (qON s (spP s q3)).1,some ⟨n,bytesOf (opsW.getD i []),x,(qON s (spP s q3)).2⟩)
def qBN(s:ByteArray)(p:Nat):Nat×Int×Bool:=if qAC s p=45 then(p+1,-1,true)else if qAC s p=43 then(p+1,1,true)else(p,1,false)
def qA8(s:ByteArray)(p:Nat):Nat×Int×Bool :=
 if qCE (qAC s p)=true then if qCE (qAC s (p+1))=true then(p+2,10*(qAC s p-48)+(qAC s (p+1)-48),true)else(p+1,qAC s p-48,true)else(p,0,false)
def qBX(s:ByteArray)(p:Nat):Nat×Option Int :=
 if (qBN s (spP s p)).2.2=false then((qBN s (spP s p)).1,some 0)
 else if (qA8 s (spP s (qBN s (spP s p)).1)).2.2=false then((qA8 s (spP s (qBN s (spP s p)).1)).1,none)
 else((qA8 s (spP s (qBN s (spP s p)).1)).1,some ((qBN s (spP s p)).2.1*(qA8 s (spP s (qBN s (spP s p)).1)).2.1))
def qO4:List UInt8:=[111,100,100]
def qGK:List UInt8:=[101,118,101,110]
def qAj(s:ByteArray)(p:Nat):Nat×Option NthQ :=
 if qAC s p=111 then((qAo s qO4 p).1,if (qAo s qO4 p).2=true then some ⟨bytesOf qO4,true,2,1⟩else none)
 else if qAC s p=101 then((qAo s qGK p).1,if (qAo s qGK p).2=true then some ⟨bytesOf qGK,true,2,0⟩else none)
 else if qAC s (qA8 s (qBN s p).1).1=110 then
  ((qBX s ((qA8 s (qBN s p).1).1+1)).1,(qBX s ((qA8 s (qBN s p).1).1+1)).2.map fun b=>⟨noB,true,(qBN s p).2.1*(if (qA8 s (qBN s p).1).2.2=true then(qA8 s (qBN s p).1).2.1 else 1),b⟩)
 else if (qA8 s (qBN s p).1).2.2=false then((qA8 s (qBN s p).1).1,none)
 else((qA8 s (qBN s p).1).1,some ⟨noB,false,0,(qBN s p).2.1*(qA8 s (qBN s p).1).2.1⟩)
def qJ7(s:ByteArray)(p:Nat):Nat×Option NthQ :=
 match qAj s (spP s p)with
 |(q,none)=>(q,none)
 |(q,some x)=>(spP s q,some x)
def atB(b:Int):Bool:=b==35||b==46||b==91||b==58
section
variable(lf:Nat->Nat×Option (qAg×Nat×Nat))(s:ByteArray)
def qAu(k p:Nat):Nat×Option (Sim×Nat×Nat) :=
 if k<=1 then((qB5 s p).1,(qB5 s p).2.map fun x=>(.mk k x qBD qB2 [],0,0))
 else if k=2 then((qBC s p).1,(qBC s p).2.map fun x=>(.mk k noB x qB2 [],0,0))
 else if k=8 then((qJ7 s p).1,(qJ7 s p).2.map fun x=>(.mk k noB qBD x [],0,0))
 else if 9<=k then((lf p).1,(lf p).2.map fun x=>(.mk k noB qBD qB2 x.1,x.2.1,x.2.2+1))
 else(p,some (.mk k noB qBD qB2 [],0,0))
def qAe(p:Nat):Nat×Option (Sim×Nat×Nat) :=
 match qCo s openW 13 [] p with
 |(q,none)=>(q,none)
 |(q,some k)=>match qAu lf s k q with
  |(q2,none)=>(q2,none)
  |(q2,some x)=>((qAo s (qAq k) q2).1,if (qAo s (qAq k) q2).2=true then some (x.1,x.2.1+1,x.2.2)else none)
def qAO:Nat->List Sim->Nat->Nat->Nat->Nat×Option (List Sim×Nat×Nat)
 |0,_,_,_,p=>(p,none)
 | f + 1, l, c, d, p =>
  if atB (qAC s p)=true then match qAe lf s p with
   |(q,none)=>(q,none)
   |(q,some x)=>qAO f (l++[x.1]) (c+x.2.1) (max d x.2.2) q
  else(p,some (l,c,d))
def qB4(p:Nat):Nat×Option ByteArray :=
 if qAC s p=42 then(p+1,some (bytesOf [42]))else if atB (qAC s p)=true then(p,some noB)else qBQ s p qAI
def qAQ(p:Nat):Nat×Option ((ByteArray×List Sim)×Nat×Nat) :=
 match qB4 s p with
 |(q,none)=>(q,none)
 |(q,some n)=>match qAO lf s (s.size+1) [] 0 0 q with
  |(q2,none)=>(q2,none)
  |(q2,some x)=>(q2,some ((n,x.1),x.2.1,x.2.2))
def qGH(b:Int):Bool:=b==62||b==43||b==126
def qKV(b:Int):Bool:=b==44||b==41||b==0
def qBr(p:Nat):Nat×Option Int :=
 if qGH (qAC s (spP s p))=true then(spP s (spP s p+1),some (qAC s (spP s p)))
 else if qKV (qAC s (spP s p))=true then(spP s p,none)
 else if p<spP s p then(spP s p,some 32)else(spP s p,none)
def qAN:Nat->Cpx->Nat->Nat->Int->Nat->Nat×Option (Cpx×Nat×Nat)
 |0,_,_,_,_,p=>(p,none)
 | f + 1, l, c, d, b, p => match qAQ lf s p with
  |(q,none)=>(q,none)
  |(q,some x)=>match qBr s q with
   |(q2,none)=>(q2,some (l++[(b,x.1.1,x.1.2)],c+x.2.1,max d x.2.2))
   |(q2,some b')=>qAN f (l++[(b,x.1.1,x.1.2)]) (c+x.2.1) (max d x.2.2) b' q2
def qBI:Nat->qAg->Nat->Nat->Nat->Nat×Option (qAg×Nat×Nat)
 |0,_,_,_,p=>(p,none)
 |f+1,l,c,d,p=>match qAN lf s (s.size+1) [] 0 0 0 (spP s p)with
  |(q,none)=>(q,none)
  |(q,some x)=>if qAC s q=44 then qBI f (l++[x.1]) (c+x.2.1) (max d x.2.2) (q+1)else(q,some (l++[x.1],c+x.2.1,max d x.2.2))
end
def qAP(s:ByteArray):Nat->Nat->Nat×Option (qAg×Nat×Nat)
 |0,p=>(p,none)
 |n+1,p=>qBI (qAP s n) s (s.size+1) [] 0 0 p
theorem spP_le{s:ByteArray}{p:Nat}(h:p<=s.size):p<=spP s p/\spP s p<=s.size:=by
 have:=qC5 qAV (by decide) s (s.size-p) p h;exact⟨this.1,this.2.1⟩
theorem qB9{s:ByteArray}{p:Nat}{c:Int}(h:qAC s p=c)(hc:c≠0):p<s.size:=qAX (by rw[h];exact hc)
theorem qOE{s:ByteArray}{p:Nat}(h:p<=s.size):p<=(qB5 s p).1/\(qB5 s p).1<=s.size/\(∀x,(qB5 s p).2=some x->p<(qB5 s p).1):=by
 have:=qC5 qBj (by decide) s 16 p h;unfold qB5;split
 ·exact⟨this.1,this.2.1,fun x hx=>by simp at hx⟩
 ·rename_i hn;refine⟨this.1,this.2.1,fun x _=>?_⟩;have:¬qDm qBj s 16 p=p:=fun e=>hn (.inl e);show p<qDm qBj s 16 p;omega
theorem qLL{words:List (List UInt8)}{t:List UInt8}{s:ByteArray}{p:Nat}(hw:∀x∈words,(0:UInt8) ∉ x)(h:qCQ words t (qAC s p)=true):p<s.size:=by
 apply qAX;intro e;rw[e]at h;unfold qCQ at h;rw[List.any_eq_true]at h;obtain⟨x,hx,h⟩:=h;rw[Bool.and_eq_true]at h;obtain⟨_,h⟩:=h;split at h
 ·rename_i c hc;have h0:c=0:=by
   have:(c.toNat:Int)=0:=by simpa using h
   apply UInt8.toNat_inj.mp;have h1:(0:UInt8).toNat=0:=rfl;omega
  exact hw x hx (h0▸List.mem_of_getElem? hc)
 ·cases h
theorem qED{s:ByteArray}{words:List (List UInt8)}(hw:∀x∈words,(0:UInt8) ∉ x):∀n t p,p<=s.size->p<=(qCo s words n t p).1/\(qCo s words n t p).1<=s.size
 |0,t,p,h=>⟨Nat.le_refl _,h⟩
 | n + 1, t, p, h => by
  rw[qCo];split
  ·exact⟨Nat.le_refl _,h⟩
  ·split
   ·rename_i hg;have:=qED hw n (t++[UInt8.ofNat (qAC s p).toNat]) (p+1) (qLL hw hg);omega
   ·exact⟨Nat.le_refl _,h⟩
theorem qCp{s:ByteArray}{words:List (List UInt8)}:∀n t p i,(qCo s words n t p).2=some i->∃x,words[i]? = some x/\(qCo s words n t p).1+t.length=p+x.length
 |0,t,p,i,h=>by simp[qCo]at h
 | n + 1, t, p, i, h => by
  rw[qCo]at h ⊢;split at h
  ·rename_i j hj;simp only[Option.some.injEq]at h;subst h;obtain⟨hlt,he,_⟩:=List.findIdx?_eq_some_iff_getElem.1 hj;have he':words[j]=t:=by simpa using he
   exact⟨t,by rw[List.getElem?_eq_getElem hlt,he'],rfl⟩
  ·rename_i hj;split at h
   ·rename_i hg;rw[if_pos hg];obtain⟨x,hx,hl⟩:=qCp n (t++[UInt8.ofNat (qAC s p).toNat]) (p+1) i h;refine⟨x,hx,?_⟩;simp only[List.length_append,List.length_cons,List.length_nil]at hl;omega
   ·simp at h
theorem qEE:∀x∈openW,(0:UInt8) ∉ x:=by decide
theorem qHQ:∀x∈opsW,(0:UInt8) ∉ x:=by decide
theorem qRz{s:ByteArray}{p:Nat}(h:p<=s.size):p<=qBq s p/\qBq s p<=s.size:=by
 have:=qC5 (fun b=>b != 34&&b != 0) (by decide) s (s.size-p) p h;exact⟨this.1,this.2.1⟩
theorem qHY{s:ByteArray}{p:Nat}(h:p<=s.size):p<=(qAl s p).1/\(qAl s p).1<=s.size:=by
 unfold qAl;split
 ·rename_i h1;have hp:=qB9 h1 (by decide);have:=qRz (s:=s) (p:=p+1) hp;split
  ·rename_i h2;have:=qB9 h2 (by decide);dsimp only;omega
  ·dsimp only;omega
 ·have:=qOE h;exact⟨this.1,this.2.1⟩
theorem qPl{s:ByteArray}{p:Nat}(h:p<=s.size):p<=(qON s p).1/\(qON s p).1<=s.size:=by
 unfold qON;split
 ·rename_i h1;have:=qB9 h1 (by decide);dsimp only;omega
 ·exact⟨Nat.le_refl _,h⟩
theorem qPu{s:ByteArray}{p:Nat}(h:p<=s.size):p<=(qBC s p).1/\(qBC s p).1<=s.size:=by
 unfold qBC;have h1:=spP_le h;have h2:=qCX s (spP s p) qAI h1.2;generalize qBQ s (spP s p) qAI=r at h2;obtain⟨q,o⟩:=r;cases o with
 |none=>dsimp only at h2 ⊢;omega
 | some n =>
  dsimp only at h2 ⊢;have h3:=spP_le h2.2;split
  ·dsimp only;omega
  ·have h4:=qED (s:=s) qHQ 3 [] (spP s q) h3.2;generalize qCo s opsW 3 [] (spP s q)=r at h4;obtain⟨q2,o2⟩:=r;cases o2 with
   |none=>dsimp only at h4 ⊢;omega
   | some i =>
    dsimp only at h4 ⊢;have h5:=spP_le h4.2;have h6:=qHY h5.2;generalize qAl s (spP s q2)=r at h6;obtain⟨q3,o3⟩:=r;cases o3 with
    |none=>dsimp only at h6 ⊢;omega
    |some x =>
     dsimp only at h6 ⊢;have h7:=spP_le h6.2;have h8:=qPl h7.2;have h9:=spP_le h8.2;omega
theorem qN1{s:ByteArray}{p:Nat}(h:p<=s.size):p<=(qBN s p).1/\(qBN s p).1<=s.size:=by
 unfold qBN;split
 ·rename_i h1;have:=qB9 h1 (by decide);dsimp only;omega
 ·split
  ·rename_i h1;have:=qB9 h1 (by decide);dsimp only;omega
  ·exact⟨Nat.le_refl _,h⟩
theorem qJx{s:ByteArray}{p:Nat}(h:qCE (qAC s p)=true):p<s.size:=qAX (fun e=>by rw[e]at h;revert h;decide)
theorem qK6{s:ByteArray}{p:Nat}(h:p<=s.size):p<=(qA8 s p).1/\(qA8 s p).1<=s.size:=by
 unfold qA8;split
 ·rename_i h1;have:=qJx h1;split
  ·rename_i h2;have:=qJx h2;dsimp only;omega
  ·dsimp only;omega
 ·exact⟨Nat.le_refl _,h⟩
theorem qOX{s:ByteArray}{p:Nat}(h:p<=s.size):p<=(qBX s p).1/\(qBX s p).1<=s.size:=by
 have h1:=spP_le h;have h2:=qN1 h1.2;have h3:=spP_le h2.2;have h4:=qK6 h3.2;unfold qBX;split
 ·dsimp only;omega
 ·split<;>(dsimp only;omega)
theorem qMb{s:ByteArray}{p:Nat}(h:p<=s.size):p<=(qAj s p).1/\(qAj s p).1<=s.size:=by
 unfold qAj;have h2:=qN1 h;have h4:=qK6 h2.2;split
 ·exact qBi s qO4 p h
 ·split
  ·exact qBi s qGK p h
  ·split
   ·rename_i h5;have h6:=qOX (s:=s) (p:=(qA8 s (qBN s p).1).1+1) (qB9 h5 (by decide));dsimp only;omega
   ·split<;>(dsimp only;omega)
theorem qUt{s:ByteArray}{p:Nat}(h:p<=s.size):p<=(qJ7 s p).1/\(qJ7 s p).1<=s.size:=by
 unfold qJ7;have h1:=spP_le h;have h2:=qMb h1.2;generalize qAj s (spP s p)=r at h2;obtain⟨q,o⟩:=r;cases o with
 |none=>dsimp only at h2 ⊢;omega
 |some x =>
  dsimp only at h2 ⊢;have:=spP_le h2.2;omega
def Gd{α:Type}(s:ByteArray)(p:Nat)(r:Nat×Option (α×Nat×Nat)):Prop :=
 p<=r.1/\r.1<=s.size/\∀x,r.2=some x->p+x.2.1<=r.1/\p+x.2.2<=r.1
def Gd1{α:Type}(s:ByteArray)(p:Nat)(r:Nat×Option (α×Nat×Nat)):Prop :=
 Gd s p r/\∀x,r.2=some x->p<r.1
theorem qJ5{s:ByteArray}{p:Nat}{x:ByteArray}(h:(qBQ s p qAI).2=some x):p<(qBQ s p qAI).1:=by
 unfold qBQ at h ⊢;split at h
 ·simp at h
 ·rename_i hl;rw[if_neg hl];have hl':qBY (qAC s p)=true:=by revert hl;cases qBY (qAC s p)<;>simp
  have hn:qBP (qAC s p)=true:=by unfold qBP;rw[hl'];rfl
  have hlt:p<s.size:=qAX (fun e=>by rw[e]at hl';revert hl';decide);have h2:p<qAy s p:=by
   unfold qAy;rw[qEl hn];have:=qC5 qBP (by decide) s 15 (p+1) hlt;omega
  split at h
  ·simp at h
  ·rename_i ht;rw[if_neg ht];split at h
   ·simp at h
   ·rename_i h3;rw[if_neg h3];exact h2
section
variable{lf:Nat->Nat×Option (qAg×Nat×Nat)}{s:ByteArray}
theorem qKo(hl:∀p,p<=s.size->Gd s p (lf p)){k p:Nat}(h:p<=s.size) :
  p<=(qAu lf s k p).1/\(qAu lf s k p).1<=s.size/\∀x,(qAu lf s k p).2=some x->p+x.2.1<=(qAu lf s k p).1/\p+x.2.2<=(qAu lf s k p).1+(if 9<=k then 1 else 0):=by
 unfold qAu;split
 ·have:=qOE h;refine⟨this.1,this.2.1,fun x hx=>?_⟩;simp only[Option.map_eq_some_iff]at hx;obtain⟨a,_,rfl⟩:=hx;dsimp only;omega
 ·split
  ·have:=qPu h;refine⟨this.1,this.2,fun x hx=>?_⟩;simp only[Option.map_eq_some_iff]at hx;obtain⟨a,_,rfl⟩:=hx;dsimp only;omega
  ·split
   ·have:=qUt h;refine⟨this.1,this.2,fun x hx=>?_⟩;simp only[Option.map_eq_some_iff]at hx;obtain⟨a,_,rfl⟩:=hx;dsimp only;omega
   ·split
    ·obtain⟨h1,h2,h3⟩:=hl p h;refine⟨h1,h2,fun x hx=>?_⟩;simp only[Option.map_eq_some_iff]at hx;obtain⟨a,ha,rfl⟩:=hx;have:=h3 a ha;dsimp only;omega
    ·refine⟨Nat.le_refl _,h,fun x hx=>?_⟩;simp only[Option.some.injEq]at hx;subst hx;dsimp only;omega
theorem qCc(hl:∀p,p<=s.size->Gd s p (lf p)){p:Nat}(h:p<=s.size):Gd1 s p (qAe lf s p):=by
 unfold qAe;have h1:=qED (s:=s) qEE 13 [] p h;have h2:=fun i=>qCp (s:=s) (words:=openW) 13 [] p i;generalize qCo s openW 13 [] p=r at h1 h2;obtain⟨q,o⟩:=r;cases o with
 |none=>exact⟨⟨h1.1,h1.2,fun x hx=>by simp at hx⟩,fun x hx=>by simp at hx⟩
 | some k =>
  obtain⟨x,hx,hlen⟩:=h2 k rfl;have hk:k<11:=(List.getElem?_eq_some_iff.1 hx).1;have hlo:1<=x.length/\(9<=k->2<=x.length):=by
   rcases k with _|_|_|_|_|_|_|_|_|_|_|k<;>first|(simp[openW]at hx;subst hx;simp)|omega
  dsimp only at h1 hlen ⊢;simp only[List.length_nil,Nat.add_zero]at hlen;have h3:=qKo hl (k:=k) h1.2;generalize qAu lf s k q=r at h3;obtain⟨q2,o2⟩:=r;cases o2 with
  |none=>dsimp only at h3 ⊢;exact⟨⟨by dsimp only;omega,h3.2.1,fun x hx=>by simp at hx⟩,fun x hx=>by simp at hx⟩
  | some y =>
   dsimp only at h3 ⊢;have h4:=qBi s (qAq k) q2 h3.2.1;have h5:=h3.2.2 y rfl;have h6:p+(y.2.1+1)<=(qAo s (qAq k) q2).1:=by omega
   have h7:p+y.2.2<=(qAo s (qAq k) q2).1:=by split at h5<;>omega
   refine⟨⟨by dsimp only;omega,h4.2,fun z hz=>?_⟩,fun z hz=>by dsimp only;omega⟩;dsimp only at hz;split at hz
   ·simp only[Option.some.injEq]at hz;subst hz;exact⟨h6,h7⟩
   ·simp at hz
theorem qDp(hl:∀p,p<=s.size->Gd s p (lf p)):∀f l c d p,p<=s.size ->
  p<=(qAO lf s f l c d p).1/\(qAO lf s f l c d p).1<=s.size/\∀x,(qAO lf s f l c d p).2=some x->(p+x.2.1<=(qAO lf s f l c d p).1+c/\x.2.2<=max d ((qAO lf s f l c d p).1-p))/\(atB (qAC s p)=true->p<(qAO lf s f l c d p).1)
 |0,l,c,d,p,h=>⟨Nat.le_refl _,h,fun x hx=>by simp[qAO]at hx⟩
 | f + 1, l, c, d, p, h => by
  rw[qAO];by_cases ha:atB (qAC s p)=true
  ·rw[if_pos ha];obtain⟨⟨h1,h2,h3⟩,h4⟩:=qCc hl h;generalize qAe lf s p=r at h1 h2 h3 h4;obtain⟨q,o⟩:=r;cases o with
   |none=>exact⟨h1,h2,fun x hx=>by simp at hx⟩
   |some y =>
    dsimp only at h1 h2 h3 h4 ⊢;have h5:=h3 y rfl;have h6:=h4 y rfl;obtain⟨g1,g2,g3⟩:=qDp hl f (l++[y.1]) (c+y.2.1) (max d y.2.2) q h2;refine⟨by omega,g2,fun x hx=>?_⟩;obtain⟨⟨g4,g5⟩,_⟩:=g3 x hx;refine⟨⟨by omega,by omega⟩,fun _=>by omega⟩
  ·rw[if_neg ha];refine⟨Nat.le_refl _,h,fun x hx=>?_⟩;simp only[Option.some.injEq]at hx;subst hx;exact⟨⟨Nat.le_refl _,Nat.le_max_left _ _⟩,fun h=>absurd h ha⟩
theorem qHM{p:Nat}(h:p<=s.size):p<=(qB4 s p).1/\(qB4 s p).1<=s.size/\∀x,(qB4 s p).2=some x->atB (qAC s p)=false->p<(qB4 s p).1:=by
 unfold qB4;split
 ·rename_i h1;have:=qB9 h1 (by decide);dsimp only;exact⟨by omega,by omega,fun _ _ _=>by omega⟩
 ·split
  ·rename_i h2;exact⟨Nat.le_refl _,h,fun _ _ h3=>by rw[h2]at h3;cases h3⟩
  ·have:=qCX s p qAI h;exact⟨this.1,this.2,fun x hx _=>qJ5 hx⟩
theorem qOp{p:Nat}(ha:atB (qAC s p)=true):(qB4 s p).1=p:=by
 unfold qB4;split
 ·rename_i h1;rw[h1]at ha;exact absurd ha (by decide)
 ·rfl
theorem qCC(hl:∀p,p<=s.size->Gd s p (lf p)){p:Nat}(h:p<=s.size):Gd1 s p (qAQ lf s p):=by
 unfold qAQ;obtain⟨h1,h2,h3⟩:=qHM h;have h4:=qOp (s:=s) (p:=p);generalize qB4 s p=r at h1 h2 h3 h4;obtain⟨q,o⟩:=r;cases o with
 |none=>exact⟨⟨h1,h2,fun x hx=>by simp at hx⟩,fun x hx=>by simp at hx⟩
 | some n =>
  dsimp only at h1 h2 h3 h4 ⊢;obtain⟨g1,g2,g3⟩:=qDp hl (s.size+1) [] 0 0 q h2;generalize qAO lf s (s.size+1) [] 0 0 q=r at g1 g2 g3;obtain⟨q2,o2⟩:=r;cases o2 with
  |none=>exact⟨⟨by dsimp only at g1 ⊢;omega,g2,fun x hx=>by simp at hx⟩,fun x hx=>by simp at hx⟩
  | some y =>
   dsimp only at g1 g2 g3 ⊢;obtain⟨⟨g4,g5⟩,g6⟩:=g3 y rfl;have hlt:p<q2:=by
    cases ha:atB (qAC s p)
    ·have:=h3 n rfl ha;omega
    ·have e:=h4 ha;subst e;exact g6 ha
   refine⟨⟨by dsimp only;omega,g2,fun x hx=>?_⟩,fun x hx=>hlt⟩;simp only[Option.some.injEq]at hx;subst hx;dsimp only;omega
theorem qEf{p:Nat}(h:p<=s.size):p<=(qBr s p).1/\(qBr s p).1<=s.size:=by
 unfold qBr;have h1:=spP_le h;split
 ·rename_i h2;have h3:spP s p<s.size:=qAX (fun e=>by rw[e]at h2;revert h2;decide);have:=spP_le (s:=s) (p:=spP s p+1) h3;dsimp only;omega
 ·split
  ·exact h1
  ·split<;>exact h1
theorem qB8(hl:∀p,p<=s.size->Gd s p (lf p)):∀f l c d b p,p<=s.size ->
  p<=(qAN lf s f l c d b p).1/\(qAN lf s f l c d b p).1<=s.size/\∀x,(qAN lf s f l c d b p).2=some x->(p+x.2.1<=(qAN lf s f l c d b p).1+c/\x.2.2<=max d ((qAN lf s f l c d b p).1-p))/\p<(qAN lf s f l c d b p).1
 |0,l,c,d,b,p,h=>⟨Nat.le_refl _,h,fun x hx=>by simp[qAN]at hx⟩
 | f + 1, l, c, d, b, p, h => by
  rw[qAN];obtain⟨⟨h1,h2,h3⟩,h4⟩:=qCC hl h;generalize qAQ lf s p=r at h1 h2 h3 h4;obtain⟨q,o⟩:=r;cases o with
  |none=>exact⟨h1,h2,fun x hx=>by simp at hx⟩
  | some y =>
   dsimp only at h1 h2 h3 h4 ⊢;have h5:=h3 y rfl;have h6:=h4 y rfl;have h7:=qEf (s:=s) h2;generalize qBr s q=r at h7;obtain⟨q2,o2⟩:=r;cases o2 with
   |none =>
    dsimp only at h7 ⊢;refine⟨by omega,h7.2,fun x hx=>?_⟩;simp only[Option.some.injEq]at hx;subst hx;exact⟨⟨by dsimp only;omega,by dsimp only;omega⟩,by omega⟩
   |some b' =>
    dsimp only at h7 ⊢;obtain⟨g1,g2,g3⟩:=qB8 hl f (l++[(b,y.1.1,y.1.2)]) (c+y.2.1) (max d y.2.2) b' q2 h7.2;refine⟨by omega,g2,fun x hx=>?_⟩;obtain⟨⟨g4,g5⟩,g6⟩:=g3 x hx;exact⟨⟨by omega,by omega⟩,by omega⟩
theorem qIB(hl:∀p,p<=s.size->Gd s p (lf p)):∀f l c d p,p<=s.size ->
  p<=(qBI lf s f l c d p).1/\(qBI lf s f l c d p).1<=s.size/\∀x,(qBI lf s f l c d p).2=some x->p+x.2.1<=(qBI lf s f l c d p).1+c/\x.2.2<=max d ((qBI lf s f l c d p).1-p)
 |0,l,c,d,p,h=>⟨Nat.le_refl _,h,fun x hx=>by simp[qBI]at hx⟩
 | f + 1, l, c, d, p, h => by
  rw[qBI];have h0:=spP_le h;obtain⟨h1,h2,h3⟩:=qB8 hl (s.size+1) [] 0 0 0 (spP s p) h0.2;generalize qAN lf s (s.size+1) [] 0 0 0 (spP s p)=r at h1 h2 h3;obtain⟨q,o⟩:=r;cases o with
  |none=>exact⟨by dsimp only at h1 ⊢;omega,h2,fun x hx=>by simp at hx⟩
  | some y =>
   dsimp only at h1 h2 h3 ⊢;obtain⟨⟨g4,g5⟩,g6⟩:=h3 y rfl;by_cases hc:qAC s q=44
   ·rw[if_pos hc];have hq:=qB9 hc (by decide);obtain⟨e1,e2,e3⟩:=qIB hl f (l++[y.1]) (c+y.2.1) (max d y.2.2) (q+1) hq;refine⟨by omega,e2,fun x hx=>?_⟩;have:=e3 x hx;omega
   ·rw[if_neg hc];refine⟨by dsimp only;omega,h2,fun x hx=>?_⟩;simp only[Option.some.injEq]at hx;subst hx;dsimp only;omega
end
theorem qB0(s:ByteArray):∀n p,p<=s.size->Gd s p (qAP s n p)
 |0,p,h=>⟨Nat.le_refl _,h,fun x hx=>by simp[qAP]at hx⟩
 |n+1,p,h=>by
  obtain⟨h1,h2,h3⟩:=qIB (qB0 s n) (s.size+1) [] 0 0 p h;refine⟨h1,h2,fun x hx=>?_⟩;have:=h3 x hx
  change p+x.2.1<=(qBI (qAP s n) s (s.size+1) [] 0 0 p).1/\p+x.2.2<=(qBI (qAP s n) s (s.size+1) [] 0 0 p).1
  omega
