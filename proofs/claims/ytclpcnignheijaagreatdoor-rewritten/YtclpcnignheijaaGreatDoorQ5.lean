/-
  Parts of the proof: P0, P1.
-/
import Derived.Test.YtclpcnignheijaaGreatDoorQ1
namespace Go.Proofs.YtclpcnignheijaaGreatDoor
open Go.RowKit
structure AttrQ where
 name:ByteArray
 op:ByteArray
 val:ByteArray
 any:Bool
structure NthQ where
 word:ByteArray
 hasN:Bool
 a:Int
 b:Int
inductive Sim where
 | mk (kind:Nat) (word:ByteArray) (attr:AttrQ) (nth:NthQ) (list:List (List (Int × ByteArray × List Sim)))
abbrev Stp:=Int × ByteArray × List Sim
abbrev Cpx:=List Stp
abbrev SLst:=List Cpx
def noB:ByteArray:=⟨#[]⟩
def noAttr:AttrQ:=⟨noB,noB,noB,false⟩
def noNth:NthQ:=⟨noB,false,0,0⟩
def wordP (s:ByteArray) (p:Nat):Nat × Option ByteArray :=
 if runP wordB s 16 p=p∨wordB (peekI s (runP wordB s 16 p))=true then (runP wordB s 16 p,none) else (runP wordB s 16 p,some (subB s p (runP wordB s 16 p)))
def goesOn (words:List (List UInt8)) (t:List UInt8) (b:Int):Bool:=words.any fun x=>t.isPrefixOf x && (match x[t.length]? with | some c=>(c.toNat:Int) == b | none=>false)
def oneP (s:ByteArray) (words:List (List UInt8)):Nat→List UInt8→Nat→Nat × Option Nat
 | 0,_,p=>(p,none)
 | n+1,t,p=>match words.findIdx? (· == t) with
  | some i=>(p,some i)
  | none=>if goesOn words t (peekI s p)=true then oneP s words n (t++[UInt8.ofNat (peekI s p).toNat]) (p+1) else (p,none)
def opsW:List (List UInt8):=[[61],[126,61],[124,61],[94,61],[36,61],[42,61]]
def openW:List (List UInt8):=[[35],[46],[91],[58,114,111,111,116],[58,101,109,112,116,121],[58,102,105,114,115,116,45,99,104,105,108,100],[58,108,97,115,116,45,99,104,105,108,100],[58,111,110,108,121,45,99,104,105,108,100],[58,110,116,104,45,99,104,105,108,100,40],[58,110,111,116,40],[58,105,115,40]]
def bytesOf (l:List UInt8):ByteArray:=⟨l.toArray⟩
def closeW (k:Nat):List UInt8:=if k=2 then [93] else if 8≤k then [41] else []
def untilP (s:ByteArray) (p:Nat):Nat:=runTo (fun b=>b != 34 && b != 0) s p
def againstP (s:ByteArray) (p:Nat):Nat × Option ByteArray :=
 if peekI s p=34 then
  if peekI s (untilP s (p+1))=34 then (untilP s (p+1)+1,some (subB s (p+1) (untilP s (p+1)))) else (untilP s (p+1),none)
 else wordP s p
def spP (s:ByteArray) (p:Nat):Nat:=runTo spaceB s p
def anyP (s:ByteArray) (p:Nat):Nat × Bool:=if peekI s p=105 then (p+1,true) else (p,false)
def attrQP (s : ByteArray) (p : Nat) : Nat × Option AttrQ :=
 match newP s (spP s p) noneTaken with
 | (q,none)=>(q,none)
 | (q,some n) =>
  if peekI s (spP s q)=93 then (spP s q,some ⟨n,noB,noB,false⟩)
  else match oneP s opsW 3 [] (spP s q) with
   | (q2,none)=>(q2,none)
   | (q2,some i)=>match againstP s (spP s q2) with
    | (q3,none)=>(q3,none)
    | (q3,some x)=>(spP s (anyP s (spP s q3)).1,some ⟨n,bytesOf (opsW.getD i []),x,(anyP s (spP s q3)).2⟩)
def signP (s:ByteArray) (p:Nat):Nat × Int × Bool:=if peekI s p=45 then (p+1,-1,true) else if peekI s p=43 then (p+1,1,true) else (p,1,false)
def countP (s:ByteArray) (p:Nat):Nat × Int × Bool :=
 if digitB (peekI s p)=true then if digitB (peekI s (p+1))=true then (p+2,10 * (peekI s p - 48)+(peekI s (p+1) - 48),true) else (p+1,peekI s p - 48,true) else (p,0,false)
def behindP (s:ByteArray) (p:Nat):Nat × Option Int :=
 if (signP s (spP s p)).2.2=false then ((signP s (spP s p)).1,some 0)
 else if (countP s (spP s (signP s (spP s p)).1)).2.2=false then ((countP s (spP s (signP s (spP s p)).1)).1,none)
 else ((countP s (spP s (signP s (spP s p)).1)).1,some ((signP s (spP s p)).2.1 * (countP s (spP s (signP s (spP s p)).1)).2.1))
def oddW:List UInt8:=[111,100,100]
def evenW:List UInt8:=[101,118,101,110]
def numbersP (s:ByteArray) (p:Nat):Nat × Option NthQ :=
 if peekI s p=111 then ((expP s oddW p).1,if (expP s oddW p).2=true then some ⟨bytesOf oddW,true,2,1⟩ else none)
 else if peekI s p=101 then ((expP s evenW p).1,if (expP s evenW p).2=true then some ⟨bytesOf evenW,true,2,0⟩ else none)
 else if peekI s (countP s (signP s p).1).1=110 then
  ((behindP s ((countP s (signP s p).1).1+1)).1,(behindP s ((countP s (signP s p).1).1+1)).2.map fun b=>⟨noB,true,(signP s p).2.1 * (if (countP s (signP s p).1).2.2=true then (countP s (signP s p).1).2.1 else 1),b⟩)
 else if (countP s (signP s p).1).2.2=false then ((countP s (signP s p).1).1,none)
 else ((countP s (signP s p).1).1,some ⟨noB,false,0,(signP s p).2.1 * (countP s (signP s p).1).2.1⟩)
def nthP (s:ByteArray) (p:Nat):Nat × Option NthQ :=
 match numbersP s (spP s p) with
 | (q,none)=>(q,none)
 | (q,some x)=>(spP s q,some x)
def atB (b:Int):Bool:=b == 35 || b == 46 || b == 91 || b == 58
section
variable (lf:Nat→Nat × Option (SLst × Nat × Nat)) (s:ByteArray)
def askedP (k p:Nat):Nat × Option (Sim × Nat × Nat) :=
 if k≤1 then ((wordP s p).1,(wordP s p).2.map fun x=>(.mk k x noAttr noNth [],0,0))
 else if k=2 then ((attrQP s p).1,(attrQP s p).2.map fun x=>(.mk k noB x noNth [],0,0))
 else if k=8 then ((nthP s p).1,(nthP s p).2.map fun x=>(.mk k noB noAttr x [],0,0))
 else if 9≤k then ((lf p).1,(lf p).2.map fun x=>(.mk k noB noAttr noNth x.1,x.2.1,x.2.2+1))
 else (p,some (.mk k noB noAttr noNth [],0,0))
def simpleP (p:Nat):Nat × Option (Sim × Nat × Nat) :=
 match oneP s openW 13 [] p with
 | (q,none)=>(q,none)
 | (q,some k)=>match askedP lf s k q with
  | (q2,none)=>(q2,none)
  | (q2,some x)=>((expP s (closeW k) q2).1,if (expP s (closeW k) q2).2=true then some (x.1,x.2.1+1,x.2.2) else none)
def simplesP:Nat→List Sim→Nat→Nat→Nat→Nat × Option (List Sim × Nat × Nat)
 | 0,_,_,_,p=>(p,none)
 | f+1,l,c,d,p =>
  if atB (peekI s p)=true then match simpleP lf s p with
   | (q,none)=>(q,none)
   | (q,some x)=>simplesP f (l++[x.1]) (c+x.2.1) (max d x.2.2) q
  else (p,some (l,c,d))
def headP (p:Nat):Nat × Option ByteArray :=
 if peekI s p=42 then (p+1,some (bytesOf [42])) else if atB (peekI s p)=true then (p,some noB) else newP s p noneTaken
def compoundP (p:Nat):Nat × Option ((ByteArray × List Sim) × Nat × Nat) :=
 match headP s p with
 | (q,none)=>(q,none)
 | (q,some n)=>match simplesP lf s (s.size+1) [] 0 0 q with
  | (q2,none)=>(q2,none)
  | (q2,some x)=>(q2,some ((n,x.1),x.2.1,x.2.2))
def combB (b:Int):Bool:=b == 62 || b == 43 || b == 126
def stopB (b:Int):Bool:=b == 44 || b == 41 || b == 0
def combP (p:Nat):Nat × Option Int :=
 if combB (peekI s (spP s p))=true then (spP s (spP s p+1),some (peekI s (spP s p)))
 else if stopB (peekI s (spP s p))=true then (spP s p,none)
 else if p < spP s p then (spP s p,some 32) else (spP s p,none)
def complexP:Nat→Cpx→Nat→Nat→Int→Nat→Nat × Option (Cpx × Nat × Nat)
 | 0,_,_,_,_,p=>(p,none)
 | f+1,l,c,d,b,p=>match compoundP lf s p with
  | (q,none)=>(q,none)
  | (q,some x)=>match combP s q with
   | (q2,none)=>(q2,some (l++[(b,x.1.1,x.1.2)],c+x.2.1,max d x.2.2))
   | (q2,some b')=>complexP f (l++[(b,x.1.1,x.1.2)]) (c+x.2.1) (max d x.2.2) b' q2
def partsP:Nat→SLst→Nat→Nat→Nat→Nat × Option (SLst × Nat × Nat)
 | 0,_,_,_,p=>(p,none)
 | f+1,l,c,d,p=>match complexP lf s (s.size+1) [] 0 0 0 (spP s p) with
  | (q,none)=>(q,none)
  | (q,some x)=>if peekI s q=44 then partsP f (l++[x.1]) (c+x.2.1) (max d x.2.2) (q+1) else (q,some (l++[x.1],c+x.2.1,max d x.2.2))
end
def listP (s:ByteArray):Nat→Nat→Nat × Option (SLst × Nat × Nat)
 | 0,p=>(p,none)
 | n+1,p=>partsP (listP s n) s (s.size+1) [] 0 0 p
theorem spP_le {s:ByteArray} {p:Nat} (h:p≤s.size):p≤spP s p∧spP s p≤s.size:=by
 have:=runP_le spaceB (by decide) s (s.size - p) p h
 exact ⟨this.1,this.2.1⟩
theorem peek_in {s:ByteArray} {p:Nat} {c:Int} (h:peekI s p=c) (hc:c≠0):p < s.size:=peekI_lt (by rw [h]; exact hc)
theorem wordP_le {s:ByteArray} {p:Nat} (h:p≤s.size):p≤(wordP s p).1∧(wordP s p).1≤s.size∧(∀ x,(wordP s p).2=some x→p < (wordP s p).1):=by
 have:=runP_le wordB (by decide) s 16 p h
 unfold wordP
 split
 ·exact ⟨this.1,this.2.1,fun x hx=>by simp at hx⟩
 ·rename_i hn
  refine ⟨this.1,this.2.1,fun x _=>?_⟩
  have:¬ runP wordB s 16 p=p:=fun e=>hn (.inl e)
  show p < runP wordB s 16 p
  omega
theorem goesOn_lt {words:List (List UInt8)} {t:List UInt8} {s:ByteArray} {p:Nat} (hw:∀ x∈words,(0:UInt8) ∉ x) (h:goesOn words t (peekI s p)=true):p < s.size:=by
 apply peekI_lt
 intro e
 rw [e] at h
 unfold goesOn at h
 rw [List.any_eq_true] at h
 obtain ⟨x,hx,h⟩:=h
 rw [Bool.and_eq_true] at h
 obtain ⟨_,h⟩:=h
 split at h
 ·rename_i c hc
  have h0:c=0:=by
   have:(c.toNat:Int)=0:=by simpa using h
   apply UInt8.toNat_inj.mp
   have h1:(0:UInt8).toNat=0:=rfl
   omega
  exact hw x hx (h0 ▸ List.mem_of_getElem? hc)
 ·cases h
theorem oneP_le {s : ByteArray} {words : List (List UInt8)} (hw : ∀ x ∈ words, (0 : UInt8) ∉ x) : ∀ n t p, p ≤ s.size → p ≤ (oneP s words n t p).1 ∧ (oneP s words n t p).1 ≤ s.size
 | 0,t,p,h=>⟨Nat.le_refl _,h⟩
 | n+1,t,p,h=>by
  rw [oneP]
  split
  ·exact ⟨Nat.le_refl _,h⟩
  ·split
   ·rename_i hg
    have:=oneP_le hw n (t++[UInt8.ofNat (peekI s p).toNat]) (p+1) (goesOn_lt hw hg)
    omega
   ·exact ⟨Nat.le_refl _,h⟩
theorem oneP_len {s : ByteArray} {words : List (List UInt8)} : ∀ n t p i, (oneP s words n t p).2 = some i → ∃ x, words[i]? = some x ∧ (oneP s words n t p).1 + t.length = p + x.length
 | 0,t,p,i,h=>by simp [oneP] at h
 | n+1,t,p,i,h=>by
  rw [oneP] at h ⊢
  split at h
  ·rename_i j hj
   simp only [Option.some.injEq] at h
   subst h
   obtain ⟨hlt,he,_⟩:=List.findIdx?_eq_some_iff_getElem.1 hj
   have he':words[j]=t:=by simpa using he
   exact ⟨t,by rw [List.getElem?_eq_getElem hlt,he'],rfl⟩
  ·rename_i hj
   split at h
   ·rename_i hg
    rw [if_pos hg]
    obtain ⟨x,hx,hl⟩:=oneP_len n (t++[UInt8.ofNat (peekI s p).toNat]) (p+1) i h
    refine ⟨x,hx,?_⟩
    simp only [List.length_append,List.length_cons,List.length_nil] at hl
    omega
   ·simp at h
theorem openW_no0:∀ x∈openW,(0:UInt8) ∉ x:=by decide
theorem opsW_no0:∀ x∈opsW,(0:UInt8) ∉ x:=by decide
theorem untilP_le {s:ByteArray} {p:Nat} (h:p≤s.size):p≤untilP s p∧untilP s p≤s.size:=by
 have:=runP_le (fun b=>b != 34 && b != 0) (by decide) s (s.size - p) p h
 exact ⟨this.1,this.2.1⟩
theorem againstP_le {s:ByteArray} {p:Nat} (h:p≤s.size):p≤(againstP s p).1∧(againstP s p).1≤s.size:=by
 unfold againstP
 split
 ·rename_i h1
  have hp:=peek_in h1 (by decide)
  have:=untilP_le (s:=s) (p:=p+1) hp
  split
  ·rename_i h2
   have:=peek_in h2 (by decide)
   dsimp only; omega
  ·dsimp only; omega
 ·have:=wordP_le h; exact ⟨this.1,this.2.1⟩
theorem anyP_le {s:ByteArray} {p:Nat} (h:p≤s.size):p≤(anyP s p).1∧(anyP s p).1≤s.size:=by
 unfold anyP
 split
 ·rename_i h1; have:=peek_in h1 (by decide); dsimp only; omega
 ·exact ⟨Nat.le_refl _,h⟩
theorem attrQP_le {s : ByteArray} {p : Nat} (h : p ≤ s.size) : p ≤ (attrQP s p).1 ∧ (attrQP s p).1 ≤ s.size := by
 unfold attrQP
 have h1:=spP_le h
 have h2:=newP_le s (spP s p) noneTaken h1.2
 generalize newP s (spP s p) noneTaken=r at h2
 obtain ⟨q,o⟩:=r
 cases o with
 | none=>dsimp only at h2 ⊢; omega
 | some n =>
  dsimp only at h2 ⊢
  have h3:=spP_le h2.2
  split
  ·dsimp only; omega
  ·have h4:=oneP_le (s:=s) opsW_no0 3 [] (spP s q) h3.2
   generalize oneP s opsW 3 [] (spP s q)=r at h4
   obtain ⟨q2,o2⟩:=r
   cases o2 with
   | none=>dsimp only at h4 ⊢; omega
   | some i =>
    dsimp only at h4 ⊢
    have h5:=spP_le h4.2
    have h6:=againstP_le h5.2
    generalize againstP s (spP s q2)=r at h6
    obtain ⟨q3,o3⟩:=r
    cases o3 with
    | none=>dsimp only at h6 ⊢; omega
    | some x =>
     dsimp only at h6 ⊢
     have h7:=spP_le h6.2
     have h8:=anyP_le h7.2
     have h9:=spP_le h8.2
     omega
theorem signP_le {s:ByteArray} {p:Nat} (h:p≤s.size):p≤(signP s p).1∧(signP s p).1≤s.size:=by
 unfold signP
 split
 ·rename_i h1; have:=peek_in h1 (by decide); dsimp only; omega
 ·split
  ·rename_i h1; have:=peek_in h1 (by decide); dsimp only; omega
  ·exact ⟨Nat.le_refl _,h⟩
theorem digit_in {s:ByteArray} {p:Nat} (h:digitB (peekI s p)=true):p < s.size:=peekI_lt (fun e=>by rw [e] at h; revert h; decide)
theorem countP_le {s:ByteArray} {p:Nat} (h:p≤s.size):p≤(countP s p).1∧(countP s p).1≤s.size:=by
 unfold countP
 split
 ·rename_i h1
  have:=digit_in h1
  split
  ·rename_i h2
   have:=digit_in h2
   dsimp only; omega
  ·dsimp only; omega
 ·exact ⟨Nat.le_refl _,h⟩
theorem behindP_le {s:ByteArray} {p:Nat} (h:p≤s.size):p≤(behindP s p).1∧(behindP s p).1≤s.size:=by
 have h1:=spP_le h
 have h2:=signP_le h1.2
 have h3:=spP_le h2.2
 have h4:=countP_le h3.2
 unfold behindP
 split
 ·dsimp only; omega
 ·split <;> (dsimp only; omega)
theorem numbersP_le {s : ByteArray} {p : Nat} (h : p ≤ s.size) : p ≤ (numbersP s p).1 ∧ (numbersP s p).1 ≤ s.size := by
 unfold numbersP
 have h2:=signP_le h
 have h4:=countP_le h2.2
 split
 ·exact expP_le s oddW p h
 ·split
  ·exact expP_le s evenW p h
  ·split
   ·rename_i h5
    have h6:=behindP_le (s:=s) (p:=(countP s (signP s p).1).1+1) (peek_in h5 (by decide))
    dsimp only; omega
   ·split <;> (dsimp only; omega)
theorem nthP_le {s:ByteArray} {p:Nat} (h:p≤s.size):p≤(nthP s p).1∧(nthP s p).1≤s.size:=by
 unfold nthP
 have h1:=spP_le h
 have h2:=numbersP_le h1.2
 generalize numbersP s (spP s p)=r at h2
 obtain ⟨q,o⟩:=r
 cases o with
 | none=>dsimp only at h2 ⊢; omega
 | some x =>
  dsimp only at h2 ⊢
  have:=spP_le h2.2
  omega
def Gd {α:Type} (s:ByteArray) (p:Nat) (r:Nat × Option (α × Nat × Nat)):Prop :=
 p≤r.1∧r.1≤s.size∧∀ x,r.2=some x→p+x.2.1≤r.1∧p+x.2.2≤r.1
def Gd1 {α:Type} (s:ByteArray) (p:Nat) (r:Nat × Option (α × Nat × Nat)):Prop :=
 Gd s p r∧∀ x,r.2=some x→p < r.1
theorem newP_lt {s : ByteArray} {p : Nat} {x : ByteArray} (h : (newP s p noneTaken).2 = some x) : p < (newP s p noneTaken).1 := by
 unfold newP at h ⊢
 split at h
 ·simp at h
 ·rename_i hl
  rw [if_neg hl]
  have hl':letterB (peekI s p)=true:=by revert hl; cases letterB (peekI s p) <;> simp
  have hn:nameB (peekI s p)=true:=by unfold nameB; rw [hl']; rfl
  have hlt:p < s.size:=peekI_lt (fun e=>by rw [e] at hl'; revert hl'; decide)
  have h2:p < nameEnd s p:=by
   unfold nameEnd
   rw [runP_yes hn]
   have:=runP_le nameB (by decide) s 15 (p+1) hlt
   omega
  split at h
  ·simp at h
  ·rename_i ht
   rw [if_neg ht]
   split at h
   ·simp at h
   ·rename_i h3
    rw [if_neg h3]; exact h2
section
variable {lf:Nat→Nat × Option (SLst × Nat × Nat)} {s:ByteArray}
theorem askedP_gd (hl : ∀ p, p ≤ s.size → Gd s p (lf p)) {k p : Nat} (h : p ≤ s.size) :
  p≤(askedP lf s k p).1∧(askedP lf s k p).1≤s.size∧∀ x,(askedP lf s k p).2=some x→p+x.2.1≤(askedP lf s k p).1∧p+x.2.2≤(askedP lf s k p).1+(if 9≤k then 1 else 0):=by
 unfold askedP
 split
 ·have:=wordP_le h
  refine ⟨this.1,this.2.1,fun x hx=>?_⟩
  simp only [Option.map_eq_some_iff] at hx
  obtain ⟨a,_,rfl⟩:=hx
  dsimp only; omega
 ·split
  ·have:=attrQP_le h
   refine ⟨this.1,this.2,fun x hx=>?_⟩
   simp only [Option.map_eq_some_iff] at hx
   obtain ⟨a,_,rfl⟩:=hx
   dsimp only; omega
  ·split
   ·have:=nthP_le h
    refine ⟨this.1,this.2,fun x hx=>?_⟩
    simp only [Option.map_eq_some_iff] at hx
    obtain ⟨a,_,rfl⟩:=hx
    dsimp only; omega
   ·split
    ·obtain ⟨h1,h2,h3⟩:=hl p h
     refine ⟨h1,h2,fun x hx=>?_⟩
     simp only [Option.map_eq_some_iff] at hx
     obtain ⟨a,ha,rfl⟩:=hx
     have:=h3 a ha
     dsimp only; omega
    ·refine ⟨Nat.le_refl _,h,fun x hx=>?_⟩
     simp only [Option.some.injEq] at hx
     subst hx
     dsimp only; omega
theorem simpleP_gd (hl : ∀ p, p ≤ s.size → Gd s p (lf p)) {p : Nat} (h : p ≤ s.size) : Gd1 s p (simpleP lf s p) := by
 unfold simpleP
 have h1:=oneP_le (s:=s) openW_no0 13 [] p h
 have h2:=fun i=>oneP_len (s:=s) (words:=openW) 13 [] p i
 generalize oneP s openW 13 [] p=r at h1 h2
 obtain ⟨q,o⟩:=r
 cases o with
 | none=>exact ⟨⟨h1.1,h1.2,fun x hx=>by simp at hx⟩,fun x hx=>by simp at hx⟩
 | some k =>
  obtain ⟨x,hx,hlen⟩:=h2 k rfl
  have hk:k < 11:=(List.getElem?_eq_some_iff.1 hx).1
  have hlo:1≤x.length∧(9≤k→2≤x.length):=by
   rcases k with _ | _ | _ | _ | _ | _ | _ | _ | _ | _ | _ | k <;> first | (simp [openW] at hx; subst hx; simp) | omega
  dsimp only at h1 hlen ⊢
  simp only [List.length_nil,Nat.add_zero] at hlen
  have h3:=askedP_gd hl (k:=k) h1.2
  generalize askedP lf s k q=r at h3
  obtain ⟨q2,o2⟩:=r
  cases o2 with
  | none=>dsimp only at h3 ⊢; exact ⟨⟨by dsimp only; omega,h3.2.1,fun x hx=>by simp at hx⟩,fun x hx=>by simp at hx⟩
  | some y =>
   dsimp only at h3 ⊢
   have h4:=expP_le s (closeW k) q2 h3.2.1
   have h5:=h3.2.2 y rfl
   have h6:p+(y.2.1+1)≤(expP s (closeW k) q2).1:=by omega
   have h7:p+y.2.2≤(expP s (closeW k) q2).1:=by split at h5 <;> omega
   refine ⟨⟨by dsimp only; omega,h4.2,fun z hz=>?_⟩,fun z hz=>by dsimp only; omega⟩
   dsimp only at hz
   split at hz
   ·simp only [Option.some.injEq] at hz
    subst hz
    exact ⟨h6,h7⟩
   ·simp at hz
theorem simplesP_gd (hl : ∀ p, p ≤ s.size → Gd s p (lf p)) : ∀ f l c d p, p ≤ s.size →
  p≤(simplesP lf s f l c d p).1∧(simplesP lf s f l c d p).1≤s.size∧∀ x,(simplesP lf s f l c d p).2=some x→(p+x.2.1≤(simplesP lf s f l c d p).1+c∧x.2.2≤max d ((simplesP lf s f l c d p).1 - p))∧(atB (peekI s p)=true→p < (simplesP lf s f l c d p).1)
 | 0,l,c,d,p,h=>⟨Nat.le_refl _,h,fun x hx=>by simp [simplesP] at hx⟩
 | f+1,l,c,d,p,h=>by
  rw [simplesP]
  by_cases ha:atB (peekI s p)=true
  ·rw [if_pos ha]
   obtain ⟨⟨h1,h2,h3⟩,h4⟩:=simpleP_gd hl h
   generalize simpleP lf s p=r at h1 h2 h3 h4
   obtain ⟨q,o⟩:=r
   cases o with
   | none=>exact ⟨h1,h2,fun x hx=>by simp at hx⟩
   | some y =>
    dsimp only at h1 h2 h3 h4 ⊢
    have h5:=h3 y rfl
    have h6:=h4 y rfl
    obtain ⟨g1,g2,g3⟩:=simplesP_gd hl f (l++[y.1]) (c+y.2.1) (max d y.2.2) q h2
    refine ⟨by omega,g2,fun x hx=>?_⟩
    obtain ⟨⟨g4,g5⟩,_⟩:=g3 x hx
    refine ⟨⟨by omega,by omega⟩,fun _=>by omega⟩
  ·rw [if_neg ha]
   refine ⟨Nat.le_refl _,h,fun x hx=>?_⟩
   simp only [Option.some.injEq] at hx
   subst hx
   exact ⟨⟨Nat.le_refl _,Nat.le_max_left _ _⟩,fun h=>absurd h ha⟩
theorem headP_le {p:Nat} (h:p≤s.size):p≤(headP s p).1∧(headP s p).1≤s.size∧∀ x,(headP s p).2=some x→atB (peekI s p)=false→p < (headP s p).1:=by
 unfold headP
 split
 ·rename_i h1
  have:=peek_in h1 (by decide)
  dsimp only
  exact ⟨by omega,by omega,fun _ _ _=>by omega⟩
 ·split
  ·rename_i h2
   exact ⟨Nat.le_refl _,h,fun _ _ h3=>by rw [h2] at h3; cases h3⟩
  ·have:=newP_le s p noneTaken h
   exact ⟨this.1,this.2,fun x hx _=>newP_lt hx⟩
theorem headP_stay {p:Nat} (ha:atB (peekI s p)=true):(headP s p).1=p:=by
 unfold headP
 split
 ·rename_i h1; rw [h1] at ha; exact absurd ha (by decide)
 ·rfl
theorem compoundP_gd (hl : ∀ p, p ≤ s.size → Gd s p (lf p)) {p : Nat} (h : p ≤ s.size) : Gd1 s p (compoundP lf s p) := by
 unfold compoundP
 obtain ⟨h1,h2,h3⟩:=headP_le h
 have h4:=headP_stay (s:=s) (p:=p)
 generalize headP s p=r at h1 h2 h3 h4
 obtain ⟨q,o⟩:=r
 cases o with
 | none=>exact ⟨⟨h1,h2,fun x hx=>by simp at hx⟩,fun x hx=>by simp at hx⟩
 | some n =>
  dsimp only at h1 h2 h3 h4 ⊢
  obtain ⟨g1,g2,g3⟩:=simplesP_gd hl (s.size+1) [] 0 0 q h2
  generalize simplesP lf s (s.size+1) [] 0 0 q=r at g1 g2 g3
  obtain ⟨q2,o2⟩:=r
  cases o2 with
  | none=>exact ⟨⟨by dsimp only at g1 ⊢; omega,g2,fun x hx=>by simp at hx⟩,fun x hx=>by simp at hx⟩
  | some y =>
   dsimp only at g1 g2 g3 ⊢
   obtain ⟨⟨g4,g5⟩,g6⟩:=g3 y rfl
   have hlt:p < q2:=by
    cases ha:atB (peekI s p)
    ·have:=h3 n rfl ha; omega
    ·have e:=h4 ha
     subst e
     exact g6 ha
   refine ⟨⟨by dsimp only; omega,g2,fun x hx=>?_⟩,fun x hx=>hlt⟩
   simp only [Option.some.injEq] at hx
   subst hx
   dsimp only; omega
theorem combP_le {p:Nat} (h:p≤s.size):p≤(combP s p).1∧(combP s p).1≤s.size:=by
 unfold combP
 have h1:=spP_le h
 split
 ·rename_i h2
  have h3:spP s p < s.size:=peekI_lt (fun e=>by rw [e] at h2; revert h2; decide)
  have:=spP_le (s:=s) (p:=spP s p+1) h3
  dsimp only; omega
 ·split
  ·exact h1
  ·split <;> exact h1
theorem complexP_gd (hl : ∀ p, p ≤ s.size → Gd s p (lf p)) : ∀ f l c d b p, p ≤ s.size →
  p≤(complexP lf s f l c d b p).1∧(complexP lf s f l c d b p).1≤s.size∧∀ x,(complexP lf s f l c d b p).2=some x→(p+x.2.1≤(complexP lf s f l c d b p).1+c∧x.2.2≤max d ((complexP lf s f l c d b p).1 - p))∧p < (complexP lf s f l c d b p).1
 | 0,l,c,d,b,p,h=>⟨Nat.le_refl _,h,fun x hx=>by simp [complexP] at hx⟩
 | f+1,l,c,d,b,p,h=>by
  rw [complexP]
  obtain ⟨⟨h1,h2,h3⟩,h4⟩:=compoundP_gd hl h
  generalize compoundP lf s p=r at h1 h2 h3 h4
  obtain ⟨q,o⟩:=r
  cases o with
  | none=>exact ⟨h1,h2,fun x hx=>by simp at hx⟩
  | some y =>
   dsimp only at h1 h2 h3 h4 ⊢
   have h5:=h3 y rfl
   have h6:=h4 y rfl
   have h7:=combP_le (s:=s) h2
   generalize combP s q=r at h7
   obtain ⟨q2,o2⟩:=r
   cases o2 with
   | none =>
    dsimp only at h7 ⊢
    refine ⟨by omega,h7.2,fun x hx=>?_⟩
    simp only [Option.some.injEq] at hx
    subst hx
    exact ⟨⟨by dsimp only; omega,by dsimp only; omega⟩,by omega⟩
   | some b' =>
    dsimp only at h7 ⊢
    obtain ⟨g1,g2,g3⟩:=complexP_gd hl f (l++[(b,y.1.1,y.1.2)]) (c+y.2.1) (max d y.2.2) b' q2 h7.2
    refine ⟨by omega,g2,fun x hx=>?_⟩
    obtain ⟨⟨g4,g5⟩,g6⟩:=g3 x hx
    exact ⟨⟨by omega,by omega⟩,by omega⟩
theorem partsP_gd (hl : ∀ p, p ≤ s.size → Gd s p (lf p)) : ∀ f l c d p, p ≤ s.size →
  p≤(partsP lf s f l c d p).1∧(partsP lf s f l c d p).1≤s.size∧∀ x,(partsP lf s f l c d p).2=some x→p+x.2.1≤(partsP lf s f l c d p).1+c∧x.2.2≤max d ((partsP lf s f l c d p).1 - p)
 | 0,l,c,d,p,h=>⟨Nat.le_refl _,h,fun x hx=>by simp [partsP] at hx⟩
 | f+1,l,c,d,p,h=>by
  rw [partsP]
  have h0:=spP_le h
  obtain ⟨h1,h2,h3⟩:=complexP_gd hl (s.size+1) [] 0 0 0 (spP s p) h0.2
  generalize complexP lf s (s.size+1) [] 0 0 0 (spP s p)=r at h1 h2 h3
  obtain ⟨q,o⟩:=r
  cases o with
  | none=>exact ⟨by dsimp only at h1 ⊢; omega,h2,fun x hx=>by simp at hx⟩
  | some y =>
   dsimp only at h1 h2 h3 ⊢
   obtain ⟨⟨g4,g5⟩,g6⟩:=h3 y rfl
   by_cases hc:peekI s q=44
   ·rw [if_pos hc]
    have hq:=peek_in hc (by decide)
    obtain ⟨e1,e2,e3⟩:=partsP_gd hl f (l++[y.1]) (c+y.2.1) (max d y.2.2) (q+1) hq
    refine ⟨by omega,e2,fun x hx=>?_⟩
    have:=e3 x hx
    omega
   ·rw [if_neg hc]
    refine ⟨by dsimp only; omega,h2,fun x hx=>?_⟩
    simp only [Option.some.injEq] at hx
    subst hx
    dsimp only; omega
end
theorem listP_gd (s:ByteArray):∀ n p,p≤s.size→Gd s p (listP s n p)
 | 0,p,h=>⟨Nat.le_refl _,h,fun x hx=>by simp [listP] at hx⟩
 | n+1,p,h=>by
  obtain ⟨h1,h2,h3⟩:=partsP_gd (listP_gd s n) (s.size+1) [] 0 0 p h
  refine ⟨h1,h2,fun x hx=>?_⟩
  have:=h3 x hx
  change p+x.2.1≤(partsP (listP s n) s (s.size+1) [] 0 0 p).1∧p+x.2.2≤(partsP (listP s n) s (s.size+1) [] 0 0 p).1
  omega
end Go.Proofs.YtclpcnignheijaaGreatDoor
