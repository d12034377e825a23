/-
  Parts of the proof: JR, JS.
-/
import Derived.Test.YtclpcnignheijaaGreatDoorQ5
import Derived.Test.YtclpcnignheijaaGreatDoorQ13
import Derived.Test.YtclpcnignheijaaGreatDoorQ24
namespace Go.Proofs.YtclpcnignheijaaGreatDoor.Num
open Go.RowKit Go.Proofs.YtclpcnignheijaaGreatDoor
def Tx (s:ByteArray) (p:Nat) (l:List UInt8):Prop:=s.data.toList.drop p=l∧p+l.length=s.size
section
variable {B s:ByteArray} {p:Nat} {l r:List UInt8}
theorem Tx.all (B:ByteArray):Tx B 0 B.data.toList:=⟨rfl,by simp⟩
theorem Tx.skip (h:Tx B p (l++r)):Tx B (p+l.length) r:=by
 obtain ⟨h1,h2⟩:=h
 refine ⟨?_,by simp at h2; omega⟩
 rw [← List.drop_drop,h1,List.drop_left]
theorem Tx.step {c:UInt8} (h:Tx B p (c :: r)):Tx B (p+1) r:=Tx.skip (l:=[c]) h
theorem Tx.peek {c : UInt8} (h : Tx B p (c :: r)) (hc : allowedB (c.toNat : Int) = true) : peekI B p = (c.toNat : Int) := by
 obtain ⟨h1,h2⟩:=h
 have hlt:p < B.size:=by simp at h2; omega
 have hb:byteI B p=(c.toNat:Int):=by
  have hl:p < B.data.toList.length:=by simpa using hlt
  have h3:B.data.toList[p]? = some c:=by
   have:=congrArg (fun l=>l[0]?) h1
   simpa using this
  rw [byteI_get B p hlt]
  have h4:B[p]=c:=by
   have h5:B.data.toList[p]? = some B[p]:=by
    rw [List.getElem?_eq_getElem hl]; rfl
   rw [h5] at h3
   exact Option.some.inj h3
  rw [h4]
 unfold peekI
 rw [hb,if_pos ⟨hlt,hc⟩]
theorem Tx.endPeek (h:Tx B p []):peekI B p=0:=by
 have:=h.2
 simp at this
 rw [this]; exact peek_end B
end
theorem one_word {B:ByteArray} {words:List (List UInt8)} {w:List UInt8} {i:Nat} (hi:words.findIdx? (· == w)=some i) (hok:∀ c∈w,allowedB (c.toNat:Int)=true∧UInt8.ofNat (c.toNat:Int).toNat=c):∀ (v t:List UInt8) (n p:Nat) (r:List UInt8),t++v=w→v.length < n→(∀ k,k < v.length→words.findIdx? (· == t++v.take k)=none∧goesOn words (t++v.take k) (((v.getD k 0).toNat:Int))=true)→Tx B p (v++r)→oneP B words n t p=(p+v.length,some i)
 | [],t,0,p,r,ht,hn,_,_=>by simp at hn
 | [],t,n+1,p,r,ht,hn,_,_=>by
  rw [oneP,show t=w by simpa using ht,hi]
  rfl
 | c :: v,t,0,p,r,ht,hn,_,_=>by simp at hn
 | c :: v,t,n+1,p,r,ht,hn,hk,hx=>by
  have h0:=hk 0 (by simp)
  simp only [List.take_zero,List.append_nil,List.getD_cons_zero] at h0
  have hc:=hok c (by rw [← ht]; simp)
  have hpk:peekI B p=(c.toNat:Int):=Tx.peek hx hc.1
  rw [oneP,h0.1]
  dsimp only
  rw [hpk,if_pos h0.2,hc.2]
  have:=one_word hi hok v (t++[c]) n (p+1) r (by rw [← ht]; simp) (by simp at hn; omega) (fun k hkv=>by
   have:=hk (k+1) (by simp; omega)
   simpa using this) (Tx.step hx)
  rw [this,List.length_cons]
  congr 1
  omega
section
variable {B:ByteArray} {lg:Nat→Nat × Option (SLst × Nat × Nat)}
theorem sp_no {p:Nat} (h:spaceB (peekI B p)=false):spP B p=p:=runTo_no h
theorem comb_end {p:Nat} (h:peekI B p=0):combP B p=(p,none):=by
 unfold combP
 rw [sp_no (by rw [h]; rfl),h]
 rfl
end
section
variable {b:BS}
theorem mean_cpx (c:Cpx) (m:Nat):mean b [c] m=cMean b c m:=by rw [mean_eq]; simp
end
section
variable {B x y:ByteArray} {lx ly l:SLst} {b:BS} {m:Nat}
end
end Go.Proofs.YtclpcnignheijaaGreatDoor.Num
