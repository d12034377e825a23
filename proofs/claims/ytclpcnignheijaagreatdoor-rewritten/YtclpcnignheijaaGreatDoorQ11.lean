/-
  Parts of the proof: R1, R2, R3, R4, R5, R6.
-/
import Derived.Test.YtclpcnignheijaaGreatDoorQ6
import Derived.Deep.RegionWith
import Derived.Test.YtclpcnignheijaaGreatDoorQ7
namespace Go.Proofs.YtclpcnignheijaaGreatDoor
open Go.RowKit
structure Mk(w:World)(mb:Nat)(s:ByteArray)(p:Nat)(bad:Bool)(a m:Nat):Prop where
 blk:w.heap[mb]? = some (.cells #[.string s,.int .i64 p,.bool bad,.int .i64 a,.int .i64 m] 153 (0,0))
 le:p<=s.size
 max:s.size<=2000
section
variable{w w':World}{mb:Nat}{s:ByteArray}{p q:Nat}{bad:Bool}{a m B:Nat}{T:List TypeId}
theorem Mk.c0(h:Mk w mb s p bad a m):w.cell? ⟨mb,0,none⟩=some (.string s):=by simp[World.cell?,h.blk]
theorem Mk.c1(h:Mk w mb s p bad a m):w.cell? ⟨mb,1,none⟩=some (.int .i64 p):=by simp[World.cell?,h.blk]
theorem Mk.c2(h:Mk w mb s p bad a m):w.cell? ⟨mb,2,none⟩=some (.bool bad):=by simp[World.cell?,h.blk]
theorem Mk.c3(h:Mk w mb s p bad a m):w.cell? ⟨mb,3,none⟩=some (.int .i64 a):=by simp[World.cell?,h.blk]
theorem Mk.c4(h:Mk w mb s p bad a m):w.cell? ⟨mb,4,none⟩=some (.int .i64 m):=by simp[World.cell?,h.blk]
theorem Mk.free(h:Mk w mb s p bad a m){o:Nat}:w.frozen? ⟨mb,o,none⟩=false:=qAd h.blk
theorem Mk.kept(h:Mk w mb s p bad a m)(k:Kp B T w w')(ht:153 ∉ T):Mk w' mb s p bad a m:=⟨k.at h.blk ht,h.le,h.max⟩
theorem Mk.drewN(h:Mk w mb s p bad a m)(n:Nat):Mk (w.drewN n) mb s p bad a m:=⟨h.blk,h.le,h.max⟩
theorem Mk.alloc(h:Mk w mb s p bad a m)(o:Obj):Mk (w.alloc o) mb s p bad a m:=⟨qAG h.blk o,h.le,h.max⟩
theorem Mk.set1(h:Mk w mb s p bad a m)(hq:q<=s.size){v:Int}(hv:v=(q:Int)):Mk (w.setCell ⟨mb,1,none⟩ (.int .i64 v)) mb s q bad a m:=by subst hv;exact⟨qAV (o:=1) h.blk _,hq,h.max⟩
theorem Mk.set2(h:Mk w mb s p bad a m)(b':Bool):Mk (w.setCell ⟨mb,2,none⟩ (.bool b')) mb s p b' a m:=⟨qAV (o:=2) h.blk _,h.le,h.max⟩
theorem Mk.set3(h:Mk w mb s p bad a m){a':Nat}{v:Int}(hv:v=(a':Int)):Mk (w.setCell ⟨mb,3,none⟩ (.int .i64 v)) mb s p bad a' m:=by subst hv;exact⟨qAV (o:=3) h.blk _,h.le,h.max⟩
theorem Mk.set4(h:Mk w mb s p bad a m){m':Nat}{v:Int}(hv:v=(m':Int)):Mk (w.setCell ⟨mb,4,none⟩ (.int .i64 v)) mb s p bad a m':=by subst hv;exact⟨qAV (o:=4) h.blk _,h.le,h.max⟩
end
def placeM(w:World)(mb:Nat):Nat:=match w.cell? ⟨mb,1,none⟩with|some (.int _ x)=>x.toNat|_=>0
theorem Mk.placeM{w:World}{mb:Nat}{s:ByteArray}{p:Nat}{bad:Bool}{a m:Nat}(h:Mk w mb s p bad a m):placeM w mb=p:=by
 unfold Proofs.YtclpcnignheijaaGreatDoor.placeM;rw[h.c1];simp
def qJv(n:Nat):UInt8:=UInt8.ofNat (48+n)
def qFu(n:Nat):List UInt8:=if 10<=n then[qJv (n/10),qJv (n%10)]else[qJv n]
def qFO(n:Int):List UInt8:=if n<0 then 45::qFu n.natAbs else qFu n.natAbs
theorem qEV(x y:List UInt8):bytesOf x++bytesOf y=bytesOf (x++y):=by
 apply ByteArray.ext;apply Array.toList_inj.mp;simp[bytesOf]
def qG8(b:Int):List UInt8:=if 0<b then 43::qFO b else if b<0 then qFO b else[]
def qKk(z:NthQ):List UInt8:=if z.word.size=0 then(if z.hasN=true then qFO z.a++110::qG8 z.b else qFO z.b)else z.word.data.toList
def TM:List TypeId:=[153,104]
structure Ks(B sb:Nat)(w w':World):Prop where
 os:w'.os=w.os
 tape:w'.tape=w.tape
 output:w'.output=w.output
 size:w.heap.size<=w'.heap.size
 block:∀k,k<w.heap.size->k≠sb->(k<B\/∀c t fr,w.heap[k]? = some (.cells c t fr)->t≠153)->w'.heap[k]? = w.heap[k]?
theorem Kp.tm{B sb:Nat}{w w':World}(h:Kp B [153] w w'):Ks B sb w w':=⟨h.os,h.tape,h.output,h.size,fun k hk _ hc=>h.block k hk (by
 rcases hc with hc|hc
 ·exact .inl hc
 ·exact .inr fun c t fr he ht=>hc c t fr he (by simpa using ht))⟩
theorem Ks.trans{B sb:Nat}{a b c:World}(h:Ks B sb a b)(k:Ks B sb b c):Ks B sb a c:=by
 refine⟨k.os.trans h.os,k.tape.trans h.tape,k.output.trans h.output,Nat.le_trans h.size k.size,fun i hi hne hc=>?_⟩;have e:=h.block i hi hne hc;refine(k.block i (Nat.lt_of_lt_of_le hi h.size) hne ?_).trans e;rcases hc with hc|hc
 ·exact .inl hc
 ·exact .inr fun c t fr he=>hc c t fr (by rw[<-e];exact he)
theorem Ks.refl(B sb:Nat)(w:World):Ks B sb w w:=(Kp.refl B [153] w).tm
theorem Ks.drewN{B sb:Nat}{a w:World}(h:Ks B sb a w)(n:Nat):Ks B sb a (w.drewN n):=⟨h.os,h.tape,h.output,h.size,h.block⟩
theorem Ks.alloc{B sb:Nat}{a w:World}(h:Ks B sb a w)(o:Obj):Ks B sb a (w.alloc o):=h.trans ((Kp.refl B [153] w).alloc o).tm
theorem Ks.setCell{B:Nat}{a w:World}{p:Addr}(h:Ks B p.block a w){c:Array Value}{t:TypeId}{fr:Nat×Nat}(_hp:w.heap[p.block]? = some (.cells c t fr))(_ht:t∈TM)(_hB:B<=p.block)(u:Value):Ks B p.block a (w.setCell p u) :=
 h.trans ⟨rfl,rfl,rfl,by simp[World.setCell],fun k _ hne _=>Below.heap_setCell _ _ _ _ hne⟩
theorem Ks.at{B sb:Nat}{w w':World}(h:Ks B sb w w'){k:Nat}{c:Array Value}{t:TypeId}{fr:Nat×Nat}(hk:w.heap[k]? = some (.cells c t fr))(ht:t≠153)(hne:k≠sb):w'.heap[k]? = some (.cells c t fr):=by
 rw[h.block k (lt_of_block hk) hne (.inr fun c' t' fr' he=>?_)]
 ·exact hk
 ·rw[hk]at he;simp only[Option.some.injEq,Obj.cells.injEq]at he;obtain⟨_,rfl,_⟩:=he;exact ht
theorem Ks.new{B sb:Nat}{a b c:World}(k:Ks B sb b c)(h:Kp B [153] a b)(hn:a.heap.size<=sb):Kp B [153] a c:=by
 refine⟨k.os.trans h.os,k.tape.trans h.tape,k.output.trans h.output,Nat.le_trans h.size k.size,fun i hi hc=>?_⟩;have e:=h.block i hi hc;refine(k.block i (Nat.lt_of_lt_of_le hi h.size) (by omega) ?_).trans e;rcases hc with hc|hc
 ·exact .inl hc
 ·exact .inr fun c t fr he ht=>hc c t fr (by rw[<-e];exact he) (by simp[ht])
