/-
  Parts of the proof: R1, R2, R3, R4, R5, R6.
-/
import Derived.Test.YtclpcnignheijaaGreatDoorQ7
namespace Go.Proofs.YtclpcnignheijaaGreatDoor
open Go.RowKit
structure Mk(w:World)(mb:Nat)(s:ByteArray)(p:Nat)(bad:Bool)(a m:Nat):Prop where
 blk:w.heap[mb]? = some (.cells #[.string s,.int .i64 p,.bool bad,.int .i64 a,.int .i64 m] 153 (0,0))
 le:p<=s.size
 max:s.size<=2000
section
variable{w w':World}{mb:Nat}{s:ByteArray}{p q:Nat}{bad:Bool}{a m B:Nat}{T:List TypeId}
end
def qJw(n:Nat):UInt8:=UInt8.ofNat (48+n)
def qFa(n:Nat):List UInt8:=if 10<=n then[qJw (n/10),qJw (n%10)]else[qJw n]
def qFN(n:Int):List UInt8:=if n<0 then 45::qFa n.natAbs else qFa n.natAbs
theorem qD1(x y:List UInt8):bytesOf x++bytesOf y=bytesOf (x++y):=by
 apply ByteArray.ext;apply Array.toList_inj.mp;simp[bytesOf]
def qG5(b:Int):List UInt8:=if 0<b then 43::qFN b else if b<0 then qFN b else[]
def qKh(z:NthQ):List UInt8:=if z.word.size=0 then(if z.hasN=true then qFN z.a++110::qG5 z.b else qFN z.b)else z.word.data.toList
structure Ks(B sb:Nat)(w w':World):Prop where
 os:w'.os=w.os
 tape:w'.tape=w.tape
 output:w'.output=w.output
 size:w.heap.size<=w'.heap.size
 block:∀k,k<w.heap.size->k≠sb->(k<B\/∀c t fr,w.heap[k]? = some (.cells c t fr)->t≠153)->w'.heap[k]? = w.heap[k]?
