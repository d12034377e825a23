/-
  Parts of the proof: B1, B2, B3, B4, B5, B6.
-/
import Derived.Test.YtclpcnignheijaaGreatDoorQ1
import Derived.Lib.Bytealg
import Derived.Deep.RegionHeld3
set_option maxHeartbeats 2000000
set_option maxRecDepth 100000
namespace Go.Proofs.YtclpcnignheijaaGreatDoor
open Go.RowKit Go.Proofs.Tryz
theorem run_ib(s:ByteArray)(c:Int)(w:World):(callFunc 261 #[.string s,.int .u8 c]).run prog w=.ok (.value (.int .i64 (Lib.indexByte s.data.toList c.toNat.toUInt8))) w:=by
 rw[run_callFunc_extern func261 (by kernel_rfl) (by kernel_rfl) (by kernel_rfl) (e:=Extern.BytealgIndexByte.indexByte) (by kernel_rfl),Lib.run_indexByteString];rfl
theorem qET(t:ByteArray)(c:Int)(w:World) :
  Calls prog 242 #[.string t,.int .u8 c] w fun e w'=>e=.returned (.int .i64 (Lib.indexByte t.data.toList c.toNat.toUInt8))/\w'=w:=by
 go_enter func242,ntmps242
 go_wp2_with (simp only[run_ib])
 go_ret
 exact⟨rfl,rfl⟩
theorem qFd(t:ByteArray)(c:Int)(w:World) :
  Calls prog 218 #[.string t,.int .u8 c] w fun e w'=>e=.returned (.int .i64 (Lib.indexByte t.data.toList c.toNat.toUInt8))/\w'=w:=by
 go_enter func218,ntmps218
 go_wp2_with (go_at_call 242;refine(qET _ _ _).mono ?_;rintro e w' ⟨rfl,rfl⟩)
 go_ret
 exact⟨rfl,rfl⟩
def inB(l:List UInt8)(c:Int):Bool:=l.any fun b=>(b.toNat:Int)==c
theorem qHy(l:List UInt8)(c:Int)(h0:0<=c)(h1:c<256):(0<=Lib.indexByte l c.toNat.toUInt8)↔inB l c=true:=by
 have hc:(c.toNat.toUInt8.toNat:Int)=c:=by
  rw[Nat.toUInt8,UInt8.toNat_ofNat'];omega
 induction l with
 |nil=>simp[Lib.indexByte,inB]
 | cons b l ih =>
  unfold Lib.indexByte;have hb:(b==c.toNat.toUInt8)=((b.toNat:Int)==c):=by
   rw[Bool.eq_iff_iff,beq_iff_eq,beq_iff_eq];exact⟨fun h=>by rw[h,hc],fun h=>UInt8.toNat_inj.1 (by omega)⟩
  have hg:=Lib.indexByte_ge l c.toNat.toUInt8;rw[hb];cases hv:((b.toNat:Int)==c)
  ·have e:inB (b::l) c=inB l c:=by simp[inB,hv]
   rw[e,if_neg Bool.false_ne_true];refine Iff.trans ?_ ih;split
   ·rename_i h;rw[beq_iff_eq]at h;omega
   ·rename_i h;have h3:Lib.indexByte l c.toNat.toUInt8≠-1:=fun e=>h (by rw[e];rfl);omega
  ·simp[inB,hv]
theorem qFe(t:ByteArray)(c:Int)(w:World)(h0:0<=c)(h1:c<256)(h:inB t.data.toList c=true) :
  Calls prog 218 #[.string t,.int .u8 c] w fun e w'=>∃i:Int,e=.returned (.int .i64 i)/\0<=i/\w'=w :=
 (qFd t c w).mono fun _ _ ⟨he,hw⟩=>⟨_,he,(qHy _ c h0 h1).2 h,hw⟩
theorem qDG(t:ByteArray)(c:Int)(w:World)(h0:0<=c)(h1:c<256)(h:inB t.data.toList c=false) :
  Calls prog 218 #[.string t,.int .u8 c] w fun e w'=>∃i:Int,e=.returned (.int .i64 i)/\i<0/\w'=w :=
 (qFd t c w).mono fun _ _ ⟨he,hw⟩=>⟨_,he,by have:=mt (qHy _ c h0 h1).1 (by rw[h];exact Bool.false_ne_true);omega,hw⟩
theorem while_nil(t:ByteArray)(w:World) :
  Calls prog 54 #[.string t,.nilIface] w fun e w'=>e=.returned .nilIface/\w'=w:=by
 go_enter func54,ntmps54
 go_wp2
 go_ret
 exact⟨rfl,rfl⟩
theorem Chain.shape{w:World}{c pl:Int}{n:Nat}{v:Value}(h:Chain w c pl n v):∃ty k,v=.iface ty (.pointer (some ⟨k,0,none⟩)):=by
 cases n with
 |zero=>obtain⟨k,rfl,_⟩:=h;exact⟨_,_,rfl⟩
 |succ n=>obtain⟨k,_,_,rfl,_⟩:=h;exact⟨_,_,rfl⟩
theorem qA9(B:Nat)(T:List TypeId)(t:ByteArray)(c pl:Int)(n:Nat)(v:Value)(w:World)(h:Chain w c pl n v) :
  Calls prog 54 #[.string t,v] w fun e w'=>∃u,e=.returned u/\Chain w' c pl (n+1) u/\Kp B T w w':=by
 obtain⟨ty,k,hv⟩:=h.shape;rw[hv]at h ⊢;go_enter func54,ntmps54
 go_wp2
 go_ret
 exact⟨_,rfl,⟨_,_,_,rfl,qAE _ _,h.alloc _⟩,(Kp.refl _ _ _).alloc _⟩
def refArr:Array Value:=#[.string ⟨#[97,109,112,59]⟩,.int .u8 38,.string ⟨#[108,116,59]⟩,.int .u8 60,.string ⟨#[103,116,59]⟩,.int .u8 62,.string ⟨#[113,117,111,116,59]⟩,.int .u8 34]
def Gl(w:World):Prop:=∃t fr,w.heap[1]? = some (.cells refArr t fr)
theorem Gl.kept{B:Nat}{T:List TypeId}{w w':World}(h:Gl w)(k:Kp B T w w')(hB:1<B):Gl w':=by
 obtain⟨t,fr,h⟩:=h;exact⟨t,fr,by rw[k.low (lt_of_block h) hB];exact h⟩
theorem Gl.drewN{w:World}(h:Gl w)(n:Nat):Gl (w.drewN n):=h
theorem Gl.alloc{w:World}(h:Gl w)(o:Obj):Gl (w.alloc o):=by
 obtain⟨t,fr,h⟩:=h;exact⟨t,fr,qAG h o⟩
def refsL:List (List UInt8×Int):=[([97,109,112,59],38),([108,116,59],60),([103,116,59],62),([113,117,111,116,59],34)]
def qDy(s:ByteArray)(p:Nat):List (List UInt8×Int)->Nat×Option Int
 |[]=>(p,none)
 |x::r=>if qAC s p=((x.1.headD 0).toNat:Int)then((qAo s x.1 p).1,if (qAo s x.1 p).2=true then some x.2 else none)else qDy s p r
def qFu(s:ByteArray)(p:Nat):Nat×Option Int:=qDy s p refsL
theorem qKF(s:ByteArray)(p:Nat)(h:p<=s.size):∀l,p<=(qDy s p l).1/\(qDy s p l).1<=s.size
 |[]=>⟨Nat.le_refl _,h⟩
 |x::r=>by
  rw[qDy];split
  ·exact qBi s x.1 p h
  ·exact qKF s p h r
theorem qJG(s:ByteArray)(p:Nat):∀l,(∀x∈l,0<=x.2/\x.2<256)->∀m,(qDy s p l).2=some m->0<=m/\m<256
 |[],_,m,h=>by simp[qDy]at h
 | x :: r, hx, m, h => by
  rw[qDy]at h;split at h
  ·dsimp only at h;split at h
   ·cases h;exact hx x (List.mem_cons_self ..)
   ·cases h
  ·exact qJG s p r (fun y hy=>hx y (List.mem_cons_of_mem _ hy)) m h
theorem qPH{s:ByteArray}{p:Nat}{m:Int}(h:(qFu s p).2=some m):0<=m/\m<256:=qJG s p refsL (by decide) m h
theorem qFv(B rb bb:Nat)(s:ByteArray)(p:Nat)(w:World)(h:Rd w rb s p)(hB:B<=rb)(hg:Gl w) :
  Calls prog 219 #[.agg #[.pointer (some ⟨rb,0,none⟩),.pointer (some ⟨bb,0,none⟩)]] w fun e w'=>∃(m:Int)(v:Value),e=.returned (.tuple #[.int .u8 m,v]) /\
   Rd w' rb s (qFu s p).1/\Kp B [210] w w'/\((some m=(qFu s p).2/\v=.nilIface)\/((qFu s p).2=none/\Chain w' 2 (qFu s p).1 0 v)):=by
 obtain⟨tt,fr,hg1⟩:=hg;have hg2:=qAG hg1 (.cells #[.pointer (some ⟨rb,0,none⟩),.pointer (some ⟨bb,0,none⟩)] 163);go_enter func219,ntmps219
 go_wp2_with (refine wpList_load_row rfl 287 _ rfl 1 rfl tt _ fr _ hg2 underlying287 rfl (by kernel_rfl) ?_)
 clear hg2;go_loopw [7] (fun i wr=>∃k:Nat,i=.int .i64 k/\k<=4/\Rd wr rb s p/\wr.heap[w.heap.size]? = some (.cells #[.pointer (some ⟨rb,0,none⟩),.pointer (some ⟨bb,0,none⟩)] 163 (0,0))/\Hid (qDy s p (refsL.drop k)=qFu s p)/\Kp B [210] w wr) (fun i _=>4-(intOf i).toNat)
 case atStart=>exact⟨0,rfl,Nat.zero_le _,h.alloc _,qAE _ _,rfl,(Kp.refl _ _ _).alloc _⟩
 case round =>
  obtain⟨k,rfl,hk4,hr,hbx,HQ,hk⟩:=hrel;clear hg1 h;have b0:=qAJ hbx;have bl:=lt_of_block hbx;rcases (show k=0\/k=1\/k=2\/k=3\/k=4 from by omega)with rfl|rfl|rfl|rfl|rfl
  ·have ix:∀w,(Instr.index 287 (.agg refArr) (.int .i64 0)).run prog w=.ok (.agg #[.string ⟨#[97,109,112,59]⟩,.int .u8 38]) w:=fun _=>by kernel_rfl
   have hq:qDy s p (refsL.drop 0)=if qAC s p=97 then((qAo s [97,109,112,59] p).1,if (qAo s [97,109,112,59] p).2=true then some 38 else none)else qDy s p (refsL.drop (0+1)):=rfl
   have HR:=qAF hq;clear hq;by_cases hy:qAC s p=97
   ·have hy':(qAC s p==(((⟨#[97,109,112,59]⟩:ByteArray)[0]'(by decide)).toNat:Int))=true:=by rw[hy];rfl
    have HY:=qAF hy;clear hy;go_wp2
    go_quiet ((go_at_call 144;exact Calls.quiet_of (qAL rb s p _ ((hr.alloc _).drewN _))))
    go_wp2
    have HF:Hid (qFu s p=((qAo s [97,109,112,59] p).1,if (qAo s [97,109,112,59] p).2=true then some 38 else none)):=by
     have e:=HR.out;rw[if_pos HY.out]at e;exact HQ.out.symm.trans e
    go_region_held3 (fun wx=>wx.cell? ⟨wr.heap.size,0,none⟩=some (.string ⟨#[97,109,112,59]⟩)/\wx.cell? ⟨wr.heap.size,1,none⟩=some (.int .u8 38)/\wx.cell? ⟨w.heap.size,0,none⟩=some (.pointer (some ⟨rb,0,none⟩))) (first|exact hS|simp[go_sem, *]) (first|(go_at_call 188;refine(qAw B rb s ⟨#[97,109,112,59]⟩ p _ ((hr.alloc _).drewN _) hB (by decide)).mono ?_;rintro e w' ⟨v,rfl,hr',hk',hor⟩;have hS:=And.intro (qAJ (hk'.at (k:=wr.heap.size) (t:=286) (qAE wr _) (by decide))) (And.intro (qAS (hk'.at (k:=wr.heap.size) (t:=286) (qAE wr _) (by decide))) (qAJ (hk'.at (k:=w.heap.size) (t:=163) (qAG hbx _) (by decide))))))
    go_wp2
    go_ret2
    rw[HF.out];rcases hor with⟨ho,rfl⟩|⟨ho,hc⟩
    ·rw[ho,if_pos rfl];exact⟨_,_,rfl,hr',((hk.alloc _).drewN _).trans hk',.inl ⟨rfl,rfl⟩⟩
    ·rw[ho,if_neg Bool.false_ne_true];exact⟨_,_,rfl,hr',((hk.alloc _).drewN _).trans hk',.inr ⟨rfl,hc⟩⟩
   ·have hy':(qAC s p==(((⟨#[97,109,112,59]⟩:ByteArray)[0]'(by decide)).toNat:Int))=false:=by rw[show(((⟨#[97,109,112,59]⟩:ByteArray)[0]'(by decide)).toNat:Int)=97 from rfl];simp[hy]
    have HY:=qAF hy;clear hy;go_wp2
    go_quiet ((go_at_call 144;exact Calls.quiet_of (qAL rb s p _ ((hr.alloc _).drewN _))))
    go_wp2
    go_roundw
    case rel =>
     refine⟨0+1,by go_num,by omega,(hr.alloc _).drewN _,qAG hbx _,qAF ?_,(hk.alloc _).drewN _⟩;have e:=HR.out;rw[if_neg HY.out]at e;exact e.symm.trans HQ.out
    case measure=>simp[intOf]
  ·have ix:∀w,(Instr.index 287 (.agg refArr) (.int .i64 1)).run prog w=.ok (.agg #[.string ⟨#[108,116,59]⟩,.int .u8 60]) w:=fun _=>by kernel_rfl
   have hq:qDy s p (refsL.drop 1)=if qAC s p=108 then((qAo s [108,116,59] p).1,if (qAo s [108,116,59] p).2=true then some 60 else none)else qDy s p (refsL.drop (1+1)):=rfl
   have HR:=qAF hq;clear hq;by_cases hy:qAC s p=108
   ·have hy':(qAC s p==(((⟨#[108,116,59]⟩:ByteArray)[0]'(by decide)).toNat:Int))=true:=by rw[hy];rfl
    have HY:=qAF hy;clear hy;go_wp2
    go_quiet ((go_at_call 144;exact Calls.quiet_of (qAL rb s p _ ((hr.alloc _).drewN _))))
    go_wp2
    have HF:Hid (qFu s p=((qAo s [108,116,59] p).1,if (qAo s [108,116,59] p).2=true then some 60 else none)):=by
     have e:=HR.out;rw[if_pos HY.out]at e;exact HQ.out.symm.trans e
    go_region_held3 (fun wx=>wx.cell? ⟨wr.heap.size,0,none⟩=some (.string ⟨#[108,116,59]⟩)/\wx.cell? ⟨wr.heap.size,1,none⟩=some (.int .u8 60)/\wx.cell? ⟨w.heap.size,0,none⟩=some (.pointer (some ⟨rb,0,none⟩))) (first|exact hS|simp[go_sem, *]) (first|(go_at_call 188;refine(qAw B rb s ⟨#[108,116,59]⟩ p _ ((hr.alloc _).drewN _) hB (by decide)).mono ?_;rintro e w' ⟨v,rfl,hr',hk',hor⟩;have hS:=And.intro (qAJ (hk'.at (k:=wr.heap.size) (t:=286) (qAE wr _) (by decide))) (And.intro (qAS (hk'.at (k:=wr.heap.size) (t:=286) (qAE wr _) (by decide))) (qAJ (hk'.at (k:=w.heap.size) (t:=163) (qAG hbx _) (by decide))))))
    go_wp2
    go_ret2
    rw[HF.out];rcases hor with⟨ho,rfl⟩|⟨ho,hc⟩
    ·rw[ho,if_pos rfl];exact⟨_,_,rfl,hr',((hk.alloc _).drewN _).trans hk',.inl ⟨rfl,rfl⟩⟩
    ·rw[ho,if_neg Bool.false_ne_true];exact⟨_,_,rfl,hr',((hk.alloc _).drewN _).trans hk',.inr ⟨rfl,hc⟩⟩
   ·have hy':(qAC s p==(((⟨#[108,116,59]⟩:ByteArray)[0]'(by decide)).toNat:Int))=false:=by rw[show(((⟨#[108,116,59]⟩:ByteArray)[0]'(by decide)).toNat:Int)=108 from rfl];simp[hy]
    have HY:=qAF hy;clear hy;go_wp2
    go_quiet ((go_at_call 144;exact Calls.quiet_of (qAL rb s p _ ((hr.alloc _).drewN _))))
    go_wp2
    go_roundw
    case rel =>
     refine⟨1+1,by go_num,by omega,(hr.alloc _).drewN _,qAG hbx _,qAF ?_,(hk.alloc _).drewN _⟩;have e:=HR.out;rw[if_neg HY.out]at e;exact e.symm.trans HQ.out
    case measure=>simp[intOf]
  ·have ix:∀w,(Instr.index 287 (.agg refArr) (.int .i64 2)).run prog w=.ok (.agg #[.string ⟨#[103,116,59]⟩,.int .u8 62]) w:=fun _=>by kernel_rfl
   have hq:qDy s p (refsL.drop 2)=if qAC s p=103 then((qAo s [103,116,59] p).1,if (qAo s [103,116,59] p).2=true then some 62 else none)else qDy s p (refsL.drop (2+1)):=rfl
   have HR:=qAF hq;clear hq;by_cases hy:qAC s p=103
   ·have hy':(qAC s p==(((⟨#[103,116,59]⟩:ByteArray)[0]'(by decide)).toNat:Int))=true:=by rw[hy];rfl
    have HY:=qAF hy;clear hy;go_wp2
    go_quiet ((go_at_call 144;exact Calls.quiet_of (qAL rb s p _ ((hr.alloc _).drewN _))))
    go_wp2
    have HF:Hid (qFu s p=((qAo s [103,116,59] p).1,if (qAo s [103,116,59] p).2=true then some 62 else none)):=by
     have e:=HR.out;rw[if_pos HY.out]at e;exact HQ.out.symm.trans e
    go_region_held3 (fun wx=>wx.cell? ⟨wr.heap.size,0,none⟩=some (.string ⟨#[103,116,59]⟩)/\wx.cell? ⟨wr.heap.size,1,none⟩=some (.int .u8 62)/\wx.cell? ⟨w.heap.size,0,none⟩=some (.pointer (some ⟨rb,0,none⟩))) (first|exact hS|simp[go_sem, *]) (first|(go_at_call 188;refine(qAw B rb s ⟨#[103,116,59]⟩ p _ ((hr.alloc _).drewN _) hB (by decide)).mono ?_;rintro e w' ⟨v,rfl,hr',hk',hor⟩;have hS:=And.intro (qAJ (hk'.at (k:=wr.heap.size) (t:=286) (qAE wr _) (by decide))) (And.intro (qAS (hk'.at (k:=wr.heap.size) (t:=286) (qAE wr _) (by decide))) (qAJ (hk'.at (k:=w.heap.size) (t:=163) (qAG hbx _) (by decide))))))
    go_wp2
    go_ret2
    rw[HF.out];rcases hor with⟨ho,rfl⟩|⟨ho,hc⟩
    ·rw[ho,if_pos rfl];exact⟨_,_,rfl,hr',((hk.alloc _).drewN _).trans hk',.inl ⟨rfl,rfl⟩⟩
    ·rw[ho,if_neg Bool.false_ne_true];exact⟨_,_,rfl,hr',((hk.alloc _).drewN _).trans hk',.inr ⟨rfl,hc⟩⟩
   ·have hy':(qAC s p==(((⟨#[103,116,59]⟩:ByteArray)[0]'(by decide)).toNat:Int))=false:=by rw[show(((⟨#[103,116,59]⟩:ByteArray)[0]'(by decide)).toNat:Int)=103 from rfl];simp[hy]
    have HY:=qAF hy;clear hy;go_wp2
    go_quiet ((go_at_call 144;exact Calls.quiet_of (qAL rb s p _ ((hr.alloc _).drewN _))))
    go_wp2
    go_roundw
    case rel =>
     refine⟨2+1,by go_num,by omega,(hr.alloc _).drewN _,qAG hbx _,qAF ?_,(hk.alloc _).drewN _⟩;have e:=HR.out;rw[if_neg HY.out]at e;exact e.symm.trans HQ.out
    case measure=>simp[intOf]
  ·have ix:∀w,(Instr.index 287 (.agg refArr) (.int .i64 3)).run prog w=.ok (.agg #[.string ⟨#[113,117,111,116,59]⟩,.int .u8 34]) w:=fun _=>by kernel_rfl
   have hq:qDy s p (refsL.drop 3)=if qAC s p=113 then((qAo s [113,117,111,116,59] p).1,if (qAo s [113,117,111,116,59] p).2=true then some 34 else none)else qDy s p (refsL.drop (3+1)):=rfl
   have HR:=qAF hq;clear hq;by_cases hy:qAC s p=113
   ·have hy':(qAC s p==(((⟨#[113,117,111,116,59]⟩:ByteArray)[0]'(by decide)).toNat:Int))=true:=by rw[hy];rfl
    have HY:=qAF hy;clear hy;go_wp2
    go_quiet ((go_at_call 144;exact Calls.quiet_of (qAL rb s p _ ((hr.alloc _).drewN _))))
    go_wp2
    have HF:Hid (qFu s p=((qAo s [113,117,111,116,59] p).1,if (qAo s [113,117,111,116,59] p).2=true then some 34 else none)):=by
     have e:=HR.out;rw[if_pos HY.out]at e;exact HQ.out.symm.trans e
    go_region_held3 (fun wx=>wx.cell? ⟨wr.heap.size,0,none⟩=some (.string ⟨#[113,117,111,116,59]⟩)/\wx.cell? ⟨wr.heap.size,1,none⟩=some (.int .u8 34)/\wx.cell? ⟨w.heap.size,0,none⟩=some (.pointer (some ⟨rb,0,none⟩))) (first|exact hS|simp[go_sem, *]) (first|(go_at_call 188;refine(qAw B rb s ⟨#[113,117,111,116,59]⟩ p _ ((hr.alloc _).drewN _) hB (by decide)).mono ?_;rintro e w' ⟨v,rfl,hr',hk',hor⟩;have hS:=And.intro (qAJ (hk'.at (k:=wr.heap.size) (t:=286) (qAE wr _) (by decide))) (And.intro (qAS (hk'.at (k:=wr.heap.size) (t:=286) (qAE wr _) (by decide))) (qAJ (hk'.at (k:=w.heap.size) (t:=163) (qAG hbx _) (by decide))))))
    go_wp2
    go_ret2
    rw[HF.out];rcases hor with⟨ho,rfl⟩|⟨ho,hc⟩
    ·rw[ho,if_pos rfl];exact⟨_,_,rfl,hr',((hk.alloc _).drewN _).trans hk',.inl ⟨rfl,rfl⟩⟩
    ·rw[ho,if_neg Bool.false_ne_true];exact⟨_,_,rfl,hr',((hk.alloc _).drewN _).trans hk',.inr ⟨rfl,hc⟩⟩
   ·have hy':(qAC s p==(((⟨#[113,117,111,116,59]⟩:ByteArray)[0]'(by decide)).toNat:Int))=false:=by rw[show(((⟨#[113,117,111,116,59]⟩:ByteArray)[0]'(by decide)).toNat:Int)=113 from rfl];simp[hy]
    have HY:=qAF hy;clear hy;go_wp2
    go_quiet ((go_at_call 144;exact Calls.quiet_of (qAL rb s p _ ((hr.alloc _).drewN _))))
    go_wp2
    go_roundw
    case rel =>
     refine⟨3+1,by go_num,by omega,(hr.alloc _).drewN _,qAG hbx _,qAF ?_,(hk.alloc _).drewN _⟩;have e:=HR.out;rw[if_neg HY.out]at e;exact e.symm.trans HQ.out
    case measure=>simp[intOf]
  ·have HF:Hid (qFu s p=(p,none)):=HQ.out.symm;go_wp2_with (go_at_call 95;refine(qBB B rb s p _ hr).mono ?_;rintro e w' ⟨v,rfl,hc,hr'',hk''⟩)
   go_ret2
   rw[HF.out];exact⟨_,_,rfl,hr'',hk.trans hk'',.inr ⟨rfl,hc⟩⟩
theorem Kp.grownNew{B:Nat}{T:List TypeId}{a w w':World}{row:Option Nat}(h:Kp B T a w)(hg:w.grownBy w' row)(hr:∀k,row=some k->a.heap.size<=k):Kp B T a w':=by
 refine⟨hg.os.trans h.os,hg.tape.trans h.tape,hg.output.trans h.output,Nat.le_trans h.size hg.size,fun k hk hc=>?_⟩;rw[hg.block k (Nat.lt_of_lt_of_le hk h.size) (fun e=>by have:=hr k e.symm;omega)];exact h.block k hk hc
theorem qA1{w w':World}{base:Nat}{e:TypeId}{size:Nat}{v:Value}{n:Nat}{xs:List Value}(ho:w.ownsRow base e size v n xs)(hg:w.grownBy w' v.ownBlock){c:Array Value}{ty:TypeId}{fr:Nat×Nat}{k:Nat}(hb:w.heap[k]? = some (.cells c ty fr))(hty:ty≠e):w'.heap[k]? = some (.cells c ty fr):=by
 rw[hg.block k (lt_of_block hb) (fun h=>?_)]
 ·exact hb
 ·rcases ho.2 with⟨hv,_⟩|⟨g,cap,cur,hv,_,hh,_⟩
  ·rw[hv]at h;simp[Value.ownBlock]at h
  ·rw[hv]at h;simp only[Value.ownBlock,Option.some.injEq]at h;subst h;rw[hb]at hh;simp only[Option.some.injEq,Obj.cells.injEq]at hh;exact hty hh.2.1
def u8s(l:List UInt8):List Value:=l.map fun b=>.int .u8 (b.toNat:Int)
theorem qN9(l:List UInt8)(b:UInt8):u8s (l++[b])=u8s l++[.int .u8 (b.toNat:Int)]:=by simp[u8s]
theorem Tryz.infoU8:(prog.info? 5).map (fun i=>(i.zero,i.size,i.bytes))=some (some (.int .u8 0),1,1):=by kernel_rfl
theorem qKx{c:Int}(h0:0<=c)(h1:c<256):(c.toNat.toUInt8.toNat:Int)=c:=by
 rw[Nat.toUInt8,UInt8.toNat_ofNat'];omega
theorem qJu{wx:World}{base:Nat}{v:Value}{l:List UInt8}(ho:wx.ownsRow base 5 1 v l.length (u8s l)):(convert 50 9 v).run prog wx=.ok (.string ⟨l.toArray⟩) wx:=by
 rcases ho.2 with⟨hv,h0⟩|⟨g,cap,cur,hv,_⟩
 ·have:l=[]:=List.eq_nil_of_length_eq_zero h0;subst this;subst hv;rw[run_convert_bytes_string wx 50 9 5 none 0 0 underlying50 underlying5 underlying9];rfl
 ·subst hv;refine run_convert_bytes_back wx 50 9 5 ⟨g,0,none⟩ cap l underlying50 underlying5 underlying9 fun j hj=>?_;rw[qJZ,Nat.zero_add,ho.cellAt j (by omega)];simp[u8s,hj]
def qB3(s:ByteArray)(ends:List UInt8):Nat->Nat->List UInt8->Nat×Option (List UInt8)
 |0,p,_=>(p,none)
 | f + 1, p, acc =>
  if qAC s p=0\/inB ends (qAC s p)=true then(p,some acc)
  else if qAC s p=38 then
   match (qFu s (p+1)).2 with
   |some m=>qB3 s ends f (qFu s (p+1)).1 (acc++[m.toNat.toUInt8])
   |none=>((qFu s (p+1)).1,none)
  else qB3 s ends f (p+1) (acc++[(qAC s p).toNat.toUInt8])
def qAU(s:ByteArray)(ends:List UInt8)(p:Nat):Nat×Option (List UInt8):=qB3 s ends (s.size+1) p []
theorem qC0(B rb bb:Nat)(s t:ByteArray)(p:Nat)(w:World)(h:Rd w rb s p)(hB:B<=rb)(hg:Gl w)(hB0:1<B) :
  Calls prog 185 #[.agg #[.pointer (some ⟨rb,0,none⟩),.pointer (some ⟨bb,0,none⟩)],.string t] w fun e w'=>∃(m:ByteArray)(v:Value),e=.returned (.tuple #[.string m,v]) /\
   Rd w' rb s (qAU s t.data.toList p).1/\Kp B [210] w w'/\((some m.data.toList=(qAU s t.data.toList p).2/\v=.nilIface)\/((qAU s t.data.toList p).2=none/\Chain w' 2 (qAU s t.data.toList p).1 1 v)):=by
 have h5:=h.max;have h4:=h.le;obtain⟨i0,hi,hz0,hz1,hz2⟩:=info_parts Tryz.infoU8;go_enter func185,ntmps185
 go_wp2
 go_loopw [6] (fun v wr=>∃(q f:Nat)(acc:List UInt8),Rd wr rb s q/\p<=q/\s.size<q+f/\acc.length<=q/\wr.ownsRow w.heap.size 5 1 v acc.length (u8s acc)/\wr.heap[w.heap.size]? = some (.cells #[.pointer (some ⟨rb,0,none⟩),.pointer (some ⟨bb,0,none⟩)] 163 (0,0))/\Hid (qB3 s t.data.toList f q acc=qAU s t.data.toList p)/\Kp B [210] w wr) (fun _ wr=>s.size-placeOf wr rb)
 case atStart=>exact⟨p,s.size+1,[],h.alloc _,Nat.le_refl _,by omega,Nat.zero_le _,World.ownsRow_nil _ _ _ _,qAE _ _,rfl,(Kp.refl _ _ _).alloc _⟩
 case round =>
  obtain⟨q,f,acc,hr,hpq,hf,hacc,hown,hbx,HQ,hk⟩:=hrel;have b0:=qAJ hbx;have hgr:=hg.kept hk hB0;have g4:=hr.le;obtain⟨f,rfl⟩:∃f',f=f'+1:=⟨f-1,by omega⟩;have hbd:=qKE s q;by_cases hz:qAC s q=0
  ·have HE:Hid (qAU s t.data.toList p=(q,some acc)):=by rw[<-HQ.out,qB3,if_pos (.inl hz)];rfl
   have hz':(qAC s q==0)=true:=by simp[hz]
   have hcv:∀n,(convert 50 9 u6).run prog (wr.drewN n)=.ok (.string ⟨acc.toArray⟩) (wr.drewN n):=fun n=>qJu hown;clear hz hbx hown hgr hg;go_wp2_with (go_at_call 144;refine(qAL rb s q _ hr).mono ?_;rintro e w' ⟨rfl,nq,rfl⟩)
   go_ret2
   rw[HE.out];exact⟨_,_,rfl,hr.drewN _,hk.drewN _,.inl ⟨by simp,rfl⟩⟩
  ·have hz':(qAC s q==0)=false:=by simp[hz]
   cases hin:inB t.data.toList (qAC s q)
   ·have HIn:=qAF hin;have hlt:=qAX hz;have hsk:skipP s q=q+1:=by unfold skipP;rw[if_neg hz]
    by_cases hm:qAC s q=38
    ·have hm':(qAC s q==38)=true:=by simp[hm]
     cases hrf:(qFu s (q+1)).2 with
     | none =>
      have HE:Hid (qAU s t.data.toList p=((qFu s (q+1)).1,none)):=by
       rw[<-HQ.out,qB3,if_neg (by rw[hin];simp[hz]),if_pos hm,hrf];rfl
      have HRf:=qAF hrf;have HSk:=qAF hsk;clear hz hin hm hrf hsk hg hown;go_wp2_with (first
       |(go_at_call 144;refine(qAL rb s q _ hr).mono ?_;rintro e w' ⟨rfl,nq,rfl⟩)
       |(go_at_call 218;refine(qDG _ _ _ hbd.1 hbd.2 HIn.out).mono ?_;rintro e w' ⟨ix,rfl,hix,rfl⟩)
       |(go_at_call 189;refine(skip_any B rb s q _ (hr.drewN _) hB).mono ?_;rintro e w1 ⟨rfl,hr1,hk1⟩;have bx1:=hk1.at hbx (by decide);have c0:=qAJ bx1;have c1:=qAS bx1;rw[HSk.out]at hr1)
       |(go_at_call 219;refine(qFv B rb bb s (q+1) _ hr1 hB (Gl.kept (hgr.drewN _) hk1 hB0)).mono ?_;rintro e w2 ⟨mm,v,rfl,hr2,hk2,hor⟩;rcases hor with⟨ho,_⟩|⟨_,hc⟩;(rw[HRf.out]at ho;cases ho);obtain⟨ty,kk,hv⟩:=hc.shape;rw[hv]at hc ⊢)
       |(go_at_call 54;refine(qA9 B [] _ _ _ _ _ _ hc).mono ?_;rintro e w3 ⟨u,rfl,hc3,hk3⟩))
      go_ret2
      rw[HE.out];exact⟨_,_,rfl,hr2.kept hk3 (by simp),((hk.trans hk1.fromDrewN).trans hk2).trans (hk3.mono (Nat.le_refl _) (by simp)),.inr ⟨rfl,hc3⟩⟩
     | some mm =>
      have hms:=qPH hrf;have HE:Hid (qAU s t.data.toList p=qB3 s t.data.toList f (qFu s (q+1)).1 (acc++[mm.toNat.toUInt8])):=by
       rw[<-HQ.out,qB3,if_neg (by rw[hin];simp[hz]),if_pos hm,hrf];rfl
      have HRf:=qAF hrf;have HSk:=qAF hsk;have hle:q+1<=(qFu s (q+1)).1/\(qFu s (q+1)).1<=s.size:=qKF s (q+1) hlt refsL;clear hz hin hm hrf hsk hg;go_wp2_with (first
       |(go_at_call 144;refine(qAL rb s q _ hr).mono ?_;rintro e w' ⟨rfl,nq,rfl⟩)
       |(go_at_call 218;refine(qDG _ _ _ hbd.1 hbd.2 HIn.out).mono ?_;rintro e w' ⟨ix,rfl,hix,rfl⟩)
       |(go_at_call 189;refine(skip_any B rb s q _ (hr.drewN _) hB).mono ?_;rintro e w1 ⟨rfl,hr1,hk1⟩;have bx1:=hk1.at hbx (by decide);have c0:=qAJ bx1;have c1:=qAS bx1;rw[HSk.out]at hr1)
       |(go_at_call 219;refine(qFv B rb bb s (q+1) _ hr1 hB (Gl.kept (hgr.drewN _) hk1 hB0)).mono ?_;rintro e w2 ⟨m3,v,rfl,hr2,hk2,hor⟩;rcases hor with⟨ho,rfl⟩|⟨ho,_⟩;rotate_left;(rw[HRf.out]at ho;cases ho);have ho2:=Option.some.inj (ho.trans HRf.out);clear ho;subst ho2;have hown2:=hk2.owns (hk1.owns hown (by decide)) (by decide);have bx2:=hk2.at bx1 (by decide);have sz2:=lt_of_block bx2)
       |(at_builtin;refine wpList_append_own _ rfl _ _ 50 rfl w.heap.size 5 i0 (.int .u8 0) 1 1 underlying50 hi hz0 hz1 hz2 rfl (by decide) _ _ _ rfl (hown2.alloc _) ⟨w2.heap.size,0,none⟩ 1 1 [.int .u8 m3] rfl rfl (fun j u hj=>by match j,hj with|0,hj=>(simp at hj;subst hj;simp[Addr.add])) (by intro u hu;simp at hu;subst hu;rfl) (by unfold maxLen;omega) (by omega) (by simp;omega) ?_;intro v1 w5 hown5 hgrow5 _))
      have KA:=(((hk.trans hk1.fromDrewN).trans hk2).alloc _).grownNew hgrow5 (fun k e=>(hown2.lt k e).1);have NB:∀{c:Array Value}{ty:TypeId}{k:Nat},w2.heap[k]? = some (.cells c ty (0,0))->ty≠5->w5.heap[k]? = some (.cells c ty (0,0)):=fun hb hty=>qA1 (hown2.alloc _) hgrow5 (qAG hb _) hty;have R5:Rd w5 rb s (qFu s (q+1)).1:=⟨NB hr2.1 (by decide),hr2.2,hr2.3⟩;have B5:=NB bx2 (by decide);have O5:w5.ownsRow w.heap.size 5 1 v1 (acc++[m3.toNat.toUInt8]).length (u8s (acc++[m3.toNat.toUInt8])):=by
       rw[qN9,qKx hms.1 hms.2];simpa using hown5
      clear hown5 hgrow5 hown2 NB;go_roundw
      case rel =>
       exact⟨_,f,_,R5,by omega,by omega,by simp;omega,O5,B5,qAF HE.out.symm,KA⟩
      case measure=>rw[R5.placeOf,hr.placeOf];omega
    ·have hm':(qAC s q==38)=false:=by simp[hm]
     have HE:Hid (qAU s t.data.toList p=qB3 s t.data.toList f (q+1) (acc++[(qAC s q).toNat.toUInt8])):=by
      rw[<-HQ.out,qB3,if_neg (by rw[hin];simp[hz]),if_neg hm];rfl
     have HSk:=qAF hsk;clear hz hin hm hsk hg;go_wp2_with (first
      |(go_at_call 144;refine(qAL rb s q _ hr).mono ?_;rintro e w' ⟨rfl,nq,rfl⟩)
      |(go_at_call 218;refine(qDG _ _ _ hbd.1 hbd.2 HIn.out).mono ?_;rintro e w' ⟨ix,rfl,hix,rfl⟩)
      |(go_at_call 189;refine(skip_any B rb s q _ (hr.drewN _) hB).mono ?_;rintro e w1 ⟨rfl,hr1,hk1⟩;have bx1:=hk1.at hbx (by decide);rw[HSk.out]at hr1;have hown2:=hk1.owns hown (by decide);have sz2:=lt_of_block bx1)
      |(at_builtin;refine wpList_append_own _ rfl _ _ 50 rfl w.heap.size 5 i0 (.int .u8 0) 1 1 underlying50 hi hz0 hz1 hz2 rfl (by decide) _ _ _ rfl (hown2.alloc _) ⟨w1.heap.size,0,none⟩ 1 1 [.int .u8 (qAC s q)] rfl rfl (fun j u hj=>by match j,hj with|0,hj=>(simp at hj;subst hj;simp[Addr.add])) (by intro u hu;simp at hu;subst hu;rfl) (by unfold maxLen;omega) (by omega) (by simp;omega) ?_;intro v1 w5 hown5 hgrow5 _))
     have KA:=((hk.trans hk1.fromDrewN).alloc _).grownNew hgrow5 (fun k e=>(hown2.lt k e).1);have NB:∀{c:Array Value}{ty:TypeId}{k:Nat},w1.heap[k]? = some (.cells c ty (0,0))->ty≠5->w5.heap[k]? = some (.cells c ty (0,0)):=fun hb hty=>qA1 (hown2.alloc _) hgrow5 (qAG hb _) hty;have R5:Rd w5 rb s (q+1):=⟨NB hr1.1 (by decide),hr1.2,hr1.3⟩;have B5:=NB bx1 (by decide);have O5:w5.ownsRow w.heap.size 5 1 v1 (acc++[(qAC s q).toNat.toUInt8]).length (u8s (acc++[(qAC s q).toNat.toUInt8])):=by
      rw[qN9,qKx hbd.1 hbd.2];simpa using hown5
     clear hown5 hgrow5 hown2 NB;go_roundw
     case rel =>
      exact⟨_,f,_,R5,by omega,by omega,by simp;omega,O5,B5,qAF HE.out.symm,KA⟩
     case measure=>rw[R5.placeOf,hr.placeOf];omega
   ·have HE:Hid (qAU s t.data.toList p=(q,some acc)):=by rw[<-HQ.out,qB3,if_pos (.inr hin)];rfl
    have HIn:=qAF hin;have hcv:∀n,(convert 50 9 u6).run prog (wr.drewN n)=.ok (.string ⟨acc.toArray⟩) (wr.drewN n):=fun n=>qJu hown;clear hz hbx hown hgr hg hin;go_wp2_with (first|(go_at_call 144;refine(qAL rb s q _ hr).mono ?_;rintro e w' ⟨rfl,nq,rfl⟩)|(go_at_call 218;refine(qFe _ _ _ hbd.1 hbd.2 HIn.out).mono ?_;rintro e w' ⟨ix,rfl,hix,rfl⟩))
    go_ret2
    rw[HE.out];exact⟨_,_,rfl,hr.drewN _,hk.drewN _,.inl ⟨by simp,rfl⟩⟩
theorem qHF(s:ByteArray)(ends:List UInt8):∀f p acc,p<=s.size->p<=(qB3 s ends f p acc).1/\(qB3 s ends f p acc).1<=s.size
 |0,p,acc,h=>⟨Nat.le_refl _,h⟩
 | f + 1, p, acc, h => by
  rw[qB3];split
  ·exact⟨Nat.le_refl _,h⟩
  ·rename_i hn;have hlt:p<s.size:=qAX (fun e=>hn (.inl e));split
   ·have h1:=qKF s (p+1) hlt refsL;have h2:p+1<=(qFu s (p+1)).1/\(qFu s (p+1)).1<=s.size:=h1;split
    ·have:=qHF s ends f (qFu s (p+1)).1 (acc++[(‹Int›).toNat.toUInt8]) h2.2;omega
    ·dsimp only;omega
   ·have:=qHF s ends f (p+1) (acc++[(qAC s p).toNat.toUInt8]) hlt;omega
theorem qDe(s:ByteArray)(ends:List UInt8)(p:Nat)(h:p<=s.size):p<=(qAU s ends p).1/\(qAU s ends p).1<=s.size:=qHF s ends _ p [] h
def qBW(s:ByteArray)(p:Nat):Nat×Option (List UInt8) :=
 if (qAo s [34] p).2=false then((qAo s [34] p).1,none)
 else match (qAU s [60,34] (qAo s [34] p).1).2 with
  |none=>((qAU s [60,34] (qAo s [34] p).1).1,none)
  |some m=>((qAo s [34] (qAU s [60,34] (qAo s [34] p).1).1).1,if (qAo s [34] (qAU s [60,34] (qAo s [34] p).1).1).2=true then some m else none)
theorem qR2(s:ByteArray)(p:Nat)(h:p<=s.size):p<=(qBW s p).1/\(qBW s p).1<=s.size:=by
 have h1:=qBi s [34] p h;have h2:=qDe s [60,34] _ h1.2;have h3:=qBi s [34] _ h2.2;unfold qBW;split
 ·exact h1
 ·split<;>dsimp only<;>omega
theorem qL5(B rb bb:Nat)(s:ByteArray)(p:Nat)(w:World)(h:Rd w rb s p)(hB:B<=rb)(hg:Gl w)(hB0:1<B) :
  Calls prog 264 #[.agg #[.pointer (some ⟨rb,0,none⟩),.pointer (some ⟨bb,0,none⟩)]] w fun e w'=>∃(m:ByteArray)(v:Value),e=.returned (.tuple #[.string m,v]) /\
   Rd w' rb s (qBW s p).1/\Kp B [210] w w'/\((some m.data.toList=(qBW s p).2/\v=.nilIface)\/((qBW s p).2=none/\∃n,Chain w' 2 (qBW s p).1 n v)):=by
 cases h1:(qAo s [34] p).2
 ·have HE:Hid (qBW s p=((qAo s [34] p).1,none)):=by unfold qBW;rw[if_pos h1];rfl
  have H1:=qAF h1;clear h1;go_enter func264,ntmps264
  go_wp2_with (go_at_call 188;refine(qAw B rb s ⟨#[34]⟩ p _ (h.alloc _) hB (by decide)).mono ?_;rintro e w1 ⟨v,rfl,hr1,hk1,hor⟩;rcases hor with⟨ho,_⟩|⟨_,hc⟩;(exact absurd (ho.symm.trans H1.out) (by decide));obtain⟨ty,kk,hv⟩:=hc.shape;rw[hv]at hc ⊢)
  go_ret2
  rw[HE.out];exact⟨_,_,rfl,hr1,((Kp.refl _ _ _).alloc _).trans hk1,.inr ⟨rfl,0,hc⟩⟩
 ·have H1:=qAF h1;cases h2:(qAU s [60,34] (qAo s [34] p).1).2 with
  | none =>
   have HE:Hid (qBW s p=((qAU s [60,34] (qAo s [34] p).1).1,none)):=by unfold qBW;rw[if_neg (by rw[h1];exact Bool.noConfusion),h2];rfl
   have H2:=qAF h2;clear h1 h2;go_enter func264,ntmps264
   go_wp2_with (first
    |(go_at_call 188;refine(qAw B rb s ⟨#[34]⟩ p _ (h.alloc _) hB (by decide)).mono ?_;rintro e w1 ⟨v,rfl,hr1,hk1,hor⟩;rcases hor with⟨_,rfl⟩|⟨ho,_⟩;rotate_left;(exact absurd (ho.symm.trans H1.out) (by decide));have bx1:=hk1.at (qAE w _) (by decide);have c0:=qAJ bx1;have c1:=qAS bx1)
    |(go_at_call 185;refine(qC0 B rb bb s ⟨#[60,34]⟩ (qAo s [34] p).1 _ hr1 hB ((hg.alloc _).kept hk1 hB0) hB0).mono ?_;rintro e w2 ⟨m,v,rfl,hr2,hk2,hor⟩;rcases hor with⟨ho,_⟩|⟨_,hc⟩;(exact absurd (ho.trans H2.out) (by simp));obtain⟨ty,kk,hv⟩:=hc.shape;rw[hv]at hc ⊢))
   go_ret2
   rw[HE.out];exact⟨_,_,rfl,hr2,(((Kp.refl _ _ _).alloc _).trans hk1).trans hk2,.inr ⟨rfl,1,hc⟩⟩
  | some m =>
   have HE:Hid (qBW s p=((qAo s [34] (qAU s [60,34] (qAo s [34] p).1).1).1,if (qAo s [34] (qAU s [60,34] (qAo s [34] p).1).1).2=true then some m else none)):=by unfold qBW;rw[if_neg (by rw[h1];exact Bool.noConfusion),h2];rfl
   have H2:=qAF h2;clear h1 h2;go_enter func264,ntmps264
   go_wp2_with fail
   refine(qAw B rb s ⟨#[34]⟩ p _ (h.alloc _) hB (by decide)).mono ?_;rintro e w1⟨v,rfl,hr1,hk1,hor⟩;rcases hor with⟨_,rfl⟩|⟨ho,_⟩;rotate_left
   ·exact absurd (ho.symm.trans H1.out) (by decide)
   have bx1:=hk1.at (qAE w _) (by decide);have c0:=qAJ bx1;have c1:=qAS bx1;go_wp2_with fail
   refine(qC0 B rb bb s ⟨#[60,34]⟩ (qAo s [34] p).1 _ hr1 hB ((hg.alloc _).kept hk1 hB0) hB0).mono ?_;rintro e w2⟨m2,v,rfl,hr2,hk2,hor⟩;rcases hor with⟨ho,rfl⟩|⟨ho,_⟩;rotate_left
   ·exact absurd (ho.symm.trans H2.out) (by simp)
   have bx2:=hk2.at bx1 (by decide);have d0:=qAJ bx2;have HM:=qAF (Option.some.inj (ho.trans H2.out));clear ho;go_wp2_with fail
   refine(qAw B rb s ⟨#[34]⟩ (qAU s [60,34] (qAo s [34] p).1).1 _ hr2 hB (by decide)).mono ?_;rintro e w3⟨v,rfl,hr3,hk3,hor⟩;have KK:=((((Kp.refl _ _ _).alloc _).trans hk1).trans hk2).trans hk3;rcases hor with⟨ho,rfl⟩|⟨ho,hc⟩
   ·have HO:=qAF ho;clear ho;go_wp2
    go_ret2
    rw[HE.out];refine⟨_,_,rfl,hr3,KK,.inl ⟨?_,rfl⟩⟩;rw[if_pos HO.out,<-HM.out]
   ·have HO:=qAF ho;obtain⟨ty,kk,hv⟩:=hc.shape;rw[hv]at hc ⊢;clear ho;go_wp2
    go_ret2
    rw[HE.out];exact⟨_,_,rfl,hr3,KK,.inr ⟨by rw[if_neg];rw[HO.out];exact Bool.noConfusion,0,hc⟩⟩
theorem qBA{w:World}{base:Nat}{e:TypeId}{size:Nat}{v:Value}{n:Nat}{xs:List Value}(h:w.ownsRow base e size v n xs):∃ao c,v=.slice ao n c:=by
 rcases h.2 with⟨hv,h0⟩|⟨g,cap,cur,hv,_⟩
 ·exact⟨none,0,by rw[hv,h0]⟩
 ·exact⟨_,_,hv⟩
theorem qFl{s:ByteArray}{p:Nat}{t:ByteArray->Bool}{n:ByteArray}(hp:p<=s.size)(h:(qBQ s p t).2=some n):n.size<=16:=by
 have hs:=qCV hp;have hl:=qCW hp;unfold qBQ at h;split at h
 ·cases h
 ·split at h
  ·cases h
  ·split at h
   ·cases h
   ·cases h;omega
theorem fin2{w:World}{b:Nat}{x y:Value}{t:TypeId}(rs:w.heap[b]? = some (.cells #[x,y] t (0,0)))(a c:Value) :
  ((w.setCell ⟨b,0,none⟩ a).setCell ⟨b,1,none⟩ c).heap[b]? = some (.cells #[a,c] t (0,0))/\Kp 0 [t] w ((w.setCell ⟨b,0,none⟩ a).setCell ⟨b,1,none⟩ c):=by
 have h1:=qAZ (o:=0) rs a;exact⟨qAZ (o:=1) h1 c,(Kp.setAny (p:=⟨b,0,none⟩) rs a).trans (Kp.setAny (p:=⟨b,1,none⟩) h1 c)⟩
def qBk(s:ByteArray)(p:Nat)(l:List (ByteArray×ByteArray)):Nat×Option (ByteArray×ByteArray) :=
 match (qBQ s p (hasN l)).2 with
 |none=>((qBQ s p (hasN l)).1,none)
 | some n =>
  if qAC s (qBQ s p (hasN l)).1=61 then
   match (qBW s ((qBQ s p (hasN l)).1+1)).2 with
   |none=>((qBW s ((qBQ s p (hasN l)).1+1)).1,none)
   |some m=>((qBW s ((qBQ s p (hasN l)).1+1)).1,some (n,⟨m.toArray⟩))
  else((qBQ s p (hasN l)).1,some (n,⟨#[]⟩))
theorem qHB(s:ByteArray)(p:Nat)(l:List (ByteArray×ByteArray))(h:p<=s.size):p<=(qBk s p l).1/\(qBk s p l).1<=s.size:=by
 have h1:=qCX s p (hasN l) h;unfold qBk;split
 ·exact h1
 ·split
  ·rename_i hp;have h2:(qBQ s p (hasN l)).1<s.size:=qAX (by omega);have h3:=qR2 s ((qBQ s p (hasN l)).1+1) h2;split<;>dsimp only<;>omega
  ·exact h1
theorem qFS(B rb bb:Nat)(s:ByteArray)(p:Nat)(l:List (ByteArray×ByteArray))(bv:Value)(w:World)(h:Rd w rb s p)(hB:B<=rb)(hg:Gl w)(hB0:1<B)
  (ho:w.ownsRow B 169 2 bv l.length (attrCells l)) (hll:l.length<=2000) :
  Calls prog 246 #[.agg #[.pointer (some ⟨rb,0,none⟩),.pointer (some ⟨bb,0,none⟩)],bv] w fun e w'=>∃(x:ByteArray×ByteArray)(v:Value),e=.returned (.tuple #[.agg #[.string x.1,.string x.2],v]) /\
   Rd w' rb s (qBk s p l).1/\Kp B [210] w w'/\((some x=(qBk s p l).2/\v=.nilIface)\/((qBk s p l).2=none/\∃n,Chain w' 2 (qBk s p l).1 n v)):=by
 obtain⟨ao,cap,hbv⟩:=qBA ho;subst hbv;have h4:=h.le;cases h1:(qBQ s p (hasN l)).2 with
 |none =>
  have HE:Hid (qBk s p l=((qBQ s p (hasN l)).1,none)):=by unfold qBk;rw[h1];rfl
  have H1:=qAF h1;clear h1;go_enter func246,ntmps246
  go_wp2_with fail
  refine(qDi B rb s p (w.heap.size+1) l (.slice ao l.length cap) _ (((h.alloc _).alloc _).alloc _) hB (qAG (qAm _ (by simp)) _) (((ho.alloc _).alloc _).alloc _) hll).mono ?_;rintro e w1⟨n1,v,rfl,hr1,hk1,hor⟩;rcases hor with⟨hx,_⟩|⟨_,hc⟩
  ·exact absurd (hx.trans H1.out) (by simp)
  obtain⟨ty,kk,hv⟩:=hc.shape;rw[hv]at hc ⊢;have rs1:=hk1.at (qAm (n:=w.heap.size+1+1) _ (by simp)) (by decide);go_wp2_with fail
  refine(qA9 B [] _ _ _ _ _ _ hc).mono ?_;rintro e w3⟨u,rfl,hc3,hk3⟩;have rs3:=hk3.at rs1 (by simp);have q0:=qAJ rs3;have q1:=qAS rs3;have f0:=qAd (o:=0) rs3;have f1:=qAd (o:=1) rs3;go_wp2
  obtain⟨rsF,kpF⟩:=fin2 rs3 (.string ⟨#[]⟩) (.string ⟨#[]⟩);refine bodyPost_ret (v:=.tuple #[.agg #[.string ⟨#[]⟩,.string ⟨#[]⟩],u]) (by simp[results,Tryz.results246,go_sem,q0,q1]) rfl ?_;rw[HE.out];exact⟨(⟨#[]⟩,⟨#[]⟩),u,rfl,(hr1.kept hk3 (by simp)).kept kpF (by decide),(((((((Kp.refl _ _ _).alloc _).alloc _).alloc _).trans hk1).trans (hk3.mono (Nat.le_refl _) (by simp))).setNew (by show w.heap.size<=w.heap.size+1+1;omega) _).setNew (by show w.heap.size<=w.heap.size+1+1;omega) _,.inr ⟨rfl,_,hc3.kept kpF (by decide) (by decide)⟩⟩
 | some n =>
  have hn16:=qFl h4 h1;have hle:=qCX s p (hasN l) h4;have H1:=qAF h1;by_cases h2:qAC s (qBQ s p (hasN l)).1=61
  ·have H2:=qAF h2;cases h3:(qBW s ((qBQ s p (hasN l)).1+1)).2 with
   |none =>
    have HE:Hid (qBk s p l=((qBW s ((qBQ s p (hasN l)).1+1)).1,none)):=by unfold qBk;rw[h1];dsimp only;rw[if_pos h2,h3];rfl
    have H3:=qAF h3;clear h1 h2 h3;go_enter func246,ntmps246
    go_wp2_with fail
    refine(qDi B rb s p (w.heap.size+1) l (.slice ao l.length cap) _ (((h.alloc _).alloc _).alloc _) hB (qAG (qAm _ (by simp)) _) (((ho.alloc _).alloc _).alloc _) hll).mono ?_;rintro e w1⟨n1,v,rfl,hr1,hk1,hor⟩;rcases hor with⟨hx,rfl⟩|⟨hx,_⟩;rotate_left
    ·exact absurd (hx.symm.trans H1.out) (by simp)
    have hx2:=Option.some.inj (hx.trans H1.out);clear hx;subst hx2;have rs1:=hk1.at (qAm (n:=w.heap.size+1+1) _ (by simp)) (by decide);have bx1:=hk1.at (qAG (qAG (qAm (n:=w.heap.size) _ rfl) _) _) (by decide);have gl1:=(((hg.alloc _).alloc _).alloc _).kept hk1 hB0;have c0:=qAJ bx1;go_wp2_with fail
    refine(qBU B rb s _ 61 _ hr1 hB (by decide) H2.out).mono ?_;rintro e w2⟨rfl,hr2,hk2⟩;have rs2:=hk2.at rs1 (by decide);have bx2:=hk2.at bx1 (by decide);have d0:=qAJ bx2;have d1:=qAS bx2;go_wp2_with fail
    refine(qL5 B rb bb s _ _ hr2 hB (gl1.kept hk2 hB0) hB0).mono ?_;rintro e w3⟨m3,v,rfl,hr3,hk3,hor⟩;rcases hor with⟨hx,_⟩|⟨_,nn,hc⟩
    ·exact absurd (hx.trans H3.out) (by simp)
    obtain⟨ty,kk,hv⟩:=hc.shape;rw[hv]at hc ⊢;have rs3:=hk3.at rs2 (by decide);go_wp2_with fail
    refine(qA9 B [] _ _ _ _ _ _ hc).mono ?_;rintro e w4⟨u,rfl,hc4,hk4⟩;have rs4:=hk4.at rs3 (by simp);have q0:=qAJ rs4;have q1:=qAS rs4;have f0:=qAd (o:=0) rs4;have f1:=qAd (o:=1) rs4;go_wp2
    obtain⟨rsF,kpF⟩:=fin2 rs4 (.string ⟨#[]⟩) (.string ⟨#[]⟩);refine bodyPost_ret (v:=.tuple #[.agg #[.string ⟨#[]⟩,.string ⟨#[]⟩],u]) (by simp[results,Tryz.results246,go_sem,q0,q1]) rfl ?_;rw[HE.out];exact⟨(⟨#[]⟩,⟨#[]⟩),u,rfl,(hr3.kept hk4 (by simp)).kept kpF (by decide),(((((((((Kp.refl _ _ _).alloc _).alloc _).alloc _).trans hk1).trans hk2).trans hk3).trans (hk4.mono (Nat.le_refl _) (by simp))).setNew (by show w.heap.size<=w.heap.size+1+1;omega) _).setNew (by show w.heap.size<=w.heap.size+1+1;omega) _,.inr ⟨rfl,_,hc4.kept kpF (by decide) (by decide)⟩⟩
   |some m =>
    have HE:Hid (qBk s p l=((qBW s ((qBQ s p (hasN l)).1+1)).1,some (n,⟨m.toArray⟩))):=by unfold qBk;rw[h1];dsimp only;rw[if_pos h2,h3];rfl
    have H3:=qAF h3;clear h1 h2 h3;go_enter func246,ntmps246
    go_wp2_with fail
    refine(qDi B rb s p (w.heap.size+1) l (.slice ao l.length cap) _ (((h.alloc _).alloc _).alloc _) hB (qAG (qAm _ (by simp)) _) (((ho.alloc _).alloc _).alloc _) hll).mono ?_;rintro e w1⟨n1,v,rfl,hr1,hk1,hor⟩;rcases hor with⟨hx,rfl⟩|⟨hx,_⟩;rotate_left
    ·exact absurd (hx.symm.trans H1.out) (by simp)
    have hx2:=Option.some.inj (hx.trans H1.out);clear hx;subst hx2;have rs1:=hk1.at (qAm (n:=w.heap.size+1+1) _ (by simp)) (by decide);have bx1:=hk1.at (qAG (qAG (qAm (n:=w.heap.size) _ rfl) _) _) (by decide);have gl1:=(((hg.alloc _).alloc _).alloc _).kept hk1 hB0;have c0:=qAJ bx1;go_wp2_with fail
    refine(qBU B rb s _ 61 _ hr1 hB (by decide) H2.out).mono ?_;rintro e w2⟨rfl,hr2,hk2⟩;have rs2:=hk2.at rs1 (by decide);have bx2:=hk2.at bx1 (by decide);have d0:=qAJ bx2;have d1:=qAS bx2;go_wp2_with fail
    refine(qL5 B rb bb s _ _ hr2 hB (gl1.kept hk2 hB0) hB0).mono ?_;rintro e w3⟨m3,v,rfl,hr3,hk3,hor⟩;rcases hor with⟨hx,rfl⟩|⟨hx,_⟩;rotate_left
    ·exact absurd (hx.symm.trans H3.out) (by simp)
    have hx2:m3=⟨m.toArray⟩:=by rw[<-Option.some.inj (hx.trans H3.out)]
    have HX:=qAF hx2;clear hx hx2;have rs3:=hk3.at rs2 (by decide);have q0:=qAJ rs3;have q1:=qAS rs3;have f0:=qAd (o:=0) rs3;have f1:=qAd (o:=1) rs3;go_wp2
    obtain⟨rsF,kpF⟩:=fin2 rs3 (.string n1) (.string m3);refine bodyPost_ret (v:=.tuple #[.agg #[.string n1,.string m3],.nilIface]) (by simp[results,Tryz.results246,go_sem,q0,q1]) rfl ?_;rw[HE.out];exact⟨(n1,m3),.nilIface,rfl,hr3.kept kpF (by decide),((((((((Kp.refl _ _ _).alloc _).alloc _).alloc _).trans hk1).trans hk2).trans hk3).setNew (by show w.heap.size<=w.heap.size+1+1;omega) _).setNew (by show w.heap.size<=w.heap.size+1+1;omega) _,.inl ⟨by rw[HX.out],rfl⟩⟩
  ·have HE:Hid (qBk s p l=((qBQ s p (hasN l)).1,some (n,⟨#[]⟩))):=by unfold qBk;rw[h1];dsimp only;rw[if_neg h2];rfl
   have H2:=qAF h2;clear h1 h2;go_enter func246,ntmps246
   go_wp2_with fail
   refine(qDi B rb s p (w.heap.size+1) l (.slice ao l.length cap) _ (((h.alloc _).alloc _).alloc _) hB (qAG (qAm _ (by simp)) _) (((ho.alloc _).alloc _).alloc _) hll).mono ?_;rintro e w1⟨n1,v,rfl,hr1,hk1,hor⟩;rcases hor with⟨hx,rfl⟩|⟨hx,_⟩;rotate_left
   ·exact absurd (hx.symm.trans H1.out) (by simp)
   have hx2:=Option.some.inj (hx.trans H1.out);clear hx;subst hx2;have rs1:=hk1.at (qAm (n:=w.heap.size+1+1) _ (by simp)) (by decide);have bx1:=hk1.at (qAG (qAG (qAm (n:=w.heap.size) _ rfl) _) _) (by decide);have c0:=qAJ bx1;go_wp2_with fail
   refine(qBm B rb s _ 61 _ hr1 (.inr H2.out)).mono ?_;rintro e w2⟨rfl,hr2,hk2⟩;have rs2:=hk2.at rs1 (by decide);have q0:=qAJ rs2;have q1:=qAS rs2;have f0:=qAd (o:=0) rs2;have f1:=qAd (o:=1) rs2;go_wp2
   obtain⟨rsF,kpF⟩:=fin2 rs2 (.string n1) (.string ⟨#[]⟩);refine bodyPost_ret (v:=.tuple #[.agg #[.string n1,.string ⟨#[]⟩],.nilIface]) (by simp[results,Tryz.results246,go_sem,q0,q1]) rfl ?_;rw[HE.out];exact⟨(n1,⟨#[]⟩),.nilIface,rfl,hr2.kept kpF (by decide),(((((((Kp.refl _ _ _).alloc _).alloc _).alloc _).trans hk1).trans hk2).setNew (by show w.heap.size<=w.heap.size+1+1;omega) _).setNew (by show w.heap.size<=w.heap.size+1+1;omega) _,.inl ⟨rfl,rfl⟩⟩
theorem qCg{w:World}{B B':Nat}{e:TypeId}{size:Nat}{v:Value}{n:Nat}{xs:List Value}(h:w.ownsRow B' e size v n xs)(hB:B<=B'):w.ownsRow B e size v n xs:=by
 obtain⟨h1,h2⟩:=h;refine⟨h1,?_⟩;rcases h2 with h2|⟨g,cap,cur,hv,hg,r⟩
 ·exact .inl h2
 ·exact .inr ⟨g,cap,cur,hv,by omega,r⟩
theorem qCL{w:World}{n:Nat}(cs:Array Value)(t:TypeId)(hn:n=w.heap.size):∀j u,cs.toList[j]? = some u->(w.alloc (.cells cs t)).cell? ((⟨n,0,none⟩:Addr).add j)=some u:=by
 intro j u hj;have hb:(w.alloc (.cells cs t)).heap[n]? = some (.cells cs t (0,0)):=qAm _ hn;rw[qJZ,Nat.zero_add];simp only[World.cell?,hb];simpa using hj
theorem Tryz.infoAttr:(prog.info? 169).map (fun i=>(i.zero,i.size,i.bytes))=some (some (.agg #[.string ⟨#[]⟩,.string ⟨#[]⟩]),2,32):=by kernel_rfl
theorem qIa(l:List (ByteArray×ByteArray))(x:ByteArray×ByteArray):attrCells (l++[x])=attrCells l++[.string x.1,.string x.2]:=by
 induction l with
 |nil=>rfl
 |cons y r ih=>simp[attrCells,ih]
def qBc(s:ByteArray):Nat->Nat->List (ByteArray×ByteArray)->Nat×Option (List (ByteArray×ByteArray))
 |0,p,_=>(p,none)
 | f + 1, p, l =>
  if p<qBM qAV s p/\qAC s (qBM qAV s p)≠47/\qAC s (qBM qAV s p)≠62 then
   match (qBk s (qBM qAV s p) l).2 with
   |none=>((qBk s (qBM qAV s p) l).1,none)
   |some x=>qBc s f (qBk s (qBM qAV s p) l).1 (l++[x])
  else(qBM qAV s p,some l)
def qAK(s:ByteArray)(p:Nat):Nat×Option (List (ByteArray×ByteArray)):=qBc s (s.size+1) p []
theorem qEn{f:Int->Bool}(h0:f 0=false){s:ByteArray}{p:Nat}(h:p<=s.size):p<=qBM f s p/\qBM f s p<=s.size:=by
 have:=qC5 f h0 s (s.size-p) p h;exact⟨this.1,this.2.1⟩
theorem qKp(s:ByteArray):∀f p l,p<=s.size->p<=(qBc s f p l).1/\(qBc s f p l).1<=s.size
 |0,p,l,h=>⟨Nat.le_refl _,h⟩
 | f + 1, p, l, h => by
  have h1:=qEn (f:=qAV) (by decide) h;have h2:=qHB s (qBM qAV s p) l h1.2;rw[qBc];split
  ·split
   ·dsimp only;omega
   ·have:=qKp s f (qBk s (qBM qAV s p) l).1 (l++[‹ByteArray×ByteArray›]) h2.2;omega
  ·exact h1
theorem qEu(s:ByteArray)(p:Nat)(h:p<=s.size):p<=(qAK s p).1/\(qAK s p).1<=s.size:=qKp s _ p [] h
theorem qEv(B rb bb:Nat)(s:ByteArray)(p:Nat)(w:World)(h:Rd w rb s p)(hB:B<=rb)(hg:Gl w)(hB0:1<B) :
  Calls prog 223 #[.agg #[.pointer (some ⟨rb,0,none⟩),.pointer (some ⟨bb,0,none⟩)]] w fun e w'=>∃(av v:Value),e=.returned (.tuple #[av,v]) /\
   Rd w' rb s (qAK s p).1/\Kp B [210] w w'/\((∃l,(qAK s p).2=some l/\l.length<=s.size/\w'.ownsRow w.heap.size 169 2 av l.length (attrCells l)/\v=.nilIface)\/((qAK s p).2=none/\∃n,Chain w' 2 (qAK s p).1 n v)):=by
 have h5:=h.max;have h4:=h.le;have hsz:B<=w.heap.size:=by have:=lt_of_block h.1;omega
 obtain⟨i0,hi,hz0,hz1,hz2⟩:=info_parts Tryz.infoAttr;go_enter func223,ntmps223
 go_wp2
 go_loopw [4] (fun v wr=>∃(q f:Nat)(l:List (ByteArray×ByteArray)),Rd wr rb s q/\p<=q/\s.size<q+f/\l.length<=q/\wr.ownsRow w.heap.size 169 2 v l.length (attrCells l)/\wr.heap[w.heap.size]? = some (.cells #[.pointer (some ⟨rb,0,none⟩),.pointer (some ⟨bb,0,none⟩)] 163 (0,0))/\Hid (qBc s f q l=qAK s p)/\Kp B [210] w wr) (fun _ wr=>s.size-placeOf wr rb)
 case atStart=>exact⟨p,s.size+1,[],h.alloc _,Nat.le_refl _,by omega,Nat.zero_le _,World.ownsRow_nil _ _ _ _,qAE _ _,rfl,(Kp.refl _ _ _).alloc _⟩
 case round =>
  obtain⟨q,f,l,hr,hpq,hf,hlq,hown,hbx,HQ,hk⟩:=hrel;have b0:=qAJ hbx;have hgr:=hg.kept hk hB0;have g4:=hr.le;obtain⟨f,rfl⟩:∃f',f=f'+1:=⟨f-1,by omega⟩;have hle:=qEn (f:=qAV) (by decide) g4;by_cases hs:q<qBM qAV s q
  ·have hs':decide (q<qBM qAV s q)=true:=by simp[hs]
   generalize hq2:qBM qAV s q=q2 at *;by_cases h47:qAC s q2=47
   ·have HE:Hid (qAK s p=(q2,some l)):=by rw[<-HQ.out,qBc,hq2,if_neg (by rw[h47];simp)];rfl
    have h47':(qAC s q2 != 47)=false:=by simp[h47]
    have HQ2:=qAF hq2;clear hq2 h47 hg hgr;go_wp2_with (first
     |(go_at_call 127;refine(qAt B rb s q _ hr hB).mono ?_;rintro e w1 ⟨rfl,hr1,hk1⟩;rw[HQ2.out]at hr1 ⊢;have bx1:=hk1.at hbx (by decide);have c0:=qAJ bx1)
     |(go_at_call 144;refine(qAL rb s q2 _ hr1).mono ?_;rintro e w2 ⟨rfl,nq,rfl⟩))
    go_ret2
    rw[HE.out];exact⟨_,_,rfl,hr1.drewN _,(hk.trans hk1).drewN _,.inl ⟨l,rfl,by omega,hk1.owns hown (by decide),rfl⟩⟩
   ·have h47':(qAC s q2 != 47)=true:=by simp[h47]
    by_cases h62:qAC s q2=62
    ·have HE:Hid (qAK s p=(q2,some l)):=by rw[<-HQ.out,qBc,hq2,if_neg (by rw[h62];simp)];rfl
     have h62':(qAC s q2 != 62)=false:=by simp[h62]
     have HQ2:=qAF hq2;clear hq2 h47 h62 hg hgr;go_wp2_with fail
     refine(qAt B rb s q _ hr hB).mono ?_;rintro e w1⟨rfl,hr1,hk1⟩;rw[HQ2.out]at hr1 ⊢;have bx1:=hk1.at hbx (by decide);have c0:=qAJ bx1;go_wp2_with fail
     refine(qAL rb s q2 _ hr1).mono ?_;rintro e w2⟨rfl,nq,rfl⟩;go_wp2_with fail
     refine(qAL rb s q2 _ (hr1.drewN _)).mono ?_;rintro e w3⟨rfl,nq3,rfl⟩;go_wp2
     go_ret2
     rw[HE.out];exact⟨_,_,rfl,hr1.drewN _,(hk.trans hk1).drewN _,.inl ⟨l,rfl,by omega,hk1.owns hown (by decide),rfl⟩⟩
    ·have h62':(qAC s q2 != 62)=true:=by simp[h62]
     have hyes:q<qBM qAV s q/\qAC s (qBM qAV s q)≠47/\qAC s (qBM qAV s q)≠62:=by rw[hq2];exact⟨hs,h47,h62⟩
     have hale:=qHB s q2 l hle.2;cases ha:(qBk s q2 l).2 with
     |none =>
      have HE:Hid (qAK s p=((qBk s q2 l).1,none)):=by rw[<-HQ.out,qBc,if_pos hyes,hq2,ha];rfl
      have HA:=qAF ha;have HQ2:=qAF hq2;clear hq2 h47 h62 hg ha hyes;go_wp2_with fail
      refine(qAt B rb s q _ hr hB).mono ?_;rintro e w1⟨rfl,hr1,hk1⟩;rw[HQ2.out]at hr1 ⊢;have bx1:=hk1.at hbx (by decide);have c0:=qAJ bx1;have c1:=qAS bx1;have own1:=hk1.owns hown (by decide);go_wp2_with fail
      refine(qAL rb s q2 _ hr1).mono ?_;rintro e w2⟨rfl,nq,rfl⟩;go_wp2_with fail
      refine(qAL rb s q2 _ (hr1.drewN _)).mono ?_;rintro e w3⟨rfl,nq3,rfl⟩;go_wp2_with fail
      refine(qFS B rb bb s q2 l _ _ (hr1.drewN _) hB ((hgr.kept hk1 hB0).drewN _) hB0 (qCg own1 hsz) (by omega)).mono ?_;rintro e w4⟨x,v,rfl,hr4,hk4,hor⟩;rcases hor with⟨hx,_⟩|⟨_,nn,hc⟩
      ·exact absurd (hx.trans HA.out) (by simp)
      obtain⟨ty,kk,hv⟩:=hc.shape;rw[hv]at hc ⊢;go_wp2_with fail
      refine(qA9 B [] _ _ _ _ _ _ (hc.alloc _)).mono ?_;rintro e w5⟨u,rfl,hc5,hk5⟩;go_wp2
      go_ret2
      rw[HE.out];exact⟨_,_,rfl,(hr4.alloc _).kept hk5 (by simp),(((hk.trans hk1).trans hk4.fromDrewN).alloc _).trans (hk5.mono (Nat.le_refl _) (by simp)),.inr ⟨rfl,_,hc5⟩⟩
     | some x =>
      have HE:Hid (qAK s p=qBc s f (qBk s q2 l).1 (l++[x])):=by rw[<-HQ.out,qBc,if_pos hyes,hq2,ha];rfl
      have HA:=qAF ha;have HQ2:=qAF hq2;clear hq2 h47 h62 hg ha hyes;go_wp2_with fail
      refine(qAt B rb s q _ hr hB).mono ?_;rintro e w1⟨rfl,hr1,hk1⟩;rw[HQ2.out]at hr1 ⊢;have bx1:=hk1.at hbx (by decide);have c0:=qAJ bx1;have c1:=qAS bx1;have own1:=hk1.owns hown (by decide);go_wp2_with fail
      refine(qAL rb s q2 _ hr1).mono ?_;rintro e w2⟨rfl,nq,rfl⟩;go_wp2_with fail
      refine(qAL rb s q2 _ (hr1.drewN _)).mono ?_;rintro e w3⟨rfl,nq3,rfl⟩;go_wp2_with fail
      refine(qFS B rb bb s q2 l _ _ (hr1.drewN _) hB ((hgr.kept hk1 hB0).drewN _) hB0 (qCg own1 hsz) (by omega)).mono ?_;rintro e w4⟨x2,v,rfl,hr4,hk4,hor⟩;rcases hor with⟨hx,rfl⟩|⟨hx,_⟩;rotate_left
      ·exact absurd (hx.symm.trans HA.out) (by simp)
      have hx2:=Option.some.inj (hx.trans HA.out);clear hx;subst hx2;have own4:=hk4.fromDrewN.owns own1 (by decide);have bx4:=hk4.fromDrewN.at bx1 (by decide);have sz4:=lt_of_block bx4;go_wp2_with (at_builtin;refine wpList_append_own _ rfl _ _ 137 rfl w.heap.size 169 i0 (.agg #[.string ⟨#[]⟩,.string ⟨#[]⟩]) 2 32 underlying137 hi hz0 hz1 hz2 rfl (by decide) _ _ _ rfl ((own4.alloc _).alloc _) ⟨w4.heap.size+1,0,none⟩ 1 1 [.string x2.1,.string x2.2] rfl rfl ?c1 ?c2 ?c3 ?c4 ?c5 ?_)
      case c1=>exact qCL #[.string x2.1,.string x2.2] 169 (by simp)
      case c2=>intro u hu;simp at hu;rcases hu with rfl|rfl<;>rfl
      case c3=>unfold maxLen;omega
      case c4=>omega
      case c5=>simp;omega
      intro v1 w5 hown5 hgrow5 _;have KA:=(((((hk.trans hk1).trans hk4.fromDrewN).alloc _).alloc _)).grownNew hgrow5 (fun k e=>(own4.lt k e).1);have NB:∀{c:Array Value}{ty:TypeId}{k:Nat},w4.heap[k]? = some (.cells c ty (0,0))->ty≠169->w5.heap[k]? = some (.cells c ty (0,0)):=fun hb hty=>qA1 ((own4.alloc _).alloc _) hgrow5 (qAG (qAG hb _) _) hty;have R5:Rd w5 rb s (qBk s q2 l).1:=⟨NB hr4.1 (by decide),hr4.2,hr4.3⟩;have B5:=NB bx4 (by decide);have O5:w5.ownsRow w.heap.size 169 2 v1 (l++[x2]).length (attrCells (l++[x2])):=by
       rw[qIa];simpa using hown5
      clear hown5 hgrow5 own4 NB;go_wp2
      go_roundw
      case rel=>exact⟨_,f,_,R5,by omega,by omega,by simp;omega,O5,B5,qAF HE.out.symm,KA⟩
      case measure=>rw[R5.placeOf,hr.placeOf];omega
  ·have hs':decide (q<qBM qAV s q)=false:=by simp;omega
   have HE:Hid (qAK s p=(qBM qAV s q,some l)):=by rw[<-HQ.out,qBc,if_neg (fun h=>hs h.1)];rfl
   clear hg hgr hs;go_wp2_with (go_at_call 127;refine(qAt B rb s q _ hr hB).mono ?_;rintro e w1 ⟨rfl,hr1,hk1⟩)
   go_ret2
   rw[HE.out];exact⟨_,_,rfl,hr1,hk.trans hk1,.inl ⟨l,rfl,by omega,hk1.owns hown (by decide),rfl⟩⟩
def comP(s:ByteArray):Nat->Nat->Nat×Bool
 |0,p=>(p,false)
 | f + 1, p =>
  if qAC s p=45 then
   if qAC s (p+1)=45 then qAo s [62] (p+2)
   else if qAC s (p+1)=0 then(p+1,false)else comP s f (p+2)
  else if qAC s p=0 then(p,false)else comP s f (p+1)
def qA6(s:ByteArray)(p:Nat):Nat×Bool :=
 if (qAo s [33,45,45] p).2=false then((qAo s [33,45,45] p).1,false)else comP s (s.size+1) (qAo s [33,45,45] p).1
theorem qME(s:ByteArray):∀f p,p<=s.size->p<=(comP s f p).1/\(comP s f p).1<=s.size
 |0,p,h=>⟨Nat.le_refl _,h⟩
 | f + 1, p, h => by
  rw[comP];split
  ·rename_i h1;have l1:p<s.size:=qAX (by omega);split
   ·rename_i h2;have l2:p+1<s.size:=qAX (by omega);have:=qBi s [62] (p+2) l2;omega
   ·split
    ·dsimp only;omega
    ·rename_i h3;have l2:p+1<s.size:=qAX h3;have:=qME s f (p+2) l2;omega
  ·split
   ·exact⟨Nat.le_refl _,h⟩
   ·rename_i h3;have l2:p<s.size:=qAX h3;have:=qME s f (p+1) l2;omega
theorem qHf(s:ByteArray)(p:Nat)(h:p<=s.size):p<=(qA6 s p).1/\(qA6 s p).1<=s.size:=by
 have h1:=qBi s [33,45,45] p h;unfold qA6;split
 ·exact h1
 ·have:=qME s (s.size+1) _ h1.2;omega
