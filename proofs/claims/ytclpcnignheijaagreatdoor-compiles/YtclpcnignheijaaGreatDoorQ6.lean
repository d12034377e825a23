/-
  PARTS OF THE PROOF OF THE LAW 'Compiles', joined into one text: R17, R18, R19, R20.
-/
import Derived.Test.YtclpcnignheijaaGreatDoorQ5
import Derived.Test.YtclpcnignheijaaGreatDoorR14
import Derived.Test.YtclpcnignheijaaGreatDoorR15
import Derived.Test.YtclpcnignheijaaGreatDoorR16
namespace Go.Proofs.YtclpcnignheijaaGreatDoor
open Go.RowKit

set_option maxHeartbeats 8000000 in
set_option maxRecDepth 100000 in
theorem rcompound_neither (B mb : Nat) (s : ByteArray) (n others p a m : Nat) (w : World) (h : Mk w mb s p false a m) (hB : B ≤ mb) (hat : atB (peekI s p) = false) (hln : letterB (peekI s p) = false) (h42 : peekI s p ≠ 42) :
    Calls Tryz.prog 141 #[.pointer (some ⟨mb, 0, none⟩), .int .i64 others] w (CompR B mb s n others p a m w) := by
  have h5 := h.max; have h6 := h.le
  have h0 := (h.alloc (.cells #[.int .u8 0, .string ⟨#[]⟩, .slice none 0 0] 102)).alloc (.cells #[.int .u8 0, .string ⟨#[]⟩, .slice none 0 0] 102)
  have rs0 := alloc_old (alloc_at w (.cells #[.int .u8 0, .string ⟨#[]⟩, .slice none 0 0] 102)) (.cells #[.int .u8 0, .string ⟨#[]⟩, .slice none 0 0] 102)
  have ns0 := alloc_at' (w := w.alloc (.cells #[.int .u8 0, .string ⟨#[]⟩, .slice none 0 0] 102)) (n := w.heap.size + 1) (.cells #[.int .u8 0, .string ⟨#[]⟩, .slice none 0 0] 102) (by simp)
  have hk0 := ((Kp.refl B [153] w).alloc (.cells #[.int .u8 0, .string ⟨#[]⟩, .slice none 0 0] 102)).alloc (.cells #[.int .u8 0, .string ⟨#[]⟩, .slice none 0 0] 102)
  have hz0 : ((w.alloc (.cells #[.int .u8 0, .string ⟨#[]⟩, .slice none 0 0] 102)).alloc (.cells #[.int .u8 0, .string ⟨#[]⟩, .slice none 0 0] 102)).heap.size = w.heap.size + 2 := by simp
  have HE : Hid (compoundP (listP s n) s p = (p, none)) := by
    have e : headP s p = (p, none) := by
      unfold headP; rw [if_neg h42, if_neg (by rw [hat]; decide)]
      unfold newP; rw [if_pos hln]
    unfold compoundP; rw [e]; rfl
  obtain ⟨x35, x46, x91, x58⟩ := atB_no hat
  have HV : Hid (peekI s p = peekI s p) := rfl
  generalize hv : peekI s p = v at *
  have b35 : (v != 35) = true := by simpa using x35
  have b46 : (v != 46) = true := by simpa using x46
  have b91 : (v != 91) = true := by simpa using x91
  have b58 : (v != 58) = true := by simpa using x58
  have HLN := hide hln; have H42 := hide h42; have HVV := hide hv
  clear hat hln h42 hv x35 x46 x91 x58 HV
  unfold CompR
  go_enter Tryz.func141, Tryz.ntmps141
  go_wp2_with fail
  refine (next_is mb s p false a m _ v h0 (by rw [nextI_ok]; exact HVV.out)).mono ?_
  rintro e w1 ⟨rfl, n1, rfl⟩
  go_wp2_with fail
  refine (rletter_is v _ false HLN.out).mono ?_
  rintro e w1 ⟨rfl, rfl⟩
  go_wp2_with fail
  refine (is_no B mb s p false a m 42 _ (h0.drewN n1) (by rw [nextI_ok, HVV.out]; exact H42.out)).mono ?_
  rintro e w2 ⟨rfl, hm, hk2⟩
  have rs := hk2.at (k := w.heap.size) rs0 (by decide)
  have ns := hk2.at (k := w.heap.size + 1) ns0 (by decide)
  have hk := (hk0.drewN n1).trans hk2
  clear rs0 ns0 hk0 h0 hz0 hk2
  go_wp2
  go_loopw [9] (fun _ wr => wr = w2) (fun _ _ => 0)
  case atStart => rfl
  case round =>
    obtain rfl := hrel
    have d2 := hm.c2
    go_wp2_with fail
    refine (next_is mb s p false a m _ v hm (by rw [nextI_ok]; exact HVV.out)).mono ?_
    rintro e w1 ⟨rfl, n2, rfl⟩
    replace hm := hm.drewN n2
    replace rs : (wr.drewN n2).heap[w.heap.size]? = some (.cells #[.int .u8 0, .string ⟨#[]⟩, .slice none 0 0] 102 (0, 0)) := rs
    replace ns : (wr.drewN n2).heap[w.heap.size + 1]? = some (.cells #[.int .u8 0, .string ⟨#[]⟩, .slice none 0 0] 102 (0, 0)) := ns
    replace hk := hk.drewN n2
    clear d2
    generalize wr.drewN n2 = wx at *
    have d2 := hm.c2; have f2 := hm.free (o := 2); have hmb := lt_of_block hm.blk
    have hm3 := (hm.set2 true).alloc (.cells #[.int .u8 v, .string ⟨#[]⟩, .string ⟨#[]⟩, .string ⟨#[]⟩, .bool false, .int .i64 0, .int .i64 0, .string ⟨#[]⟩, .slice none 0 0] 104)
    have kp3 := hm.kp hk hB 2 (.bool true)
    have rsA := alloc_old (setCell_other (a := ⟨mb, 2, none⟩) rs (fun e => block_ne rs hm.blk (by decide) e) (.bool true)) (.cells #[.int .u8 v, .string ⟨#[]⟩, .string ⟨#[]⟩, .string ⟨#[]⟩, .bool false, .int .i64 0, .int .i64 0, .string ⟨#[]⟩, .slice none 0 0] 104)
    have nsA := alloc_old (setCell_other (a := ⟨mb, 2, none⟩) ns (fun e => block_ne ns hm.blk (by decide) e) (.bool true)) (.cells #[.int .u8 v, .string ⟨#[]⟩, .string ⟨#[]⟩, .string ⟨#[]⟩, .bool false, .int .i64 0, .int .i64 0, .string ⟨#[]⟩, .slice none 0 0] 104)
    have hkA := kp3.alloc (.cells #[.int .u8 v, .string ⟨#[]⟩, .string ⟨#[]⟩, .string ⟨#[]⟩, .bool false, .int .i64 0, .int .i64 0, .string ⟨#[]⟩, .slice none 0 0] 104)
    obtain ⟨c0, c1, c2⟩ := cell3 (alloc_old ns (.cells #[.int .u8 v, .string ⟨#[]⟩, .string ⟨#[]⟩, .string ⟨#[]⟩, .bool false, .int .i64 0, .int .i64 0, .string ⟨#[]⟩, .slice none 0 0] 104))
    obtain ⟨c0', c1', c2'⟩ := cell3 nsA
    obtain ⟨r0, r1, r2⟩ := cell3 rsA
    have fr0 := free_of (o := 0) rsA; have fr1 := free_of (o := 1) rsA; have fr2 := free_of (o := 2) rsA
    go_wp2
    generalize (wx.setCell ⟨mb, 2, none⟩ (.bool true)).alloc (.cells #[.int .u8 v, .string ⟨#[]⟩, .string ⟨#[]⟩, .string ⟨#[]⟩, .bool false, .int .i64 0, .int .i64 0, .string ⟨#[]⟩, .slice none 0 0] 104) = W3 at *
    obtain ⟨rsF, oF⟩ := fin3 rsA (.int .u8 0) (.string ⟨#[]⟩) (.slice none 0 0)
    refine bodyPost_ret (v := .agg #[.int .u8 0, .string ⟨#[]⟩, .slice none 0 0]) (by simp [results, Tryz.results141, go_sem, r0, r1, r2]) rfl ?_
    rw [HE.out]
    exact compE_bad hm3 rsA hkA oF fin3_same ⟨_, _, _, rfl⟩
end Go.Proofs.YtclpcnignheijaaGreatDoor
namespace Go.Proofs.YtclpcnignheijaaGreatDoor
open Go.RowKit

theorem rcompound_any (B mb : Nat) (s : ByteArray) (n others p a m : Nat) (w : World) (IH : ListR B mb s n) (h : Mk w mb s p false a m) (hB : B ≤ mb) (ha : a ≤ p) (ho1 : others ≤ p) (hom : others ≤ m) (hn : s.size ≤ p + n) :
    Calls Tryz.prog 141 #[.pointer (some ⟨mb, 0, none⟩), .int .i64 others] w (CompR B mb s n others p a m w) := by
  by_cases hl : letterB (peekI s p) = true
  · exact rcompound_name B mb s n others p a m w IH h hB ha ho1 hom hn hl
  by_cases h42 : peekI s p = 42
  · exact rcompound_star B mb s n others p a m w IH h hB ha ho1 hom hn h42
  by_cases hat : atB (peekI s p) = true
  · exact rcompound_simple B mb s n others p a m w IH h hB ha ho1 hom hn hat
  · exact rcompound_neither B mb s n others p a m w h hB (by simpa using hat) (by simpa using hl) h42

def cpx0 (s : ByteArray) (n p : Nat) : Nat × Option (Cpx × Nat × Nat) := complexP (listP s n) s (s.size + 1) [] 0 0 0 p
/-- The document's reader goes on where the program's list ends: at a byte that can begin no compound. -/
def Third (s : ByteArray) (others q : Nat) : Prop := q < s.size ∧ peekI s q ≠ 44 ∧ (peekI s q = 41 → others = 0)
def CpxR (B mb : Nat) (s : ByteArray) (n others p a m : Nat) (w : World) (e : Ending) (w' : World) : Prop :=
  ∃ sv : Value, e = .returned (.agg #[sv]) ∧ Kp B [153] w w' ∧ (∃ la lm lc, sv = .slice la lm lc) ∧
    ((∃ cx cn d, (cpx0 s n p).2 = some (cx, cn, d) ∧ Mk w' mb s (cpx0 s n p).1 false (a + cn) (max m (others + d)) ∧ repC docL (fun g => w.heap.size ≤ g) w' (RepL docL (fun g => w.heap.size ≤ g) w' n) sv cx) ∨
     (∃ a' m', Mk w' mb s (cpx0 s n p).1 true a' m' ∧ ((cpx0 s n p).2 = none ∨ Third s others (cpx0 s n p).1)))
theorem Tryz.infoRCmp : (Tryz.prog.info? 102).map (fun i => (i.zero, i.size, i.bytes)) = some (some (.agg #[.int .u8 0, .string ⟨#[]⟩, .slice none 0 0]), 3, 48) := by kernel_rfl
theorem cpxR_N {lf : Nat → Nat × Option (SLst × Nat × Nat)} {s : ByteArray} {f : Nat} {l : Cpx} {cn d p q : Nat} {bb : Int} (h1 : compoundP lf s p = (q, none)) : complexP lf s (f + 1) l cn d bb p = (q, none) := by
  rw [complexP, h1]
theorem cpxR_S {lf : Nat → Nat × Option (SLst × Nat × Nat)} {s : ByteArray} {f : Nat} {l : Cpx} {cn d p q q2 : Nat} {bb : Int} {x : (ByteArray × List Sim) × Nat × Nat} (h1 : compoundP lf s p = (q, some x)) (h2 : combP s q = (q2, none)) : complexP lf s (f + 1) l cn d bb p = (q2, some (l ++ [(bb, x.1.1, x.1.2)], cn + x.2.1, max d x.2.2)) := by
  rw [complexP, h1]; dsimp only; rw [h2]
theorem cpxR_G {lf : Nat → Nat × Option (SLst × Nat × Nat)} {s : ByteArray} {f : Nat} {l : Cpx} {cn d p q q2 : Nat} {bb b' : Int} {x : (ByteArray × List Sim) × Nat × Nat} (h1 : compoundP lf s p = (q, some x)) (h2 : combP s q = (q2, some b')) : complexP lf s (f + 1) l cn d bb p = complexP lf s f (l ++ [(bb, x.1.1, x.1.2)]) (cn + x.2.1) (max d x.2.2) b' q2 := by
  rw [complexP, h1]; dsimp only; rw [h2]
theorem cell1 {w : World} {b : Nat} {x : Value} {t : TypeId} (h : w.heap[b]? = some (.cells #[x] t (0, 0))) : w.cell? ⟨b, 0, none⟩ = some x := by simp [World.cell?, h]
/-- At a byte that begins no compound. -/
theorem comp_third {lf : Nat → Nat × Option (SLst × Nat × Nat)} {s : ByteArray} {q : Nat} (h : peekI s q = 0 ∨ peekI s q = 41) : compoundP lf s q = (q, none) := by
  have e : headP s q = (q, none) := by
    unfold headP newP
    rcases h with h | h <;> rw [h] <;> rfl
  unfold compoundP; rw [e]
/-- Where the loop of complex stands: ahead of a compound. -/
structure CpxI (B mb : Nat) (s : ByteArray) (n others p a m : Nat) (w wr : World) (q a' m' k : Nat) (bb : Int) (sv : Value) (xs : List Value) : Prop where
  mkr : Mk wr mb s q false a' m'
  rs : wr.heap[w.heap.size]? = some (.cells #[.slice none 0 0] 99 (0, 0))
  ns : wr.heap[w.heap.size + 1]? = some (.cells #[sv] 99 (0, 0))
  own : wr.ownsRow (w.heap.size + 2) 102 3 sv k xs
  kp : Kp B [153] w wr
  bd : k ≤ q ∧ p ≤ q ∧ a' ≤ q ∧ others ≤ m'
  st : (∃ f cn d l, l.length = k ∧ a' = a + cn ∧ m' = max m (others + d) ∧ s.size < q + f ∧ p + cn ≤ q ∧ Row (repT docL (fun g => w.heap.size + 2 ≤ g ∧ sv.ownBlock ≠ some g) wr (RepL docL (fun g => w.heap.size + 2 ≤ g ∧ sv.ownBlock ≠ some g) wr n)) l xs ∧ complexP (listP s n) s f l cn d bb q = cpx0 s n p) ∨
    ((peekI s q = 0 ∨ peekI s q = 41) ∧ Third s others q ∧ (cpx0 s n p).1 = q)
section
variable {B mb : Nat} {s : ByteArray} {n others p a m : Nat} {w W : World} {q k : Nat} {la : Option Addr} {lc : Nat} {xs : List Value}
theorem cpx_badE {a' m' : Nat} {v0 sv : Value} {r : Nat × Option (Cpx × Nat × Nat)} (hm : Mk W mb s r.1 true a' m') (rs : W.heap[w.heap.size]? = some (.cells #[v0] 99 (0, 0))) (hk : Kp B [153] w W) (hr : r.2 = none ∨ Third s others r.1) (hs : ∃ la lm lc, sv = .slice la lm lc) :
    ∃ sv' : Value, Ending.returned (.agg #[sv]) = .returned (.agg #[sv']) ∧ Kp B [153] w (W.setCell ⟨w.heap.size, 0, none⟩ sv) ∧ (∃ la lm lc, sv' = .slice la lm lc) ∧
    ((∃ cx cn d, r.2 = some (cx, cn, d) ∧ Mk (W.setCell ⟨w.heap.size, 0, none⟩ sv) mb s r.1 false (a + cn) (max m (others + d)) ∧ repC docL (fun g => w.heap.size ≤ g) (W.setCell ⟨w.heap.size, 0, none⟩ sv) (RepL docL (fun g => w.heap.size ≤ g) (W.setCell ⟨w.heap.size, 0, none⟩ sv) n) sv' cx) ∨
     (∃ a' m', Mk (W.setCell ⟨w.heap.size, 0, none⟩ sv) mb s r.1 true a' m' ∧ (r.2 = none ∨ Third s others r.1))) :=
  ⟨sv, rfl, hk.setNew (p := ⟨w.heap.size, 0, none⟩) (Nat.le_refl _) sv, hs, .inr ⟨a', m', hm.kept (Kp.setAny (p := ⟨w.heap.size, 0, none⟩) rs sv) (by decide), hr⟩⟩
theorem cpx_goodE {cn d : Nat} {l : Cpx} {v0 : Value} (hm : Mk W mb s q false (a + cn) (max m (others + d))) (rs : W.heap[w.heap.size]? = some (.cells #[v0] 99 (0, 0))) (hk : Kp B [153] w W) (own : W.ownsRow (w.heap.size + 2) 102 3 (.slice la k lc) k xs) (hl : l.length = k)
    (hrow : Row (repT docL (fun g => w.heap.size + 2 ≤ g ∧ (Value.slice la k lc).ownBlock ≠ some g) W (RepL docL (fun g => w.heap.size + 2 ≤ g ∧ (Value.slice la k lc).ownBlock ≠ some g) W n)) l xs) :
    ∃ sv' : Value, Ending.returned (.agg #[.slice la k lc]) = .returned (.agg #[sv']) ∧ Kp B [153] w (W.setCell ⟨w.heap.size, 0, none⟩ (.slice la k lc)) ∧ (∃ la lm lc, sv' = .slice la lm lc) ∧
    ((∃ cx cn' d', ((q, some (l, cn, d)) : Nat × Option (Cpx × Nat × Nat)).2 = some (cx, cn', d') ∧ Mk (W.setCell ⟨w.heap.size, 0, none⟩ (.slice la k lc)) mb s ((q, some (l, cn, d)) : Nat × Option (Cpx × Nat × Nat)).1 false (a + cn') (max m (others + d')) ∧ repC docL (fun g => w.heap.size ≤ g) (W.setCell ⟨w.heap.size, 0, none⟩ (.slice la k lc)) (RepL docL (fun g => w.heap.size ≤ g) (W.setCell ⟨w.heap.size, 0, none⟩ (.slice la k lc)) n) sv' cx) ∨
     (∃ a' m', Mk (W.setCell ⟨w.heap.size, 0, none⟩ (.slice la k lc)) mb s ((q, some (l, cn, d)) : Nat × Option (Cpx × Nat × Nat)).1 true a' m' ∧ (((q, some (l, cn, d)) : Nat × Option (Cpx × Nat × Nat)).2 = none ∨ Third s others ((q, some (l, cn, d)) : Nat × Option (Cpx × Nat × Nat)).1))) := by
  subst hl
  refine ⟨_, rfl, hk.setNew (p := ⟨w.heap.size, 0, none⟩) (Nat.le_refl _) _, ⟨_, _, _, rfl⟩, .inl ⟨l, cn, d, rfl, hm.kept (Kp.setAny (p := ⟨w.heap.size, 0, none⟩) rs _) (by decide), xs, ⟨owns_base (owns_other (R := w.heap.size) (fun j hj => Below.heap_setCell _ _ _ _ hj) own (by omega)) (Nat.zero_le _), fun g hg => by have := (own.lt g hg).1; omega⟩, hrow.mono fun _ _ hh => hh.mp ?_⟩⟩
  intro g c t hg hb _
  exact ⟨by omega, setCell_other hb (by show g ≠ w.heap.size; omega) _⟩
end
end Go.Proofs.YtclpcnignheijaaGreatDoor
namespace Go.Proofs.YtclpcnignheijaaGreatDoor
open Go.RowKit

section
variable {s : ByteArray} {q1 q2 : Nat} {v : Int}
theorem comb_none (hsp : spP s q1 = q2) (hv : peekI s q2 = v) (hc : combB v = false) (h : stopB v = true ∨ ¬ q1 < q2) : combP s q1 = (q2, none) := by
  unfold combP
  rw [hsp, hv, hc, if_neg (by decide)]
  by_cases hs : stopB v = true
  · rw [if_pos hs]
  · rw [if_neg hs, if_neg (by rcases h with h | h; exact absurd h hs; exact h)]
theorem comb_sp (hsp : spP s q1 = q2) (hv : peekI s q2 = v) (hc : combB v = false) (hs : stopB v = false) (h : q1 < q2) : combP s q1 = (q2, some 32) := by
  unfold combP
  rw [hsp, hv, hc, hs, if_neg (by decide), if_neg (by decide), if_pos h]
theorem comb_comb (hsp : spP s q1 = q2) (hv : peekI s q2 = v) (hc : combB v = true) : combP s q1 = (spP s (q2 + 1), some v) := by
  unfold combP
  rw [hsp, hv, hc, if_pos rfl]
end
set_option maxHeartbeats 8000000 in
set_option maxRecDepth 100000 in
theorem rcomplex_any (B mb : Nat) (s : ByteArray) (n others p a m : Nat) (w : World) (IH : ListR B mb s n) (h : Mk w mb s p false a m) (hB : B ≤ mb) (ha : a ≤ p) (ho1 : others ≤ p) (hom : others ≤ m) (hn : s.size ≤ p + n) :
    Calls Tryz.prog 117 #[.pointer (some ⟨mb, 0, none⟩), .int .i64 others] w (CpxR B mb s n others p a m w) := by
  have h5 := h.max; have h6 := h.le
  have hmS := (h.alloc (.cells #[.slice none 0 0] 99)).alloc (.cells #[.slice none 0 0] 99)
  have rsS := alloc_old (alloc_at w (.cells #[.slice none 0 0] 99)) (.cells #[.slice none 0 0] 99)
  have nsS := alloc_at' (w := w.alloc (.cells #[.slice none 0 0] 99)) (n := w.heap.size + 1) (.cells #[.slice none 0 0] 99) (by simp)
  have hkS := ((Kp.refl B [153] w).alloc (.cells #[.slice none 0 0] 99)).alloc (.cells #[.slice none 0 0] 99)
  obtain ⟨i0, hi, hy0, hy1, hy2⟩ := info_parts Tryz.infoRCmp
  unfold CpxR
  go_enter Tryz.func117, Tryz.ntmps117
  go_wp2
  generalize (w.alloc (.cells #[.slice none 0 0] 99)).alloc (.cells #[.slice none 0 0] 99) = W at *
  go_loopw [6] (fun bv wr => ∃ (q a' m' k : Nat) (bb : Int) (sv : Value) (xs : List Value), bv = .int .u8 bb ∧ CpxI B mb s n others p a m w wr q a' m' k bb sv xs) (fun _ wr => s.size + 1 - placeM wr mb)
  case atStart => exact ⟨p, a, m, 0, 0, .slice none 0 0, [], rfl, hmS, rsS, nsS, World.ownsRow_nil _ _ _ _, hkS, ⟨Nat.zero_le _, Nat.le_refl _, ha, hom⟩, .inl ⟨s.size + 1, 0, 0, [], rfl, rfl, by omega, by omega, by omega, rfl, rfl⟩⟩
  case round =>
    obtain ⟨q, a', m', k, bb, sv, xs, rfl, I⟩ := hrel
    clear hmS rsS nsS hkS
    obtain ⟨la, lc, rfl⟩ := own_slice' I.own
    obtain ⟨hm, rs, ns, own, hk, ⟨hkq, hpq, haq, hoq⟩, hst⟩ := I
    have HSt := hide hst
    clear hst
    have hpl := hm.placeM
    have hqs := hm.le
    have hgd := compoundP_gd (listP_gd s n) (lf := listP s n) (p := q) hm.le
    go_wp2_with fail
    refine (rcompound_any B mb s n others q a' m' _ IH hm hB haq (by omega) hoq (by omega)).mono ?_
    rintro e w3 ⟨nm, cv, rfl, hk3, ⟨va, vm, vc, rfl⟩, hor⟩
    obtain ⟨bd, a1, m1, q1, hm3, HC⟩ : ∃ bd a1 m1 q1, Mk w3 mb s q1 bd a1 m1 ∧ Hid ((bd = false ∧ ∃ ms c1 d1, compoundP (listP s n) s q = (q1, some ((nm, ms), c1, d1)) ∧ a1 = a' + c1 ∧ m1 = max m' (others + d1) ∧ repM docL (fun g => wr.heap.size ≤ g) w3 (RepL docL (fun g => wr.heap.size ≤ g) w3 n) (.slice va vm vc) ms) ∨ (bd = true ∧ compoundP (listP s n) s q = (q1, none))) := by
      rcases hor with ⟨ms, c1, d1, hx, hmx, hrx⟩ | ⟨hx, a', m', hmx⟩
      · exact ⟨false, _, _, _, hmx, hide (.inl ⟨rfl, ms, c1, d1, by rw [← hx], rfl, rfl, hrx⟩)⟩
      · exact ⟨true, a', m', _, hmx, hide (.inr ⟨rfl, by rw [← hx]⟩)⟩
    have hz1 := lt_of_block ns
    have hkA := hk.trans hk3
    have rs3 := hk3.at rs (by decide)
    have ns3 := hk3.at ns (by decide)
    have own3 := hk3.owns own (by decide)
    have hzw := hk3.size
    have HOWN : Hid (∀ g, (Value.slice la k lc).ownBlock = some g → g < wr.heap.size) := fun g hg => (own.lt g hg).2
    have HK3 := hide hk3
    have HRow : Hid (∀ l, Row (repT docL (fun g => w.heap.size + 2 ≤ g ∧ (Value.slice la k lc).ownBlock ≠ some g) wr (RepL docL (fun g => w.heap.size + 2 ≤ g ∧ (Value.slice la k lc).ownBlock ≠ some g) wr n)) l xs → Row (repT docL (fun g => w.heap.size + 2 ≤ g ∧ (Value.slice la k lc).ownBlock ≠ some g) w3 (RepL docL (fun g => w.heap.size + 2 ≤ g ∧ (Value.slice la k lc).ownBlock ≠ some g) w3 n)) l xs) := fun l hl => hl.mono fun _ _ hh => hh.mp (Fr.ofMk hk3)
    clear hor hm rs ns own hk hk3
    have hm4 := hm3.alloc (.cells #[.int .u8 bb, .string nm, .slice va vm vc] 102)
    have rs4 := alloc_old rs3 (.cells #[.int .u8 bb, .string nm, .slice va vm vc] 102)
    have ns4 := alloc_old ns3 (.cells #[.int .u8 bb, .string nm, .slice va vm vc] 102)
    have own4 := own3.alloc (.cells #[.int .u8 bb, .string nm, .slice va vm vc] 102)
    have hkB := hkA.alloc (.cells #[.int .u8 bb, .string nm, .slice va vm vc] 102)
    have ms4 := alloc_at w3 (.cells #[.int .u8 bb, .string nm, .slice va vm vc] 102)
    have t0 := cell1 ns4
    have f0 := free_of (o := 0) ns4
    obtain ⟨z0, z1, z2⟩ := cell3 ms4
    clear rs3 ns3 own3 hkA hm3
    go_wp2_with (at_builtin; refine wpList_append_lies _ rfl _ _ 97 rfl (w.heap.size + 2) 102 i0 (.agg #[.int .u8 0, .string ⟨#[]⟩, .slice none 0 0]) 3 48 Tryz.underlying97 hi hy0 hy1 hy2 rfl (by decide) _ _ _ rfl (own4.alloc _) ⟨w3.heap.size + 1, 0, none⟩ 1 1 [.int .u8 bb, .string nm, .slice va vm vc] rfl rfl ?c1 ?c2 (by decide) ?c3 ?c4 ?c5 _ rfl ?_)
    case c1 => exact cells_new #[.int .u8 bb, .string nm, .slice va vm vc] 102 (by simp)
    case c2 => intro u hu; simp at hu; rcases hu with rfl | rfl | rfl <;> rfl
    case c3 => unfold maxLen; omega
    case c4 => omega
    case c5 => simp; omega
    intro g cap w7 own7 hgrow7 hat7 hlt7
    have KA := (hkB.alloc (.cells #[.int .u8 bb, .string nm, .slice va vm vc] 102)).grownNew hgrow7 (fun k e => by have := (own4.lt k e).1; omega)
    have NB : ∀ {cc : Array Value} {ty : TypeId} {bk : Nat}, (w3.alloc (.cells #[.int .u8 bb, .string nm, .slice va vm vc] 102)).heap[bk]? = some (.cells cc ty (0, 0)) → ty ≠ 102 → w7.heap[bk]? = some (.cells cc ty (0, 0)) := fun hb hty => kept_grown (own4.alloc _) hgrow7 (alloc_old hb _) hty
    have hm7 : Mk w7 mb s q1 bd a1 m1 := ⟨NB hm4.blk (by decide), hm4.le, hm4.max⟩
    have rs7 := NB rs4 (by decide)
    have ns7 := NB ns4 (by decide)
    have frg : Fr docL (fun g' => w.heap.size + 2 ≤ g' ∧ (Value.slice la k lc).ownBlock ≠ some g') (fun g' => w.heap.size + 2 ≤ g' ∧ (Value.slice (some ⟨g, 0, none⟩) (k + 1) cap).ownBlock ≠ some g') ((w3.alloc (.cells #[.int .u8 bb, .string nm, .slice va vm vc] 102)).alloc (.cells #[.int .u8 bb, .string nm, .slice va vm vc] 102)) w7 :=
      Fr.grown hgrow7 (by simpa using hat7) (fun k hk => hk.2) (fun k hk hne => ⟨hk.1, by simp only [Value.ownBlock, ne_eq, Option.some.injEq]; exact fun e => hne e.symm⟩)
    have fr8 : Fr docL (fun g' => w.heap.size + 2 ≤ g' ∧ (Value.slice (some ⟨g, 0, none⟩) (k + 1) cap).ownBlock ≠ some g') (fun g' => w.heap.size + 2 ≤ g' ∧ (Value.slice (some ⟨g, 0, none⟩) (k + 1) cap).ownBlock ≠ some g') w7 (w7.setCell ⟨w.heap.size + 1, 0, none⟩ (.slice (some ⟨g, 0, none⟩) (k + 1) cap)) := Fr.setOther (fun g' hg => by show g' ≠ w.heap.size + 1; omega) _
    have fr38 : Fr docL (fun g' => w.heap.size + 2 ≤ g' ∧ (Value.slice la k lc).ownBlock ≠ some g') (fun g' => w.heap.size + 2 ≤ g' ∧ (Value.slice (some ⟨g, 0, none⟩) (k + 1) cap).ownBlock ≠ some g') w3 (w7.setCell ⟨w.heap.size + 1, 0, none⟩ (.slice (some ⟨g, 0, none⟩) (k + 1) cap)) := fun g' c t hg hb ht =>
      have h1 := frg g' c t hg (alloc_old (alloc_old hb _) _) ht
      fr8 g' c t h1.1 h1.2 ht
    have HR8 : Hid (∀ l ms, Row (repT docL (fun g => w.heap.size + 2 ≤ g ∧ (Value.slice la k lc).ownBlock ≠ some g) wr (RepL docL (fun g => w.heap.size + 2 ≤ g ∧ (Value.slice la k lc).ownBlock ≠ some g) wr n)) l xs → repM docL (fun g => wr.heap.size ≤ g) w3 (RepL docL (fun g => wr.heap.size ≤ g) w3 n) (.slice va vm vc) ms →
        Row (repT docL (fun g' => w.heap.size + 2 ≤ g' ∧ (Value.slice (some ⟨g, 0, none⟩) (k + 1) cap).ownBlock ≠ some g') (w7.setCell ⟨w.heap.size + 1, 0, none⟩ (.slice (some ⟨g, 0, none⟩) (k + 1) cap)) (RepL docL (fun g' => w.heap.size + 2 ≤ g' ∧ (Value.slice (some ⟨g, 0, none⟩) (k + 1) cap).ownBlock ≠ some g') (w7.setCell ⟨w.heap.size + 1, 0, none⟩ (.slice (some ⟨g, 0, none⟩) (k + 1) cap)) n)) (l ++ [(bb, nm, ms)]) (xs ++ [.int .u8 bb, .string nm, .slice va vm vc])) := fun l ms hl hms => by
      have h1 := (HRow.out l hl).mono fun _ _ hh => hh.mp fr38
      have h2 : repM docL (fun g => w.heap.size + 2 ≤ g ∧ (Value.slice la k lc).ownBlock ≠ some g) w3 (RepL docL (fun g => w.heap.size + 2 ≤ g ∧ (Value.slice la k lc).ownBlock ≠ some g) w3 n) (.slice va vm vc) ms := hms.mp (Fr.same fun g' hg => ⟨by omega, fun e => by have := HOWN.out g' e; omega⟩)
      exact h1.snoc ⟨_, [], rfl, rfl, h2.mp fr38⟩
    have hm8 : Mk (w7.setCell ⟨w.heap.size + 1, 0, none⟩ (.slice (some ⟨g, 0, none⟩) (k + 1) cap)) mb s q1 bd a1 m1 := hm7.kept (Kp.setAny (p := ⟨w.heap.size + 1, 0, none⟩) ns7 _) (by decide)
    have rs8 := setCell_other (a := ⟨w.heap.size + 1, 0, none⟩) rs7 (by simp) (.slice (some ⟨g, 0, none⟩) (k + 1) cap)
    have ns8 : (w7.setCell ⟨w.heap.size + 1, 0, none⟩ (.slice (some ⟨g, 0, none⟩) (k + 1) cap)).heap[w.heap.size + 1]? = some (.cells #[.slice (some ⟨g, 0, none⟩) (k + 1) cap] 99 (0, 0)) := set_blk (o := 0) ns7 _
    have own8 := owns_other (R := w.heap.size + 1) (w' := w7.setCell ⟨w.heap.size + 1, 0, none⟩ (.slice (some ⟨g, 0, none⟩) (k + 1) cap)) (fun j hj => Below.heap_setCell _ _ _ _ hj) own7 (by omega)
    have KB := KA.setNew (p := ⟨w.heap.size + 1, 0, none⟩) (by simp) (.slice (some ⟨g, 0, none⟩) (k + 1) cap)
    clear hgrow7 NB frg fr8 fr38 hat7 own4 HRow z0 z1 z2 t0 f0 KA own7 ns4 rs4 hm4 hkB ms4
    have t0 := cell1 ns7
    have f0 := free_of (o := 0) ns7
    go_wp2_with fail
    clear t0 f0 rs7 ns7 hm7
    generalize w7.setCell ⟨w.heap.size + 1, 0, none⟩ (.slice (some ⟨g, 0, none⟩) (k + 1) cap) = w8 at *
    have hq1s := hm8.le
    refine (rspaces_any B mb s q1 bd a1 m1 _ hm8 hB).mono ?_
    rintro e w9 ⟨rfl, hm9, hk9⟩
    have rs9 := hk9.at rs8 (by decide)
    have ns9 := hk9.at ns8 (by decide)
    have own9 := hk9.owns own8 (by decide)
    have KC := KB.trans hk9
    have HR9 : Hid (∀ l ms, Row (repT docL (fun g => w.heap.size + 2 ≤ g ∧ (Value.slice la k lc).ownBlock ≠ some g) wr (RepL docL (fun g => w.heap.size + 2 ≤ g ∧ (Value.slice la k lc).ownBlock ≠ some g) wr n)) l xs → repM docL (fun g => wr.heap.size ≤ g) w3 (RepL docL (fun g => wr.heap.size ≤ g) w3 n) (.slice va vm vc) ms →
        Row (repT docL (fun g' => w.heap.size + 2 ≤ g' ∧ (Value.slice (some ⟨g, 0, none⟩) (k + 1) cap).ownBlock ≠ some g') w9 (RepL docL (fun g' => w.heap.size + 2 ≤ g' ∧ (Value.slice (some ⟨g, 0, none⟩) (k + 1) cap).ownBlock ≠ some g') w9 n)) (l ++ [(bb, nm, ms)]) (xs ++ [.int .u8 bb, .string nm, .slice va vm vc])) := fun l ms hl hms => (HR8.out l ms hl hms).mono fun _ _ hh => hh.mp (Fr.ofMk hk9)
    clear HR8 hm8 rs8 ns8 own8 KB hk9 HK3
    cases bd
    rotate_left
    · have hv : nextI s (spR s q1 true) true = 0 := rfl
      have hsp : spR s q1 true = q1 := rfl
      have HR : Hid ((cpx0 s n p).1 = q1 ∧ ((cpx0 s n p).2 = none ∨ Third s others (cpx0 s n p).1)) := by
        have hc : compoundP (listP s n) s q = (q1, none) := by
          rcases HC.out with ⟨h, _⟩ | ⟨_, h⟩
          · cases h
          · exact h
        rcases HSt.out with ⟨f, cn, d, l, _, _, _, hf, _, _, hq⟩ | ⟨h0, h1, h2⟩
        · obtain ⟨f, rfl⟩ : ∃ f', f = f' + 1 := ⟨f - 1, by omega⟩
          rw [cpxR_N hc] at hq
          rw [← hq]; exact ⟨rfl, .inl rfl⟩
        · rw [comp_third h0] at hc
          have : q = q1 := congrArg Prod.fst hc
          subst this
          exact ⟨h2, .inr (by rw [h2]; exact h1)⟩
      rw [hsp] at hm9
      go_wp2_with fail
      refine (next_is mb s q1 true a1 m1 _ 0 hm9 rfl).mono ?_
      rintro e w10 ⟨rfl, n2, rfl⟩
      replace hm9 := hm9.drewN n2
      replace KC := KC.drewN n2
      replace rs9 : (w9.drewN n2).heap[w.heap.size]? = some (.cells #[.slice none 0 0] 99 (0, 0)) := rs9
      replace ns9 : (w9.drewN n2).heap[w.heap.size + 1]? = some (.cells #[.slice (some ⟨g, 0, none⟩) (k + 1) cap] 99 (0, 0)) := ns9
      clear HR9 own9
      generalize w9.drewN n2 = wx at *
      have d2 := hm9.c2
      go_wp2
      go_quiet (fail)
      replace hm9 := hm9.drewN nq
      replace KC := KC.drewN nq
      replace rs9 : (wx.drewN nq).heap[w.heap.size]? = some (.cells #[.slice none 0 0] 99 (0, 0)) := rs9
      replace ns9 : (wx.drewN nq).heap[w.heap.size + 1]? = some (.cells #[.slice (some ⟨g, 0, none⟩) (k + 1) cap] 99 (0, 0)) := ns9
      clear d2
      generalize wx.drewN nq = wy at *
      have t0 := cell1 ns9; have r0 := cell1 rs9; have f0 := free_of (o := 0) rs9
      go_wp2
      refine bodyPost_ret (v := .agg #[.slice (some ⟨g, 0, none⟩) (k + 1) cap]) (by simp [results, Tryz.results117, go_sem, r0]) rfl ?_
      have hm10 : Mk wy mb s (cpx0 s n p).1 true a1 m1 := by rw [HR.out.1]; exact hm9
      exact cpx_badE hm10 rs9 KC HR.out.2 ⟨_, _, _, rfl⟩
    · obtain ⟨f, cn, d, l, ms, c1, d1, hl, hA, hM, hf, hcq, hq1, hrow, hcomp, hq⟩ : ∃ f cn d l ms c1 d1, l.length = k ∧ a1 = a + (cn + c1) ∧ m1 = max m (others + max d d1) ∧ s.size < q + (f + 1) ∧ p + (cn + c1) ≤ q1 ∧ q < q1 ∧ Row (repT docL (fun g' => w.heap.size + 2 ≤ g' ∧ (Value.slice (some ⟨g, 0, none⟩) (k + 1) cap).ownBlock ≠ some g') w9 (RepL docL (fun g' => w.heap.size + 2 ≤ g' ∧ (Value.slice (some ⟨g, 0, none⟩) (k + 1) cap).ownBlock ≠ some g') w9 n)) (l ++ [(bb, nm, ms)]) (xs ++ [.int .u8 bb, .string nm, .slice va vm vc]) ∧ compoundP (listP s n) s q = (q1, some ((nm, ms), c1, d1)) ∧ complexP (listP s n) s (f + 1) l cn d bb q = cpx0 s n p := by
        rcases HC.out with ⟨_, ms, c1, d1, hc, rfl, rfl, hms⟩ | ⟨hx, _⟩
        · rcases HSt.out with ⟨f, cn, d, l, hl, rfl, rfl, hf, hcq, hrow, hq⟩ | ⟨h0, _, _⟩
          · obtain ⟨f, rfl⟩ : ∃ f', f = f' + 1 := ⟨f - 1, by omega⟩
            rw [hc] at hgd
            have g3 := hgd.1.2.2 _ rfl
            have g4 := hgd.2 _ rfl
            dsimp only at g3 g4
            exact ⟨f, cn, d, l, ms, c1, d1, hl, by omega, by omega, hf, by omega, g4, HR9.out l ms hrow hms, hc, hq⟩
          · rw [comp_third h0] at hc; cases hc
        · cases hx
      have HL := hide hl; have HA := hide hA; have HM := hide hM; have HROW := hide hrow; have HCO := hide hcomp; have HQ := hide hq
      have hom1 : others ≤ m1 := by omega
      have ha1 : a1 ≤ q1 := by omega
      clear hl hA hM hrow hcomp hq HR9 HC HSt hgd HOWN
      have hle9 := hm9.le
      have hsp9 : q1 ≤ spR s q1 false := (spR_le (bad := false) hq1s).1
      generalize hq2 : spR s q1 false = q2 at *
      have HQ2 : Hid (spP s q1 = q2) := hide hq2
      clear hq2
      generalize hv : peekI s q2 = v at *
      have HV := hide hv
      clear hv
      go_wp2_with fail
      refine (next_is mb s q2 false a1 m1 _ v hm9 (by rw [nextI_ok]; exact HV.out)).mono ?_
      rintro e w10 ⟨rfl, n2, rfl⟩
      replace hm9 := hm9.drewN n2
      replace KC := KC.drewN n2
      replace rs9 : (w9.drewN n2).heap[w.heap.size]? = some (.cells #[.slice none 0 0] 99 (0, 0)) := rs9
      replace ns9 : (w9.drewN n2).heap[w.heap.size + 1]? = some (.cells #[.slice (some ⟨g, 0, none⟩) (k + 1) cap] 99 (0, 0)) := ns9
      replace own9 : (w9.drewN n2).ownsRow (w.heap.size + 2) 102 3 (.slice (some ⟨g, 0, none⟩) (k + 1) cap) (k + 1) (xs ++ [.int .u8 bb, .string nm, .slice va vm vc]) := own9
      replace HROW : Hid (Row (repT docL (fun g' => w.heap.size + 2 ≤ g' ∧ (Value.slice (some ⟨g, 0, none⟩) (k + 1) cap).ownBlock ≠ some g') (w9.drewN n2) (RepL docL (fun g' => w.heap.size + 2 ≤ g' ∧ (Value.slice (some ⟨g, 0, none⟩) (k + 1) cap).ownBlock ≠ some g') (w9.drewN n2) n)) (l ++ [(bb, nm, ms)]) (xs ++ [.int .u8 bb, .string nm, .slice va vm vc])) := hide (HROW.out.mono fun _ _ hh => hh.mp (Fr.drewN docL (fun g' => w.heap.size + 2 ≤ g' ∧ (Value.slice (some ⟨g, 0, none⟩) (k + 1) cap).ownBlock ≠ some g') w9 n2))
      generalize w9.drewN n2 = wx at *
      by_cases hcomb : combB v = true
      · have HE : Hid (complexP (listP s n) s f (l ++ [(bb, nm, ms)]) (cn + c1) (max d d1) v (spP s (q2 + 1)) = cpx0 s n p) := by
          rw [← HQ.out, cpxR_G HCO.out (comb_comb HQ2.out HV.out hcomb)]; rfl
        have hlt2 : q2 < s.size := peekI_lt (by rw [HV.out]; intro e; rw [e] at hcomb; revert hcomb; decide)
        have hsp2 := spP_le (s := s) (p := q2 + 1) hlt2
        have hv3 : v = 62 ∨ v = 43 ∨ v = 126 := by
          unfold combB at hcomb; simp only [Bool.or_eq_true, beq_iff_eq] at hcomb; omega
        have y1 := hm9.c1; have yf := hm9.free (o := 1)
        have hmT := hm9.set1 (q := q2 + 1) (v := (q2 : Int) + 1) hlt2 (by omega)
        have kpT := hm9.kp (Kp.refl B [153] wx) hB 1 (.int .i64 ((q2 : Int) + 1))
        clear hcomb
        rcases hv3 with rfl | rfl | rfl
        all_goals
          go_wp2_with fail
          clear y1 yf
          refine (rspaces_any B mb s (q2 + 1) false a1 m1 _ hmT hB).mono ?_
          rintro e w11 ⟨rfl, hmU, hkU⟩
          have kpU := kpT.trans hkU
          have hpU := hmU.placeM
          have rsU := kpU.at rs9 (by decide)
          have nsU := kpU.at ns9 (by decide)
          have ownU := kpU.owns own9 (by decide)
          have KU := KC.trans kpU
          have hrU := hide (HROW.out.mono fun _ _ hh => hh.mp (Fr.ofMk kpU))
          go_wp2
          go_roundw
          case rel => exact ⟨spR s (q2 + 1) false, a1, m1, k + 1, _, _, _, rfl, hmU, rsU, nsU, ownU, KU, ⟨by show k + 1 ≤ spP s (q2 + 1); omega, by show p ≤ spP s (q2 + 1); omega, by show a1 ≤ spP s (q2 + 1); omega, hom1⟩, .inl ⟨f, cn + c1, max d d1, l ++ [(bb, nm, ms)], by rw [List.length_append, HL.out]; rfl, HA.out, HM.out, by show s.size < spP s (q2 + 1) + f; omega, by show p + (cn + c1) ≤ spP s (q2 + 1); omega, hrU.out, HE.out⟩⟩
          case measure =>
            rw [hpU, hpl]
            show s.size + 1 - spP s (q2 + 1) < s.size + 1 - q
            omega
      · have hcf : combB v = false := by simpa using hcomb
        have b62 : (v == 62) = false := by unfold combB at hcf; simp only [Bool.or_eq_false_iff] at hcf; exact hcf.1.1
        have b43 : (v == 43) = false := by unfold combB at hcf; simp only [Bool.or_eq_false_iff] at hcf; exact hcf.1.2
        have b126 : (v == 126) = false := by unfold combB at hcf; simp only [Bool.or_eq_false_iff] at hcf; exact hcf.2
        have HCF := hide hcf
        have y0 := hm9.c0; have y1 := hm9.c1; have y2 := hm9.c2
        clear hcomb hcf
        go_wp2
        by_cases hn0 : q1 = q2
        · have HE : Hid (cpx0 s n p = (q2, some (l ++ [(bb, nm, ms)], cn + c1, max d d1))) := by
            rw [← HQ.out, cpxR_S HCO.out (comb_none HQ2.out HV.out HCF.out (.inr (by omega)))]; rfl
          have bn : (((q2 - q1 : Nat) : Int) == 0) = true := by simp; omega
          clear hn0
          go_quiet (fail)
          replace hm9 := hm9.drewN nq
          replace KC := KC.drewN nq
          replace rs9 : (wx.drewN nq).heap[w.heap.size]? = some (.cells #[.slice none 0 0] 99 (0, 0)) := rs9
          replace ns9 : (wx.drewN nq).heap[w.heap.size + 1]? = some (.cells #[.slice (some ⟨g, 0, none⟩) (k + 1) cap] 99 (0, 0)) := ns9
          replace own9 : (wx.drewN nq).ownsRow (w.heap.size + 2) 102 3 (.slice (some ⟨g, 0, none⟩) (k + 1) cap) (k + 1) (xs ++ [.int .u8 bb, .string nm, .slice va vm vc]) := own9
          replace HROW : Hid (Row (repT docL (fun g' => w.heap.size + 2 ≤ g' ∧ (Value.slice (some ⟨g, 0, none⟩) (k + 1) cap).ownBlock ≠ some g') (wx.drewN nq) (RepL docL (fun g' => w.heap.size + 2 ≤ g' ∧ (Value.slice (some ⟨g, 0, none⟩) (k + 1) cap).ownBlock ≠ some g') (wx.drewN nq) n)) (l ++ [(bb, nm, ms)]) (xs ++ [.int .u8 bb, .string nm, .slice va vm vc])) := hide (HROW.out.mono fun _ _ hh => hh.mp (Fr.drewN docL (fun g' => w.heap.size + 2 ≤ g' ∧ (Value.slice (some ⟨g, 0, none⟩) (k + 1) cap).ownBlock ≠ some g') wx nq))
          clear y0 y1 y2
          generalize wx.drewN nq = wy at *
          have t0 := cell1 ns9; have r0 := cell1 rs9; have f0 := free_of (o := 0) rs9
          go_wp2
          refine bodyPost_ret (v := .agg #[.slice (some ⟨g, 0, none⟩) (k + 1) cap]) (by simp [results, Tryz.results117, go_sem, r0]) rfl ?_
          rw [HE.out]
          exact cpx_goodE (by rw [← HA.out, ← HM.out]; exact hm9) rs9 KC own9 (by rw [List.length_append, HL.out]; rfl) HROW.out
        have bn : (((q2 - q1 : Nat) : Int) == 0) = false := by simp; omega
        by_cases h44 : v = 44
        · have HE : Hid (cpx0 s n p = (q2, some (l ++ [(bb, nm, ms)], cn + c1, max d d1))) := by
            rw [← HQ.out, cpxR_S HCO.out (comb_none HQ2.out HV.out HCF.out (.inl (by rw [h44]; rfl)))]; rfl
          have b44 : (v == 44) = true := by simpa using h44
          clear h44
          go_quiet (fail)
          replace hm9 := hm9.drewN nq
          replace KC := KC.drewN nq
          replace rs9 : (wx.drewN nq).heap[w.heap.size]? = some (.cells #[.slice none 0 0] 99 (0, 0)) := rs9
          replace ns9 : (wx.drewN nq).heap[w.heap.size + 1]? = some (.cells #[.slice (some ⟨g, 0, none⟩) (k + 1) cap] 99 (0, 0)) := ns9
          replace own9 : (wx.drewN nq).ownsRow (w.heap.size + 2) 102 3 (.slice (some ⟨g, 0, none⟩) (k + 1) cap) (k + 1) (xs ++ [.int .u8 bb, .string nm, .slice va vm vc]) := own9
          replace HROW : Hid (Row (repT docL (fun g' => w.heap.size + 2 ≤ g' ∧ (Value.slice (some ⟨g, 0, none⟩) (k + 1) cap).ownBlock ≠ some g') (wx.drewN nq) (RepL docL (fun g' => w.heap.size + 2 ≤ g' ∧ (Value.slice (some ⟨g, 0, none⟩) (k + 1) cap).ownBlock ≠ some g') (wx.drewN nq) n)) (l ++ [(bb, nm, ms)]) (xs ++ [.int .u8 bb, .string nm, .slice va vm vc])) := hide (HROW.out.mono fun _ _ hh => hh.mp (Fr.drewN docL (fun g' => w.heap.size + 2 ≤ g' ∧ (Value.slice (some ⟨g, 0, none⟩) (k + 1) cap).ownBlock ≠ some g') wx nq))
          clear y0 y1 y2
          generalize wx.drewN nq = wy at *
          have t0 := cell1 ns9; have r0 := cell1 rs9; have f0 := free_of (o := 0) rs9
          go_wp2
          refine bodyPost_ret (v := .agg #[.slice (some ⟨g, 0, none⟩) (k + 1) cap]) (by simp [results, Tryz.results117, go_sem, r0]) rfl ?_
          rw [HE.out]
          exact cpx_goodE (by rw [← HA.out, ← HM.out]; exact hm9) rs9 KC own9 (by rw [List.length_append, HL.out]; rfl) HROW.out
        have b44 : (v == 44) = false := by simpa using h44
        have hlt12 : q1 < q2 := by omega
        by_cases h41 : v = 41
        · have hlt2 : q2 < s.size := peek_in (HV.out.trans h41) (by decide)
          have b41 : (v == 41) = true := by simpa using h41
          have HS : Hid (stopB v = true) := by rw [h41]; rfl
          by_cases hoth : 0 < others
          · have HE : Hid (cpx0 s n p = (q2, some (l ++ [(bb, nm, ms)], cn + c1, max d d1))) := by
              rw [← HQ.out, cpxR_S HCO.out (comb_none HQ2.out HV.out HCF.out (.inl HS.out))]; rfl
            have bo : decide ((0 : Int) < (others : Int)) = true := by simpa using hoth
            clear h41 h44
            go_quiet (fail)
            replace hm9 := hm9.drewN nq
            replace KC := KC.drewN nq
            replace rs9 : (wx.drewN nq).heap[w.heap.size]? = some (.cells #[.slice none 0 0] 99 (0, 0)) := rs9
            replace ns9 : (wx.drewN nq).heap[w.heap.size + 1]? = some (.cells #[.slice (some ⟨g, 0, none⟩) (k + 1) cap] 99 (0, 0)) := ns9
            replace own9 : (wx.drewN nq).ownsRow (w.heap.size + 2) 102 3 (.slice (some ⟨g, 0, none⟩) (k + 1) cap) (k + 1) (xs ++ [.int .u8 bb, .string nm, .slice va vm vc]) := own9
            replace HROW : Hid (Row (repT docL (fun g' => w.heap.size + 2 ≤ g' ∧ (Value.slice (some ⟨g, 0, none⟩) (k + 1) cap).ownBlock ≠ some g') (wx.drewN nq) (RepL docL (fun g' => w.heap.size + 2 ≤ g' ∧ (Value.slice (some ⟨g, 0, none⟩) (k + 1) cap).ownBlock ≠ some g') (wx.drewN nq) n)) (l ++ [(bb, nm, ms)]) (xs ++ [.int .u8 bb, .string nm, .slice va vm vc])) := hide (HROW.out.mono fun _ _ hh => hh.mp (Fr.drewN docL (fun g' => w.heap.size + 2 ≤ g' ∧ (Value.slice (some ⟨g, 0, none⟩) (k + 1) cap).ownBlock ≠ some g') wx nq))
            clear y0 y1 y2
            generalize wx.drewN nq = wy at *
            have t0 := cell1 ns9; have r0 := cell1 rs9; have f0 := free_of (o := 0) rs9
            go_wp2
            refine bodyPost_ret (v := .agg #[.slice (some ⟨g, 0, none⟩) (k + 1) cap]) (by simp [results, Tryz.results117, go_sem, r0]) rfl ?_
            rw [HE.out]
            exact cpx_goodE (by rw [← HA.out, ← HM.out]; exact hm9) rs9 KC own9 (by rw [List.length_append, HL.out]; rfl) HROW.out
          · have HE : Hid ((peekI s q2 = 0 ∨ peekI s q2 = 41) ∧ Third s others q2 ∧ (cpx0 s n p).1 = q2) := by
              refine ⟨.inr (HV.out.trans h41), ⟨hlt2, by rw [HV.out]; exact h44, fun _ => by omega⟩, ?_⟩
              rw [← HQ.out, cpxR_S HCO.out (comb_none HQ2.out HV.out HCF.out (.inl HS.out))]
            have bo : decide ((0 : Int) < (others : Int)) = false := by simpa using hoth
            have be : ((q2 : Int) == (s.size : Int)) = false := by simp; omega
            clear h41 h44
            go_quiet (fail)
            replace hm9 := hm9.drewN nq
            replace KC := KC.drewN nq
            replace rs9 : (wx.drewN nq).heap[w.heap.size]? = some (.cells #[.slice none 0 0] 99 (0, 0)) := rs9
            replace ns9 : (wx.drewN nq).heap[w.heap.size + 1]? = some (.cells #[.slice (some ⟨g, 0, none⟩) (k + 1) cap] 99 (0, 0)) := ns9
            replace own9 : (wx.drewN nq).ownsRow (w.heap.size + 2) 102 3 (.slice (some ⟨g, 0, none⟩) (k + 1) cap) (k + 1) (xs ++ [.int .u8 bb, .string nm, .slice va vm vc]) := own9
            replace HROW : Hid (Row (repT docL (fun g' => w.heap.size + 2 ≤ g' ∧ (Value.slice (some ⟨g, 0, none⟩) (k + 1) cap).ownBlock ≠ some g') (wx.drewN nq) (RepL docL (fun g' => w.heap.size + 2 ≤ g' ∧ (Value.slice (some ⟨g, 0, none⟩) (k + 1) cap).ownBlock ≠ some g') (wx.drewN nq) n)) (l ++ [(bb, nm, ms)]) (xs ++ [.int .u8 bb, .string nm, .slice va vm vc])) := hide (HROW.out.mono fun _ _ hh => hh.mp (Fr.drewN docL (fun g' => w.heap.size + 2 ≤ g' ∧ (Value.slice (some ⟨g, 0, none⟩) (k + 1) cap).ownBlock ≠ some g') wx nq))
            clear y0 y1 y2
            generalize wx.drewN nq = wy at *
            have hp9 := hm9.placeM
            go_wp2
            go_roundw
            case rel => exact ⟨q2, a1, m1, k + 1, 32, _, _, rfl, hm9, rs9, ns9, own9, KC, ⟨by omega, by omega, by omega, hom1⟩, .inr HE.out⟩
            case measure => rw [hp9, hpl]; omega
        have b41 : (v == 41) = false := by simpa using h41
        by_cases hend : q2 = s.size
        · have hv0 : v = 0 := Decidable.byContradiction fun hne => absurd (peekI_lt (s := s) (p := q2) (by rw [HV.out]; exact hne)) (by omega)
          have HE : Hid (cpx0 s n p = (q2, some (l ++ [(bb, nm, ms)], cn + c1, max d d1))) := by
            rw [← HQ.out, cpxR_S HCO.out (comb_none HQ2.out HV.out HCF.out (.inl (by rw [hv0]; rfl)))]; rfl
          have be : ((q2 : Int) == (s.size : Int)) = true := by simp; omega
          clear hend hv0 h41 h44
          go_quiet (fail)
          replace hm9 := hm9.drewN nq
          replace KC := KC.drewN nq
          replace rs9 : (wx.drewN nq).heap[w.heap.size]? = some (.cells #[.slice none 0 0] 99 (0, 0)) := rs9
          replace ns9 : (wx.drewN nq).heap[w.heap.size + 1]? = some (.cells #[.slice (some ⟨g, 0, none⟩) (k + 1) cap] 99 (0, 0)) := ns9
          replace own9 : (wx.drewN nq).ownsRow (w.heap.size + 2) 102 3 (.slice (some ⟨g, 0, none⟩) (k + 1) cap) (k + 1) (xs ++ [.int .u8 bb, .string nm, .slice va vm vc]) := own9
          replace HROW : Hid (Row (repT docL (fun g' => w.heap.size + 2 ≤ g' ∧ (Value.slice (some ⟨g, 0, none⟩) (k + 1) cap).ownBlock ≠ some g') (wx.drewN nq) (RepL docL (fun g' => w.heap.size + 2 ≤ g' ∧ (Value.slice (some ⟨g, 0, none⟩) (k + 1) cap).ownBlock ≠ some g') (wx.drewN nq) n)) (l ++ [(bb, nm, ms)]) (xs ++ [.int .u8 bb, .string nm, .slice va vm vc])) := hide (HROW.out.mono fun _ _ hh => hh.mp (Fr.drewN docL (fun g' => w.heap.size + 2 ≤ g' ∧ (Value.slice (some ⟨g, 0, none⟩) (k + 1) cap).ownBlock ≠ some g') wx nq))
          clear y0 y1 y2
          generalize wx.drewN nq = wy at *
          have t0 := cell1 ns9; have r0 := cell1 rs9; have f0 := free_of (o := 0) rs9
          go_wp2
          refine bodyPost_ret (v := .agg #[.slice (some ⟨g, 0, none⟩) (k + 1) cap]) (by simp [results, Tryz.results117, go_sem, r0]) rfl ?_
          rw [HE.out]
          exact cpx_goodE (by rw [← HA.out, ← HM.out]; exact hm9) rs9 KC own9 (by rw [List.length_append, HL.out]; rfl) HROW.out
        · have hlt2 : q2 < s.size := by omega
          have be : ((q2 : Int) == (s.size : Int)) = false := by simp; omega
          by_cases hv0 : v = 0
          · have HE : Hid ((peekI s q2 = 0 ∨ peekI s q2 = 41) ∧ Third s others q2 ∧ (cpx0 s n p).1 = q2) := by
              refine ⟨.inl (HV.out.trans hv0), ⟨hlt2, by rw [HV.out]; exact h44, fun e => absurd (HV.out.symm.trans e) h41⟩, ?_⟩
              rw [← HQ.out, cpxR_S HCO.out (comb_none HQ2.out HV.out HCF.out (.inl (by rw [hv0]; rfl)))]
            clear hend hv0 h41 h44
            go_quiet (fail)
            replace hm9 := hm9.drewN nq
            replace KC := KC.drewN nq
            replace rs9 : (wx.drewN nq).heap[w.heap.size]? = some (.cells #[.slice none 0 0] 99 (0, 0)) := rs9
            replace ns9 : (wx.drewN nq).heap[w.heap.size + 1]? = some (.cells #[.slice (some ⟨g, 0, none⟩) (k + 1) cap] 99 (0, 0)) := ns9
            replace own9 : (wx.drewN nq).ownsRow (w.heap.size + 2) 102 3 (.slice (some ⟨g, 0, none⟩) (k + 1) cap) (k + 1) (xs ++ [.int .u8 bb, .string nm, .slice va vm vc]) := own9
            replace HROW : Hid (Row (repT docL (fun g' => w.heap.size + 2 ≤ g' ∧ (Value.slice (some ⟨g, 0, none⟩) (k + 1) cap).ownBlock ≠ some g') (wx.drewN nq) (RepL docL (fun g' => w.heap.size + 2 ≤ g' ∧ (Value.slice (some ⟨g, 0, none⟩) (k + 1) cap).ownBlock ≠ some g') (wx.drewN nq) n)) (l ++ [(bb, nm, ms)]) (xs ++ [.int .u8 bb, .string nm, .slice va vm vc])) := hide (HROW.out.mono fun _ _ hh => hh.mp (Fr.drewN docL (fun g' => w.heap.size + 2 ≤ g' ∧ (Value.slice (some ⟨g, 0, none⟩) (k + 1) cap).ownBlock ≠ some g') wx nq))
            clear y0 y1 y2
            generalize wx.drewN nq = wy at *
            have hp9 := hm9.placeM
            go_wp2
            go_roundw
            case rel => exact ⟨q2, a1, m1, k + 1, 32, _, _, rfl, hm9, rs9, ns9, own9, KC, ⟨by omega, by omega, by omega, hom1⟩, .inr HE.out⟩
            case measure => rw [hp9, hpl]; omega
          · have HE : Hid (complexP (listP s n) s f (l ++ [(bb, nm, ms)]) (cn + c1) (max d d1) 32 q2 = cpx0 s n p) := by
              rw [← HQ.out, cpxR_G HCO.out (comb_sp HQ2.out HV.out HCF.out (by unfold stopB; rw [b44, b41]; simpa using hv0) hlt12)]; rfl
            clear hend hv0 h41 h44
            go_quiet (fail)
            replace hm9 := hm9.drewN nq
            replace KC := KC.drewN nq
            replace rs9 : (wx.drewN nq).heap[w.heap.size]? = some (.cells #[.slice none 0 0] 99 (0, 0)) := rs9
            replace ns9 : (wx.drewN nq).heap[w.heap.size + 1]? = some (.cells #[.slice (some ⟨g, 0, none⟩) (k + 1) cap] 99 (0, 0)) := ns9
            replace own9 : (wx.drewN nq).ownsRow (w.heap.size + 2) 102 3 (.slice (some ⟨g, 0, none⟩) (k + 1) cap) (k + 1) (xs ++ [.int .u8 bb, .string nm, .slice va vm vc]) := own9
            replace HROW : Hid (Row (repT docL (fun g' => w.heap.size + 2 ≤ g' ∧ (Value.slice (some ⟨g, 0, none⟩) (k + 1) cap).ownBlock ≠ some g') (wx.drewN nq) (RepL docL (fun g' => w.heap.size + 2 ≤ g' ∧ (Value.slice (some ⟨g, 0, none⟩) (k + 1) cap).ownBlock ≠ some g') (wx.drewN nq) n)) (l ++ [(bb, nm, ms)]) (xs ++ [.int .u8 bb, .string nm, .slice va vm vc])) := hide (HROW.out.mono fun _ _ hh => hh.mp (Fr.drewN docL (fun g' => w.heap.size + 2 ≤ g' ∧ (Value.slice (some ⟨g, 0, none⟩) (k + 1) cap).ownBlock ≠ some g') wx nq))
            clear y0 y1 y2
            generalize wx.drewN nq = wy at *
            have hp9 := hm9.placeM
            go_wp2
            go_roundw
            case rel => exact ⟨q2, a1, m1, k + 1, 32, _, _, rfl, hm9, rs9, ns9, own9, KC, ⟨by omega, by omega, by omega, hom1⟩, .inl ⟨f, cn + c1, max d d1, l ++ [(bb, nm, ms)], by rw [List.length_append, HL.out]; rfl, HA.out, HM.out, by omega, by omega, HROW.out, HE.out⟩⟩
            case measure => rw [hp9, hpl]; omega
end Go.Proofs.YtclpcnignheijaaGreatDoor
namespace Go.Proofs.YtclpcnignheijaaGreatDoor
open Go.RowKit

theorem Tryz.infoRCpx : (Tryz.prog.info? 99).map (fun i => (i.zero, i.size, i.bytes)) = some (some (.agg #[.slice none 0 0]), 1, 24) := by kernel_rfl
theorem rowR_mp {L : Lay} {P P' : Nat → Prop} {w w' : World} (hf : Fr L P P' w w') {n : Nat} {l : SLst} {xs : List Value} (h : Row (fun cx vs => ∃ v', vs = [v'] ∧ repC L P w (RepL L P w n) v' cx) l xs) : Row (fun cx vs => ∃ v', vs = [v'] ∧ repC L P' w' (RepL L P' w' n) v' cx) l xs := h.mono fun _ _ ⟨v', hv', hh⟩ => ⟨v', hv', hh.mp hf⟩
theorem parts_N {lf : Nat → Nat × Option (SLst × Nat × Nat)} {s : ByteArray} {f : Nat} {l : SLst} {cn d p q : Nat} (h : complexP lf s (s.size + 1) [] 0 0 0 (spP s p) = (q, none)) : partsP lf s (f + 1) l cn d p = (q, none) := by
  rw [partsP, h]
theorem parts_S {lf : Nat → Nat × Option (SLst × Nat × Nat)} {s : ByteArray} {f : Nat} {l : SLst} {cn d p q : Nat} {x : Cpx × Nat × Nat} (h : complexP lf s (s.size + 1) [] 0 0 0 (spP s p) = (q, some x)) (h44 : peekI s q ≠ 44) : partsP lf s (f + 1) l cn d p = (q, some (l ++ [x.1], cn + x.2.1, max d x.2.2)) := by
  rw [partsP, h]; dsimp only; rw [if_neg h44]
theorem parts_G {lf : Nat → Nat × Option (SLst × Nat × Nat)} {s : ByteArray} {f : Nat} {l : SLst} {cn d p q : Nat} {x : Cpx × Nat × Nat} (h : complexP lf s (s.size + 1) [] 0 0 0 (spP s p) = (q, some x)) (h44 : peekI s q = 44) : partsP lf s (f + 1) l cn d p = partsP lf s f (l ++ [x.1]) (cn + x.2.1) (max d x.2.2) (q + 1) := by
  rw [partsP, h]; dsimp only; rw [if_pos h44]

set_option maxHeartbeats 8000000 in
set_option maxRecDepth 100000 in
theorem rlist_succ (B mb : Nat) (s : ByteArray) (n : Nat) (IH : ListR B mb s n) (hB : B ≤ mb) : ListR B mb s (n + 1) := by
  intro others p a m w h ha ho1 hn
  have h5 := h.max; have h6 := h.le
  obtain ⟨i0, hi, hz0, hz1, hz2⟩ := info_parts Tryz.infoRCpx
  have d4 := h.c4; have df := h.free (o := 4)
  unfold ListRPost
  go_enter Tryz.func81, Tryz.ntmps81
  by_cases hlt : m < others
  · have hlt' : (m : Int) < (others : Int) := by omega
    have hmS : Mk (w.setCell ⟨mb, 4, none⟩ (.int .i64 others)) mb s p false a (max m (others + 0)) := h.set4 (by omega)
    have hkS := h.kp (Kp.refl B [153] w) hB 4 (.int .i64 others)
    go_wp2
    clear d4 df
    generalize w.setCell ⟨mb, 4, none⟩ (.int .i64 others) = W at *
    go_loopw [5] (fun sv wr => ∃ (q f cn d : Nat) (l : SLst) (xs : List Value), Mk wr mb s q false (a + cn) (max m (others + d)) ∧ (p ≤ q ∧ s.size < q + f ∧ a + cn ≤ q ∧ l.length ≤ q) ∧ wr.ownsRow w.heap.size 99 1 sv l.length xs ∧ Row (fun cx vs => ∃ v', vs = [v'] ∧ repC docL (fun k => w.heap.size ≤ k ∧ sv.ownBlock ≠ some k) wr (RepL docL (fun k => w.heap.size ≤ k ∧ sv.ownBlock ≠ some k) wr n) v' cx) l xs ∧ Hid (partsP (listP s n) s f l cn d q = listP s (n + 1) p) ∧ Kp B [153] w wr) (fun _ wr => s.size + 1 - placeM wr mb)
    case atStart => exact ⟨p, s.size + 1, 0, 0, [], [], hmS, ⟨Nat.le_refl _, by omega, ha, Nat.zero_le _⟩, World.ownsRow_nil _ _ _ _, rfl, rfl, hkS⟩
    case round =>
      clear hmS hkS
      obtain ⟨q, f, cn, d, l, xs, hm, ⟨hpq, hf, hcq, hlq⟩, own, hrow, HQ, hk⟩ := hrel
      obtain ⟨la, lc, rfl⟩ := own_slice' own
      obtain ⟨f, rfl⟩ : ∃ f', f = f' + 1 := ⟨f - 1, by have := hm.le; omega⟩
      have hsp := spP_le hm.le
      have hpl := hm.placeM
      have hgd := complexP_gd (listP_gd s n) (lf := listP s n) (s.size + 1) [] 0 0 0 (spP s q) hsp.2
      generalize hA : a + cn = a1 at *
      generalize hM : max m (others + d) = m1 at *
      have HA := hide hA; have HM := hide hM
      have hom1 : others ≤ m1 := by omega
      clear hA hM
      go_wp2_with fail
      refine (rspaces_any B mb s q false a1 m1 _ hm hB).mono ?_
      rintro e w2 ⟨rfl, hm2, hk2⟩
      have hm2' : Mk w2 mb s (spP s q) false a1 m1 := hm2
      have own2 := hk2.owns own (by decide)
      have hkA := hk.trans hk2
      have hrow2 := rowR_mp (Fr.ofMk hk2) hrow
      have hzw := hk2.size
      have HOWN : Hid (∀ g, (Value.slice la l.length lc).ownBlock = some g → g < wr.heap.size) := fun g hg => (own.lt g hg).2
      clear own hrow hm hm2
      go_wp2_with fail
      refine (rcomplex_any B mb s n others (spP s q) a1 m1 _ IH hm2' hB (by omega) (by omega) hom1 (by omega)).mono ?_
      rintro e w3 ⟨cv, rfl, hk3, ⟨va, vm, vc, rfl⟩, hor⟩
      have own3 := hk3.owns own2 (by decide)
      have hkB := hkA.trans hk3
      have hrow3 := hide (rowR_mp (Fr.ofMk hk3) hrow2)
      have hzw3 := hk3.size
      have hzk := hk.size
      obtain ⟨bd, a2, m2, q3, hm3, HC⟩ : ∃ bd a2 m2 q3, Mk w3 mb s q3 bd a2 m2 ∧ Hid ((cpx0 s n (spP s q)).1 = q3 ∧ ((bd = false ∧ ∃ cx c1 d1, (cpx0 s n (spP s q)).2 = some (cx, c1, d1) ∧ a2 = a1 + c1 ∧ m2 = max m1 (others + d1) ∧ repC docL (fun g => w2.heap.size ≤ g) w3 (RepL docL (fun g => w2.heap.size ≤ g) w3 n) (.slice va vm vc) cx) ∨ (bd = true ∧ ((cpx0 s n (spP s q)).2 = none ∨ Third s others q3)))) := by
        rcases hor with ⟨cx, c1, d1, hx, hmx, hrx⟩ | ⟨a', m', hmx, hx⟩
        · exact ⟨false, _, _, _, hmx, hide ⟨rfl, .inl ⟨rfl, cx, c1, d1, hx, rfl, rfl, hrx⟩⟩⟩
        · exact ⟨true, a', m', _, hmx, hide ⟨rfl, .inr ⟨rfl, hx⟩⟩⟩
      clear hor own2 hkA hrow2 hm2'
      have hm4 := hm3.alloc (.cells #[.slice va vm vc] 99)
      have own4 := own3.alloc (.cells #[.slice va vm vc] 99)
      have hkC := hkB.alloc (.cells #[.slice va vm vc] 99)
      have ms4 := alloc_at w3 (.cells #[.slice va vm vc] 99)
      have z0 := cell1 ms4
      clear own3 hkB hm3
      go_wp2_with (at_builtin; refine wpList_append_lies _ rfl _ _ 42 rfl w.heap.size 99 i0 (.agg #[.slice none 0 0]) 1 24 Tryz.underlying42 hi hz0 hz1 hz2 rfl (by decide) _ _ _ rfl (own4.alloc _) ⟨w3.heap.size + 1, 0, none⟩ 1 1 [.slice va vm vc] rfl rfl ?c1 ?c2 (by decide) ?c3 ?c4 ?c5 _ rfl ?_)
      case c1 => exact cells_new #[.slice va vm vc] 99 (by simp)
      case c2 => intro u hu; simp at hu; subst hu; rfl
      case c3 => unfold maxLen; omega
      case c4 => omega
      case c5 => simp; omega
      intro g cap w7 own7 hgrow7 hat7 hlt7
      have KA := (hkC.alloc (.cells #[.slice va vm vc] 99)).grownNew hgrow7 (fun k e => (own4.lt k e).1)
      have NB : ∀ {cc : Array Value} {ty : TypeId} {bk : Nat}, (w3.alloc (.cells #[.slice va vm vc] 99)).heap[bk]? = some (.cells cc ty (0, 0)) → ty ≠ 99 → w7.heap[bk]? = some (.cells cc ty (0, 0)) := fun hb hty => kept_grown (own4.alloc _) hgrow7 (alloc_old hb _) hty
      have hm7 : Mk w7 mb s q3 bd a2 m2 := ⟨NB hm4.blk (by decide), hm4.le, hm4.max⟩
      have frg : Fr docL (fun g' => w.heap.size ≤ g' ∧ (Value.slice la l.length lc).ownBlock ≠ some g') (fun g' => w.heap.size ≤ g' ∧ (Value.slice (some ⟨g, 0, none⟩) (l.length + 1) cap).ownBlock ≠ some g') ((w3.alloc (.cells #[.slice va vm vc] 99)).alloc (.cells #[.slice va vm vc] 99)) w7 :=
        Fr.grown hgrow7 (by simpa using hat7) (fun k hk => hk.2) (fun k hk hne => ⟨hk.1, by simp only [Value.ownBlock, ne_eq, Option.some.injEq]; exact fun e => hne e.symm⟩)
      have fr37 : Fr docL (fun g' => w.heap.size ≤ g' ∧ (Value.slice la l.length lc).ownBlock ≠ some g') (fun g' => w.heap.size ≤ g' ∧ (Value.slice (some ⟨g, 0, none⟩) (l.length + 1) cap).ownBlock ≠ some g') w3 w7 := fun g' c t hg hb ht => frg g' c t hg (alloc_old (alloc_old hb _) _) ht
      have HR7 : Hid (∀ cx, repC docL (fun g => w2.heap.size ≤ g) w3 (RepL docL (fun g => w2.heap.size ≤ g) w3 n) (.slice va vm vc) cx → Row (fun cx vs => ∃ v', vs = [v'] ∧ repC docL (fun g' => w.heap.size ≤ g' ∧ (Value.slice (some ⟨g, 0, none⟩) (l.length + 1) cap).ownBlock ≠ some g') w7 (RepL docL (fun g' => w.heap.size ≤ g' ∧ (Value.slice (some ⟨g, 0, none⟩) (l.length + 1) cap).ownBlock ≠ some g') w7 n) v' cx) (l ++ [cx]) (xs ++ [.slice va vm vc])) := fun cx hcx => by
        have h2 : repC docL (fun g => w.heap.size ≤ g ∧ (Value.slice la l.length lc).ownBlock ≠ some g) w3 (RepL docL (fun g => w.heap.size ≤ g ∧ (Value.slice la l.length lc).ownBlock ≠ some g) w3 n) (.slice va vm vc) cx := hcx.mp (Fr.same fun g' hg => ⟨by omega, fun e => by have := HOWN.out g' e; omega⟩)
        exact (rowR_mp fr37 hrow3.out).snoc ⟨_, rfl, h2.mp fr37⟩
      clear hgrow7 NB frg fr37 hat7 own4 hrow3 z0 hm4 hkC ms4
      cases bd
      rotate_left
      · have HR : Hid ((listP s (n + 1) p).1 = q3 ∧ ((listP s (n + 1) p).2 = none ∨ Third s others (listP s (n + 1) p).1)) := by
          obtain ⟨h1, h2⟩ := HC.out
          rcases h2 with ⟨hx, _⟩ | ⟨_, h2⟩
          · cases hx
          have hcx : cpx0 s n (spP s q) = (q3, (cpx0 s n (spP s q)).2) := by rw [← h1]
          cases hr : (cpx0 s n (spP s q)).2 with
          | none =>
            rw [hr] at hcx
            rw [← HQ.out, parts_N hcx]
            exact ⟨rfl, .inl rfl⟩
          | some x =>
            rw [hr] at hcx h2
            rcases h2 with h2 | h2
            · cases h2
            rw [← HQ.out, parts_S hcx h2.2.1]
            exact ⟨rfl, .inr h2⟩
        go_wp2_with fail
        refine (is_no B mb s q3 true a2 m2 44 _ hm7 (by unfold nextI; rw [if_pos rfl]; decide)).mono ?_
        rintro e w8 ⟨rfl, hm8, hk8⟩
        have KB := KA.trans hk8
        go_wp2
        go_ret
        refine ⟨_, rfl, ⟨_, _, _, rfl⟩, KB, .inr ⟨a2, m2, by rw [HR.out.1]; exact hm8, HR.out.2⟩⟩
      · obtain ⟨cx, c1, d1, hx, hA2, hM2, hrx⟩ : ∃ cx c1 d1, complexP (listP s n) s (s.size + 1) [] 0 0 0 (spP s q) = (q3, some (cx, c1, d1)) ∧ a2 = a1 + c1 ∧ m2 = max m1 (others + d1) ∧ Row (fun cx vs => ∃ v', vs = [v'] ∧ repC docL (fun g' => w.heap.size ≤ g' ∧ (Value.slice (some ⟨g, 0, none⟩) (l.length + 1) cap).ownBlock ≠ some g') w7 (RepL docL (fun g' => w.heap.size ≤ g' ∧ (Value.slice (some ⟨g, 0, none⟩) (l.length + 1) cap).ownBlock ≠ some g') w7 n) v' cx) (l ++ [cx]) (xs ++ [.slice va vm vc]) := by
          obtain ⟨h1, h2⟩ := HC.out
          rcases h2 with ⟨_, cx, c1, d1, hr, h3, h4, h5⟩ | ⟨hx, _⟩
          · exact ⟨cx, c1, d1, by rw [← h1, ← hr]; rfl, h3, h4, HR7.out cx h5⟩
          · cases hx
        rw [hx] at hgd
        obtain ⟨g1, g2, g3⟩ := hgd
        obtain ⟨⟨g3, _⟩, g4⟩ := g3 _ rfl
        dsimp only at g1 g2 g3 g4
        have hA := HA.out; have hM := HM.out
        have hA3 : a2 = a + (cn + c1) := by omega
        have hM3 : m2 = max m (others + max d d1) := by omega
        have HX := hide hx; have HA3 := hide hA3; have HM3 := hide hM3; have HROW := hide hrx
        have ha2 : a + (cn + c1) ≤ q3 := by omega
        clear hx hA2 hM2 hA hM hA3 hM3 hrx HC HR7
        by_cases h44 : peekI s q3 = 44
        · have HE : Hid (partsP (listP s n) s f (l ++ [cx]) (cn + c1) (max d d1) (q3 + 1) = listP s (n + 1) p) := by
            rw [← HQ.out, parts_G HX.out h44]; rfl
          have hlt3 := peek_in h44 (by decide)
          have H44 := hide h44
          clear h44
          go_wp2_with fail
          refine (is_yes B mb s q3 a2 m2 44 _ hm7 hB H44.out (by decide)).mono ?_
          rintro e w8 ⟨rfl, hm8, hk8⟩
          have KB := KA.trans hk8
          have own8 := hk8.owns own7 (by decide)
          have hrow8 := hide (rowR_mp (Fr.ofMk hk8) HROW.out)
          have hpp := hm8.placeM
          go_wp2
          go_roundw
          case rel => exact ⟨q3 + 1, f, cn + c1, max d d1, l ++ [cx], _, by rw [← HA3.out, ← HM3.out]; exact hm8, ⟨by omega, by omega, by omega, by simp; omega⟩, by rw [List.length_append]; exact own8, hrow8.out, HE, KB⟩
          case measure => rw [hpp, hpl]; omega
        · have HE : Hid (listP s (n + 1) p = (q3, some (l ++ [cx], cn + c1, max d d1))) := by
            rw [← HQ.out, parts_S HX.out h44]; rfl
          have H44 := hide h44
          clear h44
          go_wp2_with fail
          refine (is_no B mb s q3 false a2 m2 44 _ hm7 (by rw [nextI_ok]; exact H44.out)).mono ?_
          rintro e w8 ⟨rfl, hm8, hk8⟩
          have KB := KA.trans hk8
          have own8 := hk8.owns own7 (by decide)
          have hrow8 := hide (rowR_mp (Fr.ofMk hk8) HROW.out)
          go_wp2
          go_ret
          rw [HE.out]
          refine ⟨_, rfl, ⟨_, _, _, rfl⟩, KB, .inl ⟨l ++ [cx], cn + c1, max d d1, rfl, by rw [← HA3.out, ← HM3.out]; exact hm8, _, ⟨?_, fun gg hg => (own8.lt gg hg).1⟩, rowR_mp (Fr.same fun g' hg => hg.1) hrow8.out⟩⟩
          rw [List.length_append]
          exact owns_base own8 (Nat.zero_le _)
  · have hlt' : ¬ (m : Int) < (others : Int) := by omega
    have hmS : Mk w mb s p false a (max m (others + 0)) := by rw [show max m (others + 0) = m from by omega]; exact h
    have hkS := Kp.refl B [153] w
    go_wp2
    clear d4 df
    go_loopw [5] (fun sv wr => ∃ (q f cn d : Nat) (l : SLst) (xs : List Value), Mk wr mb s q false (a + cn) (max m (others + d)) ∧ (p ≤ q ∧ s.size < q + f ∧ a + cn ≤ q ∧ l.length ≤ q) ∧ wr.ownsRow w.heap.size 99 1 sv l.length xs ∧ Row (fun cx vs => ∃ v', vs = [v'] ∧ repC docL (fun k => w.heap.size ≤ k ∧ sv.ownBlock ≠ some k) wr (RepL docL (fun k => w.heap.size ≤ k ∧ sv.ownBlock ≠ some k) wr n) v' cx) l xs ∧ Hid (partsP (listP s n) s f l cn d q = listP s (n + 1) p) ∧ Kp B [153] w wr) (fun _ wr => s.size + 1 - placeM wr mb)
    case atStart => exact ⟨p, s.size + 1, 0, 0, [], [], hmS, ⟨Nat.le_refl _, by omega, ha, Nat.zero_le _⟩, World.ownsRow_nil _ _ _ _, rfl, rfl, hkS⟩
    case round =>
      clear hmS hkS
      obtain ⟨q, f, cn, d, l, xs, hm, ⟨hpq, hf, hcq, hlq⟩, own, hrow, HQ, hk⟩ := hrel
      obtain ⟨la, lc, rfl⟩ := own_slice' own
      obtain ⟨f, rfl⟩ : ∃ f', f = f' + 1 := ⟨f - 1, by have := hm.le; omega⟩
      have hsp := spP_le hm.le
      have hpl := hm.placeM
      have hgd := complexP_gd (listP_gd s n) (lf := listP s n) (s.size + 1) [] 0 0 0 (spP s q) hsp.2
      generalize hA : a + cn = a1 at *
      generalize hM : max m (others + d) = m1 at *
      have HA := hide hA; have HM := hide hM
      have hom1 : others ≤ m1 := by omega
      clear hA hM
      go_wp2_with fail
      refine (rspaces_any B mb s q false a1 m1 _ hm hB).mono ?_
      rintro e w2 ⟨rfl, hm2, hk2⟩
      have hm2' : Mk w2 mb s (spP s q) false a1 m1 := hm2
      have own2 := hk2.owns own (by decide)
      have hkA := hk.trans hk2
      have hrow2 := rowR_mp (Fr.ofMk hk2) hrow
      have hzw := hk2.size
      have HOWN : Hid (∀ g, (Value.slice la l.length lc).ownBlock = some g → g < wr.heap.size) := fun g hg => (own.lt g hg).2
      clear own hrow hm hm2
      go_wp2_with fail
      refine (rcomplex_any B mb s n others (spP s q) a1 m1 _ IH hm2' hB (by omega) (by omega) hom1 (by omega)).mono ?_
      rintro e w3 ⟨cv, rfl, hk3, ⟨va, vm, vc, rfl⟩, hor⟩
      have own3 := hk3.owns own2 (by decide)
      have hkB := hkA.trans hk3
      have hrow3 := hide (rowR_mp (Fr.ofMk hk3) hrow2)
      have hzw3 := hk3.size
      have hzk := hk.size
      obtain ⟨bd, a2, m2, q3, hm3, HC⟩ : ∃ bd a2 m2 q3, Mk w3 mb s q3 bd a2 m2 ∧ Hid ((cpx0 s n (spP s q)).1 = q3 ∧ ((bd = false ∧ ∃ cx c1 d1, (cpx0 s n (spP s q)).2 = some (cx, c1, d1) ∧ a2 = a1 + c1 ∧ m2 = max m1 (others + d1) ∧ repC docL (fun g => w2.heap.size ≤ g) w3 (RepL docL (fun g => w2.heap.size ≤ g) w3 n) (.slice va vm vc) cx) ∨ (bd = true ∧ ((cpx0 s n (spP s q)).2 = none ∨ Third s others q3)))) := by
        rcases hor with ⟨cx, c1, d1, hx, hmx, hrx⟩ | ⟨a', m', hmx, hx⟩
        · exact ⟨false, _, _, _, hmx, hide ⟨rfl, .inl ⟨rfl, cx, c1, d1, hx, rfl, rfl, hrx⟩⟩⟩
        · exact ⟨true, a', m', _, hmx, hide ⟨rfl, .inr ⟨rfl, hx⟩⟩⟩
      clear hor own2 hkA hrow2 hm2'
      have hm4 := hm3.alloc (.cells #[.slice va vm vc] 99)
      have own4 := own3.alloc (.cells #[.slice va vm vc] 99)
      have hkC := hkB.alloc (.cells #[.slice va vm vc] 99)
      have ms4 := alloc_at w3 (.cells #[.slice va vm vc] 99)
      have z0 := cell1 ms4
      clear own3 hkB hm3
      go_wp2_with (at_builtin; refine wpList_append_lies _ rfl _ _ 42 rfl w.heap.size 99 i0 (.agg #[.slice none 0 0]) 1 24 Tryz.underlying42 hi hz0 hz1 hz2 rfl (by decide) _ _ _ rfl (own4.alloc _) ⟨w3.heap.size + 1, 0, none⟩ 1 1 [.slice va vm vc] rfl rfl ?c1 ?c2 (by decide) ?c3 ?c4 ?c5 _ rfl ?_)
      case c1 => exact cells_new #[.slice va vm vc] 99 (by simp)
      case c2 => intro u hu; simp at hu; subst hu; rfl
      case c3 => unfold maxLen; omega
      case c4 => omega
      case c5 => simp; omega
      intro g cap w7 own7 hgrow7 hat7 hlt7
      have KA := (hkC.alloc (.cells #[.slice va vm vc] 99)).grownNew hgrow7 (fun k e => (own4.lt k e).1)
      have NB : ∀ {cc : Array Value} {ty : TypeId} {bk : Nat}, (w3.alloc (.cells #[.slice va vm vc] 99)).heap[bk]? = some (.cells cc ty (0, 0)) → ty ≠ 99 → w7.heap[bk]? = some (.cells cc ty (0, 0)) := fun hb hty => kept_grown (own4.alloc _) hgrow7 (alloc_old hb _) hty
      have hm7 : Mk w7 mb s q3 bd a2 m2 := ⟨NB hm4.blk (by decide), hm4.le, hm4.max⟩
      have frg : Fr docL (fun g' => w.heap.size ≤ g' ∧ (Value.slice la l.length lc).ownBlock ≠ some g') (fun g' => w.heap.size ≤ g' ∧ (Value.slice (some ⟨g, 0, none⟩) (l.length + 1) cap).ownBlock ≠ some g') ((w3.alloc (.cells #[.slice va vm vc] 99)).alloc (.cells #[.slice va vm vc] 99)) w7 :=
        Fr.grown hgrow7 (by simpa using hat7) (fun k hk => hk.2) (fun k hk hne => ⟨hk.1, by simp only [Value.ownBlock, ne_eq, Option.some.injEq]; exact fun e => hne e.symm⟩)
      have fr37 : Fr docL (fun g' => w.heap.size ≤ g' ∧ (Value.slice la l.length lc).ownBlock ≠ some g') (fun g' => w.heap.size ≤ g' ∧ (Value.slice (some ⟨g, 0, none⟩) (l.length + 1) cap).ownBlock ≠ some g') w3 w7 := fun g' c t hg hb ht => frg g' c t hg (alloc_old (alloc_old hb _) _) ht
      have HR7 : Hid (∀ cx, repC docL (fun g => w2.heap.size ≤ g) w3 (RepL docL (fun g => w2.heap.size ≤ g) w3 n) (.slice va vm vc) cx → Row (fun cx vs => ∃ v', vs = [v'] ∧ repC docL (fun g' => w.heap.size ≤ g' ∧ (Value.slice (some ⟨g, 0, none⟩) (l.length + 1) cap).ownBlock ≠ some g') w7 (RepL docL (fun g' => w.heap.size ≤ g' ∧ (Value.slice (some ⟨g, 0, none⟩) (l.length + 1) cap).ownBlock ≠ some g') w7 n) v' cx) (l ++ [cx]) (xs ++ [.slice va vm vc])) := fun cx hcx => by
        have h2 : repC docL (fun g => w.heap.size ≤ g ∧ (Value.slice la l.length lc).ownBlock ≠ some g) w3 (RepL docL (fun g => w.heap.size ≤ g ∧ (Value.slice la l.length lc).ownBlock ≠ some g) w3 n) (.slice va vm vc) cx := hcx.mp (Fr.same fun g' hg => ⟨by omega, fun e => by have := HOWN.out g' e; omega⟩)
        exact (rowR_mp fr37 hrow3.out).snoc ⟨_, rfl, h2.mp fr37⟩
      clear hgrow7 NB frg fr37 hat7 own4 hrow3 z0 hm4 hkC ms4
      cases bd
      rotate_left
      · have HR : Hid ((listP s (n + 1) p).1 = q3 ∧ ((listP s (n + 1) p).2 = none ∨ Third s others (listP s (n + 1) p).1)) := by
          obtain ⟨h1, h2⟩ := HC.out
          rcases h2 with ⟨hx, _⟩ | ⟨_, h2⟩
          · cases hx
          have hcx : cpx0 s n (spP s q) = (q3, (cpx0 s n (spP s q)).2) := by rw [← h1]
          cases hr : (cpx0 s n (spP s q)).2 with
          | none =>
            rw [hr] at hcx
            rw [← HQ.out, parts_N hcx]
            exact ⟨rfl, .inl rfl⟩
          | some x =>
            rw [hr] at hcx h2
            rcases h2 with h2 | h2
            · cases h2
            rw [← HQ.out, parts_S hcx h2.2.1]
            exact ⟨rfl, .inr h2⟩
        go_wp2_with fail
        refine (is_no B mb s q3 true a2 m2 44 _ hm7 (by unfold nextI; rw [if_pos rfl]; decide)).mono ?_
        rintro e w8 ⟨rfl, hm8, hk8⟩
        have KB := KA.trans hk8
        go_wp2
        go_ret
        refine ⟨_, rfl, ⟨_, _, _, rfl⟩, KB, .inr ⟨a2, m2, by rw [HR.out.1]; exact hm8, HR.out.2⟩⟩
      · obtain ⟨cx, c1, d1, hx, hA2, hM2, hrx⟩ : ∃ cx c1 d1, complexP (listP s n) s (s.size + 1) [] 0 0 0 (spP s q) = (q3, some (cx, c1, d1)) ∧ a2 = a1 + c1 ∧ m2 = max m1 (others + d1) ∧ Row (fun cx vs => ∃ v', vs = [v'] ∧ repC docL (fun g' => w.heap.size ≤ g' ∧ (Value.slice (some ⟨g, 0, none⟩) (l.length + 1) cap).ownBlock ≠ some g') w7 (RepL docL (fun g' => w.heap.size ≤ g' ∧ (Value.slice (some ⟨g, 0, none⟩) (l.length + 1) cap).ownBlock ≠ some g') w7 n) v' cx) (l ++ [cx]) (xs ++ [.slice va vm vc]) := by
          obtain ⟨h1, h2⟩ := HC.out
          rcases h2 with ⟨_, cx, c1, d1, hr, h3, h4, h5⟩ | ⟨hx, _⟩
          · exact ⟨cx, c1, d1, by rw [← h1, ← hr]; rfl, h3, h4, HR7.out cx h5⟩
          · cases hx
        rw [hx] at hgd
        obtain ⟨g1, g2, g3⟩ := hgd
        obtain ⟨⟨g3, _⟩, g4⟩ := g3 _ rfl
        dsimp only at g1 g2 g3 g4
        have hA := HA.out; have hM := HM.out
        have hA3 : a2 = a + (cn + c1) := by omega
        have hM3 : m2 = max m (others + max d d1) := by omega
        have HX := hide hx; have HA3 := hide hA3; have HM3 := hide hM3; have HROW := hide hrx
        have ha2 : a + (cn + c1) ≤ q3 := by omega
        clear hx hA2 hM2 hA hM hA3 hM3 hrx HC HR7
        by_cases h44 : peekI s q3 = 44
        · have HE : Hid (partsP (listP s n) s f (l ++ [cx]) (cn + c1) (max d d1) (q3 + 1) = listP s (n + 1) p) := by
            rw [← HQ.out, parts_G HX.out h44]; rfl
          have hlt3 := peek_in h44 (by decide)
          have H44 := hide h44
          clear h44
          go_wp2_with fail
          refine (is_yes B mb s q3 a2 m2 44 _ hm7 hB H44.out (by decide)).mono ?_
          rintro e w8 ⟨rfl, hm8, hk8⟩
          have KB := KA.trans hk8
          have own8 := hk8.owns own7 (by decide)
          have hrow8 := hide (rowR_mp (Fr.ofMk hk8) HROW.out)
          have hpp := hm8.placeM
          go_wp2
          go_roundw
          case rel => exact ⟨q3 + 1, f, cn + c1, max d d1, l ++ [cx], _, by rw [← HA3.out, ← HM3.out]; exact hm8, ⟨by omega, by omega, by omega, by simp; omega⟩, by rw [List.length_append]; exact own8, hrow8.out, HE, KB⟩
          case measure => rw [hpp, hpl]; omega
        · have HE : Hid (listP s (n + 1) p = (q3, some (l ++ [cx], cn + c1, max d d1))) := by
            rw [← HQ.out, parts_S HX.out h44]; rfl
          have H44 := hide h44
          clear h44
          go_wp2_with fail
          refine (is_no B mb s q3 false a2 m2 44 _ hm7 (by rw [nextI_ok]; exact H44.out)).mono ?_
          rintro e w8 ⟨rfl, hm8, hk8⟩
          have KB := KA.trans hk8
          have own8 := hk8.owns own7 (by decide)
          have hrow8 := hide (rowR_mp (Fr.ofMk hk8) HROW.out)
          go_wp2
          go_ret
          rw [HE.out]
          refine ⟨_, rfl, ⟨_, _, _, rfl⟩, KB, .inl ⟨l ++ [cx], cn + c1, max d d1, rfl, by rw [← HA3.out, ← HM3.out]; exact hm8, _, ⟨?_, fun gg hg => (own8.lt gg hg).1⟩, rowR_mp (Fr.same fun g' hg => hg.1) hrow8.out⟩⟩
          rw [List.length_append]
          exact owns_base own8 (Nat.zero_le _)
theorem rlist_ok (B mb : Nat) (s : ByteArray) (hB : B ≤ mb) : ∀ n, ListR B mb s n
  | 0 => fun others p a m w h _ _ hn => absurd h.le (by omega)
  | n + 1 => rlist_succ B mb s n (rlist_ok B mb s hB n) hB
end Go.Proofs.YtclpcnignheijaaGreatDoor
