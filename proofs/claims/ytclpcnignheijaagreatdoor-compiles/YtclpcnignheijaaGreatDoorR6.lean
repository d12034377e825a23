import Derived.Test.YtclpcnignheijaaGreatDoorR5
import Derived.Test.YtclpcnignheijaaGreatDoorP2
import Derived.Deep.RegionWith
namespace Go.Proofs.YtclpcnignheijaaGreatDoor
open Go.RowKit

def plusT (b : Int) : List UInt8 := if 0 < b then 43 :: numT b else if b < 0 then numT b else []
/-- What stands in an nth-child, written. -/
def nthT (z : NthQ) : List UInt8 := if z.word.size = 0 then (if z.hasN = true then numT z.a ++ 110 :: plusT z.b else numT z.b) else z.word.data.toList
theorem cells9 {w : World} {b : Nat} {x0 x1 x2 x3 x4 x5 x6 x7 x8 : Value} {t : TypeId} (h : w.heap[b]? = some (.cells #[x0, x1, x2, x3, x4, x5, x6, x7, x8] t (0, 0))) :
    (w.cell? ⟨b, 0, none⟩ = some x0 ∧ w.cell? ⟨b, 1, none⟩ = some x1 ∧ w.cell? ⟨b, 2, none⟩ = some x2 ∧ w.cell? ⟨b, 3, none⟩ = some x3 ∧ w.cell? ⟨b, 4, none⟩ = some x4 ∧ w.cell? ⟨b, 5, none⟩ = some x5 ∧ w.cell? ⟨b, 6, none⟩ = some x6 ∧ w.cell? ⟨b, 7, none⟩ = some x7 ∧ w.cell? ⟨b, 8, none⟩ = some x8) ∧ (∀ o, w.frozen? ⟨b, o, none⟩ = false) := by
  refine ⟨by simp [World.cell?, h], fun o => free_of h⟩
/-- A simple that is being read, at block sb. -/
def Sb (w : World) (sb : Nat) (so : Int) (wd op va : ByteArray) (sm : Bool) (x y : Int) (nt : ByteArray) (lv : Value) : Prop :=
  w.heap[sb]? = some (.cells #[.int .u8 so, .string wd, .string op, .string va, .bool sm, .int .i64 x, .int .i64 y, .string nt, lv] 104 (0, 0))
def TM : List TypeId := [153, 104]
/-- The frame of what reads into a simple at block sb: besides that block only the reader's has turned. -/
structure Ks (B sb : Nat) (w w' : World) : Prop where
  os : w'.os = w.os
  tape : w'.tape = w.tape
  output : w'.output = w.output
  size : w.heap.size ≤ w'.heap.size
  block : ∀ k, k < w.heap.size → k ≠ sb → (k < B ∨ ∀ c t fr, w.heap[k]? = some (.cells c t fr) → t ≠ 153) → w'.heap[k]? = w.heap[k]?
theorem Kp.tm {B sb : Nat} {w w' : World} (h : Kp B [153] w w') : Ks B sb w w' := ⟨h.os, h.tape, h.output, h.size, fun k hk _ hc => h.block k hk (by
  rcases hc with hc | hc
  · exact .inl hc
  · exact .inr fun c t fr he ht => hc c t fr he (by simpa using ht))⟩
theorem Ks.trans {B sb : Nat} {a b c : World} (h : Ks B sb a b) (k : Ks B sb b c) : Ks B sb a c := by
  refine ⟨k.os.trans h.os, k.tape.trans h.tape, k.output.trans h.output, Nat.le_trans h.size k.size, fun i hi hne hc => ?_⟩
  have e := h.block i hi hne hc
  refine (k.block i (Nat.lt_of_lt_of_le hi h.size) hne ?_).trans e
  rcases hc with hc | hc
  · exact .inl hc
  · exact .inr fun c t fr he => hc c t fr (by rw [← e]; exact he)
theorem Ks.refl (B sb : Nat) (w : World) : Ks B sb w w := (Kp.refl B [153] w).tm
theorem Ks.drewN {B sb : Nat} {a w : World} (h : Ks B sb a w) (n : Nat) : Ks B sb a (w.drewN n) := ⟨h.os, h.tape, h.output, h.size, h.block⟩
theorem Ks.alloc {B sb : Nat} {a w : World} (h : Ks B sb a w) (o : Obj) : Ks B sb a (w.alloc o) := h.trans ((Kp.refl B [153] w).alloc o).tm
theorem Ks.setCell {B : Nat} {a w : World} {p : Addr} (h : Ks B p.block a w) {c : Array Value} {t : TypeId} {fr : Nat × Nat} (_hp : w.heap[p.block]? = some (.cells c t fr)) (_ht : t ∈ TM) (_hB : B ≤ p.block) (u : Value) : Ks B p.block a (w.setCell p u) :=
  h.trans ⟨rfl, rfl, rfl, by simp [World.setCell], fun k _ hne _ => Below.heap_setCell _ _ _ _ hne⟩
theorem Ks.at {B sb : Nat} {w w' : World} (h : Ks B sb w w') {k : Nat} {c : Array Value} {t : TypeId} {fr : Nat × Nat} (hk : w.heap[k]? = some (.cells c t fr)) (ht : t ≠ 153) (hne : k ≠ sb) : w'.heap[k]? = some (.cells c t fr) := by
  rw [h.block k (lt_of_block hk) hne (.inr fun c' t' fr' he => ?_)]
  · exact hk
  · rw [hk] at he
    simp only [Option.some.injEq, Obj.cells.injEq] at he
    obtain ⟨_, rfl, _⟩ := he
    exact ht
/-- A simple that is new: nothing elder but the reader has turned. -/
theorem Ks.new {B sb : Nat} {a b c : World} (k : Ks B sb b c) (h : Kp B [153] a b) (hn : a.heap.size ≤ sb) : Kp B [153] a c := by
  refine ⟨k.os.trans h.os, k.tape.trans h.tape, k.output.trans h.output, Nat.le_trans h.size k.size, fun i hi hc => ?_⟩
  have e := h.block i hi hc
  refine (k.block i (Nat.lt_of_lt_of_le hi h.size) (by omega) ?_).trans e
  rcases hc with hc | hc
  · exact .inl hc
  · exact .inr fun c t fr he ht => hc c t fr (by rw [← e]; exact he) (by simp [ht])
theorem numbers_word {s : ByteArray} {p : Nat} {z : NthQ} {i : Nat} (h : (peekI s p = 111 ∧ z = ⟨bytesOf oddW, true, 2, 1⟩ ∧ i = 1) ∨ (peekI s p = 101 ∧ z = ⟨bytesOf evenW, true, 2, 0⟩ ∧ i = 0)) :
    ∃ q o, numbersP s p = (q, if o = true then some z else none) ∧ oneP s evodW 5 [] p = (q, if o = true then some i else none) := by
  rcases h with ⟨h, rfl, rfl⟩ | ⟨h, rfl, rfl⟩
  · refine ⟨_, _, ?_, evod_odd s p h⟩
    unfold numbersP; rw [if_pos h]
  · refine ⟨_, _, ?_, evod_even s p h⟩
    unfold numbersP; rw [if_neg (by rw [h]; decide), if_pos h]
theorem evod_len : ∀ x ∈ evodW, x.length < 5 := by decide
theorem evod_no0 : ∀ x ∈ evodW, (0 : UInt8) ∉ x := by decide
def RNth (B mb sb : Nat) (s : ByteArray) (p a m : Nat) (so : Int) (wd : ByteArray) (lv : Value) (w : World) : Prop :=
    Calls Tryz.prog 215 #[.pointer (some ⟨mb, 0, none⟩), .pointer (some ⟨sb, 0, none⟩)] w fun e w' => e = .returned (.tuple #[]) ∧ Ks B sb w w' ∧
      ((∃ z, (numbersP s p).2 = some z ∧ Mk w' mb s (numbersP s p).1 false a m ∧ Sb w' sb so wd noB noB false z.a z.b (bytesOf (nthT z)) lv) ∨ ((numbersP s p).2 = none ∧ Mk w' mb s (numbersP s p).1 true a m ∧ ∃ x y nt, Sb w' sb so wd noB noB false x y nt lv))
set_option maxRecDepth 100000 in
set_option maxHeartbeats 4000000 in
theorem rnth_odd (B mb sb : Nat) (s : ByteArray) (p a m : Nat) (so : Int) (wd : ByteArray) (lv : Value) (w : World) (h : Mk w mb s p false a m) (hs : Sb w sb so wd noB noB false 0 0 noB lv) (hB : B ≤ mb) (hBs : B ≤ sb) (hc : peekI s p = 111) : RNth B mb sb s p a m so wd lv w := by
  obtain ⟨q, o, hnum, hone⟩ := numbers_word (s := s) (p := p) (z := ⟨bytesOf oddW, true, 2, 1⟩) (i := 1) (.inl ⟨hc, rfl, rfl⟩)
  have HC := hide hc; have HNum := hide hnum; have HOne := hide hone
  clear hc hnum hone
  unfold RNth
  go_enter Tryz.func215, Tryz.ntmps215
  go_wp2_with fail
  refine (next_is mb s p false a m _ 111 h ((nextI_ok s p).trans HC.out)).mono ?_
  rintro e w1 ⟨rfl, n1, rfl⟩
  have h1 := (h.drewN n1).alloc (.cells (evodW.map fun l => Value.string (bytesOf l)).toArray 9)
  have ws1 : Ws ((w.drewN n1).alloc (.cells (evodW.map fun l => Value.string (bytesOf l)).toArray 9)) w.heap.size evodW := alloc_at (w.drewN n1) _
  have hs1 : Sb ((w.drewN n1).alloc (.cells (evodW.map fun l => Value.string (bytesOf l)).toArray 9)) sb so wd noB noB false 0 0 noB lv := alloc_old (w := w.drewN n1) hs _
  have hk1 := ((Kp.refl B [153] w).drewN n1).alloc (.cells (evodW.map fun l => Value.string (bytesOf l)).toArray 9)
  go_wp2_with fail
  refine (among_any B mb w.heap.size 2 5 evodW s p a m _ h1 hB ws1 (by decide) evod_no0 evod_len (by decide) (by decide)).mono ?_
  rintro e w2 ⟨ii, rfl, hk2, hor2⟩
  have hs2 : Sb w2 sb so wd noB noB false 0 0 noB lv := hk2.at hs1 (by decide)
  have hkA := hk1.trans hk2
  rw [HOne.out] at hor2
  obtain ⟨⟨m0, m1, m2, m3, m4, m5, m6, m7, m8⟩, fz⟩ := cells9 hs2
  have f5 := fz 5; have f6 := fz 6; have f7 := fz 7
  cases o
  · rcases hor2 with ⟨k, hk, _⟩ | ⟨_, rfl, hm2⟩
    · simp at hk
    clear m0 m1 m2 m3 m4 m5 m6 m7 m8 fz
    go_wp2
    refine bodyPost_ret (results_none Tryz.results215 _ _ _) rfl ?_
    rw [HNum.out]
    exact ⟨rfl, hkA.tm, .inr ⟨rfl, hm2, _, _, _, hs2⟩⟩
  · rcases hor2 with ⟨k, hk, rfl, hm2⟩ | ⟨hn, _⟩
    rotate_left
    · simp at hn
    obtain rfl : 1 = k := by simpa using hk
    clear hk fz
    have k5 := set_blk (o := 5) hs2 (.int .i64 2)
    have k6 := set_blk (o := 6) k5 (.int .i64 1)
    have kk5 := (Kp.refl 0 [104] w2).setCell (p := ⟨sb, 5, none⟩) hs2 (by simp) (Nat.zero_le _) (.int .i64 2)
    have kk6 := kk5.setCell (p := ⟨sb, 6, none⟩) k5 (by simp) (Nat.zero_le _) (.int .i64 1)
    have hk5 := hkA.tm.setCell (p := ⟨sb, 5, none⟩) hs2 (by simp [TM]) hBs (.int .i64 2)
    have hk6 := hk5.setCell (p := ⟨sb, 6, none⟩) k5 (by simp [TM]) hBs (.int .i64 1)
    have k7 := set_blk (o := 7) k6 (.string (bytesOf oddW))
    have kk7 := kk6.setCell (p := ⟨sb, 7, none⟩) k6 (by simp) (Nat.zero_le _) (.string (bytesOf oddW))
    have hk7 := hk6.setCell (p := ⟨sb, 7, none⟩) k6 (by simp [TM]) hBs (.string (bytesOf oddW))
    have k8 := alloc_old k7 (.cells (evodW.map fun l => Value.string (bytesOf l)).toArray 9)
    have kk8 := kk7.alloc (.cells (evodW.map fun l => Value.string (bytesOf l)).toArray 9)
    have hk8 := hk7.alloc (.cells (evodW.map fun l => Value.string (bytesOf l)).toArray 9)
    have hm8 := hm2.kept kk8 (by decide)
    have hlt := lt_of_block hs2
    have hne := Nat.ne_of_lt hlt
    have hne' := Ne.symm hne
    clear k5 k6 kk5 kk6 hk5 hk6 k7 kk7 hk7 kk8
    go_wp2
    refine bodyPost_ret (results_none Tryz.results215 _ _ _) rfl ?_
    rw [HNum.out]
    exact ⟨rfl, hk8, .inl ⟨_, rfl, hm8, k8⟩⟩
set_option maxRecDepth 100000 in
set_option maxHeartbeats 4000000 in
theorem rnth_even (B mb sb : Nat) (s : ByteArray) (p a m : Nat) (so : Int) (wd : ByteArray) (lv : Value) (w : World) (h : Mk w mb s p false a m) (hs : Sb w sb so wd noB noB false 0 0 noB lv) (hB : B ≤ mb) (hBs : B ≤ sb) (hc : peekI s p = 101) : RNth B mb sb s p a m so wd lv w := by
  obtain ⟨q, o, hnum, hone⟩ := numbers_word (s := s) (p := p) (z := ⟨bytesOf evenW, true, 2, 0⟩) (i := 0) (.inr ⟨hc, rfl, rfl⟩)
  have HC := hide hc; have HNum := hide hnum; have HOne := hide hone
  clear hc hnum hone
  unfold RNth
  go_enter Tryz.func215, Tryz.ntmps215
  go_wp2_with fail
  refine (next_is mb s p false a m _ 101 h ((nextI_ok s p).trans HC.out)).mono ?_
  rintro e w1 ⟨rfl, n1, rfl⟩
  have h1 := (h.drewN n1).alloc (.cells (evodW.map fun l => Value.string (bytesOf l)).toArray 9)
  have ws1 : Ws ((w.drewN n1).alloc (.cells (evodW.map fun l => Value.string (bytesOf l)).toArray 9)) w.heap.size evodW := alloc_at (w.drewN n1) _
  have hs1 : Sb ((w.drewN n1).alloc (.cells (evodW.map fun l => Value.string (bytesOf l)).toArray 9)) sb so wd noB noB false 0 0 noB lv := alloc_old (w := w.drewN n1) hs _
  have hk1 := ((Kp.refl B [153] w).drewN n1).alloc (.cells (evodW.map fun l => Value.string (bytesOf l)).toArray 9)
  go_wp2_with fail
  refine (among_any B mb w.heap.size 2 5 evodW s p a m _ h1 hB ws1 (by decide) evod_no0 evod_len (by decide) (by decide)).mono ?_
  rintro e w2 ⟨ii, rfl, hk2, hor2⟩
  have hs2 : Sb w2 sb so wd noB noB false 0 0 noB lv := hk2.at hs1 (by decide)
  have hkA := hk1.trans hk2
  rw [HOne.out] at hor2
  obtain ⟨⟨m0, m1, m2, m3, m4, m5, m6, m7, m8⟩, fz⟩ := cells9 hs2
  have f5 := fz 5; have f6 := fz 6; have f7 := fz 7
  cases o
  · rcases hor2 with ⟨k, hk, _⟩ | ⟨_, rfl, hm2⟩
    · simp at hk
    clear m0 m1 m2 m3 m4 m5 m6 m7 m8 fz
    go_wp2
    refine bodyPost_ret (results_none Tryz.results215 _ _ _) rfl ?_
    rw [HNum.out]
    exact ⟨rfl, hkA.tm, .inr ⟨rfl, hm2, _, _, _, hs2⟩⟩
  · rcases hor2 with ⟨k, hk, rfl, hm2⟩ | ⟨hn, _⟩
    rotate_left
    · simp at hn
    obtain rfl : 0 = k := by simpa using hk
    clear hk fz
    have k5 := set_blk (o := 5) hs2 (.int .i64 2)
    have k6 := set_blk (o := 6) k5 (.int .i64 0)
    have kk5 := (Kp.refl 0 [104] w2).setCell (p := ⟨sb, 5, none⟩) hs2 (by simp) (Nat.zero_le _) (.int .i64 2)
    have kk6 := kk5.setCell (p := ⟨sb, 6, none⟩) k5 (by simp) (Nat.zero_le _) (.int .i64 0)
    have hk5 := hkA.tm.setCell (p := ⟨sb, 5, none⟩) hs2 (by simp [TM]) hBs (.int .i64 2)
    have hk6 := hk5.setCell (p := ⟨sb, 6, none⟩) k5 (by simp [TM]) hBs (.int .i64 0)
    have k7 := set_blk (o := 7) k6 (.string (bytesOf evenW))
    have kk7 := kk6.setCell (p := ⟨sb, 7, none⟩) k6 (by simp) (Nat.zero_le _) (.string (bytesOf evenW))
    have hk7 := hk6.setCell (p := ⟨sb, 7, none⟩) k6 (by simp [TM]) hBs (.string (bytesOf evenW))
    have k8 := alloc_old k7 (.cells (evodW.map fun l => Value.string (bytesOf l)).toArray 9)
    have kk8 := kk7.alloc (.cells (evodW.map fun l => Value.string (bytesOf l)).toArray 9)
    have hk8 := hk7.alloc (.cells (evodW.map fun l => Value.string (bytesOf l)).toArray 9)
    have hm8 := hm2.kept kk8 (by decide)
    have hlt := lt_of_block hs2
    have hne := Nat.ne_of_lt hlt
    have hne' := Ne.symm hne
    clear k5 k6 kk5 kk6 hk5 hk6 k7 kk7 hk7 kk8
    go_wp2
    refine bodyPost_ret (results_none Tryz.results215 _ _ _) rfl ?_
    rw [HNum.out]
    exact ⟨rfl, hk8, .inl ⟨_, rfl, hm8, k8⟩⟩
end Go.Proofs.YtclpcnignheijaaGreatDoor
