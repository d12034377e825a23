import Derived.Test.YtclpcnignheijaaGreatDoorE1
namespace Go.Proofs.YtclpcnignheijaaGreatDoor
open Go.RowKit

def spRefs (sp : List UInt8) (c : UInt8) : List (List UInt8 × Int) → List UInt8
  | [] => [c]
  | x :: r => if (c.toNat : Int) = x.2 ∧ inB sp (c.toNat : Int) = true then 38 :: x.1 else spRefs sp c r
theorem spRefs_eq (sp : List UInt8) (c : UInt8) : spRefs sp c refsL = spellU sp c := by
  have key : ∀ n : Nat, n < 256 → ((c.toNat : Int) = (n : Int) ↔ c = UInt8.ofNat n) := by
    intro n hn
    constructor
    · intro h
      exact UInt8.toNat_inj.1 (by rw [UInt8.toNat_ofNat']; omega)
    · intro h
      rw [h, UInt8.toNat_ofNat']; omega
  have k1 : (c.toNat : Int) = 38 ↔ c = 38 := key 38 (by decide)
  have k2 : (c.toNat : Int) = 60 ↔ c = 60 := key 60 (by decide)
  have k3 : (c.toNat : Int) = 62 ↔ c = 62 := key 62 (by decide)
  have k4 : (c.toNat : Int) = 34 ↔ c = 34 := key 34 (by decide)
  simp only [refsL, spRefs, spellU, refW]
  cases hi : inB sp (c.toNat : Int)
  · simp
  · simp only [and_true, if_true]
    by_cases h1 : c = 38
    · simp [h1]
    · by_cases h2 : c = 60
      · simp [h2]
      · by_cases h3 : c = 62
        · simp [h3]
        · by_cases h4 : c = 34
          · simp [h4]
          · rw [if_neg (fun h => h1 (k1.1 h)), if_neg (fun h => h2 (k2.1 h)), if_neg (fun h => h3 (k3.1 h)), if_neg (fun h => h4 (k4.1 h)), if_neg h1, if_neg h2, if_neg h3, if_neg h4]

set_option maxRecDepth 100000 in
set_option maxHeartbeats 2000000 in
theorem spelled_any (o t : ByteArray) (c : UInt8) (w : World) (h : o.data.toList = [c]) (hne : (o.toList == t.toList) = false) (hg : Gl w) :
    Calls Tryz.prog 139 #[.string o, .string t] w fun e w' => e = .returned (.string ⟨(spellU t.data.toList c).toArray⟩) ∧ Below w.heap.size w w' := by
  have hs : o.size = 1 := by
    have : o.data.toList.length = o.size := by simp
    rw [h] at this; exact this.symm
  have hlt : 0 < o.size := by omega
  have h0 : o[0]'hlt = c := by
    have : o.data.toList[0]'(by rw [h]; exact Nat.one_pos) = c := by simp [h]
    rw [← this]; rfl
  have ho : o = ⟨[c].toArray⟩ := by rw [← h]
  have HS := hide (spRefs_eq t.data.toList c)
  have HO := hide ho; have H := hide h; have HNE := hide hne; have H0 := hide h0
  clear hs ho h hne h0
  obtain ⟨tt, fr, hg1⟩ := hg
  go_enter Tryz.func139, Tryz.ntmps139
  go_wp2_with (refine wpList_load_row rfl 287 _ rfl 1 rfl tt _ fr _ hg1 Tryz.underlying287 rfl (by kernel_rfl) ?_)
  clear hg1
  go_loopw [8] (fun i wr => ∃ k : Nat, i = .int .i64 k ∧ k ≤ 4 ∧ Below w.heap.size w wr ∧ Hid (spRefs t.data.toList c (refsL.drop k) = spellU t.data.toList c)) (fun i _ => 4 - (intOf i).toNat)
  case atStart => exact ⟨0, rfl, Nat.zero_le _, Below.refl _ _, HS⟩
  case round =>
    obtain ⟨k, rfl, hk4, hbl, HQ⟩ := hrel
    rcases (show k = 0 ∨ k = 1 ∨ k = 2 ∨ k = 3 ∨ k = 4 from by omega) with rfl | rfl | rfl | rfl | rfl
    · have ix : ∀ w, (Instr.index 287 (.agg refArr) (.int .i64 0)).run Tryz.prog w = .ok (.agg #[.string ⟨#[97, 109, 112, 59]⟩, .int .u8 38]) w := fun _ => by kernel_rfl
      have hq : spRefs t.data.toList c (refsL.drop 0) = if (c.toNat : Int) = 38 ∧ inB t.data.toList (c.toNat : Int) = true then 38 :: [97, 109, 112, 59] else spRefs t.data.toList c (refsL.drop (0 + 1)) := rfl
      have HR := hide hq
      clear hq
      by_cases hy : (c.toNat : Int) = 38
      · have hy' : (((o[0]'hlt).toNat : Int) == 38) = true := by rw [H0.out, hy]; rfl
        have HY := hide hy
        clear hy
        cases hin : inB t.data.toList (c.toNat : Int)
        · have HI := hide hin
          clear hin
          go_wp2
          go_quiet ((go_at_call 178; exact Calls.quiet_of_same (contains_one t o c _ false H.out HNE.out HI.out)))
          go_wp2
          go_roundw
          case rel =>
            refine ⟨0 + 1, by go_num, by omega, (hbl.alloc hbl.size _).drewN' _, hide ?_⟩
            have e := HR.out; rw [HI.out, if_neg (fun h => Bool.false_ne_true h.2)] at e; exact e.symm.trans HQ.out
          case measure => simp [intOf]
        · have HI := hide hin
          clear hin
          go_wp2
          go_quiet ((go_at_call 178; exact Calls.quiet_of_same (contains_one t o c _ true H.out HNE.out HI.out)))
          go_wp2
          go_ret
          have e := HR.out
          rw [HI.out, if_pos ⟨HY.out, rfl⟩] at e
          rw [← HQ.out, e]
          exact ⟨rfl, (hbl.alloc hbl.size _).drewN' _⟩
      · have hy' : (((o[0]'hlt).toNat : Int) == 38) = false := by rw [H0.out]; simpa using hy
        have HY := hide hy
        clear hy
        go_wp2
        go_quiet (fail)
        go_wp2
        go_roundw
        case rel =>
          refine ⟨0 + 1, by go_num, by omega, (hbl.alloc hbl.size _).drewN' _, hide ?_⟩
          have e := HR.out; rw [if_neg (fun h => HY.out h.1)] at e; exact e.symm.trans HQ.out
        case measure => simp [intOf]
    · have ix : ∀ w, (Instr.index 287 (.agg refArr) (.int .i64 1)).run Tryz.prog w = .ok (.agg #[.string ⟨#[108, 116, 59]⟩, .int .u8 60]) w := fun _ => by kernel_rfl
      have hq : spRefs t.data.toList c (refsL.drop 1) = if (c.toNat : Int) = 60 ∧ inB t.data.toList (c.toNat : Int) = true then 38 :: [108, 116, 59] else spRefs t.data.toList c (refsL.drop (1 + 1)) := rfl
      have HR := hide hq
      clear hq
      by_cases hy : (c.toNat : Int) = 60
      · have hy' : (((o[0]'hlt).toNat : Int) == 60) = true := by rw [H0.out, hy]; rfl
        have HY := hide hy
        clear hy
        cases hin : inB t.data.toList (c.toNat : Int)
        · have HI := hide hin
          clear hin
          go_wp2
          go_quiet ((go_at_call 178; exact Calls.quiet_of_same (contains_one t o c _ false H.out HNE.out HI.out)))
          go_wp2
          go_roundw
          case rel =>
            refine ⟨1 + 1, by go_num, by omega, (hbl.alloc hbl.size _).drewN' _, hide ?_⟩
            have e := HR.out; rw [HI.out, if_neg (fun h => Bool.false_ne_true h.2)] at e; exact e.symm.trans HQ.out
          case measure => simp [intOf]
        · have HI := hide hin
          clear hin
          go_wp2
          go_quiet ((go_at_call 178; exact Calls.quiet_of_same (contains_one t o c _ true H.out HNE.out HI.out)))
          go_wp2
          go_ret
          have e := HR.out
          rw [HI.out, if_pos ⟨HY.out, rfl⟩] at e
          rw [← HQ.out, e]
          exact ⟨rfl, (hbl.alloc hbl.size _).drewN' _⟩
      · have hy' : (((o[0]'hlt).toNat : Int) == 60) = false := by rw [H0.out]; simpa using hy
        have HY := hide hy
        clear hy
        go_wp2
        go_quiet (fail)
        go_wp2
        go_roundw
        case rel =>
          refine ⟨1 + 1, by go_num, by omega, (hbl.alloc hbl.size _).drewN' _, hide ?_⟩
          have e := HR.out; rw [if_neg (fun h => HY.out h.1)] at e; exact e.symm.trans HQ.out
        case measure => simp [intOf]
    · have ix : ∀ w, (Instr.index 287 (.agg refArr) (.int .i64 2)).run Tryz.prog w = .ok (.agg #[.string ⟨#[103, 116, 59]⟩, .int .u8 62]) w := fun _ => by kernel_rfl
      have hq : spRefs t.data.toList c (refsL.drop 2) = if (c.toNat : Int) = 62 ∧ inB t.data.toList (c.toNat : Int) = true then 38 :: [103, 116, 59] else spRefs t.data.toList c (refsL.drop (2 + 1)) := rfl
      have HR := hide hq
      clear hq
      by_cases hy : (c.toNat : Int) = 62
      · have hy' : (((o[0]'hlt).toNat : Int) == 62) = true := by rw [H0.out, hy]; rfl
        have HY := hide hy
        clear hy
        cases hin : inB t.data.toList (c.toNat : Int)
        · have HI := hide hin
          clear hin
          go_wp2
          go_quiet ((go_at_call 178; exact Calls.quiet_of_same (contains_one t o c _ false H.out HNE.out HI.out)))
          go_wp2
          go_roundw
          case rel =>
            refine ⟨2 + 1, by go_num, by omega, (hbl.alloc hbl.size _).drewN' _, hide ?_⟩
            have e := HR.out; rw [HI.out, if_neg (fun h => Bool.false_ne_true h.2)] at e; exact e.symm.trans HQ.out
          case measure => simp [intOf]
        · have HI := hide hin
          clear hin
          go_wp2
          go_quiet ((go_at_call 178; exact Calls.quiet_of_same (contains_one t o c _ true H.out HNE.out HI.out)))
          go_wp2
          go_ret
          have e := HR.out
          rw [HI.out, if_pos ⟨HY.out, rfl⟩] at e
          rw [← HQ.out, e]
          exact ⟨rfl, (hbl.alloc hbl.size _).drewN' _⟩
      · have hy' : (((o[0]'hlt).toNat : Int) == 62) = false := by rw [H0.out]; simpa using hy
        have HY := hide hy
        clear hy
        go_wp2
        go_quiet (fail)
        go_wp2
        go_roundw
        case rel =>
          refine ⟨2 + 1, by go_num, by omega, (hbl.alloc hbl.size _).drewN' _, hide ?_⟩
          have e := HR.out; rw [if_neg (fun h => HY.out h.1)] at e; exact e.symm.trans HQ.out
        case measure => simp [intOf]
    · have ix : ∀ w, (Instr.index 287 (.agg refArr) (.int .i64 3)).run Tryz.prog w = .ok (.agg #[.string ⟨#[113, 117, 111, 116, 59]⟩, .int .u8 34]) w := fun _ => by kernel_rfl
      have hq : spRefs t.data.toList c (refsL.drop 3) = if (c.toNat : Int) = 34 ∧ inB t.data.toList (c.toNat : Int) = true then 38 :: [113, 117, 111, 116, 59] else spRefs t.data.toList c (refsL.drop (3 + 1)) := rfl
      have HR := hide hq
      clear hq
      by_cases hy : (c.toNat : Int) = 34
      · have hy' : (((o[0]'hlt).toNat : Int) == 34) = true := by rw [H0.out, hy]; rfl
        have HY := hide hy
        clear hy
        cases hin : inB t.data.toList (c.toNat : Int)
        · have HI := hide hin
          clear hin
          go_wp2
          go_quiet ((go_at_call 178; exact Calls.quiet_of_same (contains_one t o c _ false H.out HNE.out HI.out)))
          go_wp2
          go_roundw
          case rel =>
            refine ⟨3 + 1, by go_num, by omega, (hbl.alloc hbl.size _).drewN' _, hide ?_⟩
            have e := HR.out; rw [HI.out, if_neg (fun h => Bool.false_ne_true h.2)] at e; exact e.symm.trans HQ.out
          case measure => simp [intOf]
        · have HI := hide hin
          clear hin
          go_wp2
          go_quiet ((go_at_call 178; exact Calls.quiet_of_same (contains_one t o c _ true H.out HNE.out HI.out)))
          go_wp2
          go_ret
          have e := HR.out
          rw [HI.out, if_pos ⟨HY.out, rfl⟩] at e
          rw [← HQ.out, e]
          exact ⟨rfl, (hbl.alloc hbl.size _).drewN' _⟩
      · have hy' : (((o[0]'hlt).toNat : Int) == 34) = false := by rw [H0.out]; simpa using hy
        have HY := hide hy
        clear hy
        go_wp2
        go_quiet (fail)
        go_wp2
        go_roundw
        case rel =>
          refine ⟨3 + 1, by go_num, by omega, (hbl.alloc hbl.size _).drewN' _, hide ?_⟩
          have e := HR.out; rw [if_neg (fun h => HY.out h.1)] at e; exact e.symm.trans HQ.out
        case measure => simp [intOf]
    · go_wp2
      go_ret
      have e : spellU t.data.toList c = [c] := HQ.out.symm
      rw [e, ← HO.out]
      exact ⟨rfl, hbl⟩
end Go.Proofs.YtclpcnignheijaaGreatDoor
