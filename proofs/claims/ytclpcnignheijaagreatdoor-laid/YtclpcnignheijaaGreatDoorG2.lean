import Derived.Test.YtclpcnignheijaaGreatDoorG1
namespace Go.Proofs.YtclpcnignheijaaGreatDoor
open Go.RowKit

def fixU (c : UInt8) : UInt8 := if okU c = true then c else 46
def plainL (t : ByteArray) (k : Nat) : List UInt8 := (t.data.toList.take k).map fixU
theorem fixU_ok (c : UInt8) : okU (fixU c) = true := by
  unfold fixU; split
  · assumption
  · decide
theorem plainL_ok (t : ByteArray) (k : Nat) : ∀ c ∈ plainL t k, okU c = true := by
  intro c hc
  unfold plainL at hc
  rw [List.mem_map] at hc
  obtain ⟨d, _, rfl⟩ := hc
  exact fixU_ok d
theorem plainL_len (t : ByteArray) (k : Nat) : (plainL t k).length ≤ k := by unfold plainL; simp; omega
theorem plainL_succ (t : ByteArray) (k : Nat) (h : k < t.size) : plainL t (k + 1) = plainL t k ++ [fixU t[k]] := by
  unfold plainL; rw [take_snoc t k h]; simp
theorem safeL_snoc (l : List UInt8) (c : UInt8) : safeL (l ++ [c]) = safeL l ++ refW c := by simp [safeL]
theorem conv_one (c : UInt8) (w : World) : (convert 50 9 (.slice (some ⟨w.heap.size, 0, none⟩) 1 1)).run Tryz.prog (w.alloc (.cells #[.int .u8 (c.toNat : Int)] 5)) = .ok (.string ⟨#[c]⟩) (w.alloc (.cells #[.int .u8 (c.toNat : Int)] 5)) := by
  refine run_convert_bytes_back (w.alloc (.cells #[.int .u8 (c.toNat : Int)] 5)) 50 9 5 ⟨w.heap.size, 0, none⟩ 1 [c] Tryz.underlying50 Tryz.underlying5 Tryz.underlying9 fun j hj => ?_
  have : j = 0 := by simp at hj; omega
  subst this
  have hb : (w.alloc (.cells #[.int .u8 (c.toNat : Int)] 5)).heap[w.heap.size]? = some (.cells #[.int .u8 (c.toNat : Int)] 5 (0, 0)) := alloc_at _ _
  rw [addr_add]
  simp only [World.cell?, hb]
  rfl
theorem conv_dot (w : World) : (convert 50 9 (.slice (some ⟨w.heap.size, 0, none⟩) 1 1)).run Tryz.prog (w.alloc (.cells #[.int .u8 46] 5)) = .ok (.string ⟨#[46]⟩) (w.alloc (.cells #[.int .u8 46] 5)) := conv_one 46 w
theorem ba_eq (s : ByteArray) (l : List UInt8) (h : s.data.toList = l) : s = ⟨l.toArray⟩ := by rw [← h]
/-- A round of the loop, in plain words. -/
theorem round_fin {t : ByteArray} {k : Nat} (h : k < t.size) {pl sf : ByteArray} (hp : pl.data.toList = plainL t k) (hs : sf.data.toList = safeL (plainL t k)) {c : UInt8} (hc : fixU t[k] = c) {x : ByteArray} (hx : x.data.toList = refW c) :
    (pl ++ ⟨#[c]⟩).data.toList = plainL t (k + 1) ∧ (sf ++ x).data.toList = safeL (plainL t (k + 1)) := by
  rw [plainL_succ t k h, safeL_snoc, hc]
  constructor
  · simp [ByteArray.data_append, hp]
  · simp [ByteArray.data_append, hs, hx]
theorem byte_cases (n : Int) (h0 : 0 ≤ n) : (n < 32 ∧ n ≠ 9 ∧ n ≠ 10) ∨ 126 < n ∨ n = 9 ∨ n = 10 ∨ n = 38 ∨ n = 60 ∨ n = 62 ∨ n = 34 ∨ (32 ≤ n ∧ n ≤ 126 ∧ n ≠ 38 ∧ n ≠ 60 ∧ n ≠ 62 ∧ n ≠ 34) := by omega
theorem fixU_no {c : UInt8} (h : ((c.toNat : Int) < 32 ∧ (c.toNat : Int) ≠ 9 ∧ (c.toNat : Int) ≠ 10) ∨ 126 < (c.toNat : Int)) : fixU c = 46 := by
  unfold fixU; rw [if_neg]
  unfold okU allowedB
  simp; omega
theorem fixU_yes {c : UInt8} (h : (c.toNat : Int) = 9 ∨ (c.toNat : Int) = 10 ∨ (32 ≤ (c.toNat : Int) ∧ (c.toNat : Int) ≤ 126)) : fixU c = c := by
  unfold fixU; rw [if_pos]
  unfold okU allowedB
  simp; omega
theorem refW_of {c : UInt8} (h : (c.toNat : Int) ≠ 38 ∧ (c.toNat : Int) ≠ 60 ∧ (c.toNat : Int) ≠ 62 ∧ (c.toNat : Int) ≠ 34) : refW c = [c] := by
  refine refW_other ?_
  rintro (rfl | rfl | rfl | rfl) <;> revert h <;> decide
theorem u8_of {c : UInt8} {n : Nat} (h : (c.toNat : Int) = n) (hn : n < 256) : c = UInt8.ofNat n := UInt8.toNat_inj.1 (by rw [UInt8.toNat_ofNat']; omega)

theorem dattr_is (B db : Nat) (b : BS) (k : Nat) (x : El) (n v : ByteArray) (w : World) (h : Dc w B db b) (hx : b.els[k]? = some x) (hs : b.els.length ≤ 5000) (hl : x.attrs.length ≤ 5000) (hn : n.size ≤ 140737488351232) (hv : attrV x.attrs ⟨(smallL n.data.toList).toArray⟩ = (v, true)) :
    Calls Tryz.prog 22 #[.pointer (some ⟨db, 0, none⟩), .int .i64 (k : Int), .string n] w fun e w' => e = .returned (.tuple #[.string v, .bool true]) ∧ Below w.heap.size w w' := by
  have := dattr_any B db b k x n w h hx hs hl hn
  rw [hv] at this
  exact this
theorem attrV_one (a v : ByteArray) (n : List UInt8) (h : a.data.toList = n) : attrV [(a, v)] ⟨n.toArray⟩ = (v, true) := by
  unfold attrV
  rw [List.find?_cons]
  have : (a.toList == (⟨n.toArray⟩ : ByteArray).toList) = true := by rw [Lib.toList_data, Lib.toList_data, h]; simp
  simp only [this]
theorem laid_facts (l : List UInt8) : (∀ (i : Nat) (x : El), (laidBS l).els[i]? = some x → x.name.size ≤ 16) ∧ ∀ (i : Nat) (x : El), (laidBS l).els[i]? = some x → x.attrs.length ≤ 5000 ∧ ∀ a ∈ x.attrs, a.1.size ≤ 16 ∧ a.2.size ≤ max 1 l.length := by
  have key : ∀ (i : Nat) (x : El), (laidBS l).els[i]? = some x → x = ⟨⟨#[97]⟩, -1, [(⟨#[98]⟩, ⟨l.toArray⟩)], 0, (l.length + l.length : Nat)⟩ ∨ x = ⟨⟨#[98, 114]⟩, 0, [(⟨#[99]⟩, ⟨l.toArray⟩)], (l.length : Nat), (l.length : Nat)⟩ := by
    intro i x h
    match i, h with
    | 0, h => exact .inl (Option.some.inj h).symm
    | 1, h => exact .inr (Option.some.inj h).symm
    | i + 2, h => simp [laidBS] at h
  have hsz : (⟨l.toArray⟩ : ByteArray).size = l.length := by show l.toArray.size = _; simp
  refine ⟨fun i x h => ?_, fun i x h => ?_⟩
  · rcases key i x h with rfl | rfl
    · show (⟨#[97]⟩ : ByteArray).size ≤ 16; decide
    · show (⟨#[98, 114]⟩ : ByteArray).size ≤ 16; decide
  · rcases key i x h with rfl | rfl
    · refine ⟨by simp, fun a ha => ?_⟩
      simp only [List.mem_singleton] at ha
      subst ha
      exact ⟨by show (⟨#[98]⟩ : ByteArray).size ≤ 16; decide, by dsimp only; rw [hsz]; omega⟩
    · refine ⟨by simp, fun a ha => ?_⟩
      simp only [List.mem_singleton] at ha
      subst ha
      exact ⟨by show (⟨#[99]⟩ : ByteArray).size ≤ 16; decide, by dsimp only; rw [hsz]; omega⟩
theorem text_none (l : List UInt8) : (((laidBS l).txt.drop l.length).take (l.length - l.length)) = [] := by simp
theorem safeL_ge : ∀ l, l.length ≤ (safeL l).length
  | [] => by simp [safeL]
  | c :: l => by
    have h1 : 1 ≤ (refW c).length := by unfold refW; repeat' split
                                        all_goals simp
    have h2 := safeL_ge l
    simp only [safeL, List.flatMap_cons, List.length_append, List.length_cons] at *
    omega
theorem HD1 (l : List UInt8) : (({ data := #[60, 97, 32, 98, 61, 34] } : ByteArray) ++ { data := (safeL l).toArray } ++ { data := #[34, 62] } ++ { data := (safeL l).toArray } ++ { data := #[60, 98, 114, 32, 99, 61, 34] } ++ { data := (safeL l).toArray } ++ { data := #[34, 47, 62] } ++ { data := (safeL l).toArray } ++ { data := #[60, 47, 97, 62] }).data.toList = laidDoc true (safeL l) (safeL l) (safeL l) (safeL l) := by
  simp [ByteArray.data_append, laidDoc, tailX]
theorem text_two (l : List UInt8) : (((laidBS l).txt.drop 0).take (l.length + l.length - 0)) = l ++ l := by
  show ((l ++ l).drop 0).take (l.length + l.length - 0) = l ++ l
  rw [List.drop_zero, Nat.sub_zero, List.take_of_length_le (by simp)]

set_option maxRecDepth 100000 in
set_option maxHeartbeats 8000000 in
theorem laid_any (t : ByteArray) (w : World) (hg : Gl w) :
    Calls Tryz.prog 5 #[.string t] w fun e w' => e = .returned (.bool true) ∧ Below w.heap.size w w' := by
  go_enter Tryz.func5, Tryz.ntmps5
  go_wp2_with fail
  refine (sure_any _ hg).mono ?_
  rintro e w1 ⟨rfl, hb1⟩
  go_wp2
  go_loopw [4, 5, 6] (fun v4 v5 i wr => ∃ (k : Nat) (pl sf : ByteArray), i = .int .i64 k ∧ v4 = .string pl ∧ v5 = .string sf ∧ k ≤ t.size ∧ k ≤ 80 ∧ pl.size ≤ 80 ∧ sf.size ≤ 480 ∧ Hid (pl.data.toList = plainL t k) ∧ Hid (sf.data.toList = safeL (plainL t k)) ∧ Below w.heap.size w wr) (fun _ _ i _ => 80 - (intOf i).toNat)
  case atStart => exact ⟨0, ⟨#[]⟩, ⟨#[]⟩, rfl, rfl, rfl, Nat.zero_le _, Nat.zero_le _, by decide, by decide, rfl, rfl, hb1⟩
  case round =>
    obtain ⟨k, pl, sf, rfl, rfl, rfl, hkt, hk80, hps, hss, HP, HS, hbl⟩ := hrel
    by_cases hlt : k < t.size ∧ k < 80
    · obtain ⟨hlt, hlt80⟩ := hlt
      have hbw := hbl.size
      rcases byte_cases ((t[k].toNat : Int)) (by omega) with ⟨n1, n2, n3⟩ | n1 | n1 | n1 | n1 | n1 | n1 | n1 | ⟨n1, n2, n3, n4, n5, n6⟩
      · have m1 : (((t[k].toNat : Int)) != 9) = true := by simp; omega
        have m2 : (((t[k].toNat : Int)) != 10) = true := by simp; omega
        have hcv := conv_dot wr
        have HR := hide (round_fin hlt HP.out HS.out (c := 46) (fixU_no (.inl ⟨n1, n2, n3⟩)) (x := ⟨#[46]⟩) rfl)
        have HZ : Hid ((pl ++ ⟨#[46]⟩ : ByteArray).size ≤ 80 ∧ (sf ++ ⟨#[46]⟩ : ByteArray).size ≤ 480) := by
          have e1 := HR.out.1; have e2 := HR.out.2
          have q1 := plainL_len t (k + 1); have q2 := safeL_len (plainL t (k + 1))
          rw [Hid, Lib.size_eq, Lib.size_eq, e1, e2]; omega
        go_wp2
        go_roundw
        case rel => exact ⟨k + 1, pl ++ ⟨#[46]⟩, sf ++ ⟨#[46]⟩, by go_num, rfl, rfl, by omega, by omega, HZ.out.1, HZ.out.2, hide HR.out.1, hide HR.out.2, hbl.alloc hbw _⟩
        case measure => simp [intOf]; omega
      · have m1 : (((t[k].toNat : Int)) != 9) = true := by simp; omega
        have m2 : (((t[k].toNat : Int)) != 10) = true := by simp; omega
        have hcv := conv_dot wr
        have HR := hide (round_fin hlt HP.out HS.out (c := 46) (fixU_no (.inr n1)) (x := ⟨#[46]⟩) rfl)
        have HZ : Hid ((pl ++ ⟨#[46]⟩ : ByteArray).size ≤ 80 ∧ (sf ++ ⟨#[46]⟩ : ByteArray).size ≤ 480) := by
          have e1 := HR.out.1; have e2 := HR.out.2
          have q1 := plainL_len t (k + 1); have q2 := safeL_len (plainL t (k + 1))
          rw [Hid, Lib.size_eq, Lib.size_eq, e1, e2]; omega
        go_wp2
        go_roundw
        case rel => exact ⟨k + 1, pl ++ ⟨#[46]⟩, sf ++ ⟨#[46]⟩, by go_num, rfl, rfl, by omega, by omega, HZ.out.1, HZ.out.2, hide HR.out.1, hide HR.out.2, hbl.alloc hbw _⟩
        case measure => simp [intOf]; omega
      · have m1 : (((t[k].toNat : Int)) != 9) = false := by simp; omega
        have m3 : (((t[k].toNat : Int)) == 38) = false := by simp; omega
        have m4 : (((t[k].toNat : Int)) == 60) = false := by simp; omega
        have m5 : (((t[k].toNat : Int)) == 62) = false := by simp; omega
        have m6 : (((t[k].toNat : Int)) == 34) = false := by simp; omega
        have hcv := conv_one t[k] wr
        have HR := hide (round_fin hlt HP.out HS.out (c := t[k]) (fixU_yes (.inl n1)) (x := ⟨#[t[k]]⟩) (by show _ = refW t[k]; rw [refW_of (by omega)]))
        have HZ : Hid ((pl ++ ⟨#[t[k]]⟩ : ByteArray).size ≤ 80 ∧ (sf ++ ⟨#[t[k]]⟩ : ByteArray).size ≤ 480) := by
          have e1 := HR.out.1; have e2 := HR.out.2
          have q1 := plainL_len t (k + 1); have q2 := safeL_len (plainL t (k + 1))
          rw [Hid, Lib.size_eq, Lib.size_eq, e1, e2]; omega
        clear n1
        go_wp2
        go_roundw
        case rel => exact ⟨k + 1, pl ++ ⟨#[t[k]]⟩, sf ++ ⟨#[t[k]]⟩, by go_num, rfl, rfl, by omega, by omega, HZ.out.1, HZ.out.2, hide HR.out.1, hide HR.out.2, hbl.alloc hbw _⟩
        case measure => simp [intOf]; omega
      · have m1 : (((t[k].toNat : Int)) != 9) = true := by simp; omega
        have m2 : (((t[k].toNat : Int)) != 10) = false := by simp; omega
        have m3 : (((t[k].toNat : Int)) == 38) = false := by simp; omega
        have m4 : (((t[k].toNat : Int)) == 60) = false := by simp; omega
        have m5 : (((t[k].toNat : Int)) == 62) = false := by simp; omega
        have m6 : (((t[k].toNat : Int)) == 34) = false := by simp; omega
        have hcv := conv_one t[k] wr
        have HR := hide (round_fin hlt HP.out HS.out (c := t[k]) (fixU_yes (.inr (.inl n1))) (x := ⟨#[t[k]]⟩) (by show _ = refW t[k]; rw [refW_of (by omega)]))
        have HZ : Hid ((pl ++ ⟨#[t[k]]⟩ : ByteArray).size ≤ 80 ∧ (sf ++ ⟨#[t[k]]⟩ : ByteArray).size ≤ 480) := by
          have e1 := HR.out.1; have e2 := HR.out.2
          have q1 := plainL_len t (k + 1); have q2 := safeL_len (plainL t (k + 1))
          rw [Hid, Lib.size_eq, Lib.size_eq, e1, e2]; omega
        clear n1
        go_wp2
        go_roundw
        case rel => exact ⟨k + 1, pl ++ ⟨#[t[k]]⟩, sf ++ ⟨#[t[k]]⟩, by go_num, rfl, rfl, by omega, by omega, HZ.out.1, HZ.out.2, hide HR.out.1, hide HR.out.2, hbl.alloc hbw _⟩
        case measure => simp [intOf]; omega
      · have m1 : (((t[k].toNat : Int)) != 9) = true := by simp; omega
        have m2 : (((t[k].toNat : Int)) != 10) = true := by simp; omega
        have m3 : (((t[k].toNat : Int)) == 38) = true := by simp; omega
        have hcv := conv_one t[k] wr
        have HR := hide (round_fin hlt HP.out HS.out (c := t[k]) (fixU_yes (by omega)) (x := ⟨#[38, 97, 109, 112, 59]⟩) (by have e := u8_of (n := 38) n1 (by decide); show _ = refW t[k]; rw [e]; decide))
        have HZ : Hid ((pl ++ ⟨#[t[k]]⟩ : ByteArray).size ≤ 80 ∧ (sf ++ ⟨#[38, 97, 109, 112, 59]⟩ : ByteArray).size ≤ 480) := by
          have e1 := HR.out.1; have e2 := HR.out.2
          have q1 := plainL_len t (k + 1); have q2 := safeL_len (plainL t (k + 1))
          rw [Hid, Lib.size_eq, Lib.size_eq, e1, e2]; omega
        have r1 : (32 : Int) ≤ (t[k].toNat : Int) := by omega
        have r2 : (t[k].toNat : Int) ≤ 126 := by omega
        clear n1
        go_wp2
        go_roundw
        case rel => exact ⟨k + 1, pl ++ ⟨#[t[k]]⟩, sf ++ ⟨#[38, 97, 109, 112, 59]⟩, by go_num, rfl, rfl, by omega, by omega, HZ.out.1, HZ.out.2, hide HR.out.1, hide HR.out.2, hbl.alloc hbw _⟩
        case measure => simp [intOf]; omega
      · have m1 : (((t[k].toNat : Int)) != 9) = true := by simp; omega
        have m2 : (((t[k].toNat : Int)) != 10) = true := by simp; omega
        have m3 : (((t[k].toNat : Int)) == 38) = false := by simp; omega
        have m4 : (((t[k].toNat : Int)) == 60) = true := by simp; omega
        have hcv := conv_one t[k] wr
        have HR := hide (round_fin hlt HP.out HS.out (c := t[k]) (fixU_yes (by omega)) (x := ⟨#[38, 108, 116, 59]⟩) (by have e := u8_of (n := 60) n1 (by decide); show _ = refW t[k]; rw [e]; decide))
        have HZ : Hid ((pl ++ ⟨#[t[k]]⟩ : ByteArray).size ≤ 80 ∧ (sf ++ ⟨#[38, 108, 116, 59]⟩ : ByteArray).size ≤ 480) := by
          have e1 := HR.out.1; have e2 := HR.out.2
          have q1 := plainL_len t (k + 1); have q2 := safeL_len (plainL t (k + 1))
          rw [Hid, Lib.size_eq, Lib.size_eq, e1, e2]; omega
        have r1 : (32 : Int) ≤ (t[k].toNat : Int) := by omega
        have r2 : (t[k].toNat : Int) ≤ 126 := by omega
        clear n1
        go_wp2
        go_roundw
        case rel => exact ⟨k + 1, pl ++ ⟨#[t[k]]⟩, sf ++ ⟨#[38, 108, 116, 59]⟩, by go_num, rfl, rfl, by omega, by omega, HZ.out.1, HZ.out.2, hide HR.out.1, hide HR.out.2, hbl.alloc hbw _⟩
        case measure => simp [intOf]; omega
      · have m1 : (((t[k].toNat : Int)) != 9) = true := by simp; omega
        have m2 : (((t[k].toNat : Int)) != 10) = true := by simp; omega
        have m3 : (((t[k].toNat : Int)) == 38) = false := by simp; omega
        have m4 : (((t[k].toNat : Int)) == 60) = false := by simp; omega
        have m5 : (((t[k].toNat : Int)) == 62) = true := by simp; omega
        have hcv := conv_one t[k] wr
        have HR := hide (round_fin hlt HP.out HS.out (c := t[k]) (fixU_yes (by omega)) (x := ⟨#[38, 103, 116, 59]⟩) (by have e := u8_of (n := 62) n1 (by decide); show _ = refW t[k]; rw [e]; decide))
        have HZ : Hid ((pl ++ ⟨#[t[k]]⟩ : ByteArray).size ≤ 80 ∧ (sf ++ ⟨#[38, 103, 116, 59]⟩ : ByteArray).size ≤ 480) := by
          have e1 := HR.out.1; have e2 := HR.out.2
          have q1 := plainL_len t (k + 1); have q2 := safeL_len (plainL t (k + 1))
          rw [Hid, Lib.size_eq, Lib.size_eq, e1, e2]; omega
        have r1 : (32 : Int) ≤ (t[k].toNat : Int) := by omega
        have r2 : (t[k].toNat : Int) ≤ 126 := by omega
        clear n1
        go_wp2
        go_roundw
        case rel => exact ⟨k + 1, pl ++ ⟨#[t[k]]⟩, sf ++ ⟨#[38, 103, 116, 59]⟩, by go_num, rfl, rfl, by omega, by omega, HZ.out.1, HZ.out.2, hide HR.out.1, hide HR.out.2, hbl.alloc hbw _⟩
        case measure => simp [intOf]; omega
      · have m1 : (((t[k].toNat : Int)) != 9) = true := by simp; omega
        have m2 : (((t[k].toNat : Int)) != 10) = true := by simp; omega
        have m3 : (((t[k].toNat : Int)) == 38) = false := by simp; omega
        have m4 : (((t[k].toNat : Int)) == 60) = false := by simp; omega
        have m5 : (((t[k].toNat : Int)) == 62) = false := by simp; omega
        have m6 : (((t[k].toNat : Int)) == 34) = true := by simp; omega
        have hcv := conv_one t[k] wr
        have HR := hide (round_fin hlt HP.out HS.out (c := t[k]) (fixU_yes (by omega)) (x := ⟨#[38, 113, 117, 111, 116, 59]⟩) (by have e := u8_of (n := 34) n1 (by decide); show _ = refW t[k]; rw [e]; decide))
        have HZ : Hid ((pl ++ ⟨#[t[k]]⟩ : ByteArray).size ≤ 80 ∧ (sf ++ ⟨#[38, 113, 117, 111, 116, 59]⟩ : ByteArray).size ≤ 480) := by
          have e1 := HR.out.1; have e2 := HR.out.2
          have q1 := plainL_len t (k + 1); have q2 := safeL_len (plainL t (k + 1))
          rw [Hid, Lib.size_eq, Lib.size_eq, e1, e2]; omega
        have r1 : (32 : Int) ≤ (t[k].toNat : Int) := by omega
        have r2 : (t[k].toNat : Int) ≤ 126 := by omega
        clear n1
        go_wp2
        go_roundw
        case rel => exact ⟨k + 1, pl ++ ⟨#[t[k]]⟩, sf ++ ⟨#[38, 113, 117, 111, 116, 59]⟩, by go_num, rfl, rfl, by omega, by omega, HZ.out.1, HZ.out.2, hide HR.out.1, hide HR.out.2, hbl.alloc hbw _⟩
        case measure => simp [intOf]; omega
      · have m1 : (((t[k].toNat : Int)) != 9) = true := by simp; omega
        have m2 : (((t[k].toNat : Int)) != 10) = true := by simp; omega
        have m3 : (((t[k].toNat : Int)) == 38) = false := by simp; omega
        have m4 : (((t[k].toNat : Int)) == 60) = false := by simp; omega
        have m5 : (((t[k].toNat : Int)) == 62) = false := by simp; omega
        have m6 : (((t[k].toNat : Int)) == 34) = false := by simp; omega
        have hcv := conv_one t[k] wr
        have HR := hide (round_fin hlt HP.out HS.out (c := t[k]) (fixU_yes (by omega)) (x := ⟨#[t[k]]⟩) (by show _ = refW t[k]; rw [refW_of (by omega)]))
        have HZ : Hid ((pl ++ ⟨#[t[k]]⟩ : ByteArray).size ≤ 80 ∧ (sf ++ ⟨#[t[k]]⟩ : ByteArray).size ≤ 480) := by
          have e1 := HR.out.1; have e2 := HR.out.2
          have q1 := plainL_len t (k + 1); have q2 := safeL_len (plainL t (k + 1))
          rw [Hid, Lib.size_eq, Lib.size_eq, e1, e2]; omega
        go_wp2
        go_roundw
        case rel => exact ⟨k + 1, pl ++ ⟨#[t[k]]⟩, sf ++ ⟨#[t[k]]⟩, by go_num, rfl, rfl, by omega, by omega, HZ.out.1, HZ.out.2, hide HR.out.1, hide HR.out.2, hbl.alloc hbw _⟩
        case measure => simp [intOf]; omega
    · have hlok := plainL_ok t k
      have hlen : (plainL t k).length ≤ 80 := by have := plainL_len t k; omega
      have hpl := ba_eq pl _ HP.out
      have hsf := ba_eq sf _ HS.out
      generalize plainL t k = l at *
      subst hpl
      subst hsf
      have hsl := safeL_len l
      have hsg := safeL_ge l
      have e1 := enc_safe [60, 34] (by decide) l hlok
      have e2 := enc_safe [60, 62] (by decide) l hlok
      have u1 := enc_esc [60, 34] vsp (by decide) (by decide) (by decide) l hlok
      have u2 := enc_esc [60, 62] tsp (by decide) (by decide) (by decide) l hlok
      have v1 := escL_len vsp l
      have v2 := escL_len tsp l
      have hgr := hg.below hbl
      have h0r : 1 < wr.heap.size := by obtain ⟨tt, fr, h⟩ := hgr; exact lt_of_block h
      have hw1 := laid_write l
      have E1 := hide e1; have E2 := hide e2; have U1 := hide u1; have U2 := hide u2; have HW := hide hw1
      have V1 := hide v1; have V2 := hide v2; have HLok := hide hlok
      have lf := hide (laid_facts l)
      have hszr := hbl.size
      clear e1 e2 u1 u2 hw1 v1 v2 hlok HP HS
      by_cases hlt2 : k < t.size
      all_goals
        have hkk : k < t.size → 80 ≤ k := fun h => by omega
        go_wp2_with fail
        refine (parse_yes _ (laidBS l) _ _ ?_ (laid_parse true _ l (safeL l) (safeL l) (safeL l) (safeL l) ?_ E1.out E2.out E1.out E2.out ?_ ?_) hgr).mono ?_
        · rw [Lib.size_eq, HD1 l, laidDoc_len]; have := tailX_len true; omega
        · exact HD1 l
        · rw [Lib.size_eq, HD1 l, laidDoc_len]; omega
        · rw [Lib.size_eq, HD1 l, laidDoc_len]; omega
        rintro e w2 ⟨db, rfl, hd2, hb2⟩
        have s2 := hb2.size
        have hl2 : (((laidBS l).els.length : Int) != 2) = false := by show (((2 : Nat) : Int) != 2) = false; decide
        have h5k : (laidBS l).els.length ≤ 5000 := by show (2 : Nat) ≤ 5000; decide
        go_wp2_with fail
        refine (dlen_any wr.heap.size db (laidBS l) _ hd2).mono ?_
        rintro e w3 ⟨rfl, rfl⟩
        go_wp2_with fail
        refine (dattr_is wr.heap.size db (laidBS l) 0 ⟨⟨#[97]⟩, -1, [(⟨#[98]⟩, ⟨l.toArray⟩)], 0, (l.length + l.length : Nat)⟩ ⟨#[66]⟩ ⟨l.toArray⟩ _ hd2 rfl h5k (by simp) (by decide) (attrV_one ⟨#[98]⟩ ⟨l.toArray⟩ [98] rfl)).mono ?_
        rintro e w4 ⟨rfl, hb4⟩
        have hd4 := hd2.below hb4
        have s4 := hb4.size
        go_wp2_with fail
        refine (dattr_is wr.heap.size db (laidBS l) 1 ⟨⟨#[98, 114]⟩, 0, [(⟨#[99]⟩, ⟨l.toArray⟩)], (l.length : Nat), (l.length : Nat)⟩ ⟨#[99]⟩ ⟨l.toArray⟩ _ hd4 rfl h5k (by simp) (by decide) (attrV_one ⟨#[99]⟩ ⟨l.toArray⟩ [99] rfl)).mono ?_
        rintro e w5 ⟨rfl, hb5⟩
        have hd5 := hd4.below hb5
        have s5 := hb5.size
        have B5 := (hb2.trans (hb4.mono s2)).trans (hb5.mono (by omega))
        have hg5 := hgr.below B5
        go_wp2_with fail
        refine (dwrite_any wr.heap.size db (laidBS l) _ _ hd5 (by omega) hg5 h0r (by show (l ++ l).length ≤ 5000; rw [List.length_append]; omega) h5k lf.out.1 (fun i x h => ⟨(lf.out.2 i x h).1, fun a ha => ⟨((lf.out.2 i x h).2 a ha).1, by have := ((lf.out.2 i x h).2 a ha).2; omega⟩⟩) HW.out (by simp [laidDoc]) (by rw [laidDoc_len]; have := tailX_len false; have := V1.out; have := V2.out; omega) (by show 0 < 2; decide)).mono ?_
        rintro e w6 ⟨rfl, hk6⟩
        have hd6 := hd5.keptW hk6
        have b6 := hk6.below (by omega)
        have s6 := hk6.size
        have B6 := B5.trans b6
        have hg6 := hgr.below B6
        go_wp2_with fail
        refine (parse_yes _ (laidBS l) _ _ ?_ (laid_parse false _ l (escL vsp l) (escL tsp l) (escL vsp l) (escL tsp l) rfl U1.out U2.out U1.out U2.out ?_ ?_) hg6).mono ?_
        · show (laidDoc false (escL vsp l) (escL tsp l) (escL vsp l) (escL tsp l)).toArray.size ≤ _
          rw [List.size_toArray, laidDoc_len]; have := tailX_len false; have := V1.out; have := V2.out; omega
        · show _ ≤ (laidDoc false (escL vsp l) (escL tsp l) (escL vsp l) (escL tsp l)).toArray.size
          rw [List.size_toArray, laidDoc_len]; have := V1.out; omega
        · show _ ≤ (laidDoc false (escL vsp l) (escL tsp l) (escL vsp l) (escL tsp l)).toArray.size
          rw [List.size_toArray, laidDoc_len]; omega
        rintro e w7 ⟨dc, rfl, hc7, hb7⟩
        have hd7 := hd6.below hb7
        have s7 := hb7.size
        go_wp2_with fail
        refine (dattr_is w6.heap.size dc (laidBS l) 0 ⟨⟨#[97]⟩, -1, [(⟨#[98]⟩, ⟨l.toArray⟩)], 0, (l.length + l.length : Nat)⟩ ⟨#[98]⟩ ⟨l.toArray⟩ _ hc7 rfl h5k (by simp) (by decide) (attrV_one ⟨#[98]⟩ ⟨l.toArray⟩ [98] rfl)).mono ?_
        rintro e w8 ⟨rfl, hb8⟩
        have hd8 := hd7.below hb8
        have hc8 := hc7.below hb8
        have s8 := hb8.size
        go_wp2_with fail
        refine (dtext_any wr.heap.size db (laidBS l) 0 ⟨⟨#[97]⟩, -1, [(⟨#[98]⟩, ⟨l.toArray⟩)], 0, (l.length + l.length : Nat)⟩ 0 (l.length + l.length) _ hd8 rfl h5k rfl rfl (by omega) (by show _ ≤ (l ++ l).length; rw [List.length_append]; omega)).mono ?_
        rintro e w9 ⟨rfl, hb9⟩
        rw [text_two]
        have hd9 := hd8.below hb9
        have hc9 := hc8.below hb9
        have s9 := hb9.size
        have hll : (({ data := l.toArray } : ByteArray) ++ { data := l.toArray }).toList = l ++ l := by rw [Lib.toList_data]; simp [ByteArray.data_append]
        go_wp2_with fail
        refine (dtext_any w6.heap.size dc (laidBS l) 0 ⟨⟨#[97]⟩, -1, [(⟨#[98]⟩, ⟨l.toArray⟩)], 0, (l.length + l.length : Nat)⟩ 0 (l.length + l.length) _ hc9 rfl h5k rfl rfl (by omega) (by show _ ≤ (l ++ l).length; rw [List.length_append]; omega)).mono ?_
        rintro e w10 ⟨rfl, hb10⟩
        rw [text_two]
        have hd10 := hd9.below hb10
        have s10 := hb10.size
        go_wp2_with fail
        refine (dtext_any wr.heap.size db (laidBS l) 1 ⟨⟨#[98, 114]⟩, 0, [(⟨#[99]⟩, ⟨l.toArray⟩)], (l.length : Nat), (l.length : Nat)⟩ l.length l.length _ hd10 rfl h5k rfl rfl (Nat.le_refl _) (by show _ ≤ (l ++ l).length; rw [List.length_append]; omega)).mono ?_
        rintro e w11 ⟨rfl, hb11⟩
        rw [text_none]
        go_wp2
        go_ret
        have F1 := B6.trans (hb7.mono (by omega))
        have F2 := F1.trans (hb8.mono (by omega))
        have F3 := F2.trans (hb9.mono (by omega))
        have F4 := F3.trans (hb10.mono (by omega))
        have F5 := F4.trans (hb11.mono (by omega))
        exact ⟨rfl, hbl.trans (F5.mono hszr)⟩
end Go.Proofs.YtclpcnignheijaaGreatDoor
