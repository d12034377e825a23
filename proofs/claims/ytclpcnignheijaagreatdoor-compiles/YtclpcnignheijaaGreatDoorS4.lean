import Derived.Test.YtclpcnignheijaaGreatDoorS3
import Derived.Deep.RegionHeld3
namespace Go.Proofs.YtclpcnignheijaaGreatDoor
open Go.RowKit

theorem ofNat_byte (s : ByteArray) {p : Nat} (h : p < s.size) : UInt8.ofNat (byteI s p).toNat = s[p] := by
  rw [byteI_get s p h]; simp
theorem subB_snoc {s : ByteArray} {p q : Nat} (hpq : p ≤ q) (hb : peekI s q ≠ 0) : (subB s p q).data.toList ++ [UInt8.ofNat (peekI s q).toNat] = (subB s p (q + 1)).data.toList := by
  have hlt := peekI_lt hb
  have he : peekI s q = byteI s q := by
    unfold peekI at hb ⊢
    split
    · rfl
    · rename_i hc; rw [if_neg hc] at hb; exact absurd rfl hb
  have hl : q < s.data.toList.length := by simpa using hlt
  rw [he, ofNat_byte s hlt, subB_list, subB_list, show q + 1 - p = (q - p) + 1 from by omega, List.take_succ_eq_append_getElem (by simp; omega)]
  congr 1
  simp only [List.getElem_drop]
  congr 1
  have : p + (q - p) = q := by omega
  simp only [this]
  rfl
theorem subB_nil (s : ByteArray) (p : Nat) : (subB s p p).data.toList = [] := by rw [subB_list, Nat.sub_self, List.take_zero]
theorem oneP_some {s : ByteArray} {ws : List (List UInt8)} {n : Nat} {t : List UInt8} {p i : Nat} (h : ws.findIdx? (· == t) = some i) : oneP s ws (n + 1) t p = (p, some i) := by rw [oneP, h]
theorem oneP_no {s : ByteArray} {ws : List (List UInt8)} {n : Nat} {t : List UInt8} {p : Nat} (h : ws.findIdx? (· == t) = none) (hg : goesOn ws t (peekI s p) = false) : oneP s ws (n + 1) t p = (p, none) := by rw [oneP, h]; simp [hg]
theorem oneP_go {s : ByteArray} {ws : List (List UInt8)} {n : Nat} {t : List UInt8} {p : Nat} (h : ws.findIdx? (· == t) = none) (hg : goesOn ws t (peekI s p) = true) : oneP s ws (n + 1) t p = oneP s ws n (t ++ [UInt8.ofNat (peekI s p).toNat]) (p + 1) := by rw [oneP, h]; simp [hg]
theorem goesOn_len {ws : List (List UInt8)} {t : List UInt8} {b : Int} {N : Nat} (hN : ∀ x ∈ ws, x.length < N) (h : goesOn ws t b = true) : t.length + 1 < N := by
  unfold goesOn at h
  rw [List.any_eq_true] at h
  obtain ⟨x, hx, h⟩ := h
  rw [Bool.and_eq_true] at h
  have h2 := h.2
  split at h2
  · rename_i c hc
    have := (List.getElem?_eq_some_iff.1 hc).1
    have := hN x hx
    omega
  · cases h2
theorem ne_of_idx {ws : List (List UInt8)} {t : List UInt8} (h : ws.findIdx? (· == t) = none) : ∀ x ∈ ws, x ≠ t := by
  intro x hx he
  have := List.findIdx?_eq_none_iff.1 h x hx
  rw [he] at this
  simp at this

set_option maxHeartbeats 1000000 in
theorem oneOf_any (B rb g cap N : Nat) (ws : List (List UInt8)) (s : ByteArray) (p : Nat) (w : World) (h : Rd w rb s p) (hB : B ≤ rb) (hb : Ws w g ws) (hl : ws.length ≤ 100) (h0 : ∀ x ∈ ws, (0 : UInt8) ∉ x) (hN : ∀ x ∈ ws, x.length < N) (hN0 : 0 < N) :
    Calls Tryz.prog 232 #[.pointer (some ⟨rb, 0, none⟩), .slice (some ⟨g, 0, none⟩) ws.length cap] w fun e w' => ∃ (i : Nat) (v : Value), e = .returned (.tuple #[.int .i64 i, v]) ∧ Rd w' rb s (oneP s ws N [] p).1 ∧ Kp B [210] w w' ∧
      (((oneP s ws N [] p).2 = some i ∧ v = .nilIface) ∨ ((oneP s ws N [] p).2 = none ∧ i = 0 ∧ Chain w' 2 (oneP s ws N [] p).1 0 v)) := by
  have h4 := h.le; have h5 := h.max
  have h2 := (h.alloc (.cells #[.pointer (some ⟨rb, 0, none⟩)] 158)).place
  go_enter Tryz.func232, Tryz.ntmps232
  go_wp2
  clear h2
  go_loopw [22] (fun _ wr => ∃ q : Nat, Rd wr rb s q ∧ p ≤ q ∧ q - p < N ∧ wr.heap[w.heap.size]? = some (.cells #[.pointer (some ⟨rb, 0, none⟩)] 158 (0, 0)) ∧ Hid (oneP s ws (N - (q - p)) (subB s p q).data.toList q = oneP s ws N [] p) ∧ Kp B [210] w wr) (fun _ wr => s.size - placeOf wr rb)
  case atStart => exact ⟨p, h.alloc _, Nat.le_refl _, by omega, alloc_at _ _, by rw [subB_nil, Nat.sub_self]; rfl, (Kp.refl _ _ _).alloc _⟩
  case round =>
    obtain ⟨q, hr, hpq, hqN, hbox, HQ, hk⟩ := hrel
    have g1 := hr.text; have g2 := hr.place; have g3 := hr.free; have g4 := hr.le
    have hbr := hb.kept hk (by decide)
    have c0 := cell_of_one hbox
    have n0 := World.new_ne wr _ c0
    have n1 := World.new_ne wr _ g1
    have n2 := World.new_ne wr _ g2
    go_wp2_with fail
    go_region_held3 (fun wx => wx.cell? ⟨w.heap.size, 0, none⟩ = some (.pointer (some ⟨rb, 0, none⟩)) ∧ wx.cell? ⟨rb, 0, none⟩ = some (.string s) ∧ wx.cell? ⟨rb, 1, none⟩ = some (.int .i64 q)) (go_keep) (fail)
    go_wp2_with fail
    refine (slicesIndex_any g cap ws (s.extract p q) _ ((hbr.kept ((Kp.refl 0 [] wr).alloc (.cells #[.string (s.extract p q)] 9)) (by simp)).drewN 1) hl).mono ?_
    clear n0 n1 n2
    rintro e w1 ⟨rfl, nd, rfl⟩
    obtain ⟨M, hM⟩ : ∃ M, N - (q - p) = M + 1 := ⟨N - (q - p) - 1, by omega⟩
    rw [subB_eq]
    cases hf : ws.findIdx? (· == (subB s p q).data.toList) with
    | some i =>
      have HE : Hid (oneP s ws N [] p = (q, some i)) := by rw [← HQ.out, hM]; exact oneP_some hf
      have hw : wordsI ws (subB s p q).data.toList = (i : Int) := by unfold wordsI; rw [hf]
      rw [hw]
      clear hf hw
      go_wp2
      go_ret2
      rw [HE.out]
      exact ⟨i, _, rfl, (hr.alloc _).drewN _, (hk.alloc _).drewN _, .inl ⟨rfl, rfl⟩⟩
    | none =>
      have hw : wordsI ws (subB s p q).data.toList = -1 := by unfold wordsI; rw [hf]
      rw [hw]
      clear hw
      have hne := ne_of_idx hf
      cases hg : goesOn ws (subB s p q).data.toList (peekI s q)
      · have HE : Hid (oneP s ws N [] p = (q, none)) := by rw [← HQ.out, hM]; exact oneP_no hf hg
        have HG := hide hg
        have HN := hide hne
        clear hf hg hne
        have hr1 := hr.alloc (.cells #[.string (subB s p q)] 9)
        have hb1 : Ws (wr.alloc (.cells #[.string (subB s p q)] 9)) g ws := hbr.kept ((Kp.refl 0 [] wr).alloc _) (by simp)
        have ht1 := alloc_at wr (.cells #[.string (subB s p q)] 9)
        have hx1 := alloc_old hbox (.cells #[.string (subB s p q)] 9)
        have hk1 := hk.alloc (.cells #[.string (subB s p q)] 9)
        have b1 := cell_of_one hx1
        clear c0 g1 g2 g3
        go_wp2_with (first | (go_at_call 253; refine (containsFunc_is rb wr.heap.size w.heap.size g cap ws s (subB s p q) q _ false (hr1.drewN _) (hb1.drewN _) hl ht1 hx1 HN.out HG.out).mono ?_; rintro e w2 ⟨rfl, nq, rfl⟩) | (go_at_call 95; refine (fail_any B rb s q _ (hr1.drewN _)).mono ?_; rintro e w' ⟨v, rfl, hc, hr'', hk''⟩))
        go_ret2
        rw [HE.out]
        exact ⟨0, _, rfl, hr'', hk1.trans hk''.fromDrewN, .inr ⟨rfl, rfl, hc⟩⟩
      · have hlt := goesOn_lt h0 hg
        have hlen := goesOn_len hN hg
        have hpk : peekI s q ≠ 0 := by
          intro e
          rw [e] at hg
          unfold goesOn at hg
          rw [List.any_eq_true] at hg
          obtain ⟨x, hx, hg⟩ := hg
          rw [Bool.and_eq_true] at hg
          obtain ⟨_, hg⟩ := hg
          split at hg
          · rename_i c hc
            have hc0 : (c.toNat : Int) = 0 := by simpa using hg
            have : c = 0 := UInt8.toNat_inj.mp (by have h1 : (0 : UInt8).toNat = 0 := rfl
                                                   omega)
            exact h0 x hx (this ▸ List.mem_of_getElem? hc)
          · cases hg
        have hsn := subB_snoc hpq hpk
        have hlen2 : (subB s p q).data.toList.length = q - p := by rw [← subB_size g4 hpq]; simp
        rw [hlen2] at hlen
        have HE : Hid (oneP s ws (N - (q + 1 - p)) (subB s p (q + 1)).data.toList (q + 1) = oneP s ws N [] p) := by
          have e1 : N - (q + 1 - p) = M := by omega
          rw [← HQ.out, hM, oneP_go hf hg, hsn, e1]; rfl
        have HG := hide hg
        have HN := hide hne
        clear hf hg hne hpk hsn hlen2
        have hr1 := hr.alloc (.cells #[.string (subB s p q)] 9)
        have hb1 : Ws (wr.alloc (.cells #[.string (subB s p q)] 9)) g ws := hbr.kept ((Kp.refl 0 [] wr).alloc _) (by simp)
        have ht1 := alloc_at wr (.cells #[.string (subB s p q)] 9)
        have hx1 := alloc_old hbox (.cells #[.string (subB s p q)] 9)
        have hk1 := hk.alloc (.cells #[.string (subB s p q)] 9)
        have b1 := cell_of_one hx1
        have g7 := hr1.place; have g8 := hr1.free
        clear c0 g1 g2 g3
        go_wp2_with (go_at_call 253; refine (containsFunc_is rb wr.heap.size w.heap.size g cap ws s (subB s p q) q _ true (hr1.drewN _) (hb1.drewN _) hl ht1 hx1 HN.out HG.out).mono ?_; rintro e w2 ⟨rfl, nq, rfl⟩)
        go_roundw
        case rel =>
          refine ⟨q + 1, (hr1.drewN _).moved (by omega) (by simp), by omega, by omega, ?_, HE, (hk1.drewN _).setCell (hr1.drewN _).blk (by simp) hB _⟩
          exact setCell_other hx1 (block_ne hx1 hr1.blk (by decide)) _
        case measure => rw [((hr1.drewN _).moved (q := q + 1) (by omega) (by simp)).placeOf, hr.placeOf]; omega
set_option maxHeartbeats 1000000 in
theorem word_any (B rb : Nat) (s : ByteArray) (p : Nat) (w : World) (h : Rd w rb s p) (hB : B ≤ rb) :
    Calls Tryz.prog 254 #[.pointer (some ⟨rb, 0, none⟩)] w fun e w' => ∃ (n : ByteArray) (v : Value), e = .returned (.tuple #[.string n, v]) ∧ Rd w' rb s (wordP s p).1 ∧ Kp B [210] w w' ∧
      (((wordP s p).2 = some n ∧ v = .nilIface) ∨ ((wordP s p).2 = none ∧ Chain w' 2 (wordP s p).1 0 v)) := by
  have h4 := h.le; have h5 := h.max
  obtain ⟨q, hq⟩ : ∃ q, runP wordB s 16 p = q := ⟨_, rfl⟩
  have hle := runP_le wordB (by decide) s 16 p h4
  rw [hq] at hle
  obtain ⟨hpq, hqs, hq16⟩ := hle
  have hsz := subB_size hqs hpq
  have HQ := hide hq
  by_cases hn : q = p
  · have HE : Hid (wordP s p = (q, none)) := by unfold wordP; rw [hq, if_pos (.inl hn)]; rfl
    have hz : (subB s p q).toList = [] := by
      rw [Lib.toList_data, hn, subB_nil]
    have hz2 : (subB s p q).toList.isEmpty = true := by rw [List.isEmpty_iff]; exact hz
    clear hz
    clear hq hn
    go_enter Tryz.func254, Tryz.ntmps254
    go_wp2_with (first | (go_at_call 245; refine (run_word B rb s p _ h hB).mono ?_; rw [HQ.out]; rintro e wr ⟨rfl, hr, hk⟩) | (go_at_call 95; refine (fail_any B rb s q _ hr).mono ?_; rintro e w' ⟨v, rfl, hc, hr'', hk''⟩))
    go_ret2
    rw [HE.out]
    exact ⟨_, _, rfl, hr'', hk.trans hk'', .inr ⟨rfl, hc⟩⟩
  · have hz : ¬ (subB s p q).toList = [] := by
      rw [Lib.toList_data]
      intro e
      have h1 : (subB s p q).data.toList.length = (subB s p q).size := by simp
      rw [e, hsz] at h1
      simp at h1
      omega
    have hz2 : (subB s p q).toList.isEmpty = false := by
      rw [← Bool.not_eq_true, List.isEmpty_iff]; exact hz
    clear hz
    cases hw : wordB (peekI s q)
    · have HE : Hid (wordP s p = (q, some (subB s p q))) := by unfold wordP; rw [hq, if_neg (by rw [hw]; simp [hn])]; rfl
      have HW := hide hw
      have hs5 : (subB s p q).size ≤ 100000 := by rw [hsz]; omega
      clear hq hn hw
      go_enter Tryz.func254, Tryz.ntmps254
      go_wp2_with (first | (go_at_call 245; refine (run_word B rb s p _ h hB).mono ?_; rw [HQ.out]; rintro e wr ⟨rfl, hr, hk⟩) | (go_at_call 144; refine (peek_any rb s q _ hr).mono ?_; rintro e w' ⟨rfl, nq, rfl⟩) | (go_at_call 267; refine (isWord_is _ _ _ HW.out).mono ?_; rintro e w' ⟨rfl, rfl⟩) | (go_at_call 268; refine (clone_any _ _ hs5).mono ?_; rintro e w' ⟨rfl, hbl⟩))
      go_ret2
      rw [HE.out]
      exact ⟨_, _, rfl, hr.belowD hbl rfl rfl, hk.belowD hbl rfl rfl rfl rfl rfl, .inl ⟨rfl, rfl⟩⟩
    · have HE : Hid (wordP s p = (q, none)) := by unfold wordP; rw [hq, if_pos (.inr hw)]; rfl
      have HW := hide hw
      clear hq hn hw
      go_enter Tryz.func254, Tryz.ntmps254
      go_wp2_with (first | (go_at_call 245; refine (run_word B rb s p _ h hB).mono ?_; rw [HQ.out]; rintro e wr ⟨rfl, hr, hk⟩) | (go_at_call 144; refine (peek_any rb s q _ hr).mono ?_; rintro e w' ⟨rfl, nq, rfl⟩) | (go_at_call 267; refine (isWord_is _ _ _ HW.out).mono ?_; rintro e w' ⟨rfl, rfl⟩) | (go_at_call 95; refine (fail_any B rb s q _ (hr.drewN _)).mono ?_; rintro e w' ⟨v, rfl, hc, hr'', hk''⟩))
      go_ret2
      rw [HE.out]
      exact ⟨_, _, rfl, hr'', hk.trans hk''.fromDrewN, .inr ⟨rfl, hc⟩⟩
end Go.Proofs.YtclpcnignheijaaGreatDoor
