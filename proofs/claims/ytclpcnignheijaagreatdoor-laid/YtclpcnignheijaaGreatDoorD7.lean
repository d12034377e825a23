import Derived.Test.YtclpcnignheijaaGreatDoorD6
namespace Go.Proofs.YtclpcnignheijaaGreatDoor
open Go.RowKit

theorem ba_extract (l : List UInt8) (a c : Nat) : (⟨l.toArray⟩ : ByteArray).extract a c = ⟨((l.drop a).take (c - a)).toArray⟩ := by
  have h := Lib.extract_data (⟨l.toArray⟩ : ByteArray) a c
  cases h2 : (⟨l.toArray⟩ : ByteArray).extract a c with
  | mk d =>
    rw [h2] at h
    congr 1
    apply Array.ext'
    simpa using h
theorem _root_.Go.RowKit.Below.drewN' {B : Nat} {a w : World} (h : Below B a w) (n : Nat) : Below B a (w.drewN n) := ⟨h.os, h.tape, h.output, h.size, h.block⟩
theorem Dc.below {B db : Nat} {w w' : World} {b : BS} (h : Dc w B db b) (k : Below w.heap.size w w') : Dc w' B db b := by
  obtain ⟨ve, avs, a1, a2, a3, a5⟩ := h
  have K : Kp 0 [] w w' := Kp.ofBelow k
  exact ⟨ve, avs, K.at a1 (by simp), a2, K.owns a3 (by simp), fun i x a hx ha => K.owns (a5 i x a hx ha) (by simp)⟩

set_option maxHeartbeats 400000 in
theorem dlen_any (B db : Nat) (b : BS) (w : World) (h : Dc w B db b) :
    Calls Tryz.prog 13 #[.pointer (some ⟨db, 0, none⟩)] w fun e w' => e = .returned (.int .i64 (b.els.length : Int)) ∧ w' = w := by
  obtain ⟨ve, avs, a1, a2, a3, a5⟩ := h
  have c0 := cell2_0 a1
  obtain ⟨ao, cp, hv⟩ := owns_shape a3
  subst hv
  go_enter Tryz.func13, Tryz.ntmps13
  go_wp2
  go_ret
  exact ⟨rfl, rfl⟩
set_option maxHeartbeats 400000 in
theorem has_no (B db : Nat) (b : BS) (n : Int) (w : World) (h : Dc w B db b) (hn : n < 0 ∨ (b.els.length : Int) ≤ n) :
    Calls Tryz.prog 73 #[.pointer (some ⟨db, 0, none⟩), .int .i64 n] w fun e w' => e = .returned (.bool false) ∧ w' = w := by
  obtain ⟨ve, avs, a1, a2, a3, a5⟩ := h
  have c0 := cell2_0 a1
  obtain ⟨ao, cp, hv⟩ := owns_shape a3
  subst hv
  clear a1 a2 a3 a5
  by_cases h0 : n < 0
  · clear hn
    go_enter Tryz.func73, Tryz.ntmps73
    go_wp2
    go_ret
    exact ⟨rfl, rfl⟩
  · have h1 : (b.els.length : Int) ≤ n := by omega
    have h2 : 0 ≤ n := by omega
    have h3 : decide (n < (b.els.length : Int)) = false := by simp; omega
    clear hn h0
    go_enter Tryz.func73, Tryz.ntmps73
    go_wp2
    go_ret
    exact ⟨ret_bool (by first | rfl | exact h3), rfl⟩
set_option maxHeartbeats 400000 in
theorem has_yes (B db : Nat) (b : BS) (k : Nat) (w : World) (h : Dc w B db b) (hn : k < b.els.length) :
    Calls Tryz.prog 73 #[.pointer (some ⟨db, 0, none⟩), .int .i64 (k : Int)] w fun e w' => e = .returned (.bool true) ∧ w' = w := by
  obtain ⟨ve, avs, a1, a2, a3, a5⟩ := h
  have c0 := cell2_0 a1
  obtain ⟨ao, cp, hv⟩ := owns_shape a3
  subst hv
  clear a1 a2 a3 a5
  have h3 : decide ((k : Int) < (b.els.length : Int)) = true := by simp; omega
  go_enter Tryz.func73, Tryz.ntmps73
  go_wp2
  go_ret
  exact ⟨ret_bool (by first | rfl | exact h3), rfl⟩

def attrV (l : List (ByteArray × ByteArray)) (n : ByteArray) : ByteArray × Bool :=
  match l.find? (fun x => x.1.toList == n.toList) with
  | some x => (x.2, true)
  | none => (⟨#[]⟩, false)
set_option maxRecDepth 100000 in
set_option maxHeartbeats 1000000 in
theorem tattr_any (B db : Nat) (b : BS) (k : Nat) (x : El) (n : ByteArray) (w : World) (h : Dc w B db b) (hx : b.els[k]? = some x) (hs : b.els.length ≤ 5000) (hl : x.attrs.length ≤ 5000) :
    Calls Tryz.prog 55 #[.pointer (some ⟨db, 0, none⟩), .int .i64 (k : Int), .string n] w fun e w' => e = .returned (.tuple #[.string (attrV x.attrs n).1, .bool (attrV x.attrs n).2]) ∧ Below w.heap.size w w' := by
  have h' := h
  obtain ⟨ve, avs, a1, a2, a3, a5⟩ := h
  have c0 := cell2_0 a1
  have hlt : k < b.els.length := (List.getElem?_eq_some_iff.1 hx).1
  obtain ⟨g, cap, hv, hBg, hgs⟩ := row_form a3 (by omega)
  subst hv
  have hav : avs[k]? = some (avs[k]'(by omega)) := List.getElem?_eq_getElem (by omega)
  generalize avs[k]'(by omega) = av at hav
  obtain ⟨e0, e1, e2, e3, e4⟩ := elCells_at b.els avs k x _ hx hav
  have d2 : w.cell? ⟨g, k * 5 + 2, none⟩ = some av := by rw [a3.cellAt _ (by omega), e2]
  have oa := a5 k x av hx hav
  clear e0 e1 e2 e3 e4 a1 a2 a3 a5 hx hav
  rcases oa.2 with ⟨hav, h0⟩ | ⟨ga, capa, cur, hav, hBa, hga, _⟩
  · subst hav
    have hnil : x.attrs = [] := List.eq_nil_of_length_eq_zero h0
    have HN : Hid (attrV x.attrs n = (⟨#[]⟩, false)) := by rw [hnil]; rfl
    clear oa h0 hnil
    go_enter Tryz.func55, Tryz.ntmps55
    go_wp2_with (go_at_call 73; refine (has_yes B db b k _ h' hlt).mono ?_; rintro e w1 ⟨rfl, rfl⟩)
    refine wp_loop_rounds 1 ?_
    rw [rounds_succ]
    go_wp2
    go_ret2
    rw [HN.out]
    exact ⟨rfl, Below.refl _ _⟩
  · subst hav
    have HA := hide oa
    have hgas := (oa.lt ga rfl).2
    clear oa hga
    go_enter Tryz.func55, Tryz.ntmps55
    go_wp2_with (go_at_call 73; refine (has_yes B db b k _ h' hlt).mono ?_; rintro e w1 ⟨rfl, rfl⟩)
    go_loopw [23] (fun i wr => ∃ j : Nat, i = .int .i64 j ∧ j ≤ x.attrs.length ∧ Below w1.heap.size w1 wr ∧ Hid (attrV (x.attrs.drop j) n = attrV x.attrs n)) (fun i _ => x.attrs.length - (intOf i).toNat)
    case atStart => exact ⟨0, rfl, Nat.zero_le _, Below.refl _ _, rfl⟩
    case round =>
      obtain ⟨j, rfl, hjl, hbl, HQ⟩ := hrel
      by_cases hj : j < x.attrs.length
      · obtain ⟨y, hy⟩ : ∃ y, x.attrs[j]? = some y := ⟨x.attrs[j], List.getElem?_eq_getElem hj⟩
        obtain ⟨q1, q2⟩ := attrCells_at x.attrs j y hy
        have r1 : wr.cell? ⟨ga, j * 2, none⟩ = some (.string y.1) := by rw [hbl.cell (p := ⟨ga, j * 2, none⟩) hgas, HA.out.cellAt _ (by omega), q1]
        have r2 : wr.cell? ⟨ga, j * 2 + 1, none⟩ = some (.string y.2) := by rw [hbl.cell (p := ⟨ga, j * 2 + 1, none⟩) hgas, HA.out.cellAt _ (by omega), q2]
        have hdr : x.attrs.drop j = y :: x.attrs.drop (j + 1) := by
          rw [List.drop_eq_getElem_cons hj]
          rw [List.getElem?_eq_getElem hj] at hy
          rw [Option.some.inj hy]
        have HD := hide hdr
        clear q1 q2 hy hdr
        cases hq : (y.1.toList == n.toList)
        · have HE : Hid (attrV (x.attrs.drop (j + 1)) n = attrV x.attrs n) := by
            rw [← HQ.out, HD.out]; unfold attrV; rw [List.find?_cons, hq]; rfl
          go_wp2
          go_roundw
          case rel => exact ⟨j + 1, by go_num, by omega, hbl.alloc hbl.size _, HE⟩
          case measure => simp [intOf]; omega
        · have HE : Hid (attrV x.attrs n = (y.2, true)) := by
            rw [← HQ.out, HD.out]; unfold attrV; rw [List.find?_cons, hq]; rfl
          go_wp2
          go_ret2
          rw [HE.out]
          exact ⟨rfl, hbl.alloc hbl.size _⟩
      · have HE : Hid (attrV x.attrs n = (⟨#[]⟩, false)) := by
          rw [← HQ.out, List.drop_eq_nil_of_le (by omega)]; rfl
        go_wp2
        go_ret2
        rw [HE.out]
        exact ⟨rfl, hbl⟩
set_option maxRecDepth 100000 in
set_option maxHeartbeats 1000000 in
theorem dattr_any (B db : Nat) (b : BS) (k : Nat) (x : El) (n : ByteArray) (w : World) (h : Dc w B db b) (hx : b.els[k]? = some x) (hs : b.els.length ≤ 5000) (hl : x.attrs.length ≤ 5000) (hn : n.size ≤ 140737488351232) :
    Calls Tryz.prog 22 #[.pointer (some ⟨db, 0, none⟩), .int .i64 (k : Int), .string n] w fun e w' => e = .returned (.tuple #[.string (attrV x.attrs ⟨(smallL n.data.toList).toArray⟩).1, .bool (attrV x.attrs ⟨(smallL n.data.toList).toArray⟩).2]) ∧ Below w.heap.size w w' := by
  go_enter Tryz.func22, Tryz.ntmps22
  go_wp2
  go_region_with (first | (go_at_call 56; refine (small_any n _ hn).mono ?_; rintro e w1 ⟨rfl, hb1⟩; have hb2 : Below w.heap.size w w1 := ⟨hb1.os, hb1.tape, hb1.output, hb1.size, hb1.block⟩) | (go_at_call 55; refine (tattr_any B db b k x _ _ (h.below hb2) hx hs hl).mono ?_; rintro e w3 ⟨rfl, hb3⟩))
  all_goals go_wp2
  all_goals go_ret2
  all_goals exact ⟨rfl, hb2.trans (hb3.mono hb2.size)⟩
set_option maxRecDepth 100000 in
set_option maxHeartbeats 1000000 in
theorem textOf_any (B db : Nat) (b : BS) (k : Nat) (x : El) (lo hi : Nat) (w : World) (h : Dc w B db b) (hx : b.els[k]? = some x) (hs : b.els.length ≤ 5000) (h1 : x.lo = (lo : Int)) (h2 : x.hi = (hi : Int)) (h3 : lo ≤ hi) (h4 : hi ≤ b.txt.length) :
    Calls Tryz.prog 43 #[.pointer (some ⟨db, 0, none⟩), .int .i64 (k : Int)] w fun e w' => e = .returned (.string ⟨((b.txt.drop lo).take (hi - lo)).toArray⟩) ∧ Below w.heap.size w w' := by
  have h' := h
  obtain ⟨ve, avs, a1, a2, a3, a5⟩ := h
  have c0 := cell2_0 a1; have c1 := cell2_1 a1
  have hdb := lt_of_block a1
  have hlt : k < b.els.length := (List.getElem?_eq_some_iff.1 hx).1
  obtain ⟨g, cap, hv, hBg, hgs⟩ := row_form a3 (by omega)
  subst hv
  have hav : avs[k]? = some (avs[k]'(by omega)) := List.getElem?_eq_getElem (by omega)
  generalize avs[k]'(by omega) = av at hav
  obtain ⟨e0, e1, e2, e3, e4⟩ := elCells_at b.els avs k x _ hx hav
  have oa := a5 k x av hx hav
  obtain ⟨aoa, cpa, hav2⟩ := owns_shape oa
  subst hav2
  rw [h1] at e3; rw [h2] at e4
  have d0 : w.cell? ⟨g, k * 5, none⟩ = some (.string x.name) := by rw [a3.cellAt _ (by omega), e0]
  have d1 : w.cell? ⟨g, k * 5 + 1, none⟩ = some (.int .i64 x.parent) := by rw [a3.cellAt _ (by omega), e1]
  have d2 : w.cell? ⟨g, k * 5 + 2, none⟩ = some (.slice aoa x.attrs.length cpa) := by rw [a3.cellAt _ (by omega), e2]
  have d3 : w.cell? ⟨g, k * 5 + 3, none⟩ = some (.int .i64 (lo : Int)) := by rw [a3.cellAt _ (by omega), e3]
  have d4 : w.cell? ⟨g, k * 5 + 4, none⟩ = some (.int .i64 (hi : Int)) := by rw [a3.cellAt _ (by omega), e4]
  clear e0 e1 e2 e3 e4 a1 a2 a3 a5 hx hav oa h1 h2
  go_enter Tryz.func43, Tryz.ntmps43
  go_wp2_with (go_at_call 73; refine (has_yes B db b k _ h' hlt).mono ?_; rintro e w1 ⟨rfl, rfl⟩)
  go_quiet (fail)
  go_wp2
  go_ret
  refine ⟨?_, ((Below.refl _ _).alloc (Nat.le_refl _) _).drewN' _⟩
  show Ending.returned (.string ((⟨b.txt.toArray⟩ : ByteArray).extract lo hi)) = _
  rw [ba_extract]
set_option maxRecDepth 100000 in
set_option maxHeartbeats 400000 in
theorem dtext_any (B db : Nat) (b : BS) (k : Nat) (x : El) (lo hi : Nat) (w : World) (h : Dc w B db b) (hx : b.els[k]? = some x) (hs : b.els.length ≤ 5000) (h1 : x.lo = (lo : Int)) (h2 : x.hi = (hi : Int)) (h3 : lo ≤ hi) (h4 : hi ≤ b.txt.length) :
    Calls Tryz.prog 14 #[.pointer (some ⟨db, 0, none⟩), .int .i64 (k : Int)] w fun e w' => e = .returned (.string ⟨((b.txt.drop lo).take (hi - lo)).toArray⟩) ∧ Below w.heap.size w w' := by
  have H1 := hide h1; have H2 := hide h2
  clear h1 h2
  go_enter Tryz.func14, Tryz.ntmps14
  go_wp2_with (go_at_call 43; refine (textOf_any B db b k x lo hi _ h hx hs H1.out H2.out h3 h4).mono ?_; rintro e w1 ⟨rfl, hb1⟩)
  go_ret
  exact ⟨rfl, hb1⟩
end Go.Proofs.YtclpcnignheijaaGreatDoor
