import Derived.Test.YtclpcnignheijaaGreatDoorE5
namespace Go.Proofs.YtclpcnignheijaaGreatDoor
open Go.RowKit

theorem Kp.freeze {B : Nat} {T : List TypeId} {a w : World} (h : Kp B T a w) {p : Addr} {c : Array Value} {t : TypeId} {fr : Nat × Nat} (hp : w.heap[p.block]? = some (.cells c t fr)) (ht : t ∈ T) (hB : B ≤ p.block) (n : Nat) : Kp B T a (w.freeze p n) := by
  by_cases hn : n = 0
  · subst hn; exact h
  refine h.trans ?_
  unfold World.freeze
  rw [if_neg hn]
  refine ⟨rfl, rfl, rfl, by simp, fun k hk hc => ?_⟩
  have hne : p.block ≠ k := by
    rintro rfl
    rcases hc with hc | hc
    · omega
    · exact hc _ _ _ hp ht
  simp [Array.getElem?_modify, hne]
theorem Tryz.cellsByte : Tryz.prog.cellsOf 5 = 1 := by kernel_rfl
set_option maxRecDepth 100000 in
set_option maxHeartbeats 1000000 in
theorem sbString_any (B wb db : Nat) (out : List UInt8) (pl : Nat) (op : Int) (w : World) (h : Wr w B wb db out pl op) (h0 : out ≠ []) (hs : out.length ≤ 1000000) :
    Calls Tryz.prog 77 #[.pointer (some ⟨wb, 1, none⟩)] w fun e w' => e = .returned (.string ⟨out.toArray⟩) ∧ Kp B TW w w' := by
  obtain ⟨sa, vb, a1, a2, a3⟩ := h
  obtain ⟨c0, c1, c2, c3, c4⟩ := cell5 a1
  have hl0 : out.length ≠ 0 := by simpa using h0
  obtain ⟨g, cap, cur, rfl, hbg, hg, hnc, hcm, hcs, htake⟩ : ∃ g cap cur, vb = .slice (some ⟨g, 0, none⟩) out.length cap ∧ B ≤ g ∧ w.heap[g]? = some (.cells cur 5 (0, 0)) ∧ out.length ≤ cap ∧ cap ≤ maxLen ∧ cur.size = cap * 1 ∧ cur.toList.take (out.length * 1) = u8s out := by
    rcases a3.2 with ⟨_, hz⟩ | ⟨g, cap, cur, hv, r⟩
    · exact absurd hz hl0
    · exact ⟨g, cap, cur, hv, r⟩
  have hSD : (Builtin.unsafeSliceData_ #[50] 201 #[.slice (some ⟨g, 0, none⟩) out.length cap]).run Tryz.prog w.drew = .ok (.pointer (some ⟨g, 0, none⟩)) w.drew :=
    Lib.run_unsafeSliceData_row _ _ _ _ _ _ (by omega)
  have hUS : (Builtin.unsafeString_ #[201, 3] 9 #[.pointer (some ⟨g, 0, none⟩), .int .i64 out.length]).run Tryz.prog w.drew = .ok (.string ⟨out.toArray⟩) (w.drew.freeze ⟨g, 0, none⟩ out.length) := by
    refine Lib.run_unsafeString_row w.drew 201 3 9 5 Tryz.underlying201 Tryz.cellsByte g cur.size (by have hg' : w.drew.heap[g]? = some (.cells cur 5 (0, 0)) := hg; simp [World.shape?, hg']) out h0 (by omega) (by unfold maxLen at hcm; omega) ?_
    intro j x hx
    have := a3.cells (g := g) rfl j (.int .u8 x.toNat) (by simp [u8s, hx])
    exact this
  have HB : Hid (Kp B TW w (w.drew.freeze ⟨g, 0, none⟩ out.length)) := Kp.freeze (p := ⟨g, 0, none⟩) (Kp.refl B TW w).drew hg (by decide) hbg _
  clear hg htake hcs hcm hnc a3 a1
  go_enter Tryz.func77, Tryz.ntmps77
  go_wp2
  go_region
  all_goals go_wp2
  all_goals go_ret
  all_goals exact ⟨rfl, HB.out⟩

def goP (b : BS) : List El → Nat → WS → Option WS
  | [], _, s => some s
  | x :: r, n, s =>
    match closeP b x.parent (b.els.length + 1) s with
    | none => none
    | some s1 =>
      match textUpP b s1 x.lo with
      | none => none
      | some s2 => goP b r (n + 1) ⟨s2.out ++ beginL x, s2.pl, (n : Int)⟩
def writeP (b : BS) : Option (List UInt8) :=
  match goP b b.els 0 ⟨[], 0, -1⟩ with
  | none => none
  | some s =>
    match closeP b (-1) (b.els.length + 1) s with
    | none => none
    | some s1 =>
      match textUpP b s1 (b.txt.length : Int) with
      | none => none
      | some s2 => some s2.out
theorem goP_mono {b : BS} : ∀ (l : List El) (n : Nat) (s s' : WS), goP b l n s = some s' → s.out.length ≤ s'.out.length
  | [], n, s, s', h => by cases h; exact Nat.le_refl _
  | x :: r, n, s, s', h => by
    rw [goP] at h
    split at h
    · cases h
    · rename_i s1 h1
      split at h
      · cases h
      · rename_i s2 h2
        have m1 := closeP_mono _ _ _ h1
        have m2 := (textUpP_mono h2).1
        have m3 := goP_mono r (n + 1) _ s' h
        simp only [List.length_append] at m3
        omega
theorem textUpP_some {b : BS} {s s' : WS} {q : Int} (h : textUpP b s q = some s') : ∃ k : Nat, q = (k : Int) ∧ s.pl ≤ k ∧ k ≤ b.txt.length ∧ s' = ⟨s.out ++ escL tsp (txtPart b s.pl k), k, s.op⟩ := by
  unfold textUpP at h
  split at h
  · exact ⟨q.toNat, by omega, by omega, by omega, (Option.some.inj h).symm⟩
  · cases h

set_option maxRecDepth 100000 in
set_option maxHeartbeats 4000000 in
theorem mwrite_any (B db : Nat) (b : BS) (out : List UInt8) (w : World) (hd : Dc w B db b) (hBw : B ≤ w.heap.size) (hg : Gl w) (hB0 : 1 < B) (h3 : b.txt.length ≤ 5000) (h4 : b.els.length ≤ 5000) (hn : ∀ (i : Nat) (x : El), b.els[i]? = some x → x.name.size ≤ 16)
    (ha : ∀ (i : Nat) (x : El), b.els[i]? = some x → x.attrs.length ≤ 5000 ∧ ∀ a ∈ x.attrs, a.1.size ≤ 16 ∧ a.2.size ≤ 100000) (hf : writeP b = some out) (h0 : out ≠ []) (hs : out.length ≤ 1000000) (hpos : 0 < b.els.length) :
    Calls Tryz.prog 44 #[.pointer (some ⟨db, 0, none⟩)] w fun e w' => e = .returned (.string ⟨out.toArray⟩) ∧ Kp B TW w w' := by
  obtain ⟨sf, s1, s2, hgo, hcl, htx, hout⟩ : ∃ sf s1 s2, goP b b.els 0 ⟨[], 0, -1⟩ = some sf ∧ closeP b (-1) (b.els.length + 1) sf = some s1 ∧ textUpP b s1 (b.txt.length : Int) = some s2 ∧ s2.out = out := by
    unfold writeP at hf
    split at hf
    · cases hf
    · rename_i sf h1
      split at hf
      · cases hf
      · rename_i s1 h2
        split at hf
        · cases hf
        · rename_i s2 h5
          exact ⟨sf, s1, s2, h1, h2, h5, Option.some.inj hf⟩
  have m1 := closeP_mono _ _ _ hcl
  have m2 := (textUpP_mono htx).1
  obtain ⟨qe, hqe, hq1, hq2, hq3⟩ := textUpP_some htx
  have hqe' : qe = b.txt.length := by omega
  subst hqe'
  rw [hout] at m2
  have HGO := hide hgo; have HCL := hide hcl; have HOUT := hide hout; have HQ3 := hide hq3
  obtain ⟨ve, avs, a1, a2, a3, a5⟩ := hd
  have c0 := cell2_0 a1
  obtain ⟨g, cap, hve, hBg, hgs⟩ := row_form a3 hpos
  subst hve
  have hd : Dc w B db b := ⟨_, avs, a1, a2, a3, a5⟩
  have hdbs := lt_of_block a1
  have A2 := hide a2; have A3 := hide a3; have A5 := hide a5
  clear hf hgo hcl htx hout hq3 a1 a2 a3 a5 hqe
  have hWr : Wr (w.alloc (.cells #[.pointer (some ⟨db, 0, none⟩), .pointer none, .slice none 0 0, .int .i64 0, .int .i64 (-1)] 145)) B w.heap.size db [] 0 (-1) := ⟨_, _, alloc_at _ _, .inl rfl, World.ownsRow_nil _ _ _ _⟩
  go_enter Tryz.func44, Tryz.ntmps44
  go_wp2
  go_loopw [14] (fun i wr => ∃ (k : Nat) (st : WS), i = .int .i64 k ∧ k ≤ b.els.length ∧ Wr wr B w.heap.size db st.out st.pl st.op ∧ Hid (goP b (b.els.drop k) k st = some sf) ∧ Kp B TW w wr) (fun i _ => b.els.length - (intOf i).toNat)
  case atStart => exact ⟨0, ⟨[], 0, -1⟩, rfl, Nat.zero_le _, hWr, HGO, (Kp.refl _ _ _).alloc _⟩
  case round =>
    clear hWr HGO
    obtain ⟨k, st, rfl, hkl, hwr, HQ, hk⟩ := hrel
    have hdr := hd.keptW hk
    have hgr := hg.kept hk hB0
    by_cases hlt : k < b.els.length
    · obtain ⟨x, hx⟩ : ∃ x, b.els[k]? = some x := ⟨b.els[k], List.getElem?_eq_getElem hlt⟩
      have hdrop : b.els.drop k = x :: b.els.drop (k + 1) := by
        rw [List.drop_eq_getElem_cons hlt]
        rw [List.getElem?_eq_getElem hlt] at hx
        rw [Option.some.inj hx]
      obtain ⟨t1, t2, hc1, hc2, hc3⟩ : ∃ t1 t2, closeP b x.parent (b.els.length + 1) st = some t1 ∧ textUpP b t1 x.lo = some t2 ∧ goP b (b.els.drop (k + 1)) (k + 1) ⟨t2.out ++ beginL x, t2.pl, (k : Int)⟩ = some sf := by
        have := HQ.out
        rw [hdrop, goP] at this
        split at this
        · cases this
        · rename_i t1 g1
          split at this
          · cases this
          · rename_i t2 g2
            exact ⟨t1, t2, g1, g2, this⟩
      have n1 := goP_mono _ _ _ _ hc3
      simp only [List.length_append] at n1
      have n2 := (textUpP_mono hc2).1
      obtain ⟨q, hq, hp1, hp2, ht2⟩ := textUpP_some hc2
      subst ht2
      simp only [List.length_append] at n1 n2
      obtain ⟨hla, haa⟩ := ha k x hx
      have hnx := hn k x hx
      have ownr := hk.owns A3.out (by decide)
      have hl2 := A2.out
      have hav : avs[k]? = some (avs[k]'(by omega)) := List.getElem?_eq_getElem (by omega)
      generalize avs[k]'(by omega) = av at hav
      obtain ⟨i0, i1, i2, i3, i4⟩ := elCells_at b.els avs k x _ hx hav
      have oa := hk.owns (A5.out k x av hx hav) (by decide)
      obtain ⟨aoa, cpa, hav2⟩ := owns_shape oa
      subst hav2
      rw [hq] at i3
      have e0 : wr.cell? ⟨g, k * 5, none⟩ = some (.string x.name) := by rw [ownr.cellAt _ (by omega), i0]
      have e1 : wr.cell? ⟨g, k * 5 + 1, none⟩ = some (.int .i64 x.parent) := by rw [ownr.cellAt _ (by omega), i1]
      have e2 : wr.cell? ⟨g, k * 5 + 2, none⟩ = some (.slice aoa x.attrs.length cpa) := by rw [ownr.cellAt _ (by omega), i2]
      have e3 : wr.cell? ⟨g, k * 5 + 3, none⟩ = some (.int .i64 (q : Int)) := by rw [ownr.cellAt _ (by omega), i3]
      have e4 : wr.cell? ⟨g, k * 5 + 4, none⟩ = some (.int .i64 x.hi) := by rw [ownr.cellAt _ (by omega), i4]
      have HC1 := hide hc1; have HC3 := hide hc3; have HQq := hide hq
      clear i0 i1 i2 i3 i4 hl2 hav ownr hx hdrop HQ hc1 hc2 hc3 hq
      go_wp2_with fail
      refine (closeUpTo_any B w.heap.size db b x.parent (b.els.length + 1) st t1 _ ?_ ?_ hBw ?_ hB0 h3 h4 hn HC1.out (by omega)).mono ?_
      · exact hwr.kept ((Kp.refl 0 [] wr).alloc _) (by simp) (by simp)
      · exact hdr.keptW ((Kp.refl 0 TW wr).alloc _)
      · exact hgr.alloc _
      rintro e w1 ⟨rfl, hw1, hk1⟩
      have bx1 := hk1.at (k := wr.heap.size) (t := 139) (alloc_at wr _) (by decide)
      obtain ⟨y0, y1, y2, y3, y4⟩ := cell5 bx1
      have K1 := (hk.alloc _).trans hk1
      go_wp2_with fail
      refine (textUpTo_any B w.heap.size db b t1.out t1.pl q t1.op _ hw1 (hd.keptW K1) hBw (hg.kept K1 hB0) hB0 hp1 hp2 h3 (by omega)).mono ?_
      rintro e w2 ⟨rfl, hw2, hk2⟩
      have bx2 := hk2.at bx1 (by decide)
      obtain ⟨x0, x1, x2, x3, x4⟩ := cell5 bx2
      have K2 := K1.trans hk2
      rw [← HQq.out] at x3
      go_wp2_with fail
      refine (wbegin_any B w.heap.size db x _ _ q t1.op _ hw2 hBw (hg.kept K2 hB0) hB0 ((hk1.trans hk2).owns (oa.alloc _) (by decide)) hnx hla haa (by rw [List.length_append]; omega)).mono ?_
      rintro e w3 ⟨rfl, hw3, hk3⟩
      obtain ⟨v0, v3, v4, vf3, vf4⟩ := wr_cells hw3
      go_wp2
      go_roundw
      case rel =>
        have o := wr_open (o' := (k : Int)) hw3 hBw
        exact ⟨k + 1, ⟨_, q, (k : Int)⟩, by go_num, by omega, o.1, HC3, (K2.trans hk3).trans o.2⟩
      case measure => simp [intOf]; omega
    · have hst : st = sf := by
        have := HQ.out
        rw [List.drop_eq_nil_of_le (by omega), goP] at this
        exact Option.some.inj this
      subst hst
      go_wp2_with fail
      refine (closeUpTo_any B w.heap.size db b (-1) (b.els.length + 1) st s1 _ hwr hdr hBw hgr hB0 h3 h4 hn HCL.out (by omega)).mono ?_
      rintro e w1 ⟨rfl, hw1, hk1⟩
      have K1 := hk.trans hk1
      have d1 := dc_text (hd.keptW K1)
      have hlb : ((⟨b.txt.toArray⟩ : ByteArray).size) = b.txt.length := by show b.txt.toArray.size = _; simp
      go_wp2_with fail
      refine (textUpTo_any B w.heap.size db b s1.out s1.pl b.txt.length s1.op _ hw1 (hd.keptW K1) hBw (hg.kept K1 hB0) hB0 hq1 (Nat.le_refl _) h3 ?_).mono ?_
      · have e5 := HOUT.out
        rw [HQ3.out] at e5
        dsimp only at e5
        rw [← List.length_append, e5]; exact hs
      rintro e w2 ⟨rfl, hw2, hk2⟩
      have e5 := HOUT.out
      rw [HQ3.out] at e5
      dsimp only at e5
      rw [e5] at hw2
      clear e5
      go_wp2_with fail
      refine (sbString_any B w.heap.size db out _ s1.op _ hw2 h0 hs).mono ?_
      rintro e w3 ⟨rfl, hk3⟩
      go_wp2
      go_ret
      exact ⟨rfl, (K1.trans hk2).trans hk3⟩
set_option maxRecDepth 100000 in
set_option maxHeartbeats 400000 in
theorem dwrite_any (B db : Nat) (b : BS) (out : List UInt8) (w : World) (hd : Dc w B db b) (hBw : B ≤ w.heap.size) (hg : Gl w) (hB0 : 1 < B) (h3 : b.txt.length ≤ 5000) (h4 : b.els.length ≤ 5000) (hn : ∀ (i : Nat) (x : El), b.els[i]? = some x → x.name.size ≤ 16)
    (ha : ∀ (i : Nat) (x : El), b.els[i]? = some x → x.attrs.length ≤ 5000 ∧ ∀ a ∈ x.attrs, a.1.size ≤ 16 ∧ a.2.size ≤ 100000) (hf : writeP b = some out) (h0 : out ≠ []) (hs : out.length ≤ 1000000) (hpos : 0 < b.els.length) :
    Calls Tryz.prog 15 #[.pointer (some ⟨db, 0, none⟩)] w fun e w' => e = .returned (.string ⟨out.toArray⟩) ∧ Kp B TW w w' := by
  have HF := hide hf
  clear hf
  go_enter Tryz.func15, Tryz.ntmps15
  go_wp2_with (go_at_call 44; refine (mwrite_any B db b out _ hd hBw hg hB0 h3 h4 hn ha HF.out h0 hs hpos).mono ?_; rintro e w1 ⟨rfl, hk1⟩)
  go_ret
  exact ⟨rfl, hk1⟩
end Go.Proofs.YtclpcnignheijaaGreatDoor
