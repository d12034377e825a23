import Derived.Test.YtclpcnignheijaaGreatDoorU2
namespace Go.Proofs.YtclpcnignheijaaGreatDoor
open Go.RowKit

set_option maxHeartbeats 4000000 in
theorem asked_plain (B xb rb : Nat) (s : ByteArray) (n k q a b c : Nat) (w : World) (h : Sx w xb rb s q a b c) (hbc : b ≤ c) (hk : 3 ≤ k) (hk7 : k ≤ 7) :
    Calls Tryz.prog 233 #[.pointer (some ⟨xb, 0, none⟩), .int .i64 k] w (AskPost B xb rb s n k q a b c w) := by
  have h0 := h.alloc (.cells #[.int .i64 0, .string ⟨#[]⟩, .string ⟨#[]⟩, .string ⟨#[]⟩, .string ⟨#[]⟩, .bool false, .string ⟨#[]⟩, .bool false, .int .i64 0, .int .i64 0, .slice none 0 0] 263)
  have rs0 := alloc_at w (.cells #[.int .i64 0, .string ⟨#[]⟩, .string ⟨#[]⟩, .string ⟨#[]⟩, .string ⟨#[]⟩, .bool false, .string ⟨#[]⟩, .bool false, .int .i64 0, .int .i64 0, .slice none 0 0] 263)
  have hk0 := (Kp.refl B [210] w).alloc (.cells #[.int .i64 0, .string ⟨#[]⟩, .string ⟨#[]⟩, .string ⟨#[]⟩, .string ⟨#[]⟩, .bool false, .string ⟨#[]⟩, .bool false, .int .i64 0, .int .i64 0, .slice none 0 0] 263)
  have h1 := h0.alloc (.cells #[.int .i64 k, .string ⟨#[]⟩, .string ⟨#[]⟩, .string ⟨#[]⟩, .string ⟨#[]⟩, .bool false, .string ⟨#[]⟩, .bool false, .int .i64 0, .int .i64 0, .slice none 0 0] 263)
  have rs1 := alloc_old rs0 (.cells #[.int .i64 k, .string ⟨#[]⟩, .string ⟨#[]⟩, .string ⟨#[]⟩, .string ⟨#[]⟩, .bool false, .string ⟨#[]⟩, .bool false, .int .i64 0, .int .i64 0, .slice none 0 0] 263)
  have ns1 := alloc_at' (w := w.alloc (.cells #[.int .i64 0, .string ⟨#[]⟩, .string ⟨#[]⟩, .string ⟨#[]⟩, .string ⟨#[]⟩, .bool false, .string ⟨#[]⟩, .bool false, .int .i64 0, .int .i64 0, .slice none 0 0] 263)) (n := w.heap.size + 1) (.cells #[.int .i64 k, .string ⟨#[]⟩, .string ⟨#[]⟩, .string ⟨#[]⟩, .string ⟨#[]⟩, .bool false, .string ⟨#[]⟩, .bool false, .int .i64 0, .int .i64 0, .slice none 0 0] 263) (by simp)
  have hk1 := hk0.alloc (.cells #[.int .i64 k, .string ⟨#[]⟩, .string ⟨#[]⟩, .string ⟨#[]⟩, .string ⟨#[]⟩, .bool false, .string ⟨#[]⟩, .bool false, .int .i64 0, .int .i64 0, .slice none 0 0] 263)
  have HE : Hid (askedP (listP s n) s k q = (q, some (.mk k noB noAttr noNth [], 0, 0))) := by
    unfold askedP
    rw [if_neg (by omega), if_neg (by omega), if_neg (by omega), if_neg (by omega)]; rfl
  unfold AskPost
  have e0 : ((k : Int) == 0) = false := by simp; omega
  have e1 : ((k : Int) == 1) = false := by simp; omega
  have e2 : ((k : Int) == 2) = false := by simp; omega
  have e8 : ((k : Int) == 8) = false := by simp; omega
  have e9 : ((k : Int) == 9) = false := by simp; omega
  have e10 : ((k : Int) == 10) = false := by simp; omega
  clear hk hk7
  obtain ⟨⟨q0, q1, q2, q3, q4, q5, q6, q7, q8, q9, q10⟩, f0, f1, f2, f3, f4, f5, f6, f7, f8, f9, f10⟩ := cells11 rs1
  obtain ⟨⟨m0, m1, m2, m3, m4, m5, m6, m7, m8, m9, m10⟩, _⟩ := cells11 ns1
  go_enter Tryz.func233, Tryz.ntmps233
  go_wp2
  clear rs0 hk0 h0 ns1 m0 m1 m2 m3 m4 m5 m6 m7 m8 m9 m10 h1 rs1 hk1 q0 q1 q2 q3 q4 q5 q6 q7 q8 q9 q10 f0 f1 f2 f3 f4 f5 f6 f7 f8 f9 f10
  have hF := (h.alloc (.cells #[.int .i64 k, .string ⟨#[]⟩, .string ⟨#[]⟩, .string ⟨#[]⟩, .string ⟨#[]⟩, .bool false, .string ⟨#[]⟩, .bool false, .int .i64 0, .int .i64 0, .slice none 0 0] 263)).alloc (.cells #[.int .i64 k, .string ⟨#[]⟩, .string ⟨#[]⟩, .string ⟨#[]⟩, .string ⟨#[]⟩, .bool false, .string ⟨#[]⟩, .bool false, .int .i64 0, .int .i64 0, .slice none 0 0] 263)
  have hkF := ((Kp.refl B [210] w).alloc (.cells #[.int .i64 k, .string ⟨#[]⟩, .string ⟨#[]⟩, .string ⟨#[]⟩, .string ⟨#[]⟩, .bool false, .string ⟨#[]⟩, .bool false, .int .i64 0, .int .i64 0, .slice none 0 0] 263)).alloc (.cells #[.int .i64 k, .string ⟨#[]⟩, .string ⟨#[]⟩, .string ⟨#[]⟩, .string ⟨#[]⟩, .bool false, .string ⟨#[]⟩, .bool false, .int .i64 0, .int .i64 0, .slice none 0 0] 263)
  have rsF := alloc_old (alloc_at w (.cells #[.int .i64 k, .string ⟨#[]⟩, .string ⟨#[]⟩, .string ⟨#[]⟩, .string ⟨#[]⟩, .bool false, .string ⟨#[]⟩, .bool false, .int .i64 0, .int .i64 0, .slice none 0 0] 263)) (.cells #[.int .i64 k, .string ⟨#[]⟩, .string ⟨#[]⟩, .string ⟨#[]⟩, .string ⟨#[]⟩, .bool false, .string ⟨#[]⟩, .bool false, .int .i64 0, .int .i64 0, .slice none 0 0] 263)
  generalize (w.alloc (.cells #[.int .i64 k, .string ⟨#[]⟩, .string ⟨#[]⟩, .string ⟨#[]⟩, .string ⟨#[]⟩, .bool false, .string ⟨#[]⟩, .bool false, .int .i64 0, .int .i64 0, .slice none 0 0] 263)).alloc (.cells #[.int .i64 k, .string ⟨#[]⟩, .string ⟨#[]⟩, .string ⟨#[]⟩, .string ⟨#[]⟩, .bool false, .string ⟨#[]⟩, .bool false, .int .i64 0, .int .i64 0, .slice none 0 0] 263) = w2 at *
  obtain ⟨⟨q0, q1, q2, q3, q4, q5, q6, q7, q8, q9, q10⟩, _⟩ := cells11 rsF
  refine bodyPost_ret (v := .tuple #[simV k noB noAttr noNth (.slice none 0 0), .nilIface]) (by simp [results, Tryz.results233, go_sem, q0, q1, q2, q3, q4, q5, q6, q7, q8, q9, q10, simV, noAttr, noNth, noB]) rfl ?_
  rw [HE.out]
  exact ⟨noB, noAttr, noNth, .slice none 0 0, .nilIface, rfl, hkF.ts, ⟨_, _, _, rfl⟩, .inl ⟨.mk k noB noAttr noNth [], 0, 0, rfl, rfl, by rw [show max c (b + 0) = c from by omega]; exact hF, _, rfl, RepL.nil _ _ _ _⟩⟩
theorem Kp.tsR {B : Nat} {w w' : World} {k : Nat} {c : Array Value} {t : TypeId} {fr : Nat × Nat} (h : Kp B TS w w') (hb : w.heap[k]? = some (.cells c t fr)) (ht : t ≠ 210) (ht' : t ≠ 179) : w'.heap[k]? = some (.cells c t fr) := h.at hb (by simp [TS, ht, ht'])
set_option maxHeartbeats 4000000 in
theorem asked_list (B xb rb : Nat) (s : ByteArray) (n k q a b c : Nat) (w : World) (IH : ListOk B xb rb s n) (h : Sx w xb rb s q a b c) (ha : a ≤ q) (hb : b ≤ q) (hbc : b ≤ c) (hn : s.size < q + n) (hk : k = 9 ∨ k = 10) :
    Calls Tryz.prog 233 #[.pointer (some ⟨xb, 0, none⟩), .int .i64 k] w (AskPost B xb rb s n k q a b c w) := by
  have h0 := h.alloc (.cells #[.int .i64 0, .string ⟨#[]⟩, .string ⟨#[]⟩, .string ⟨#[]⟩, .string ⟨#[]⟩, .bool false, .string ⟨#[]⟩, .bool false, .int .i64 0, .int .i64 0, .slice none 0 0] 263)
  have rs0 := alloc_at w (.cells #[.int .i64 0, .string ⟨#[]⟩, .string ⟨#[]⟩, .string ⟨#[]⟩, .string ⟨#[]⟩, .bool false, .string ⟨#[]⟩, .bool false, .int .i64 0, .int .i64 0, .slice none 0 0] 263)
  have hk0 := (Kp.refl B [210] w).alloc (.cells #[.int .i64 0, .string ⟨#[]⟩, .string ⟨#[]⟩, .string ⟨#[]⟩, .string ⟨#[]⟩, .bool false, .string ⟨#[]⟩, .bool false, .int .i64 0, .int .i64 0, .slice none 0 0] 263)
  have h1 := h0.alloc (.cells #[.int .i64 k, .string ⟨#[]⟩, .string ⟨#[]⟩, .string ⟨#[]⟩, .string ⟨#[]⟩, .bool false, .string ⟨#[]⟩, .bool false, .int .i64 0, .int .i64 0, .slice none 0 0] 263)
  have rs1 := alloc_old rs0 (.cells #[.int .i64 k, .string ⟨#[]⟩, .string ⟨#[]⟩, .string ⟨#[]⟩, .string ⟨#[]⟩, .bool false, .string ⟨#[]⟩, .bool false, .int .i64 0, .int .i64 0, .slice none 0 0] 263)
  have ns1 := alloc_at' (w := w.alloc (.cells #[.int .i64 0, .string ⟨#[]⟩, .string ⟨#[]⟩, .string ⟨#[]⟩, .string ⟨#[]⟩, .bool false, .string ⟨#[]⟩, .bool false, .int .i64 0, .int .i64 0, .slice none 0 0] 263)) (n := w.heap.size + 1) (.cells #[.int .i64 k, .string ⟨#[]⟩, .string ⟨#[]⟩, .string ⟨#[]⟩, .string ⟨#[]⟩, .bool false, .string ⟨#[]⟩, .bool false, .int .i64 0, .int .i64 0, .slice none 0 0] 263) (by simp)
  have hk1 := hk0.alloc (.cells #[.int .i64 k, .string ⟨#[]⟩, .string ⟨#[]⟩, .string ⟨#[]⟩, .string ⟨#[]⟩, .bool false, .string ⟨#[]⟩, .bool false, .int .i64 0, .int .i64 0, .slice none 0 0] 263)
  have HE : Hid (askedP (listP s n) s k q = ((listP s n q).1, (listP s n q).2.map fun x => (.mk k noB noAttr noNth x.1, x.2.1, x.2.2 + 1))) := by
    unfold askedP
    rw [if_neg (by omega), if_neg (by omega), if_neg (by omega), if_pos (by omega)]; rfl
  unfold AskPost
  have e0 : ((k : Int) == 0) = false := by simp; omega
  have e1 : ((k : Int) == 1) = false := by simp; omega
  have e2 : ((k : Int) == 2) = false := by simp; omega
  have e8 : ((k : Int) == 8) = false := by simp; omega
  have hkk : (((k : Int) == 9) = true ∧ ((k : Int) == 10) = false) ∨ (((k : Int) == 9) = false ∧ ((k : Int) == 10) = true) := by
    rcases hk with rfl | rfl <;> decide
  clear hk
  have hsz1 : ((w.alloc (.cells #[.int .i64 0, .string ⟨#[]⟩, .string ⟨#[]⟩, .string ⟨#[]⟩, .string ⟨#[]⟩, .bool false, .string ⟨#[]⟩, .bool false, .int .i64 0, .int .i64 0, .slice none 0 0] 263)).alloc (.cells #[.int .i64 k, .string ⟨#[]⟩, .string ⟨#[]⟩, .string ⟨#[]⟩, .string ⟨#[]⟩, .bool false, .string ⟨#[]⟩, .bool false, .int .i64 0, .int .i64 0, .slice none 0 0] 263)).heap.size = w.heap.size + 2 := by simp
  rcases hkk with ⟨e9, e10⟩ | ⟨e9, e10⟩
  all_goals
    go_enter Tryz.func233, Tryz.ntmps233
    go_wp2_with fail
    refine (IH q a b c _ h1 ha hb hbc hn).mono ?_
    rintro e w2 ⟨lv, v, rfl, hk2, hor⟩
    rw [hsz1] at hor
    have rs2 := hk2.tsR (k := w.heap.size) rs1 (by decide) (by decide)
    have ns2 := hk2.tsR (k := w.heap.size + 1) ns1 (by decide) (by decide)
    have hk3 := hk1.ts.trans hk2
    obtain ⟨la, lm, lc, hlv⟩ : ∃ la lm lc, lv = .slice la lm lc := by
      rcases hor with ⟨l, cn, d, _, _, _, hr⟩ | ⟨_, hl, _⟩
      · exact hr.shape
      · exact ⟨_, _, _, hl⟩
    subst hlv
    obtain ⟨⟨q0, q1, q2, q3, q4, q5, q6, q7, q8, q9, q10⟩, f0, f1, f2, f3, f4, f5, f6, f7, f8, f9, f10⟩ := cells11 rs2
    obtain ⟨⟨m0, m1, m2, m3, m4, m5, m6, m7, m8, m9, m10⟩, g0, g1, g2, g3, g4, g5, g6, g7, g8, g9, g10⟩ := cells11 ns2
    have kpo := Kp.setAny (p := ⟨w.heap.size + 1, 10, none⟩) ns2 (.slice la lm lc)
    have rs3 := setCell_other (a := ⟨w.heap.size + 1, 10, none⟩) rs2 (by simp) (.slice la lm lc)
    have hk4 := hk3.setNew (p := ⟨w.heap.size + 1, 10, none⟩) (by simp) (.slice la lm lc)
    go_wp2
    obtain ⟨rsF, kpF⟩ := fin11 rs3 (.int .i64 k) (.string ⟨#[]⟩) (.string ⟨#[]⟩) (.string ⟨#[]⟩) (.string ⟨#[]⟩) (.bool false) (.string ⟨#[]⟩) (.bool false) (.int .i64 0) (.int .i64 0) (.slice la lm lc)
    have hkF := hk4.set11 (Nat.le_refl _) (.int .i64 k) (.string ⟨#[]⟩) (.string ⟨#[]⟩) (.string ⟨#[]⟩) (.string ⟨#[]⟩) (.bool false) (.string ⟨#[]⟩) (.bool false) (.int .i64 0) (.int .i64 0) (.slice la lm lc)
    refine bodyPost_ret (v := .tuple #[simV k noB noAttr noNth (.slice la lm lc), v]) (by simp [results, Tryz.results233, go_sem, q0, q1, q2, q3, q4, q5, q6, q7, q8, q9, q10, simV, noAttr, noNth, noB]) rfl ?_
    rw [HE.out]
    refine ⟨noB, noAttr, noNth, .slice la lm lc, v, rfl, hkF, ⟨_, _, _, rfl⟩, ?_⟩
    rcases hor with ⟨l, cn, d, ho, hv, h2, hr⟩ | ⟨ho, _, ⟨q', a', b', c', h2⟩, j, hc⟩
    · refine .inl ⟨.mk k noB noAttr noNth l, cn, d + 1, by rw [ho]; rfl, hv, ?_, _, rfl, ?_⟩
      · rw [show b + (d + 1) = b + 1 + d from by omega]
        exact (h2.kept kpo (by decide) (by decide)).kept kpF (by decide) (by decide)
      · refine hr.map ?_
        intro g cc t hg hbk _
        refine ⟨by omega, ?_⟩
        exact set11_other (setCell_other (a := ⟨w.heap.size + 1, 10, none⟩) hbk (by show g ≠ w.heap.size + 1; omega) _) (by omega) _ _ _ _ _ _ _ _ _ _ _
    · exact .inr ⟨by rw [ho]; rfl, ⟨_, _, _, _, (h2.kept kpo (by decide) (by decide)).kept kpF (by decide) (by decide)⟩, j, (hc.kept kpo (by decide) (by decide)).kept kpF (by decide) (by decide)⟩
theorem asked_any (B xb rb : Nat) (s : ByteArray) (n k q a b c : Nat) (w : World) (IH : ListOk B xb rb s n) (h : Sx w xb rb s q a b c) (hB : B ≤ rb) (ha : a ≤ q) (hb : b ≤ q) (hbc : b ≤ c) (hn : s.size < q + n) (hk : k < 11) :
    Calls Tryz.prog 233 #[.pointer (some ⟨xb, 0, none⟩), .int .i64 k] w (AskPost B xb rb s n k q a b c w) := by
  by_cases h1 : k ≤ 1
  · exact asked_word B xb rb s n k q a b c w h hB hbc (by omega)
  by_cases h2 : k = 2
  · exact asked_attr B xb rb s n k q a b c w h hB hbc h2
  by_cases h8 : k = 8
  · exact asked_nth B xb rb s n k q a b c w h hB hbc h8
  by_cases h7 : k ≤ 7
  · exact asked_plain B xb rb s n k q a b c w h hbc (by omega) h7
  · exact asked_list B xb rb s n k q a b c w IH h ha hb hbc hn (by omega)
end Go.Proofs.YtclpcnignheijaaGreatDoor
