import Derived.Test.YtclpcnignheijaaGreatDoorD4
namespace Go.Proofs.YtclpcnignheijaaGreatDoor
open Go.RowKit

theorem BOk.fin2 {b : BS} {p q : Nat} (h : BOk b p) (hq : p ≤ q) (hd : -(q : Int) ≤ b.dep - 1) (ho : b.opn ≠ -1) : BOk b.fin q := by
  obtain ⟨k, x, hk, hx⟩ := h.at ho
  have hlt : k < b.els.length := (List.getElem?_eq_some_iff.1 hx).1
  have hp := h.par k x hx
  have h1 := h.opn; have h3 := h.dep; have h4 := h.elen; have h5 := h.tlen
  have hfin : b.fin = { els := b.els.set k { x with hi := (b.txt.length : Int) }, txt := b.txt, opn := x.parent, dep := b.dep - 1 } := by
    unfold BS.fin; rw [hk, Int.toNat_natCast, hx]; dsimp only; rw [if_neg (by omega)]
  rw [hfin]
  refine ⟨by simp; omega, fun i y hy => ?_, by simp; omega, by simp; omega, by simp; omega⟩
  by_cases e : i = k
  · subst e
    simp only [List.getElem?_set_self hlt] at hy
    cases hy
    exact hp
  · simp only [List.getElem?_set_ne (fun h => e h.symm)] at hy
    exact h.par i y hy
theorem expP_true (s : ByteArray) : ∀ (l : List UInt8) (p : Nat), (expP s l p).2 = true → (expP s l p).1 = p + l.length
  | [], p, _ => rfl
  | c :: cs, p, h => by
    rw [expP] at h ⊢
    split at h
    · rename_i hc
      rw [if_pos hc, expP_true s cs (p + 1) h, List.length_cons]; omega
    · cases h
/-- What a piece leaves: a place further on (unless the form was wrong), a tree that is as trees are. -/
structure PieceOk (s : ByteArray) (p : Nat) (r : Nat × BS × Nat) : Prop where
  le : p ≤ r.1 ∧ r.1 ≤ s.size
  ok : BOk r.2.1 r.1
  code : r.2.2 = 2 ∨ ((r.2.2 = 0 ∨ r.2.2 = 3) ∧ p < r.1)
theorem textP_ok {s : ByteArray} {p : Nat} {b : BS} (hp : p ≤ s.size) (h : BOk b p) : PieceOk s p (textP s p b) := by
  have hl := contentP_le s [60, 62] p hp
  unfold textP
  split
  · exact ⟨hl, h.mono hl.1, .inl rfl⟩
  · rename_i t ht
    have hn := contentP_len s [60, 62] p t hp ht
    split
    · exact ⟨hl, h.mono hl.1, .inl rfl⟩
    · rename_i he
      have : 0 < t.length := by
        cases t with
        | nil => exact absurd rfl he
        | cons _ _ => simp
      exact ⟨hl, h.text t hn, .inr ⟨.inl rfl, by dsimp only; omega⟩⟩
theorem endP_ok {s : ByteArray} {p : Nat} {b : BS} (hp : p ≤ s.size) (h : BOk b p) : PieceOk s p (endP s p b) := by
  by_cases ho : b.opn = -1
  · rw [endP_no ho]; exact ⟨⟨Nat.le_refl _, hp⟩, h, .inl rfl⟩
  · obtain ⟨k, x, hk, hx⟩ := h.at ho
    rw [endP_yes hk hx]
    have l1 := expP_le s [47] p hp
    have l2 := exnP_le s x.name.data.toList (expP s [47] p).1 l1.2
    have l3 := runTo_le (f := spaceB) (by decide) l2.2
    have l4 := expP_le s [62] _ l3.2
    have hd := h.dep
    split
    · exact ⟨l1, h.mono l1.1, .inl rfl⟩
    · rename_i g1
      have t1 := expP_true s [47] p (by simpa using g1)
      simp only [List.length_singleton] at t1
      split
      · exact ⟨⟨by dsimp only; omega, l2.2⟩, h.mono (by dsimp only; omega), .inl rfl⟩
      · split
        · exact ⟨⟨by dsimp only; omega, l4.2⟩, h.mono (by dsimp only; omega), .inl rfl⟩
        · exact ⟨⟨by dsimp only; omega, l4.2⟩, h.fin2 (by dsimp only; omega) (by dsimp only; omega) ho, .inr ⟨.inl rfl, by dsimp only; omega⟩⟩
theorem afterP_le {s : ByteArray} {p : Nat} (h : p ≤ s.size) : p ≤ afterP s p ∧ afterP s p ≤ s.size := by
  unfold afterP; split
  · rename_i e; have := peekI_lt (s := s) (p := p) (by omega); omega
  · omega
theorem elementP_ok {s : ByteArray} {p : Nat} {b : BS} {n : ByteArray} (hp : p ≤ s.size) (h : BOk b p) (hn : n.size ≤ 16) : PieceOk s p (elementP s p b n) := by
  have l1 := attributesP_le s p hp
  have l2 := afterP_le l1.2
  have l3 := expP_le s [62] _ l2.2
  have hd := h.dep
  unfold elementP
  split
  · exact ⟨l1, h.mono l1.1, .inl rfl⟩
  · rename_i l hl
    split
    · exact ⟨⟨by dsimp only; omega, l3.2⟩, h.mono (by dsimp only; omega), .inl rfl⟩
    · rename_i g
      have t1 := expP_true s [62] (afterP s (attributesP s p).1) (by simpa using g)
      simp only [List.length_singleton] at t1
      have hb := h.begin (q := (expP s [62] (afterP s (attributesP s p).1)).1) (by omega) n l hn
      refine ⟨⟨by dsimp only; omega, l3.2⟩, ?_, .inr ⟨by dsimp only; split <;> simp, by dsimp only; omega⟩⟩
      dsimp only
      split
      · refine hb.fin2 (Nat.le_refl _) ?_ ?_
        · show _ ≤ b.dep + 1 - 1; omega
        · show (b.els.length : Int) ≠ -1; omega
      · exact hb
theorem beginP_ok {s : ByteArray} {p : Nat} {b : BS} (hp : p ≤ s.size) (h : BOk b p) : PieceOk s p (beginP s p b) := by
  have l1 := newP_le s p noneTaken hp
  unfold beginP
  split
  · exact ⟨l1, h.mono l1.1, .inl rfl⟩
  · rename_i n hn
    have := elementP_ok (n := n) l1.2 (h.mono l1.1) (newP_size hp hn)
    exact ⟨⟨by have := this.le; omega, this.le.2⟩, this.ok, by have := this.code; omega⟩
theorem pieceP_ok {s : ByteArray} {p : Nat} {b : BS} (hp : p ≤ s.size) (h : BOk b p) : PieceOk s p (pieceP s p b) := by
  unfold pieceP
  split
  · rename_i e
    have hlt : p < s.size := peekI_lt (by omega)
    have lift : ∀ {r : Nat × BS × Nat}, PieceOk s (p + 1) r → PieceOk s p r := fun k => ⟨by have := k.le; omega, k.ok, by have := k.code; omega⟩
    split
    · have hc := commentP_le s (p + 1) hlt
      exact ⟨⟨by dsimp only; omega, hc.2⟩, h.mono (by dsimp only; omega), by
        dsimp only
        split
        · exact .inr ⟨.inl rfl, by omega⟩
        · exact .inl rfl⟩
    · split
      · exact lift (endP_ok hlt (h.mono (by omega)))
      · exact lift (beginP_ok hlt (h.mono (by omega)))
  · exact textP_ok hp h

def piecesP (s : ByteArray) : Nat → Nat → BS → Bool → Nat × BS × Nat
  | 0, p, b, _ => (p, b, 2)
  | f + 1, p, b, lim =>
    if p = s.size then (if b.opn = -1 then (p, b, if lim = true then 3 else 0) else (p, b, 2))
    else if (pieceP s p b).2.2 = 2 then pieceP s p b
    else piecesP s f (pieceP s p b).1 (pieceP s p b).2.1 (lim || (pieceP s p b).2.2 == 3)
/-- What limit holds. -/
def Lim (w : World) (lim : Bool) (v : Value) : Prop := (lim = false ∧ v = .nilIface) ∨ (lim = true ∧ ∃ n, Chain w 3 0 n v)
set_option maxRecDepth 100000 in
set_option maxHeartbeats 4000000 in
theorem pieces_any (B rb bb : Nat) (s : ByteArray) (p : Nat) (b : BS) (w : World) (h : Rd w rb s p) (hB : B ≤ rb) (hBb : B ≤ bb) (hg : Gl w) (hB0 : 1 < B) (hbd : Bd w B bb b) (hok : BOk b p) :
    Calls Tryz.prog 85 #[.agg #[.pointer (some ⟨rb, 0, none⟩), .pointer (some ⟨bb, 0, none⟩)]] w fun e w' => ∃ v, e = .returned v ∧ Ends w w' B rb bb s (piecesP s (s.size + 1) p b false) v := by
  have h5 := h.max; have h4 := h.le
  go_enter Tryz.func85, Tryz.ntmps85
  go_wp2
  go_loopw [3] (fun v wr => ∃ (q f : Nat) (c : BS) (lim : Bool), Rd wr rb s q ∧ s.size < q + f ∧ Bd wr B bb c ∧ BOk c q ∧ Lim wr lim v ∧ wr.heap[w.heap.size]? = some (.cells #[.pointer (some ⟨rb, 0, none⟩), .pointer (some ⟨bb, 0, none⟩)] 163 (0, 0)) ∧ Hid (piecesP s f q c lim = piecesP s (s.size + 1) p b false) ∧ Kp B TP w wr) (fun _ wr => s.size - placeOf wr rb)
  case atStart => exact ⟨p, s.size + 1, b, false, h.alloc _, by omega, hbd.alloc _, hok, .inl ⟨rfl, rfl⟩, alloc_at _ _, rfl, (Kp.refl _ _ _).alloc _⟩
  case round =>
    obtain ⟨q, f, c, lim, hr, hf, hbc, hokc, hlim, hbx, HQ, hk⟩ := hrel
    have b0 := cell2_0 hbx; have b1 := cell2_1 hbx
    have hgr := hg.kept hk hB0
    have g4 := hr.le
    obtain ⟨f, rfl⟩ : ∃ f', f = f' + 1 := ⟨f - 1, by omega⟩
    by_cases he : q = s.size
    · have HEq := hide he
      by_cases ho : c.opn = -1
      · have HE : Hid (piecesP s (s.size + 1) p b false = (q, c, if lim = true then 3 else 0)) := by rw [← HQ.out, piecesP, if_pos he, if_pos ho]; rfl
        have HO := hide ho
        clear he ho
        rcases hlim with ⟨rfl, rfl⟩ | ⟨rfl, n, hc⟩
        · go_wp2_with (first
            | (go_at_call 94; refine (done_yes rb s q _ hr HEq.out).mono ?_; rintro e w1 ⟨rfl, nq, rfl⟩)
            | (go_at_call 121; refine (bopen_no B bb c _ (hbc.drewN _) HO.out).mono ?_; rintro e w2 ⟨rfl, rfl⟩))
          go_ret
          rw [HE.out]
          exact ⟨_, rfl, hr.drewN _, hbc.drewN _, hk.drewN _, .inl ⟨rfl, rfl⟩⟩
        · obtain ⟨ty, kk, rfl⟩ := hc.shape
          go_wp2_with (first
            | (go_at_call 94; refine (done_yes rb s q _ hr HEq.out).mono ?_; rintro e w1 ⟨rfl, nq, rfl⟩)
            | (go_at_call 121; refine (bopen_no B bb c _ (hbc.drewN _) HO.out).mono ?_; rintro e w2 ⟨rfl, rfl⟩))
          go_ret
          rw [HE.out]
          exact ⟨_, rfl, hr.drewN _, hbc.drewN _, hk.drewN _, .inr (.inr ⟨rfl, n, hc.drewN _⟩)⟩
      · have HE : Hid (piecesP s (s.size + 1) p b false = (q, c, 2)) := by rw [← HQ.out, piecesP, if_pos he, if_neg ho]; rfl
        obtain ⟨k, x, hk1, hx⟩ := hokc.at ho
        have hnm := (hokc.par k x hx).2.2
        have hel := hokc.elen
        have HK := hide hk1; have HX := hide hx
        clear he ho hk1 hx
        go_wp2_with fail
        refine (done_yes rb s q _ hr HEq.out).mono ?_
        rintro e w1 ⟨rfl, nq, rfl⟩
        go_wp2_with fail
        refine (bopen_yes B bb c k x _ (hbc.drewN _) HK.out HX.out (by omega)).mono ?_
        rintro e w2 ⟨rfl, nq2, rfl⟩
        go_wp2_with fail
        refine (fail_any B rb s q _ (hr.drewN _)).mono ?_
        rintro e w3 ⟨v, rfl, hc, hr3, hk3⟩
        have E3 : Ends w w3 B rb bb s (piecesP s (s.size + 1) p b false) v := by
          rw [HE.out]
          exact ⟨hr3, (hbc.drewN _).keptR hk3, (hk.drewN _).trans (kpR hk3), .inr (.inl ⟨rfl, 0, hc⟩)⟩
        obtain ⟨ty, kk, rfl⟩ := hc.shape
        go_wp2_with fail
        refine (while_ends _ B rb bb s _ _ w _ E3).mono ?_
        rintro e w4 ⟨u, rfl, E4⟩
        go_wp2
        go_ret
        exact ⟨_, rfl, E4⟩
    · have hlt : q < s.size := by omega
      have hpo := pieceP_ok g4 hokc
      have hle := hpo.le
      have hcode := hpo.code
      have hokp := hpo.ok
      clear hpo
      by_cases h2 : (pieceP s q c).2.2 = 2
      · have HE : Hid (piecesP s (s.size + 1) p b false = pieceP s q c) := by rw [← HQ.out, piecesP, if_neg he, if_pos h2]; rfl
        have H2 := hide h2
        clear he h2 hcode
        go_wp2_with fail
        refine (done_no rb s q _ hr hlt).mono ?_
        rintro e w1 ⟨rfl, nq, rfl⟩
        go_wp2_with fail
        refine (piece_any B rb bb s q c _ (hr.drewN _) hB hBb (hgr.drewN _) hB0 (hbc.drewN _) hokc).mono ?_
        rintro e w2 ⟨v, rfl, E2⟩
        have E3 := E2.from (hk.drewN nq)
        rw [← HE.out] at E3
        have hch : ∃ n, Chain w2 2 (pieceP s q c).1 n v := by
          rcases E2.2.2.2 with ⟨g, _⟩ | ⟨_, g⟩ | ⟨g, _⟩
          · exact absurd (g.symm.trans H2.out) (by decide)
          · exact g
          · exact absurd (g.symm.trans H2.out) (by decide)
        obtain ⟨n, hc⟩ := hch
        obtain ⟨ty, kk, rfl⟩ := hc.shape
        clear E2
        go_wp2_with fail
        refine (is_chain n 2 _ 3 _ _ hc).mono ?_
        rintro e w4 ⟨rfl, rfl⟩
        go_wp2
        go_ret
        exact ⟨_, rfl, E3⟩
      · have HE : Hid (piecesP s (s.size + 1) p b false = piecesP s f (pieceP s q c).1 (pieceP s q c).2.1 (lim || (pieceP s q c).2.2 == 3)) := by rw [← HQ.out, piecesP, if_neg he, if_neg h2]; rfl
        have hadv : q < (pieceP s q c).1 := by omega
        have H2 := hide h2
        clear he h2 hcode
        go_wp2_with fail
        refine (done_no rb s q _ hr hlt).mono ?_
        rintro e w1 ⟨rfl, nq, rfl⟩
        go_wp2_with fail
        refine (piece_any B rb bb s q c _ (hr.drewN _) hB hBb (hgr.drewN _) hB0 (hbc.drewN _) hokc).mono ?_
        rintro e w2 ⟨v, rfl, E2⟩
        obtain ⟨er, eb, ek, ee⟩ := E2
        have K2 := (hk.drewN nq).trans ek
        have bx2 := ek.at hbx (by decide)
        have lim2 : Lim w2 lim u3 := by
          rcases hlim with ⟨a, b⟩ | ⟨a, n, hc⟩
          · exact .inl ⟨a, b⟩
          · exact .inr ⟨a, n, (hc.drewN nq).kept ek (by decide) (by decide)⟩
        rcases ee with ⟨g, rfl⟩ | ⟨g, _⟩ | ⟨g, n, hc⟩
        · have G := hide g
          clear g
          go_wp2_with fail
          refine (is_nil 3 _).mono ?_
          rintro e w4 ⟨rfl, rfl⟩
          go_wp2
          go_roundw
          case rel =>
            refine ⟨_, f, _, lim, er, by omega, eb, hokp, lim2, bx2, hide ?_, K2⟩
            rw [HE.out, G.out]; simp
          case measure => rw [er.placeOf, hr.placeOf]; omega
        · exact absurd g H2.out
        · have G := hide g
          clear g
          obtain ⟨ty, kk, rfl⟩ := hc.shape
          go_wp2_with fail
          refine (is_chain n 3 0 3 _ _ hc).mono ?_
          rintro e w4 ⟨rfl, rfl⟩
          go_wp2
          go_roundw
          case rel =>
            refine ⟨_, f, _, true, er, by omega, eb, hokp, .inr ⟨rfl, n, hc⟩, bx2, hide ?_, K2⟩
            rw [HE.out, G.out]; simp
          case measure => rw [er.placeOf, hr.placeOf]; omega
end Go.Proofs.YtclpcnignheijaaGreatDoor
