import Derived.Test.YtclpcnignheijaaGreatDoorF2
namespace Go.Proofs.YtclpcnignheijaaGreatDoor
open Go.RowKit

theorem At.lt {s : ByteArray} {p : Nat} {c : UInt8} {r : List UInt8} (h : At s p (c :: r)) : p ≠ s.size := by have := h.2; simp at this; omega
theorem step_pieces {s : ByteArray} {f p q : Nat} {b b' : BS} {lim : Bool} (hp : p ≠ s.size) (h : pieceP s p b = (q, b', 0)) : piecesP s (f + 1) p b lim = piecesP s f q b' lim := by
  rw [piecesP, if_neg hp, h, if_neg (show ¬ (0 : Nat) = 2 from by decide)]
  simp
/-- The end of a beginning: with or without a stroke. -/
def tailX (wb : Bool) : List UInt8 := if wb = true then [47, 62] else [62]
theorem elem_at {s : ByteArray} {p : Nat} {n m l e r : List UInt8} {b : BS} (wb : Bool) (h : At s p (n ++ 32 :: (m ++ 61 :: (34 :: (e ++ 34 :: (tailX wb ++ r)))))) (hn : ∀ c ∈ n, smU c = true) (hn0 : n ≠ []) (hn16 : n.length ≤ 16) (hm : ∀ c ∈ m, smU c = true) (hm0 : m ≠ []) (hm16 : m.length ≤ 16) (he : EncL [60, 34] l e) (hl : l.length ≤ s.size) (hb : largeB b = false) :
    ∃ q, beginP s p b = (q, if (wb || voidB ⟨n.toArray⟩) = true then (b.begin ⟨n.toArray⟩ [(⟨m.toArray⟩, ⟨l.toArray⟩)]).fin else b.begin ⟨n.toArray⟩ [(⟨m.toArray⟩, ⟨l.toArray⟩)], 0) ∧ At s q r := by
  have x1 := new_at (taken := noneTaken) h hn hn0 hn16 (by decide) (by decide) rfl
  have h1 := At.skip h
  cases wb
  · have h2 : At s (p + n.length) (32 :: (m ++ 61 :: (34 :: (e ++ 34 :: 62 :: r)))) := h1
    obtain ⟨x2, h3⟩ := attrs_at h2 hm hm0 hm16 he hl (by decide) (by decide)
    have pk : peekI s (p + n.length + m.length + e.length + 4) = 62 := At.peek h3 (by decide)
    have x3 := exp_at (l := [62]) (r := r) h3 (by decide)
    simp only [List.length_singleton] at x3
    have h4 := At.step h3
    refine ⟨_, ?_, h4⟩
    unfold beginP
    rw [x1]
    dsimp only
    unfold elementP
    have x4 : afterP s (p + n.length + m.length + e.length + 4) = p + n.length + m.length + e.length + 4 := by unfold afterP; rw [if_neg (by rw [pk]; decide)]
    have x5 : wholeB s (p + n.length + m.length + e.length + 4) = false := by unfold wholeB; rw [pk]; decide
    simp only [x2, x4, x5, x3, hb]
    simp
  · have h2 : At s (p + n.length) (32 :: (m ++ 61 :: (34 :: (e ++ 34 :: 47 :: 62 :: r)))) := h1
    obtain ⟨x2, h3⟩ := attrs_at h2 hm hm0 hm16 he hl (by decide) (by decide)
    have pk : peekI s (p + n.length + m.length + e.length + 4) = 47 := At.peek h3 (by decide)
    have h4 := At.step h3
    have x3 := exp_at (l := [62]) (r := r) h4 (by decide)
    simp only [List.length_singleton] at x3
    have h5 := At.step h4
    refine ⟨_, ?_, h5⟩
    unfold beginP
    rw [x1]
    dsimp only
    unfold elementP
    have x4 : afterP s (p + n.length + m.length + e.length + 4) = p + n.length + m.length + e.length + 4 + 1 := by unfold afterP; rw [if_pos pk]
    have x5 : wholeB s (p + n.length + m.length + e.length + 4) = true := by unfold wholeB; rw [pk]; decide
    simp only [x2, x4, x5, x3, hb]
    simp
theorem piece_begin {s : ByteArray} {p : Nat} {c : UInt8} {r : List UInt8} {b : BS} (h : At s p (60 :: c :: r)) (hc : smU c = true) : pieceP s p b = beginP s (p + 1) b := by
  have f := smU_facts hc
  have p0 : peekI s p = 60 := At.peek h (by decide)
  have p1 := At.peek (At.step h) f.1
  unfold smU at hc
  simp only [Bool.and_eq_true, decide_eq_true_eq] at hc
  unfold pieceP
  rw [if_pos p0, if_neg (by rw [p1]; omega), if_neg (by rw [p1]; omega)]
theorem enc_head {l e : List UInt8} {c : UInt8} (he : EncL [60, 62] (c :: l) e) : ∃ d r, e = d :: r ∧ okU d = true ∧ (d.toNat : Int) ≠ 60 := by
  obtain ⟨e1, e2, rfl, hb, _⟩ := he
  rcases hb with ⟨rfl, hok, hne, _⟩ | ⟨rfl, h4⟩
  · refine ⟨c, e2, rfl, hok, fun h => ?_⟩
    rw [h] at hne; revert hne; decide
  · rcases h4 with rfl | rfl | rfl | rfl <;> exact ⟨38, _, rfl, by decide, by decide⟩
theorem text_step {s : ByteArray} {p f : Nat} {l e r : List UInt8} {b : BS} {lim : Bool} (h : At s p (e ++ 60 :: r)) (he : EncL [60, 62] l e) (hl : l.length ≤ s.size) : ∃ f', f ≤ f' ∧ piecesP s (f + 1) p b lim = piecesP s f' (p + e.length) (b.text l) lim := by
  cases l with
  | nil =>
    cases he
    refine ⟨f + 1, by omega, ?_⟩
    simp [BS.text]
  | cons c l =>
    refine ⟨f, Nat.le_refl _, ?_⟩
    obtain ⟨d, r', hd, hok, hne⟩ := enc_head he
    have pk : peekI s p = (d.toNat : Int) := by
      rw [hd] at h; exact At.peek (c := d) (r := r' ++ 60 :: r) h hok
    have hpne : p ≠ s.size := by rw [hd] at h; exact At.lt (c := d) (r := r' ++ 60 :: r) h
    have x2 : contentP s [60, 62] p = (p + e.length, some (c :: l)) := by
      have := cont_at (s := s) (ends := [60, 62]) (by decide) (c :: l) e r 60 p (s.size + 1) [] he h (by decide) (by decide) (by omega)
      unfold contentP
      simpa using this
    refine step_pieces hpne ?_
    unfold pieceP
    rw [if_neg (by rw [pk]; exact hne)]
    unfold textP
    rw [x2]
    rfl
theorem end_at {s : ByteArray} {p k : Nat} {r : List UInt8} {b : BS} {x : El} (h : At s p (60 :: 47 :: 97 :: 62 :: r)) (ho : b.opn = (k : Int)) (hx : b.els[k]? = some x) (hn : x.name.data.toList = [97]) : pieceP s p b = (p + 4, b.fin, 0) := by
  have p0 : peekI s p = 60 := At.peek h (by decide)
  have h1 := At.step h
  have p1 : peekI s (p + 1) = 47 := At.peek h1 (by decide)
  have h2 := At.step h1
  have p2 : peekI s (p + 1 + 1) = 97 := At.peek h2 (by decide)
  have h3 := At.step h2
  have p3 : peekI s (p + 1 + 1 + 1) = 62 := At.peek h3 (by decide)
  have x1 := exp_at (l := [47]) (r := 97 :: 62 :: r) h1 (by decide)
  have x3 := exp_at (l := [62]) (r := r) h3 (by decide)
  simp only [List.length_singleton] at x1 x3
  have x2 : exnP s [97] (p + 1 + 1) = (p + 1 + 1 + 1, true) := by
    have sk : skipP s (p + 1 + 1) = p + 1 + 1 + 1 := by unfold skipP; rw [if_neg (by rw [p2]; decide)]
    rw [exnP, if_pos (by rw [p2]; decide), sk, exnP, p3]
    rfl
  have x4 : runTo spaceB s (p + 1 + 1 + 1) = p + 1 + 1 + 1 := runTo_no (by rw [p3]; decide)
  unfold pieceP
  rw [if_pos p0, if_neg (by rw [p1]; decide), if_pos p1, endP_yes ho hx, hn]
  simp only [x1, x2, x3, x4]
  simp
theorem voidB_a : voidB ⟨#[97]⟩ = false := by unfold voidB; rw [Lib.toList_data]; decide
theorem voidB_br : voidB ⟨#[98, 114]⟩ = true := by unfold voidB; rw [Lib.toList_data]; decide
def laidDoc (wb : Bool) (e1 e2 e3 e4 : List UInt8) : List UInt8 := [60, 97, 32, 98, 61, 34] ++ e1 ++ [34, 62] ++ e2 ++ [60, 98, 114, 32, 99, 61, 34] ++ e3 ++ [34] ++ tailX wb ++ e4 ++ [60, 47, 97, 62]
def laidBS (l : List UInt8) : BS := ⟨[⟨⟨#[97]⟩, -1, [(⟨#[98]⟩, ⟨l.toArray⟩)], 0, (l.length + l.length : Nat)⟩, ⟨⟨#[98, 114]⟩, 0, [(⟨#[99]⟩, ⟨l.toArray⟩)], (l.length : Nat), (l.length : Nat)⟩], l ++ l, -1, 0⟩
theorem laid_parse (wb : Bool) (s : ByteArray) (l e1 e2 e3 e4 : List UInt8) (hs : s.data.toList = laidDoc wb e1 e2 e3 e4) (h1 : EncL [60, 34] l e1) (h2 : EncL [60, 62] l e2) (h3 : EncL [60, 34] l e3) (h4 : EncL [60, 62] l e4) (hl : l.length ≤ s.size) (h10 : 10 ≤ s.size) :
    parseP s = (s.size, laidBS l, 0) := by
  have hsz : (laidDoc wb e1 e2 e3 e4).length = s.size := by rw [← hs]; simp
  have A0 : At s 0 (60 :: ([97] ++ 32 :: ([98] ++ 61 :: (34 :: (e1 ++ 34 :: (tailX false ++ (e2 ++ 60 :: ([98, 114] ++ 32 :: ([99] ++ 61 :: (34 :: (e3 ++ 34 :: (tailX wb ++ (e4 ++ 60 :: 47 :: 97 :: 62 :: []))))))))))))) := by
    have : laidDoc wb e1 e2 e3 e4 = (60 :: ([97] ++ 32 :: ([98] ++ 61 :: (34 :: (e1 ++ 34 :: (tailX false ++ (e2 ++ 60 :: ([98, 114] ++ 32 :: ([99] ++ 61 :: (34 :: (e3 ++ 34 :: (tailX wb ++ (e4 ++ 60 :: 47 :: 97 :: 62 :: []))))))))))))) := by
      simp [laidDoc, tailX, List.append_assoc]
    refine ⟨by rw [List.drop_zero, hs, this], by rw [← this, hsz]; omega⟩
  obtain ⟨g, hg⟩ : ∃ g, s.size = g + 8 := ⟨s.size - 8, by omega⟩
  have l0 : largeB b0 = false := by decide
  obtain ⟨q1, y1, A1⟩ := elem_at (b := b0) (n := [97]) (m := [98]) false (At.step A0) (by decide) (by decide) (by decide) (by decide) (by decide) (by decide) h1 hl l0
  rw [if_neg (by show ¬ (false || voidB ⟨#[97]⟩) = true; rw [voidB_a]; decide)] at y1
  have z1 : pieceP s 0 b0 = (q1, b0.begin ⟨#[97]⟩ [(⟨#[98]⟩, ⟨l.toArray⟩)], 0) := (piece_begin (c := 97) A0 (by decide)).trans y1
  unfold parseP
  rw [step_pieces (At.lt A0) z1, hg]
  obtain ⟨f1, hf1, y2⟩ := text_step (f := g + 7) (b := b0.begin ⟨#[97]⟩ [(⟨#[98]⟩, ⟨l.toArray⟩)]) (lim := false) A1 h2 hl
  rw [y2]
  have A2 := At.skip A1
  generalize hb1 : (b0.begin ⟨#[97]⟩ [(⟨#[98]⟩, ⟨l.toArray⟩)]).text l = b1
  have hb1' : b1 = ⟨[⟨⟨#[97]⟩, -1, [(⟨#[98]⟩, ⟨l.toArray⟩)], 0, 0⟩], l, 0, 1⟩ := by rw [← hb1]; simp [BS.begin, BS.text, b0]
  have l1 : largeB b1 = false := by rw [hb1']; simp [largeB]
  obtain ⟨q3, y3, A3⟩ := elem_at (b := b1) (n := [98, 114]) (m := [99]) wb (At.step A2) (by decide) (by decide) (by decide) (by decide) (by decide) (by decide) h3 hl l1
  rw [if_pos (by show (wb || voidB ⟨#[98, 114]⟩) = true; rw [voidB_br]; cases wb <;> rfl)] at y3
  have z3 := (piece_begin (b := b1) (c := 98) A2 (by decide)).trans y3
  obtain ⟨f2, rfl⟩ : ∃ f2, f1 = f2 + 1 := ⟨f1 - 1, by omega⟩
  rw [step_pieces (At.lt A2) z3]
  generalize hb3 : (b1.begin ⟨([98, 114] : List UInt8).toArray⟩ [(⟨([99] : List UInt8).toArray⟩, ⟨l.toArray⟩)]).fin = b3
  have hb3' : b3 = ⟨[⟨⟨#[97]⟩, -1, [(⟨#[98]⟩, ⟨l.toArray⟩)], 0, 0⟩, ⟨⟨#[98, 114]⟩, 0, [(⟨#[99]⟩, ⟨l.toArray⟩)], (l.length : Nat), (l.length : Nat)⟩], l, 0, 1⟩ := by
    rw [← hb3, hb1']; simp [BS.begin, BS.fin]
  obtain ⟨f3, rfl⟩ : ∃ f3, f2 = f3 + 1 := ⟨f2 - 1, by omega⟩
  obtain ⟨f4, hf4, y4⟩ := text_step (f := f3) (b := b3) (lim := false) A3 h4 hl
  rw [y4]
  have A4 := At.skip A3
  generalize hb4 : b3.text l = b4
  have hb4' : b4 = ⟨[⟨⟨#[97]⟩, -1, [(⟨#[98]⟩, ⟨l.toArray⟩)], 0, 0⟩, ⟨⟨#[98, 114]⟩, 0, [(⟨#[99]⟩, ⟨l.toArray⟩)], (l.length : Nat), (l.length : Nat)⟩], l ++ l, 0, 1⟩ := by
    rw [← hb4, hb3']; simp [BS.text]
  have z5 := end_at (k := 0) (b := b4) (x := ⟨⟨#[97]⟩, -1, [(⟨#[98]⟩, ⟨l.toArray⟩)], 0, 0⟩) A4 (by rw [hb4']; rfl) (by rw [hb4']; rfl) rfl
  obtain ⟨f5, rfl⟩ : ∃ f5, f4 = f5 + 1 := ⟨f4 - 1, by omega⟩
  rw [step_pieces (At.lt A4) z5]
  have hb5 : b4.fin = laidBS l := by rw [hb4']; simp [BS.fin, laidBS]
  rw [hb5]
  have A5 := At.step (At.step (At.step (At.step A4)))
  have e5 := At.end_ A5
  obtain ⟨f6, rfl⟩ : ∃ f6, f5 = f6 + 1 := ⟨f5 - 1, by omega⟩
  have e6 : q3 + e4.length + 4 = s.size := by omega
  rw [e6, piecesP, if_pos rfl, if_pos (show (laidBS l).opn = -1 from rfl), hg]
  rfl
end Go.Proofs.YtclpcnignheijaaGreatDoor
