import Derived.Test.YtclpcnignheijaaGreatDoorF4
namespace Go.Proofs.YtclpcnignheijaaGreatDoor
open Go.RowKit

theorem elem0_at {s : ByteArray} {p : Nat} {n r : List UInt8} {b : BS} (h : At s p (n ++ 62 :: r)) (hn : ∀ c ∈ n, smU c = true) (hn0 : n ≠ []) (hn16 : n.length ≤ 16) (hb : largeB b = false) (hv : voidB ⟨n.toArray⟩ = false) :
    beginP s p b = (p + n.length + 1, b.begin ⟨n.toArray⟩ [], 0) ∧ At s (p + n.length + 1) r := by
  have x1 := new_at (taken := noneTaken) h hn hn0 hn16 (by decide) (by decide) rfl
  have h1 := At.skip h
  have x2 := noattrs_at h1 (by decide) (by decide)
  have pk : peekI s (p + n.length) = 62 := At.peek h1 (by decide)
  have x3 := exp_at (l := [62]) (r := r) h1 (by decide)
  simp only [List.length_singleton] at x3
  refine ⟨?_, At.step h1⟩
  unfold beginP
  rw [x1]
  dsimp only
  unfold elementP
  have x4 : afterP s (p + n.length) = p + n.length := by unfold afterP; rw [if_neg (by rw [pk]; decide)]
  have x5 : wholeB s (p + n.length) = false := by unfold wholeB; rw [pk]; decide
  simp only [x2, x4, x5, x3, hb, hv]
  simp
theorem endc_at {s : ByteArray} {p k : Nat} {r : List UInt8} {b : BS} {x : El} {c : UInt8} (hc : smU c = true) (h : At s p (60 :: 47 :: c :: 62 :: r)) (ho : b.opn = (k : Int)) (hx : b.els[k]? = some x) (hn : x.name.data.toList = [c]) : pieceP s p b = (p + 4, b.fin, 0) := by
  have f := smU_facts hc
  have p0 : peekI s p = 60 := At.peek h (by decide)
  have h1 := At.step h
  have p1 : peekI s (p + 1) = 47 := At.peek h1 (by decide)
  have h2 := At.step h1
  have p2 : peekI s (p + 1 + 1) = (c.toNat : Int) := At.peek h2 f.1
  have h3 := At.step h2
  have p3 : peekI s (p + 1 + 1 + 1) = 62 := At.peek h3 (by decide)
  have x1 := exp_at (l := [47]) (r := c :: 62 :: r) h1 (by decide)
  have x3 := exp_at (l := [62]) (r := r) h3 (by decide)
  simp only [List.length_singleton] at x1 x3
  have x2 : exnP s [c] (p + 1 + 1) = (p + 1 + 1 + 1, true) := by
    have sk : skipP s (p + 1 + 1) = p + 1 + 1 + 1 := by unfold skipP; rw [if_neg (by rw [p2]; exact okU_pos f.1)]
    rw [exnP, if_pos (by rw [p2, smallU_int, f.2.2.2]), sk, exnP, p3]
    rfl
  have x4 : runTo spaceB s (p + 1 + 1 + 1) = p + 1 + 1 + 1 := runTo_no (by rw [p3]; decide)
  unfold pieceP
  rw [if_pos p0, if_neg (by rw [p1]; decide), if_pos p1, endP_yes ho hx, hn]
  simp only [x1, x2, x3, x4]
  simp
def sureB : ByteArray := ⟨#[60, 112, 62, 60, 98, 32, 105, 100, 61, 34, 120, 34, 62, 116, 60, 47, 98, 62, 60, 47, 112, 62]⟩
def sureBS : BS := ⟨[⟨⟨#[112]⟩, -1, [], 0, 1⟩, ⟨⟨#[98]⟩, 0, [(⟨#[105, 100]⟩, ⟨#[120]⟩)], 0, 1⟩], [116], -1, 0⟩
theorem voidB_p : voidB ⟨#[112]⟩ = false := by unfold voidB; rw [Lib.toList_data]; decide
theorem voidB_b : voidB ⟨#[98]⟩ = false := by unfold voidB; rw [Lib.toList_data]; decide
theorem sure_parse : parseP sureB = (22, sureBS, 0) := by
  have hsz : sureB.size = 22 := rfl
  have A0 : At sureB 0 (60 :: ([112] ++ 62 :: (60 :: ([98] ++ 32 :: ([105, 100] ++ 61 :: (34 :: ([120] ++ 34 :: (tailX false ++ ([116] ++ 60 :: 47 :: 98 :: 62 :: 60 :: 47 :: 112 :: 62 :: []))))))))) := ⟨rfl, rfl⟩
  have e1 : EncL [60, 34] [120] [120] := ⟨[120], [], rfl, .inl ⟨rfl, by decide, by decide, by decide⟩, rfl⟩
  have e2 : EncL [60, 62] [116] [116] := ⟨[116], [], rfl, .inl ⟨rfl, by decide, by decide, by decide⟩, rfl⟩
  obtain ⟨y1, A1⟩ := elem0_at (b := b0) (n := [112]) (At.step A0) (by decide) (by decide) (by decide) (by decide) voidB_p
  have z1 := (piece_begin (b := b0) (c := 112) A0 (by decide)).trans y1
  unfold parseP
  rw [hsz, step_pieces (At.lt A0) z1]
  obtain ⟨q2, y2, A2⟩ := elem_at (b := b0.begin ⟨([112] : List UInt8).toArray⟩ []) (n := [98]) (m := [105, 100]) false (At.step A1) (by decide) (by decide) (by decide) (by decide) (by decide) (by decide) e1 (by decide) (by decide)
  rw [if_neg (by show ¬ (false || voidB ⟨#[98]⟩) = true; rw [voidB_b]; decide)] at y2
  have z2 := (piece_begin (b := b0.begin ⟨([112] : List UInt8).toArray⟩ []) (c := 98) A1 (by decide)).trans y2
  rw [step_pieces (f := 21) (At.lt A1) z2]
  generalize hb2 : (b0.begin ⟨([112] : List UInt8).toArray⟩ []).begin ⟨([98] : List UInt8).toArray⟩ [(⟨([105, 100] : List UInt8).toArray⟩, ⟨([120] : List UInt8).toArray⟩)] = b2
  obtain ⟨f3, hf3, y3⟩ := text_step (f := 20) (b := b2) (lim := false) A2 e2 (by decide)
  rw [y3]
  have A3 := At.skip A2
  have z4 := endc_at (k := 1) (b := b2.text [116]) (x := ⟨⟨#[98]⟩, 0, [(⟨#[105, 100]⟩, ⟨#[120]⟩)], 0, 0⟩) (c := 98) (by decide) A3 (by rw [← hb2]; rfl) (by rw [← hb2]; rfl) rfl
  obtain ⟨f4, rfl⟩ : ∃ f4, f3 = f4 + 1 := ⟨f3 - 1, by omega⟩
  rw [step_pieces (At.lt A3) z4]
  have A4 := At.step (At.step (At.step (At.step A3)))
  have z5 := endc_at (k := 0) (b := (b2.text [116]).fin) (x := ⟨⟨#[112]⟩, -1, [], 0, 0⟩) (c := 112) (by decide) A4 (by rw [← hb2]; rfl) (by rw [← hb2]; rfl) rfl
  obtain ⟨f5, rfl⟩ : ∃ f5, f4 = f5 + 1 := ⟨f4 - 1, by omega⟩
  rw [step_pieces (At.lt A4) z5]
  have A5 := At.step (At.step (At.step (At.step A4)))
  have e5 := At.end_ A5
  obtain ⟨f6, rfl⟩ : ∃ f6, f5 = f6 + 1 := ⟨f5 - 1, by omega⟩
  have hb5 : (b2.text [116]).fin.fin = sureBS := by rw [← hb2]; rfl
  rw [hb5]
  have e6 : q2 + [(116 : UInt8)].length + 1 + 1 + 1 + 1 + 4 = sureB.size := by omega
  rw [show q2 + [(116 : UInt8)].length + 4 + 4 = sureB.size from by omega, piecesP, if_pos rfl, if_pos (show sureBS.opn = -1 from rfl)]
  rfl
end Go.Proofs.YtclpcnignheijaaGreatDoor
