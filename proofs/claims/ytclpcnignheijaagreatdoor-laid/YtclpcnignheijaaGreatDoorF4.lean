import Derived.Test.YtclpcnignheijaaGreatDoorF3
namespace Go.Proofs.YtclpcnignheijaaGreatDoor
open Go.RowKit

def safeL (l : List UInt8) : List UInt8 := l.flatMap refW
theorem refW_other {c : UInt8} (h : ¬ (c = 38 ∨ c = 60 ∨ c = 62 ∨ c = 34)) : refW c = [c] := by
  unfold refW
  rw [if_neg (fun e => h (.inl e)), if_neg (fun e => h (.inr (.inl e))), if_neg (fun e => h (.inr (.inr (.inl e)))), if_neg (fun e => h (.inr (.inr (.inr e))))]
theorem not_in {ends : List UInt8} {c : UInt8} (h : ∀ d ∈ ends, c ≠ d) : inB ends (c.toNat : Int) = false := by
  unfold inB
  rw [List.any_eq_false]
  intro d hd
  simp only [beq_iff_eq]
  intro e
  exact h d hd (UInt8.toNat_inj.1 (by omega))
theorem enc_safe (ends : List UInt8) (he : ∀ d ∈ ends, d = 60 ∨ d = 62 ∨ d = 34) : ∀ l : List UInt8, (∀ c ∈ l, okU c = true) → EncL ends l (safeL l)
  | [], _ => rfl
  | c :: l, h => by
    refine ⟨refW c, safeL l, rfl, ?_, enc_safe ends he l (fun d hd => h d (List.mem_cons_of_mem _ hd))⟩
    by_cases hc : c = 38 ∨ c = 60 ∨ c = 62 ∨ c = 34
    · exact .inr ⟨rfl, hc⟩
    · refine .inl ⟨refW_other hc, h c (List.mem_cons_self ..), not_in (fun d hd e => ?_), fun e => hc (.inl e)⟩
      rcases he d hd with h1 | h1 | h1
      · exact hc (.inr (.inl (e.trans h1)))
      · exact hc (.inr (.inr (.inl (e.trans h1))))
      · exact hc (.inr (.inr (.inr (e.trans h1))))
theorem enc_esc (ends sp : List UInt8) (h38 : (38 : UInt8) ∈ sp) (hes : ∀ d ∈ ends, d ∈ sp) (hsp : ∀ d ∈ sp, d = 38 ∨ d = 60 ∨ d = 62 ∨ d = 34) : ∀ l : List UInt8, (∀ c ∈ l, okU c = true) → EncL ends l (escL sp l)
  | [], _ => rfl
  | c :: l, h => by
    refine ⟨spellU sp c, escL sp l, by simp [escL], ?_, enc_esc ends sp h38 hes hsp l (fun d hd => h d (List.mem_cons_of_mem _ hd))⟩
    by_cases hc : c ∈ sp
    · have hi : inB sp (c.toNat : Int) = true := by unfold inB; rw [List.any_eq_true]; exact ⟨c, hc, by simp⟩
      refine .inr ⟨by unfold spellU; rw [if_pos hi], hsp c hc⟩
    · have hi : inB sp (c.toNat : Int) = false := not_in (fun d hd e => hc (e ▸ hd))
      refine .inl ⟨by unfold spellU; rw [hi, if_neg Bool.false_ne_true], h c (List.mem_cons_self ..), not_in (fun d hd e => hc (e ▸ hes d hd)), fun e => hc (e ▸ h38)⟩
theorem refW_len (c : UInt8) : (refW c).length ≤ 6 := by
  unfold refW; repeat' split
  all_goals simp
theorem safeL_len : ∀ l, (safeL l).length ≤ 6 * l.length
  | [] => by simp [safeL]
  | c :: l => by
    have h1 := refW_len c
    have h2 := safeL_len l
    simp only [safeL, List.flatMap_cons, List.length_append, List.length_cons] at *
    omega
theorem laidDoc_len (wb : Bool) (e1 e2 e3 e4 : List UInt8) : (laidDoc wb e1 e2 e3 e4).length = 20 + e1.length + e2.length + e3.length + e4.length + (tailX wb).length := by
  unfold laidDoc; simp only [List.length_append, List.length_cons, List.length_nil]; omega
theorem tailX_len (wb : Bool) : (tailX wb).length ≤ 2 ∧ 1 ≤ (tailX wb).length := by cases wb <;> decide

theorem close_same {b : BS} {a : Int} (f : Nat) (o : List UInt8) (n : Nat) : closeP b a f ⟨o, n, a⟩ = some ⟨o, n, a⟩ := by
  cases f <;> rw [closeP, if_pos rfl]
theorem write_two (b : BS) (A C : El) (n m : Nat) (tA tB : List UInt8) (hels : b.els = [A, C]) (a1 : A.parent = -1) (a2 : A.lo = 0) (a3 : A.hi = (m : Int)) (c1 : C.parent = 0) (c2 : C.lo = (n : Int)) (c3 : C.hi = (n : Int))
    (t1 : ∀ o op, textUpP b ⟨o, 0, op⟩ 0 = some ⟨o, 0, op⟩) (t2 : ∀ o op, textUpP b ⟨o, 0, op⟩ (n : Int) = some ⟨o ++ tA, n, op⟩) (t3 : ∀ o op, textUpP b ⟨o, n, op⟩ (n : Int) = some ⟨o, n, op⟩) (t4 : ∀ o op, textUpP b ⟨o, n, op⟩ (m : Int) = some ⟨o ++ tB, m, op⟩) (t5 : ∀ o op, textUpP b ⟨o, m, op⟩ (b.txt.length : Int) = some ⟨o, m, op⟩) :
    writeP b = some (beginL A ++ tA ++ beginL C ++ closeL C.name ++ tB ++ closeL A.name) := by
  have g1 : goP b b.els 0 ⟨[], 0, -1⟩ = some ⟨beginL A ++ tA ++ beginL C, n, 1⟩ := by
    rw [hels, goP, a1, close_same]
    dsimp only
    rw [a2, t1]
    dsimp only
    rw [goP, c1]
    have : closeP b 0 (b.els.length + 1) ⟨[] ++ beginL A, 0, ((0 : Nat) : Int)⟩ = some ⟨[] ++ beginL A, 0, 0⟩ := close_same _ _ _
    rw [this]
    dsimp only
    rw [c2, t2]
    dsimp only
    rw [goP, List.nil_append]
    rfl
  have g2 : closeP b (-1) (b.els.length + 1) ⟨beginL A ++ tA ++ beginL C, n, 1⟩ = some ⟨beginL A ++ tA ++ beginL C ++ closeL C.name ++ tB ++ closeL A.name, m, -1⟩ := by
    have e1 : b.els[(1 : Int).toNat]? = some C := by rw [hels]; rfl
    have e0 : b.els[(0 : Int).toNat]? = some A := by rw [hels]; rfl
    have hl : b.els.length + 1 = 1 + 1 + 1 := by rw [hels]; rfl
    rw [hl, closeP, if_neg (show ¬ (1 : Int) = -1 from by decide), if_neg (show ¬ (1 : Int) < 0 from by decide), e1]
    dsimp only
    rw [c1, if_pos (show (0 : Int) < 1 from by decide), c3, t3]
    dsimp only
    rw [closeP, if_neg (show ¬ (0 : Int) = -1 from by decide), if_neg (show ¬ (0 : Int) < 0 from by decide), e0]
    dsimp only
    rw [a1, if_pos (show (-1 : Int) < 0 from by decide), a3, t4]
    dsimp only
    rw [close_same]
  unfold writeP
  rw [g1]
  dsimp only
  rw [g2]
  dsimp only
  rw [t5]

theorem laid_write (l : List UInt8) : writeP (laidBS l) = some (laidDoc false (escL vsp l) (escL tsp l) (escL vsp l) (escL tsp l)) := by
  have p1 : txtPart (laidBS l) 0 0 = [] := by simp [txtPart]
  have p2 : txtPart (laidBS l) 0 l.length = l := by simp [txtPart, laidBS]
  have p3 : txtPart (laidBS l) l.length l.length = [] := by simp [txtPart]
  have p4 : txtPart (laidBS l) l.length (l.length + l.length) = l := by
    unfold txtPart laidBS
    dsimp only
    rw [List.drop_left' rfl, Nat.add_sub_cancel_left, List.take_of_length_le (Nat.le_refl _)]
  have p5 : txtPart (laidBS l) (l.length + l.length) (l.length + l.length) = [] := by simp [txtPart]
  have ht : ((laidBS l).txt.length : Int) = (l.length : Int) + l.length := by simp [laidBS]
  have e0 : escL tsp [] = [] := rfl
  have t1 : ∀ o op, textUpP (laidBS l) ⟨o, 0, op⟩ 0 = some ⟨o, 0, op⟩ := fun o op => by
    unfold textUpP; rw [if_pos (by rw [ht]; constructor <;> (try dsimp only) <;> omega)]; simp [p1, e0]
  have t2 : ∀ o op, textUpP (laidBS l) ⟨o, 0, op⟩ (l.length : Nat) = some ⟨o ++ escL tsp l, l.length, op⟩ := fun o op => by
    unfold textUpP; rw [if_pos (by rw [ht]; constructor <;> (try dsimp only) <;> omega)]; simp [p2]
  have t3 : ∀ o op, textUpP (laidBS l) ⟨o, l.length, op⟩ (l.length : Nat) = some ⟨o, l.length, op⟩ := fun o op => by
    unfold textUpP; rw [if_pos (by rw [ht]; constructor <;> (try dsimp only) <;> omega)]; simp [p3, e0]
  have t4 : ∀ o op, textUpP (laidBS l) ⟨o, l.length, op⟩ ((l.length + l.length : Nat) : Int) = some ⟨o ++ escL tsp l, l.length + l.length, op⟩ := fun o op => by
    unfold textUpP; rw [if_pos (by rw [ht]; constructor <;> (try dsimp only) <;> omega)]
    rw [Int.toNat_natCast, p4]
  have t5 : ∀ o op, textUpP (laidBS l) ⟨o, l.length + l.length, op⟩ ((laidBS l).txt.length : Int) = some ⟨o, l.length + l.length, op⟩ := fun o op => by
    unfold textUpP; rw [if_pos (by rw [ht]; constructor <;> (try dsimp only) <;> omega)]
    have : ((laidBS l).txt.length : Int).toNat = l.length + l.length := by omega
    rw [this, p5, e0, List.append_nil]
  have cl1 : closeL ⟨#[98, 114]⟩ = [] := by unfold closeL; rw [voidB_br]; rfl
  have cl2 : closeL ⟨#[97]⟩ = [60, 47, 97, 62] := by unfold closeL; rw [voidB_a]; rfl
  have hw := write_two (laidBS l) ⟨⟨#[97]⟩, -1, [(⟨#[98]⟩, ⟨l.toArray⟩)], 0, (l.length + l.length : Nat)⟩ ⟨⟨#[98, 114]⟩, 0, [(⟨#[99]⟩, ⟨l.toArray⟩)], (l.length : Nat), (l.length : Nat)⟩ l.length (l.length + l.length) (escL tsp l) (escL tsp l) rfl rfl rfl rfl rfl rfl rfl t1 t2 t3 t4 t5
  rw [hw, cl1, cl2]
  simp [beginL, attrsW, attrW, laidDoc, tailX, List.append_assoc]
end Go.Proofs.YtclpcnignheijaaGreatDoor
