/-
  PARTS OF THE PROOF OF THE LAW 'Compiles', joined into one text: R9, R11, R12, R13.
-/
import Derived.Test.YtclpcnignheijaaGreatDoorR8
import Derived.Test.YtclpcnignheijaaGreatDoorR10
import Derived.Test.YtclpcnignheijaaGreatDoorT1
import Derived.Test.YtclpcnignheijaaGreatDoorP1
import Derived.Test.YtclpcnignheijaaGreatDoorB6
import Derived.Deep.AppendLies
namespace Go.Proofs.YtclpcnignheijaaGreatDoor
open Go.RowKit

/-- nth of the document's reader, at every place. -/
theorem rnth_any (B mb sb : Nat) (s : ByteArray) (p a m : Nat) (so : Int) (wd : ByteArray) (lv : Value) (w : World) (h : Mk w mb s p false a m) (hs : Sb w sb so wd noB noB false 0 0 noB lv) (hB : B ≤ mb) (hBs : B ≤ sb) : RNth B mb sb s p a m so wd lv w := by
  by_cases h1 : peekI s p = 111
  · exact rnth_odd B mb sb s p a m so wd lv w h hs hB hBs h1
  by_cases h2 : peekI s p = 101
  · exact rnth_even B mb sb s p a m so wd lv w h hs hB hBs h2
  by_cases hn : peekI s (countP s (signP s p).1).1 = 110
  · exact rnth_step B mb sb s p a m so wd lv w h hs hB hBs h1 h2 hn
  · exact rnth_plain B mb sb s p a m so wd lv w h hs hB hBs h1 h2 hn
end Go.Proofs.YtclpcnignheijaaGreatDoor
namespace Go.Proofs.YtclpcnignheijaaGreatDoor
open Go.RowKit

def sortR (k : Nat) : Int := if k = 0 then 35 else if k = 1 then 46 else if k = 2 then 91 else 58
def wordR (k : Nat) (x : ByteArray) (a : AttrQ) : ByteArray := if k ≤ 1 then x else if k = 2 then a.name else bytesOf ((openW.getD k []).tail)
def nthR (k : Nat) (t : NthQ) : ByteArray := if k = 8 then bytesOf (nthT t) else noB
def refCells (k : Nat) (x : ByteArray) (a : AttrQ) (t : NthQ) (v : Value) : List Value := [.int .u8 (sortR k), .string (wordR k x a), .string a.op, .string a.val, .bool a.any, .int .i64 t.a, .int .i64 t.b, .string (nthR k t), v]
/-- How the document's reader lays a selector. -/
def docL : Lay := ⟨99, 102, 104, 9, refCells, fun _ _ _ _ _ => rfl, 3, fun l => l = [], fun l h => by rw [h]; rfl⟩
def sbCells (so : Int) (wd op va : ByteArray) (sm : Bool) (x y : Int) (nt : ByteArray) (lv : Value) : List Value := [.int .u8 so, .string wd, .string op, .string va, .bool sm, .int .i64 x, .int .i64 y, .string nt, lv]

theorem Fr.setOther {L : Lay} {P : Nat → Prop} {w : World} {a : Addr} (h : ∀ g, P g → g ≠ a.block) (v : Value) : Fr L P P w (w.setCell a v) := fun g _ _ hg hb _ => ⟨hg, setCell_other hb (h g hg) v⟩
theorem Fr.ofMk {P : Nat → Prop} {w w' : World} {B : Nat} (k : Kp B [153] w w') : Fr docL P P w w' := Fr.ofKp k (by decide) (by decide) (by decide) fun _ hg => hg

/-- What list promises. -/
def ListRPost (B mb : Nat) (s : ByteArray) (n others p a m : Nat) (w : World) (e : Ending) (w' : World) : Prop :=
  ∃ lv, e = .returned lv ∧ (∃ la lm lc, lv = .slice la lm lc) ∧ Kp B [153] w w' ∧
    ((∃ l cn d, (listP s n p).2 = some (l, cn, d) ∧ Mk w' mb s (listP s n p).1 false (a + cn) (max m (others + d)) ∧ RepL docL (fun g => w.heap.size ≤ g) w' n lv l) ∨
     (∃ a' m', Mk w' mb s (listP s n p).1 true a' m' ∧ ((listP s n p).2 = none ∨ ((listP s n p).1 < s.size ∧ peekI s (listP s n p).1 ≠ 44 ∧ (peekI s (listP s n p).1 = 41 → others = 0)))))
def ListR (B mb : Nat) (s : ByteArray) (n : Nat) : Prop :=
  ∀ (others p a m : Nat) (w : World), Mk w mb s p false a m → a ≤ p → others ≤ p → s.size < p + n → Calls Tryz.prog 81 #[.pointer (some ⟨mb, 0, none⟩), .int .i64 others] w (ListRPost B mb s n others p a m w)

/-- A simple that begins with a colon, from behind it. -/
def pseudoRP (lf : Nat → Nat × Option (SLst × Nat × Nat)) (s : ByteArray) (p : Nat) : Nat × Option (Sim × Nat × Nat) :=
  match oneP s pseudoW 12 [] p with
  | (q, none) => (q, none)
  | (q, some k) => match askedP lf s (kindOf k) q with
    | (q2, none) => (q2, none)
    | (q2, some x) => ((expP s (closeW (kindOf k)) q2).1, if (expP s (closeW (kindOf k)) q2).2 = true then some x else none)
section
variable {lf : Nat → Nat × Option (SLst × Nat × Nat)} {s : ByteArray} {p q q2 k : Nat}
theorem pseudo_none (h : oneP s pseudoW 12 [] p = (q, none)) : pseudoRP lf s p = (q, none) := by unfold pseudoRP; rw [h]
theorem pseudo_small (h : oneP s pseudoW 12 [] p = (q, some k)) (hk : k < 5) : pseudoRP lf s p = (q, some (.mk (kindOf k) noB noAttr noNth [], 0, 0)) := by
  have e1 : kindOf k = k + 3 := by unfold kindOf; rw [if_pos (by omega)]
  unfold pseudoRP
  rw [h]; dsimp only
  rw [e1]
  unfold askedP
  rw [if_neg (by omega), if_neg (by omega), if_neg (by omega), if_neg (by omega)]
  dsimp only
  have e2 : closeW (k + 3) = [] := by unfold closeW; rw [if_neg (by omega), if_neg (by omega)]
  rw [e2]; rfl
theorem pseudo_nth (h : oneP s pseudoW 12 [] p = (q, some 7)) {q1 : Nat} {o : Option NthQ} (h1 : numbersP s (spP s q) = (q1, o)) :
    pseudoRP lf s p = ((mustP s [41] (spR s q1 o.isNone) o.isNone).1, if (mustP s [41] (spR s q1 o.isNone) o.isNone).2 = false then o.map fun z => (.mk 8 noB noAttr z [], 0, 0) else none) := by
  unfold pseudoRP
  rw [h]; dsimp only
  have e1 : kindOf 7 = 8 := rfl
  rw [e1]
  unfold askedP
  rw [if_neg (by omega), if_neg (by omega), if_pos rfl]
  unfold nthP
  rw [h1]
  cases o with
  | none => rfl
  | some z =>
    dsimp only [Option.map]
    have e2 : closeW 8 = [41] := rfl
    rw [e2]
    show _ = ((mustP s [41] (spP s q1) false).1, _)
    have e3 : spR s q1 (some z).isNone = spP s q1 := rfl
    have e4 : (some z : Option NthQ).isNone = false := rfl
    rw [e3, e4]
    have hm : ∀ X, mustP s [41] X false = ((expP s [41] X).1, !(expP s [41] X).2) := fun _ => rfl
    rw [hm]
    cases (expP s [41] (spP s q1)).2 <;> rfl
theorem pseudo_list (h : oneP s pseudoW 12 [] p = (q, some k)) (hk : k = 5 ∨ k = 6) : (∀ q2, lf q = (q2, none) → pseudoRP lf s p = (q2, none)) ∧
    (∀ q2 x, lf q = (q2, some x) → pseudoRP lf s p = ((mustP s [41] q2 false).1, if (mustP s [41] q2 false).2 = false then some (.mk (kindOf k) noB noAttr noNth x.1, x.2.1, x.2.2 + 1) else none)) := by
  have e1 : kindOf k = k + 4 := by unfold kindOf; rw [if_neg (by omega), if_neg (by omega)]
  have e2 : closeW (k + 4) = [41] := by unfold closeW; rw [if_neg (by omega), if_pos (by omega)]
  refine ⟨fun q2 h1 => ?_, fun q2 x h1 => ?_⟩
  · unfold pseudoRP
    rw [h]; dsimp only
    rw [e1]
    unfold askedP
    rw [if_neg (by omega), if_neg (by omega), if_neg (by omega), if_pos (by omega), h1]; rfl
  · unfold pseudoRP
    rw [h]; dsimp only
    rw [e1]
    unfold askedP
    rw [if_neg (by omega), if_neg (by omega), if_neg (by omega), if_pos (by omega), h1]
    dsimp only [Option.map]
    rw [e2]
    have hm : ∀ X, mustP s [41] X false = ((expP s [41] X).1, !(expP s [41] X).2) := fun _ => rfl
    rw [hm]
    cases (expP s [41] q2).2 <;> rfl
end
theorem pseudo_no0 : ∀ x ∈ pseudoW, (0 : UInt8) ∉ x := by decide
theorem pseudo_len : ∀ x ∈ pseudoW, x.length < 12 := by decide
theorem pseudo_word {k : Nat} {pw : List UInt8} (h : pseudoW[k]? = some pw) (x : ByteArray) (a : AttrQ) : sortR (kindOf k) = 58 ∧ wordR (kindOf k) x a = bytesOf pw := by
  have hk : k < 8 := (List.getElem?_eq_some_iff.1 h).1
  rcases k with _ | _ | _ | _ | _ | _ | _ | _ | k
  all_goals first
    | omega
    | (simp [pseudoW] at h; subst h; exact ⟨rfl, rfl⟩)

def RPse (B mb sb : Nat) (s : ByteArray) (n others p a m : Nat) (w : World) : Prop :=
    Calls Tryz.prog 180 #[.pointer (some ⟨mb, 0, none⟩), .pointer (some ⟨sb, 0, none⟩), .int .i64 others] w fun e w' => e = .returned (.tuple #[]) ∧ Ks B sb w w' ∧
      ((∃ x so wd op va sm i j nt lv, (pseudoRP (listP s n) s p).2 = some x ∧ Mk w' mb s (pseudoRP (listP s n) s p).1 false (a + x.2.1) (max m (others + x.2.2)) ∧ Sb w' sb so wd op va sm i j nt lv ∧ (∃ la lm lc, lv = .slice la lm lc) ∧ repS docL (RepL docL (fun g => w.heap.size ≤ g) w' n) x.1 (sbCells so wd op va sm i j nt lv)) ∨
       ((pseudoRP (listP s n) s p).2 = none ∧ ∃ a' m' so wd op va sm i j nt lv, Mk w' mb s (pseudoRP (listP s n) s p).1 true a' m' ∧ Sb w' sb so wd op va sm i j nt lv ∧ (∃ la lm lc, lv = .slice la lm lc)))

set_option maxRecDepth 100000 in
set_option maxHeartbeats 8000000 in
theorem rpseudo_any (B mb sb : Nat) (s : ByteArray) (n others p a m : Nat) (w : World) (IH : ListR B mb s n) (h : Mk w mb s p false a m) (hs : Sb w sb 58 noB noB noB false 0 0 noB (.slice none 0 0)) (hB : B ≤ mb) (hBs : B ≤ sb) (ha : a ≤ p) (ho1 : others < p) (hom : others ≤ m) (hn : s.size < p + n) : RPse B mb sb s n others p a m w := by
  have hsbl := lt_of_block hs
  have h5 := h.max
  unfold RPse
  have hkD := (Kp.refl B [153] w).alloc (.cells (pseudoW.map fun l => Value.string (bytesOf l)).toArray 9)
  have ws5 : Ws (w.alloc (.cells (pseudoW.map fun l => Value.string (bytesOf l)).toArray 9)) w.heap.size pseudoW := alloc_at w _
  have hs6 : Sb (w.alloc (.cells (pseudoW.map fun l => Value.string (bytesOf l)).toArray 9)) sb 58 noB noB noB false 0 0 noB (.slice none 0 0) := alloc_old hs _
  have hm6 := h.alloc (.cells (pseudoW.map fun l => Value.string (bytesOf l)).toArray 9)
  go_enter Tryz.func180, Tryz.ntmps180
  go_wp2_with fail
  refine (among_any B mb w.heap.size 8 12 pseudoW s p a m _ hm6 hB ws5 (by decide) pseudo_no0 pseudo_len (by decide) (by decide)).mono ?_
  rintro e w7 ⟨ii, rfl, hk7, hor7⟩
  have hs7 : Sb w7 sb 58 noB noB noB false 0 0 noB (.slice none 0 0) := hk7.at hs6 (by decide)
  have ws7 := ws5.kept hk7 (by decide)
  have hkE := hkD.trans hk7
  have hsz7 := hkE.size
  clear hs6 hm6 hkD ws5 hk7
  rcases hor7 with ⟨k, ho, rfl, hm7⟩ | ⟨ho, rfl, hm7⟩
  rotate_left
  · have HE : Hid (pseudoRP (listP s n) s p = ((oneP s pseudoW 12 [] p).1, none)) := hide (pseudo_none (by rw [← ho]))
    generalize (oneP s pseudoW 12 [] p).1 = q2 at *
    clear ho
    go_wp2
    refine bodyPost_ret (results_none Tryz.results180 _ _ _) rfl ?_
    rw [HE.out]
    exact ⟨rfl, hkE.tm, .inr ⟨rfl, a, m, _, _, _, _, _, _, _, _, _, hm7, hs7, _, _, _, rfl⟩⟩
  obtain ⟨pw, how, hlen⟩ := oneP_len _ _ _ _ ho
  have hk8 : k < 8 := (List.getElem?_eq_some_iff.1 how).1
  have hpl : 0 < pw.length := by
    have : ∀ x ∈ pseudoW, 0 < x.length := by decide
    exact this pw (List.mem_of_getElem? how)
  have hle := oneP_le (s := s) pseudo_no0 12 [] p h.le
  generalize hq2 : (oneP s pseudoW 12 [] p).1 = q at *
  have HO : Hid (oneP s pseudoW 12 [] p = (q, some k)) := by rw [← hq2, ← ho]; rfl
  have hpq : p < q := by simp at hlen; omega
  have c7 := ws7.cell how
  have HW := hide how
  clear hq2 ho how hlen
  obtain ⟨⟨m0, m1, m2, m3, m4, m5, m6, m7, m8⟩, fz⟩ := cells9 hs7
  have f1 := fz 1
  have hs8 : Sb (w7.setCell ⟨sb, 1, none⟩ (.string (bytesOf pw))) sb 58 (bytesOf pw) noB noB false 0 0 noB (.slice none 0 0) := set_blk (o := 1) hs7 (.string (bytesOf pw))
  have kk8 := (Kp.refl 0 [104] w7).setCell (p := ⟨sb, 1, none⟩) hs7 (by simp) (Nat.zero_le _) (.string (bytesOf pw))
  have hkF := (hkE.tm (sb := sb)).setCell (p := ⟨sb, 1, none⟩) hs7 (by simp [TM]) hBs (.string (bytesOf pw))
  have hm8 := hm7.kept kk8 (by decide)
  have hsz8 := kk8.size
  clear fz m0 m2 m3 m4 m5 m6 m7 m8
  by_cases hk5 : k < 5
  · have HE := hide (pseudo_small (lf := listP s n) HO.out hk5)
    have e1 : (k : Int) < 5 := by omega
    go_wp2
    refine bodyPost_ret (results_none Tryz.results180 _ _ _) rfl ?_
    rw [HE.out]
    refine ⟨rfl, hkF, .inl ⟨_, _, _, _, _, _, _, _, _, _, rfl, ?_, hs8, ⟨_, _, _, rfl⟩, _, ?_, RepL.nil _ _ _ _⟩⟩
    · rw [show max m (others + 0) = m from by omega]; exact hm8
    · have e2 := pseudo_word HW.out noB noAttr
      have e3 : kindOf k ≠ 8 := by unfold kindOf; rw [if_pos (by omega)]; omega
      show _ = refCells _ _ _ _ _
      unfold refCells sbCells nthR
      rw [e2.1, e2.2, if_neg e3]; rfl
  have e1 : ¬ (k : Int) < 5 := by omega
  by_cases hk7 : k = 7
  · subst hk7
    have hsp := spP_le hm7.le
    go_wp2_with fail
    generalize w7.setCell ⟨sb, 1, none⟩ (.string (bytesOf pw)) = w8 at *
    clear c7 f1 m1 hs7 hm7 kk8 ws7 hkE
    refine (rspaces_any B mb s q false a m _ hm8 hB).mono ?_
    rintro e w9 ⟨rfl, hm9, hk9⟩
    have hs9 : Sb w9 sb 58 (bytesOf pw) noB noB false 0 0 noB (.slice none 0 0) := hk9.at hs8 (by decide)
    have hkG := hkF.trans hk9.tm
    clear hs8 hm8 hkF hk9
    go_wp2_with fail
    refine (rnth_any B mb sb s (spP s q) a m 58 (bytesOf pw) _ _ hm9 hs9 hB hBs).mono ?_
    rintro e w10 ⟨rfl, hk10, hor10⟩
    have hkH := hkG.trans hk10
    clear hm9 hs9 hkG hk10
    obtain ⟨q1, o, i, j, nt, hm10, hs10, HN, HZ⟩ : ∃ q1 o i j nt, Mk w10 mb s q1 o.isNone a m ∧ Sb w10 sb 58 (bytesOf pw) noB noB false i j nt (.slice none 0 0) ∧ Hid (numbersP s (spP s q) = (q1, o)) ∧ Hid (∀ z, o = some z → i = z.a ∧ j = z.b ∧ nt = bytesOf (nthT z)) := by
      rcases hor10 with ⟨z, hz, hm, hsz⟩ | ⟨hz, hm, x, y, nt, hsz⟩
      · exact ⟨_, some z, _, _, _, hm, hsz, hide (by rw [← hz]), hide (fun z' e => by cases e; exact ⟨rfl, rfl, rfl⟩)⟩
      · exact ⟨_, none, x, y, nt, hm, hsz, hide (by rw [← hz]), hide (fun z' e => by cases e)⟩
    have HE := hide (pseudo_nth (lf := listP s n) HO.out HN.out)
    clear hor10
    generalize hob : o.isNone = ob at *
    have HOB := hide hob
    clear hob
    go_wp2_with fail
    refine (rspaces_any B mb s q1 ob a m _ hm10 hB).mono ?_
    rintro e w11 ⟨rfl, hm11, hk11⟩
    have hs11 : Sb w11 sb 58 (bytesOf pw) noB noB false i j nt (.slice none 0 0) := hk11.at hs10 (by decide)
    go_wp2_with fail
    refine (must_any B mb s ⟨#[41]⟩ _ ob a m _ hm11 hB (by decide) (by decide)).mono ?_
    rintro e w12 ⟨rfl, hm12, hk12⟩
    have hs12 : Sb w12 sb 58 (bytesOf pw) noB noB false i j nt (.slice none 0 0) := hk12.at hs11 (by decide)
    have hm12' : Mk w12 mb s (mustP s [41] (spR s q1 ob) ob).1 (mustP s [41] (spR s q1 ob) ob).2 a m := hm12
    go_wp2
    go_end0
    rw [HE.out]
    refine ⟨rfl, (hkH.trans hk11.tm).trans hk12.tm, ?_⟩
    have HR : ob = true → (mustP s [41] (spR s q1 ob) ob).2 = true := fun e => by rw [e]; rfl
    generalize mustP s [41] (spR s q1 ob) ob = r at *
    obtain ⟨r1, r2⟩ := r
    dsimp only at *
    cases r2
    · cases o with
      | none => exact absurd (HR HOB.out.symm) (by simp)
      | some z =>
        obtain ⟨rfl, rfl, rfl⟩ := HZ.out z rfl
        refine .inl ⟨_, _, _, _, _, _, _, _, _, _, rfl, ?_, hs12, ⟨_, _, _, rfl⟩, _, ?_, RepL.nil _ _ _ _⟩
        · dsimp only; rw [show max m (others + 0) = m from by omega]; exact hm12'
        · have e2 := pseudo_word HW.out noB noAttr
          show _ = refCells 8 _ _ _ _
          unfold refCells sbCells nthR
          rw [show (8 : Nat) = kindOf 7 from rfl, e2.1, e2.2]; rfl
    · exact .inr ⟨rfl, a, m, _, _, _, _, _, _, _, _, _, hm12', hs12, _, _, _, rfl⟩
  · have e2 : (k : Int) ≠ 7 := by omega
    have e3 : ((k : Int) == 7) = false := by simp; omega
    have hk56 : k = 5 ∨ k = 6 := by omega
    have hpl2 := pseudo_list (lf := listP s n) HO.out hk56
    go_wp2_with fail
    generalize w7.setCell ⟨sb, 1, none⟩ (.string (bytesOf pw)) = w8 at *
    clear c7 f1 m1 hs7 hm7 kk8 ws7 hkE
    rw [show (others : Int) + 1 = ((others + 1 : Nat) : Int) from by omega]
    refine (IH (others + 1) q a m _ hm8 (by omega) (by omega) (by omega)).mono ?_
    rintro e w9 ⟨lv, rfl, ⟨la, lm, lc, rfl⟩, hk9, hor9⟩
    have hs9 : Sb w9 sb 58 (bytesOf pw) noB noB false 0 0 noB (.slice none 0 0) := hk9.at hs8 (by decide)
    have hkG := hkF.trans hk9.tm
    clear hs8 hm8 hkF
    obtain ⟨⟨m0, m1, m2, m3, m4, m5, m6, m7, m8⟩, fz⟩ := cells9 hs9
    have f8 := fz 8
    have hs10 : Sb (w9.setCell ⟨sb, 8, none⟩ (.slice la lm lc)) sb 58 (bytesOf pw) noB noB false 0 0 noB (.slice la lm lc) := set_blk (o := 8) hs9 (.slice la lm lc)
    have kk10 := (Kp.refl 0 [104] w9).setCell (p := ⟨sb, 8, none⟩) hs9 (by simp) (Nat.zero_le _) (.slice la lm lc)
    have hkH := hkG.setCell (p := ⟨sb, 8, none⟩) hs9 (by simp [TM]) hBs (.slice la lm lc)
    clear fz m0 m1 m2 m3 m4 m5 m6 m7
    obtain ⟨bad, a', m', hm9, HOR⟩ : ∃ bad a' m', Mk w9 mb s (listP s n q).1 bad a' m' ∧ Hid ((bad = false ∧ ∃ l cn d, (listP s n q).2 = some (l, cn, d) ∧ a' = a + cn ∧ m' = max m (others + 1 + d) ∧ RepL docL (fun g => w8.heap.size ≤ g) w9 n (.slice la lm lc) l) ∨ (bad = true ∧ ((listP s n q).2 = none ∨ ((listP s n q).1 < s.size ∧ peekI s (listP s n q).1 ≠ 41)))) := by
      rcases hor9 with ⟨l, cn, d, hl, hm, hr⟩ | ⟨a', m', hm, hl⟩
      · exact ⟨false, _, _, hm, hide (.inl ⟨rfl, l, cn, d, hl, rfl, rfl, hr⟩)⟩
      · refine ⟨true, _, _, hm, hide (.inr ⟨rfl, ?_⟩)⟩
        rcases hl with hl | ⟨h1, _, h3⟩
        · exact .inl hl
        · exact .inr ⟨h1, fun e => absurd (h3 e) (by omega)⟩
    have hm10 := hm9.kept kk10 (by decide)
    clear hor9
    go_wp2_with fail
    refine (must_any B mb s ⟨#[41]⟩ _ bad a' m' _ hm10 hB (by decide) (by decide)).mono ?_
    rintro e w12 ⟨rfl, hm12, hk12⟩
    have hs12 : Sb w12 sb 58 (bytesOf pw) noB noB false 0 0 noB (.slice la lm lc) := hk12.at hs10 (by decide)
    have hm12' : Mk w12 mb s (mustP s [41] (listP s n q).1 bad).1 (mustP s [41] (listP s n q).1 bad).2 a' m' := hm12
    go_wp2
    go_end0
    refine ⟨rfl, hkH.trans hk12.tm, ?_⟩
    rcases HOR.out with ⟨rfl, l, cn, d, hl, rfl, rfl, hr⟩ | ⟨rfl, hl⟩
    · have HE := hpl2.2 (listP s n q).1 (l, cn, d) (by rw [← hl])
      rw [HE]
      generalize mustP s [41] (listP s n q).1 false = r at *
      obtain ⟨r1, r2⟩ := r
      dsimp only at *
      cases r2
      · refine .inl ⟨_, _, _, _, _, _, _, _, _, _, rfl, ?_, hs12, ⟨_, _, _, rfl⟩, _, ?_, ((hr.map (Fr.setOther (a := ⟨sb, 8, none⟩) (fun g hg => by show g ≠ sb; omega) _)).map (Fr.ofMk hk12)).map (Fr.same fun g hg => by omega)⟩
        · dsimp only; rw [show others + (d + 1) = others + 1 + d from by omega]; exact hm12'
        · have e2 := pseudo_word HW.out noB noAttr
          have e3 : kindOf k ≠ 8 := by unfold kindOf; rw [if_neg (by omega), if_neg (by omega)]; omega
          show _ = refCells _ _ _ _ _
          unfold refCells sbCells nthR
          rw [e2.1, e2.2, if_neg e3]; rfl
      · exact .inr ⟨rfl, _, _, _, _, _, _, _, _, _, _, _, hm12', hs12, _, _, _, rfl⟩
    · have HE : pseudoRP (listP s n) s p = ((listP s n q).1, none) := by
        rcases hl with hl | ⟨_, h41⟩
        · exact hpl2.1 _ (by rw [← hl])
        · cases hx : (listP s n q).2 with
          | none => exact hpl2.1 _ (by rw [← hx])
          | some x =>
            rw [hpl2.2 _ x (by rw [← hx]), mustP_no (c := 41) (t := []) (by exact h41)]; rfl
      rw [HE]
      exact .inr ⟨rfl, _, _, _, _, _, _, _, _, _, _, _, hm12', hs12, _, _, _, rfl⟩
end Go.Proofs.YtclpcnignheijaaGreatDoor
namespace Go.Proofs.YtclpcnignheijaaGreatDoor
open Go.RowKit

section
variable {lf : Nat → Nat × Option (SLst × Nat × Nat)} {s : ByteArray} {p : Nat}
theorem openR_one (c : UInt8) (k : Nat) (h0 : openW.findIdx? (· == ([c] : List UInt8)) = some k) (h : peekI s p = (c.toNat : Int)) (hg : goesOn openW [] (c.toNat : Int) = true) : oneP s openW 13 [] p = (p + 1, some k) := by
  have hi : openW.findIdx? (· == ([] : List UInt8)) = none := by decide
  rw [oneP_go hi (by rw [h]; exact hg), h]
  have e : ([] : List UInt8) ++ [UInt8.ofNat (c.toNat : Int).toNat] = [c] := by simp
  rw [e, oneP, h0]
theorem simple_id (h : peekI s p = 35) : simpleP lf s p = ((wordP s (p + 1)).1, (wordP s (p + 1)).2.map fun x => (.mk 0 x noAttr noNth [], 1, 0)) := by
  unfold simpleP
  rw [openR_one 35 0 (by decide) h (by decide)]; dsimp only
  unfold askedP
  rw [if_pos (by omega)]
  cases (wordP s (p + 1)).2 <;> rfl
theorem simple_class (h : peekI s p = 46) : simpleP lf s p = ((wordP s (p + 1)).1, (wordP s (p + 1)).2.map fun x => (.mk 1 x noAttr noNth [], 1, 0)) := by
  unfold simpleP
  rw [openR_one 46 1 (by decide) h (by decide)]; dsimp only
  unfold askedP
  rw [if_pos (by omega)]
  cases (wordP s (p + 1)).2 <;> rfl
theorem simple_attr (h : peekI s p = 91) : simpleP lf s p = ((askRP s (p + 1)).1, (askRP s (p + 1)).2.map fun x => (.mk 2 noB x noNth [], 1, 0)) := by
  unfold simpleP
  rw [openR_one 91 2 (by decide) h (by decide)]; dsimp only
  unfold askedP askRP
  rw [if_neg (by omega), if_pos rfl]
  generalize attrQP s (p + 1) = r
  obtain ⟨q, o⟩ := r
  cases o with
  | none => rfl
  | some y =>
    dsimp only [Option.map]
    have e2 : closeW 2 = [93] := rfl
    rw [e2]
    cases (expP s [93] q).2 <;> rfl
theorem simple_colon (h : peekI s p = 58) : simpleP lf s p = ((pseudoRP lf s (p + 1)).1, (pseudoRP lf s (p + 1)).2.map fun x => (x.1, x.2.1 + 1, x.2.2)) := by
  unfold simpleP pseudoRP
  rw [open_colon s p h]
  generalize oneP s pseudoW 12 [] (p + 1) = r
  obtain ⟨q, o⟩ := r
  cases o with
  | none => rfl
  | some k =>
    dsimp only [Option.map]
    generalize askedP lf s (kindOf k) q = r2
    obtain ⟨q2, o2⟩ := r2
    cases o2 with
    | none => rfl
    | some x =>
      dsimp only
      cases (expP s (closeW (kindOf k)) q2).2 <;> rfl
theorem atB_cases {b : Int} (h : atB b = true) : b = 35 ∨ b = 46 ∨ b = 91 ∨ b = 58 := by
  unfold atB at h
  simp only [Bool.or_eq_true, beq_iff_eq] at h
  omega
theorem atB_no {b : Int} (h : atB b = false) : b ≠ 35 ∧ b ≠ 46 ∧ b ≠ 91 ∧ b ≠ 58 := by
  unfold atB at h
  simp only [Bool.or_eq_false_iff, beq_eq_false_iff_ne, ne_eq] at h
  exact ⟨h.1.1.1, h.1.1.2, h.1.2, h.2⟩
/-- The loop over simples: where it stands. -/
theorem sims_stop {f : Nat} {l : List Sim} {c d : Nat} (h : atB (peekI s p) = false) : simplesP lf s (f + 1) l c d p = (p, some (l, c, d)) := by
  rw [simplesP, h]; rfl
theorem sims_none {f : Nat} {l : List Sim} {c d q : Nat} (h : atB (peekI s p) = true) (h1 : simpleP lf s p = (q, none)) : simplesP lf s (f + 1) l c d p = (q, none) := by
  rw [simplesP, h, if_pos rfl, h1]
theorem sims_go {f : Nat} {l : List Sim} {c d q : Nat} {x : Sim × Nat × Nat} (h : atB (peekI s p) = true) (h1 : simpleP lf s p = (q, some x)) : simplesP lf s (f + 1) l c d p = simplesP lf s f (l ++ [x.1]) (c + x.2.1) (max d x.2.2) q := by
  rw [simplesP, h, if_pos rfl, h1]
end
/-- What the reading of one simple comes to, at the document's reader: well, or gone wrong. -/
def SimR (mb sb : Nat) (s : ByteArray) (n others p a m : Nat) (w w' : World) (so : Int) (wd op va : ByteArray) (sm : Bool) (i j : Int) (nt : ByteArray) (lv : Value) : Prop :=
  Sb w' sb so wd op va sm i j nt lv ∧ (∃ la lm lc, lv = .slice la lm lc) ∧
    ((∃ x, (simpleP (listP s n) s p).2 = some x ∧ Mk w' mb s (simpleP (listP s n) s p).1 false (a + x.2.1) (max m (others + x.2.2)) ∧ repS docL (RepL docL (fun g => w.heap.size ≤ g) w' n) x.1 (sbCells so wd op va sm i j nt lv)) ∨
     ((simpleP (listP s n) s p).2 = none ∧ ∃ a' m', Mk w' mb s (simpleP (listP s n) s p).1 true a' m'))
theorem simR_word {mb sb : Nat} {s : ByteArray} {n others p a m k : Nat} {w w' : World} {so : Int} {x : ByteArray} (hk : (k = 0 ∧ so = 35) ∨ (k = 1 ∧ so = 46)) (hp : peekI s p = so) (hom : others ≤ m) (hs : Sb w' sb so x noB noB false 0 0 noB (.slice none 0 0))
    (hor : ((wordP s (p + 1)).2 = some x ∧ Mk w' mb s (wordP s (p + 1)).1 false (a + 1) m) ∨ ((wordP s (p + 1)).2 = none ∧ Mk w' mb s (wordP s (p + 1)).1 true (a + 1) m)) : SimR mb sb s n others p a m w w' so x noB noB false 0 0 noB (.slice none 0 0) := by
  refine ⟨hs, ⟨_, _, _, rfl⟩, ?_⟩
  have e : simpleP (listP s n) s p = ((wordP s (p + 1)).1, (wordP s (p + 1)).2.map fun x => (.mk k x noAttr noNth [], 1, 0)) := by
    rcases hk with ⟨rfl, rfl⟩ | ⟨rfl, rfl⟩
    · exact simple_id hp
    · exact simple_class hp
  rw [e]
  rcases hor with ⟨ho, hm⟩ | ⟨ho, hm⟩
  · rw [ho]
    refine .inl ⟨_, rfl, ?_, _, ?_, RepL.nil _ _ _ _⟩
    · dsimp only; rw [show max m (others + 0) = m from by omega]; exact hm
    · rcases hk with ⟨rfl, rfl⟩ | ⟨rfl, rfl⟩ <;> rfl
  · rw [ho]
    exact .inr ⟨rfl, _, _, hm⟩
theorem simR_attr {mb sb : Nat} {s : ByteArray} {n others p a m : Nat} {w w' : World} (hp : peekI s p = 91) (hom : others ≤ m)
    (hor : ((∃ y, (askRP s (p + 1)).2 = some y ∧ Mk w' mb s (askRP s (p + 1)).1 false (a + 1) m ∧ Sb w' sb 91 y.name y.op y.val y.any 0 0 noB (.slice none 0 0)) ∨ ((askRP s (p + 1)).2 = none ∧ Mk w' mb s (askRP s (p + 1)).1 true (a + 1) m ∧ ∃ wd op va sm, Sb w' sb 91 wd op va sm 0 0 noB (.slice none 0 0)))) :
    ∃ wd op va sm, SimR mb sb s n others p a m w w' 91 wd op va sm 0 0 noB (.slice none 0 0) := by
  rcases hor with ⟨y, ho, hm, hs⟩ | ⟨ho, hm, wd, op, va, sm, hs⟩
  · refine ⟨_, _, _, _, hs, ⟨_, _, _, rfl⟩, ?_⟩
    rw [simple_attr hp, ho]
    refine .inl ⟨_, rfl, ?_, _, rfl, RepL.nil _ _ _ _⟩
    dsimp only; rw [show max m (others + 0) = m from by omega]; exact hm
  · refine ⟨_, _, _, _, hs, ⟨_, _, _, rfl⟩, ?_⟩
    rw [simple_attr hp, ho]
    exact .inr ⟨rfl, _, _, hm⟩
theorem simR_colon {mb sb : Nat} {s : ByteArray} {n others p a m : Nat} {w w' : World} (hp : peekI s p = 58)
    (hor : ((∃ x so wd op va sm i j nt lv, (pseudoRP (listP s n) s (p + 1)).2 = some x ∧ Mk w' mb s (pseudoRP (listP s n) s (p + 1)).1 false (a + 1 + x.2.1) (max m (others + x.2.2)) ∧ Sb w' sb so wd op va sm i j nt lv ∧ (∃ la lm lc, lv = .slice la lm lc) ∧ repS docL (RepL docL (fun g => w.heap.size ≤ g) w' n) x.1 (sbCells so wd op va sm i j nt lv)) ∨
       ((pseudoRP (listP s n) s (p + 1)).2 = none ∧ ∃ a' m' so wd op va sm i j nt lv, Mk w' mb s (pseudoRP (listP s n) s (p + 1)).1 true a' m' ∧ Sb w' sb so wd op va sm i j nt lv ∧ (∃ la lm lc, lv = .slice la lm lc)))) :
    ∃ so wd op va sm i j nt lv, SimR mb sb s n others p a m w w' so wd op va sm i j nt lv := by
  rcases hor with ⟨x, so, wd, op, va, sm, i, j, nt, lv, ho, hm, hs, hl, hr⟩ | ⟨ho, a', m', so, wd, op, va, sm, i, j, nt, lv, hm, hs, hl⟩
  · refine ⟨so, wd, op, va, sm, i, j, nt, lv, hs, hl, ?_⟩
    rw [simple_colon hp, ho]
    refine .inl ⟨_, rfl, ?_, hr⟩
    dsimp only; rw [show a + (x.2.1 + 1) = a + 1 + x.2.1 from by omega]; exact hm
  · refine ⟨so, wd, op, va, sm, i, j, nt, lv, hs, hl, ?_⟩
    rw [simple_colon hp, ho]
    exact .inr ⟨rfl, _, _, hm⟩
end Go.Proofs.YtclpcnignheijaaGreatDoor
namespace Go.Proofs.YtclpcnignheijaaGreatDoor
open Go.RowKit

def CompR (B mb : Nat) (s : ByteArray) (n others p a m : Nat) (w : World) (e : Ending) (w' : World) : Prop :=
  ∃ (nm : ByteArray) (sv : Value), e = .returned (.agg #[.int .u8 0, .string nm, sv]) ∧ Kp B [153] w w' ∧ (∃ la lm lc, sv = .slice la lm lc) ∧
    ((∃ ms cn d, (compoundP (listP s n) s p).2 = some ((nm, ms), cn, d) ∧ Mk w' mb s (compoundP (listP s n) s p).1 false (a + cn) (max m (others + d)) ∧ repM docL (fun g => w.heap.size ≤ g) w' (RepL docL (fun g => w.heap.size ≤ g) w' n) sv ms) ∨
     ((compoundP (listP s n) s p).2 = none ∧ ∃ a' m', Mk w' mb s (compoundP (listP s n) s p).1 true a' m'))
theorem Tryz.infoRSim : (Tryz.prog.info? 104).map (fun i => (i.zero, i.size, i.bytes)) = some (some (.agg #[.int .u8 0, .string ⟨#[]⟩, .string ⟨#[]⟩, .string ⟨#[]⟩, .bool false, .int .i64 0, .int .i64 0, .string ⟨#[]⟩, .slice none 0 0]), 9, 120) := by kernel_rfl
theorem own_slice' {w : World} {base : Nat} {e : TypeId} {size : Nat} {v : Value} {n : Nat} {xs : List Value} (h : w.ownsRow base e size v n xs) : ∃ la lc, v = .slice la n lc := by
  rcases h.2 with ⟨hv, hn⟩ | ⟨g, cap, cur, hv, _⟩
  · exact ⟨none, 0, by rw [hn]; exact hv⟩
  · exact ⟨_, _, hv⟩
theorem sbCells_one (so : Int) (wd op va : ByteArray) (sm : Bool) (x y : Int) (nt : ByteArray) (la : Option Addr) (lm lc : Nat) : ∀ u ∈ sbCells so wd op va sm x y nt (.slice la lm lc), u.oneCell' = true := by
  intro u hu
  simp only [sbCells, List.mem_cons, List.not_mem_nil, or_false] at hu
  rcases hu with rfl | rfl | rfl | rfl | rfl | rfl | rfl | rfl | rfl <;> rfl
def badM (w : World) (mb : Nat) : Bool := match w.cell? ⟨mb, 2, none⟩ with | some (.bool b) => b | _ => false
theorem Mk.badM {w : World} {mb : Nat} {s : ByteArray} {p : Nat} {bad : Bool} {a m : Nat} (h : Mk w mb s p bad a m) : badM w mb = bad := by unfold Go.Proofs.YtclpcnignheijaaGreatDoor.badM; rw [h.c2]
theorem Ks.owns {B sb : Nat} {w w' : World} (h : Ks B sb w w') {base : Nat} {e : TypeId} {size : Nat} {v : Value} {n : Nat} {xs : List Value} (ho : w.ownsRow base e size v n xs) (ht : e ≠ 153) (hne : ∀ g, v.ownBlock = some g → g ≠ sb) : w'.ownsRow base e size v n xs := by
  obtain ⟨h1, h2⟩ := ho
  refine ⟨h1, ?_⟩
  rcases h2 with h2 | ⟨g, cap, cur, hv, hg, hh, r⟩
  · exact .inl h2
  · exact .inr ⟨g, cap, cur, hv, hg, h.at hh ht (hne g (by rw [hv]; rfl)), r⟩
/-- What lay there when the simple's block was made. -/
theorem Fr.ofKs {P P' : Nat → Prop} {w w' : World} {B sb : Nat} (k : Ks B sb w w') (hs : w.heap.size ≤ sb) (hp : ∀ g, P g → P' g) : Fr docL P P' w w' := fun g c t hg hb ht => ⟨hp g hg, k.at hb (by rcases ht with rfl | rfl | rfl <;> decide) (by have := lt_of_block hb; omega)⟩
theorem compR_done {lf : Nat → Nat × Option (SLst × Nat × Nat)} {s : ByteArray} {p q0 q : Nat} {nm : ByteArray} {o : Option (List Sim × Nat × Nat)} (h0 : headP s p = (q0, some nm)) (h1 : simplesP lf s (s.size + 1) [] 0 0 q0 = (q, o)) : compoundP lf s p = (q, o.map fun x => ((nm, x.1), x.2.1, x.2.2)) := by
  unfold compoundP; rw [h0]; dsimp only; rw [h1]; cases o <;> rfl
theorem cell3 {w : World} {b : Nat} {x y z : Value} {t : TypeId} (h : w.heap[b]? = some (.cells #[x, y, z] t (0, 0))) : w.cell? ⟨b, 0, none⟩ = some x ∧ w.cell? ⟨b, 1, none⟩ = some y ∧ w.cell? ⟨b, 2, none⟩ = some z := by simp [World.cell?, h]
theorem fin3 {w : World} {R : Nat} {t : TypeId} {x0 x1 x2 : Value} (h : w.heap[R]? = some (.cells #[x0, x1, x2] t (0, 0))) (v0 v1 v2 : Value) :
    (((w.setCell ⟨R, 0, none⟩ v0).setCell ⟨R, 1, none⟩ v1).setCell ⟨R, 2, none⟩ v2).heap[R]? = some (.cells #[v0, v1, v2] t (0, 0)) ∧ (∀ k, k ≠ R → (((w.setCell ⟨R, 0, none⟩ v0).setCell ⟨R, 1, none⟩ v1).setCell ⟨R, 2, none⟩ v2).heap[k]? = w.heap[k]?) := by
  have h0 := set_blk (o := 0) h v0
  have h1 := set_blk (o := 1) h0 v1
  have h2 := set_blk (o := 2) h1 v2
  refine ⟨by simpa using h2, fun k hk => ?_⟩
  rw [Below.heap_setCell _ _ _ _ hk, Below.heap_setCell _ _ _ _ hk, Below.heap_setCell _ _ _ _ hk]
theorem owns_other {w w' : World} {R base : Nat} {e : TypeId} {size : Nat} {v : Value} {n : Nat} {xs : List Value} (ho : ∀ k, k ≠ R → w'.heap[k]? = w.heap[k]?) (h : w.ownsRow base e size v n xs) (hR : R < base) : w'.ownsRow base e size v n xs := by
  have hl := h.lt
  obtain ⟨h1, h2⟩ := h
  refine ⟨h1, ?_⟩
  rcases h2 with h2 | ⟨g, cap, cur, hv, hg, hh, r⟩
  · exact .inl h2
  · have := (hl g (by rw [hv]; rfl)).1
    exact .inr ⟨g, cap, cur, hv, hg, by rw [ho g (by omega)]; exact hh, r⟩
theorem Fr.drewN (L : Lay) (P : Nat → Prop) (w : World) (n : Nat) : Fr L P P w (w.drewN n) := fun _ _ _ hg hb _ => ⟨hg, hb⟩
/-- Where the loop of compound stands. -/
structure CompI (B mb : Nat) (s : ByteArray) (n others p a m : Nat) (w : World) (NM : ByteArray) (Q0 : Nat) (wr : World) (q : Nat) (bad : Bool) (a' m' k : Nat) (sv : Value) (xs : List Value) : Prop where
  mkr : Mk wr mb s q bad a' m'
  rs : wr.heap[w.heap.size]? = some (.cells #[.int .u8 0, .string ⟨#[]⟩, .slice none 0 0] 102 (0, 0))
  ns : wr.heap[w.heap.size + 1]? = some (.cells #[.int .u8 0, .string NM, sv] 102 (0, 0))
  own : wr.ownsRow (w.heap.size + 2) 104 9 sv k xs
  kp : Kp B [153] w wr
  fst : k = 0 → bad = false ∧ q = Q0
  st : (bad = false ∧ ∃ f cn d l, l.length = k ∧ k ≤ q ∧ p ≤ q ∧ a' = a + cn ∧ m' = max m (others + d) ∧ s.size < q + f ∧ p + cn ≤ q ∧ p + d ≤ q ∧ Row (repS docL (RepL docL (fun g => w.heap.size + 2 ≤ g ∧ sv.ownBlock ≠ some g) wr n)) l xs ∧ simplesP (listP s n) s f l cn d q = simplesP (listP s n) s (s.size + 1) [] 0 0 Q0) ∨
    (bad = true ∧ simplesP (listP s n) s (s.size + 1) [] 0 0 Q0 = (q, none))
section
variable {B mb : Nat} {s : ByteArray} {n others p a m : Nat} {w W W' : World} {nm : ByteArray} {q k : Nat} {la : Option Addr} {lc : Nat} {xs : List Value}
theorem kp_other (hk : Kp B [153] w W) (oF : ∀ j, j ≠ w.heap.size → W'.heap[j]? = W.heap[j]?) (e1 : W'.os = W.os) (e2 : W'.tape = W.tape) (e3 : W'.output = W.output) (e4 : W'.heap.size = W.heap.size) : Kp B [153] w W' :=
  ⟨e1.trans hk.os, e2.trans hk.tape, e3.trans hk.output, by rw [e4]; exact hk.size, fun j hj hc => by rw [oF j (by omega)]; exact hk.block j hj hc⟩
theorem mk_other {bad : Bool} {a' m' : Nat} {v0 v1 v2 : Value} (hm : Mk W mb s q bad a' m') (rs : W.heap[w.heap.size]? = some (.cells #[v0, v1, v2] 102 (0, 0))) (oF : ∀ j, j ≠ w.heap.size → W'.heap[j]? = W.heap[j]?) : Mk W' mb s q bad a' m' :=
  ⟨by rw [oF mb (block_ne hm.blk rs (by decide))]; exact hm.blk, hm.le, hm.max⟩
theorem compE_bad {a' m' : Nat} {v0 v1 v2 sv : Value} (hm : Mk W mb s q true a' m') (rs : W.heap[w.heap.size]? = some (.cells #[v0, v1, v2] 102 (0, 0))) (hk : Kp B [153] w W) (oF : ∀ j, j ≠ w.heap.size → W'.heap[j]? = W.heap[j]?)
    (e : W'.os = W.os ∧ W'.tape = W.tape ∧ W'.output = W.output ∧ W'.heap.size = W.heap.size) (hs : ∃ la lm lc, sv = .slice la lm lc) :
    ∃ (nm' : ByteArray) (sv' : Value), Ending.returned (.agg #[.int .u8 0, .string nm, sv]) = .returned (.agg #[.int .u8 0, .string nm', sv']) ∧ Kp B [153] w W' ∧ (∃ la lm lc, sv' = .slice la lm lc) ∧
    ((∃ ms cn d, ((q, none) : Nat × Option ((ByteArray × List Sim) × Nat × Nat)).2 = some ((nm', ms), cn, d) ∧ Mk W' mb s ((q, none) : Nat × Option ((ByteArray × List Sim) × Nat × Nat)).1 false (a + cn) (max m (others + d)) ∧ repM docL (fun g => w.heap.size ≤ g) W' (RepL docL (fun g => w.heap.size ≤ g) W' n) sv' ms) ∨
     (((q, none) : Nat × Option ((ByteArray × List Sim) × Nat × Nat)).2 = none ∧ ∃ a' m', Mk W' mb s ((q, none) : Nat × Option ((ByteArray × List Sim) × Nat × Nat)).1 true a' m')) :=
  ⟨nm, _, rfl, kp_other hk oF e.1 e.2.1 e.2.2.1 e.2.2.2, hs, .inr ⟨rfl, a', m', mk_other hm rs oF⟩⟩
theorem compE_good {cn d : Nat} {l : List Sim} {v0 v1 v2 : Value} (hm : Mk W mb s q false (a + cn) (max m (others + d))) (rs : W.heap[w.heap.size]? = some (.cells #[v0, v1, v2] 102 (0, 0))) (hk : Kp B [153] w W) (oF : ∀ j, j ≠ w.heap.size → W'.heap[j]? = W.heap[j]?)
    (e : W'.os = W.os ∧ W'.tape = W.tape ∧ W'.output = W.output ∧ W'.heap.size = W.heap.size) (own : W.ownsRow (w.heap.size + 2) 104 9 (.slice la k lc) k xs) (hl : l.length = k)
    (hrow : Row (repS docL (RepL docL (fun g => w.heap.size + 2 ≤ g ∧ (Value.slice la k lc).ownBlock ≠ some g) W n)) l xs) :
    ∃ (nm' : ByteArray) (sv' : Value), Ending.returned (.agg #[.int .u8 0, .string nm, .slice la k lc]) = .returned (.agg #[.int .u8 0, .string nm', sv']) ∧ Kp B [153] w W' ∧ (∃ la lm lc, sv' = .slice la lm lc) ∧
    ((∃ ms cn' d', ((q, some ((nm, l), cn, d)) : Nat × Option ((ByteArray × List Sim) × Nat × Nat)).2 = some ((nm', ms), cn', d') ∧ Mk W' mb s ((q, some ((nm, l), cn, d)) : Nat × Option ((ByteArray × List Sim) × Nat × Nat)).1 false (a + cn') (max m (others + d')) ∧ repM docL (fun g => w.heap.size ≤ g) W' (RepL docL (fun g => w.heap.size ≤ g) W' n) sv' ms) ∨
     (((q, some ((nm, l), cn, d)) : Nat × Option ((ByteArray × List Sim) × Nat × Nat)).2 = none ∧ ∃ a' m', Mk W' mb s ((q, some ((nm, l), cn, d)) : Nat × Option ((ByteArray × List Sim) × Nat × Nat)).1 true a' m')) := by
  subst hl
  refine ⟨nm, _, rfl, kp_other hk oF e.1 e.2.1 e.2.2.1 e.2.2.2, ⟨_, _, _, rfl⟩, .inl ⟨l, cn, d, rfl, mk_other hm rs oF, xs, ⟨owns_base (owns_other oF own (by omega)) (Nat.zero_le _), fun g hg => by have := (own.lt g hg).1; omega⟩, hrow.mono fun _ _ hh => hh.mp ?_⟩⟩
  intro g c t hg hb _
  exact ⟨by omega, by rw [oF g (by omega)]; exact hb⟩
theorem fin3_same {R : Nat} {v0 v1 v2 : Value} : (((W.setCell ⟨R, 0, none⟩ v0).setCell ⟨R, 1, none⟩ v1).setCell ⟨R, 2, none⟩ v2).os = W.os ∧ (((W.setCell ⟨R, 0, none⟩ v0).setCell ⟨R, 1, none⟩ v1).setCell ⟨R, 2, none⟩ v2).tape = W.tape ∧ (((W.setCell ⟨R, 0, none⟩ v0).setCell ⟨R, 1, none⟩ v1).setCell ⟨R, 2, none⟩ v2).output = W.output ∧ (((W.setCell ⟨R, 0, none⟩ v0).setCell ⟨R, 1, none⟩ v1).setCell ⟨R, 2, none⟩ v2).heap.size = W.heap.size :=
  ⟨rfl, rfl, rfl, by simp [World.setCell]⟩
end
end Go.Proofs.YtclpcnignheijaaGreatDoor
