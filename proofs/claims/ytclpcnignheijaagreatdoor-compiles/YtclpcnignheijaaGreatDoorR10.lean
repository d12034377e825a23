import Derived.Test.YtclpcnignheijaaGreatDoorR7
namespace Go.Proofs.YtclpcnignheijaaGreatDoor
open Go.RowKit

set_option maxHeartbeats 1000000 in
theorem among_bad (B mb g cap n : Nat) (s : ByteArray) (p a m : Nat) (w : World) (h : Mk w mb s p true a m) :
    Calls Tryz.prog 132 #[.pointer (some ⟨mb, 0, none⟩), .slice (some ⟨g, 0, none⟩) n cap] w fun e w' => e = .returned (.int .i64 (-1)) ∧ Mk w' mb s p true a m ∧ Kp B [153] w w' := by
  have d1 := h.c1; have d2 := h.c2
  go_enter Tryz.func132, Tryz.ntmps132
  go_wp2
  go_loopw [14] (fun _ wr => wr = w) (fun _ _ => 0)
  case atStart => rfl
  case round =>
    obtain rfl := hrel
    go_wp2
    go_ret
    exact ⟨rfl, h, Kp.refl _ _ _⟩

def askRP (s : ByteArray) (p : Nat) : Nat × Option AttrQ :=
  match attrQP s p with
  | (q, none) => (q, none)
  | (q, some y) => ((expP s [93] q).1, if (expP s [93] q).2 = true then some y else none)
def RAsk (B mb sb : Nat) (s : ByteArray) (p a m : Nat) (so : Int) (lv : Value) (w : World) : Prop :=
    Calls Tryz.prog 179 #[.pointer (some ⟨mb, 0, none⟩), .pointer (some ⟨sb, 0, none⟩)] w fun e w' => e = .returned (.tuple #[]) ∧ Ks B sb w w' ∧
      ((∃ y, (askRP s p).2 = some y ∧ Mk w' mb s (askRP s p).1 false a m ∧ Sb w' sb so y.name y.op y.val y.any 0 0 noB lv) ∨ ((askRP s p).2 = none ∧ Mk w' mb s (askRP s p).1 true a m ∧ ∃ wd op va sm, Sb w' sb so wd op va sm 0 0 noB lv))

/-- Behind what is asked against: the place, has it gone wrong, did an i stand there. -/
def tailI (s : ByteArray) (q : Nat) (bad : Bool) : Bool := nextI s (spR s q bad) bad == 105
def tailQ (s : ByteArray) (q : Nat) (bad : Bool) : Nat := spR s (if tailI s q bad = true then spR s q bad + 1 else spR s q bad) bad
theorem ask_none1 {s : ByteArray} {p q : Nat} (h : newP s (spP s p) noneTaken = (q, none)) : askRP s p = (q, none) := by
  unfold askRP attrQP; rw [h]
theorem ask_end {s : ByteArray} {p q : Nat} {n : ByteArray} (h : newP s (spP s p) noneTaken = (q, some n)) (h1 : peekI s (spP s q) = 93) : askRP s p = (spP s q + 1, some ⟨n, noB, noB, false⟩) := by
  unfold askRP attrQP
  rw [h]; dsimp only; rw [if_pos h1]; dsimp only
  have e : expP s [93] (spP s q) = (spP s q + 1, true) := by rw [expP, if_pos ⟨by decide, h1⟩, expP]
  rw [e]; rfl
theorem ask_none2 {s : ByteArray} {p q q2 : Nat} {n : ByteArray} (h : newP s (spP s p) noneTaken = (q, some n)) (h1 : peekI s (spP s q) ≠ 93) (h2 : oneP s opsW 3 [] (spP s q) = (q2, none)) : askRP s p = (q2, none) := by
  unfold askRP attrQP
  rw [h]; dsimp only; rw [if_neg h1, h2]
theorem ask_none3 {s : ByteArray} {p q q2 q3 i : Nat} {n : ByteArray} (h : newP s (spP s p) noneTaken = (q, some n)) (h1 : peekI s (spP s q) ≠ 93) (h2 : oneP s opsW 3 [] (spP s q) = (q2, some i)) (h3 : againstP s (spP s q2) = (q3, none)) : askRP s p = (q3, none) := by
  unfold askRP attrQP
  rw [h]; dsimp only; rw [if_neg h1, h2]; dsimp only; rw [h3]
theorem ask_some {s : ByteArray} {p q q2 q3 i : Nat} {n x : ByteArray} (h : newP s (spP s p) noneTaken = (q, some n)) (h1 : peekI s (spP s q) ≠ 93) (h2 : oneP s opsW 3 [] (spP s q) = (q2, some i)) (h3 : againstP s (spP s q2) = (q3, some x)) :
    askRP s p = ((mustP s [93] (tailQ s q3 false) false).1, if (mustP s [93] (tailQ s q3 false) false).2 = false then some ⟨n, bytesOf (opsW.getD i []), x, tailI s q3 false⟩ else none) := by
  have e1 : spR s q3 false = spP s q3 := rfl
  have e2 : tailQ s q3 false = spP s (anyP s (spP s q3)).1 ∧ tailI s q3 false = (anyP s (spP s q3)).2 := by
    unfold tailQ tailI anyP
    rw [e1, nextI_ok]
    by_cases h5 : peekI s (spP s q3) = 105
    · rw [if_pos h5]; simp [h5]; rfl
    · rw [if_neg h5]; simp [h5]; rfl
  unfold askRP attrQP
  rw [h]; dsimp only; rw [if_neg h1, h2]; dsimp only; rw [h3]; dsimp only
  rw [e2.1, e2.2]
  have hm : ∀ X, mustP s [93] X false = ((expP s [93] X).1, !(expP s [93] X).2) := fun _ => rfl
  rw [hm]
  cases (expP s [93] (spP s (anyP s (spP s q3)).1)).2 <;> rfl
/-- What the way behind 'against' comes to: gone wrong there, or not. -/
theorem ask_tail {s : ByteArray} {p q q2 q3 i : Nat} {n x : ByteArray} {bad : Bool} (h : newP s (spP s p) noneTaken = (q, some n)) (h1 : peekI s (spP s q) ≠ 93) (h2 : oneP s opsW 3 [] (spP s q) = (q2, some i)) (h3 : againstP s (spP s q2) = (q3, if bad = true then none else some x)) :
    askRP s p = ((mustP s [93] (tailQ s q3 bad) bad).1, if (mustP s [93] (tailQ s q3 bad) bad).2 = false then some ⟨n, bytesOf (opsW.getD i []), x, tailI s q3 bad⟩ else none) := by
  cases bad
  · exact ask_some h h1 h2 h3
  · have e : tailQ s q3 true = q3 := by unfold tailQ tailI nextI; rfl
    rw [ask_none3 h h1 h2 h3, e]; rfl
theorem until_no {s : ByteArray} {q : Nat} (h : (peekI s q == 0) = true ∨ (peekI s q == 34) = true) : untilP s q = q := runTo_no (by
  rcases h with h | h
  · have : peekI s q = 0 := by simpa using h
    rw [this]; decide
  · have : peekI s q = 34 := by simpa using h
    rw [this]; decide)
theorem until_yes {s : ByteArray} {q : Nat} (h1 : (peekI s q == 0) = false) (h2 : (peekI s q == 34) = false) : untilP s q = untilP s (q + 1) ∧ q < s.size := by
  refine ⟨runTo_yes (by decide) (by simp at h1 h2 ⊢; exact ⟨h2, h1⟩), peekI_lt (by simpa using h1)⟩
theorem must_one {s : ByteArray} {c : UInt8} {q : Nat} (h0 : (c.toNat : Int) ≠ 0) : mustP s [c] q false = if peekI s q = (c.toNat : Int) then (q + 1, false) else (q, true) := by
  split
  · rename_i h
    rw [mustP_yes h0 h, mustP_nil]
  · rename_i h
    exact mustP_no h
theorem spR_le {s : ByteArray} {p : Nat} {bad : Bool} (h : p ≤ s.size) : p ≤ spR s p bad ∧ spR s p bad ≤ s.size := by
  unfold spR
  split
  · exact ⟨Nat.le_refl _, h⟩
  · exact spP_le h
theorem opsW_len3 : ∀ x ∈ opsW, x.length < 3 := by decide

theorem ask_end2 {w' : World} {mb sb : Nat} {s : ByteArray} {q a m : Nat} {bad : Bool} {so : Int} {n o o' x : ByteArray} {i : Bool} {lv : Value} (hm : Mk w' mb s (mustP s [93] q bad).1 (mustP s [93] q bad).2 a m) (hs : Sb w' sb so n o x i 0 0 noB lv) (ho : o' = o) :
    ((∃ y, ((mustP s [93] q bad).1, if (mustP s [93] q bad).2 = false then some (⟨n, o', x, i⟩ : AttrQ) else none).2 = some y ∧ Mk w' mb s ((mustP s [93] q bad).1, if (mustP s [93] q bad).2 = false then some (⟨n, o', x, i⟩ : AttrQ) else none).1 false a m ∧ Sb w' sb so y.name y.op y.val y.any 0 0 noB lv) ∨
     (((mustP s [93] q bad).1, if (mustP s [93] q bad).2 = false then some (⟨n, o', x, i⟩ : AttrQ) else none).2 = none ∧ Mk w' mb s ((mustP s [93] q bad).1, if (mustP s [93] q bad).2 = false then some (⟨n, o', x, i⟩ : AttrQ) else none).1 true a m ∧ ∃ wd op va sm, Sb w' sb so wd op va sm 0 0 noB lv)) := by
  subst ho
  dsimp only
  generalize mustP s [93] q bad = r at *
  obtain ⟨r1, r2⟩ := r
  dsimp only at *
  cases r2
  · exact .inl ⟨_, rfl, hm, hs⟩
  · exact .inr ⟨rfl, hm, _, _, _, _, hs⟩
set_option maxRecDepth 100000 in
set_option maxHeartbeats 8000000 in
theorem rasked_any (B mb sb : Nat) (s : ByteArray) (p a m : Nat) (so : Int) (lv : Value) (w : World) (h : Mk w mb s p false a m) (hs : Sb w sb so noB noB noB false 0 0 noB lv) (hB : B ≤ mb) (hBs : B ≤ sb) : RAsk B mb sb s p a m so lv w := by
  unfold RAsk
  go_enter Tryz.func179, Tryz.ntmps179
  go_wp2_with fail
  refine (rspaces_any B mb s p false a m _ h hB).mono ?_
  rintro e w1 ⟨rfl, h1, hk1⟩
  have hs1 : Sb w1 sb so noB noB noB false 0 0 noB lv := hk1.at hs (by decide)
  go_wp2_with fail
  refine (rword_name B mb s (spP s p) a m _ h1 hB).mono ?_
  rintro e w2 ⟨n, rfl, hk2, hor2⟩
  have hs2 : Sb w2 sb so noB noB noB false 0 0 noB lv := hk2.at hs1 (by decide)
  have hkA := (hk1.trans hk2).tm (sb := sb)
  obtain ⟨⟨m0, m1, m2, m3, m4, m5, m6, m7, m8⟩, fz⟩ := cells9 hs2
  have f1 := fz 1
  have hs3 : Sb (w2.setCell ⟨sb, 1, none⟩ (.string n)) sb so n noB noB false 0 0 noB lv := set_blk (o := 1) hs2 (.string n)
  have kk3 := (Kp.refl 0 [104] w2).setCell (p := ⟨sb, 1, none⟩) hs2 (by simp) (Nat.zero_le _) (.string n)
  have hkB := hkA.setCell (p := ⟨sb, 1, none⟩) hs2 (by simp [TM]) hBs (.string n)
  clear fz m0 m2 m3 m4 m5 m6 m7 m8 hs1 hk1 hk2 hkA
  rcases hor2 with ⟨ho, hm2⟩ | ⟨ho, hm2⟩
  rotate_left
  · have HE : Hid (askRP s p = ((newP s (spP s p) noneTaken).1, none)) := hide (ask_none1 (by rw [← ho]))
    generalize (newP s (spP s p) noneTaken).1 = q at *
    clear ho
    have hm3 := hm2.kept kk3 (by decide)
    go_wp2_with fail
    generalize w2.setCell ⟨sb, 1, none⟩ (.string n) = w3 at *
    refine (rspaces_any B mb s q true a m _ hm3 hB).mono ?_
    rintro e w4 ⟨rfl, hm4, hk4⟩
    have hs4 : Sb w4 sb so n noB noB false 0 0 noB lv := hk4.at hs3 (by decide)
    go_wp2_with fail
    refine (is_no B mb s q true a m 93 _ hm4 (by unfold nextI; rw [if_pos rfl]; decide)).mono ?_
    rintro e w5 ⟨rfl, hm5, hk5⟩
    have hs5 : Sb w5 sb so n noB noB false 0 0 noB lv := hk5.at hs4 (by decide)
    go_wp2_with fail
    refine (among_bad B mb _ _ _ s q a m _ (hm5.alloc _)).mono ?_
    rintro e w6 ⟨rfl, hm6, hk6⟩
    go_wp2
    refine bodyPost_ret (results_none Tryz.results179 _ _ _) rfl ?_
    rw [HE.out]
    exact ⟨rfl, (((hkB.trans hk4.tm).trans hk5.tm).alloc _).trans hk6.tm, .inr ⟨rfl, hm6, _, _, _, _, hk6.at (alloc_old hs5 _) (by decide)⟩⟩
  · generalize hq0 : (newP s (spP s p) noneTaken).1 = q at *
    have HN : Hid (newP s (spP s p) noneTaken = (q, some n)) := by rw [← hq0, ← ho]; rfl
    clear hq0 ho
    have hm3 := hm2.kept kk3 (by decide)
    go_wp2_with fail
    generalize w2.setCell ⟨sb, 1, none⟩ (.string n) = w3 at *
    refine (rspaces_any B mb s q false a m _ hm3 hB).mono ?_
    rintro e w4 ⟨rfl, hm4, hk4⟩
    have hs4 : Sb w4 sb so n noB noB false 0 0 noB lv := hk4.at hs3 (by decide)
    have hkC := hkB.trans hk4.tm
    by_cases h93 : peekI s (spP s q) = 93
    · have HE := hide (ask_end HN.out h93)
      have H93 := hide h93
      clear h93
      go_wp2_with fail
      refine (is_yes B mb s (spP s q) a m 93 _ hm4 hB H93.out (by decide)).mono ?_
      rintro e w5 ⟨rfl, hm5, hk5⟩
      go_wp2
      refine bodyPost_ret (results_none Tryz.results179 _ _ _) rfl ?_
      rw [HE.out]
      exact ⟨rfl, hkC.trans hk5.tm, .inl ⟨_, rfl, hm5, hk5.at hs4 (by decide)⟩⟩
    have H93 := hide h93
    clear h93
    go_wp2_with fail
    refine (is_no B mb s (spP s q) false a m 93 _ hm4 (by rw [nextI_ok]; exact H93.out)).mono ?_
    rintro e w5 ⟨rfl, hm5, hk5⟩
    have hs5 : Sb w5 sb so n noB noB false 0 0 noB lv := hk5.at hs4 (by decide)
    have hkD := (hkC.trans hk5.tm).alloc (.cells (opsW.map fun l => Value.string (bytesOf l)).toArray 9)
    have ws5 : Ws (w5.alloc (.cells (opsW.map fun l => Value.string (bytesOf l)).toArray 9)) w5.heap.size opsW := alloc_at w5 _
    have hs6 : Sb (w5.alloc (.cells (opsW.map fun l => Value.string (bytesOf l)).toArray 9)) sb so n noB noB false 0 0 noB lv := alloc_old hs5 _
    have hm6 := hm5.alloc (.cells (opsW.map fun l => Value.string (bytesOf l)).toArray 9)
    go_wp2_with fail
    refine (among_any B mb w5.heap.size 6 3 opsW s (spP s q) a m _ hm6 hB ws5 (by decide) opsW_no0 opsW_len3 (by decide) (by decide)).mono ?_
    rintro e w7 ⟨ii, rfl, hk7, hor7⟩
    have hs7 : Sb w7 sb so n noB noB false 0 0 noB lv := hk7.at hs6 (by decide)
    have ws7 := ws5.kept hk7 (by decide)
    have hkE := hkD.trans hk7.tm
    generalize w5.heap.size = G at *
    clear hs2 hs3 hs4 hs5 hs6 hm2 hm3 hm4 hm5 hm6 hkB hkC hkD ws5 hk4 hk5 hk7 kk3 m1 f1 h1
    rcases hor7 with ⟨k, ho, rfl, hm7⟩ | ⟨ho, rfl, hm7⟩
    rotate_left
    · have HE : Hid (askRP s p = ((oneP s opsW 3 [] (spP s q)).1, none)) := hide (ask_none2 HN.out H93.out (by rw [← ho]))
      generalize (oneP s opsW 3 [] (spP s q)).1 = q2 at *
      clear ho
      go_wp2
      refine bodyPost_ret (results_none Tryz.results179 _ _ _) rfl ?_
      rw [HE.out]
      exact ⟨rfl, hkE, .inr ⟨rfl, hm7, _, _, _, _, hs7⟩⟩
    obtain ⟨ow, how, _⟩ := oneP_len _ _ _ _ ho
    have hk6 : k < 6 := (List.getElem?_eq_some_iff.1 how).1
    have hog : opsW.getD k [] = ow := by rw [List.getD_eq_getElem?_getD, how]; rfl
    generalize hq2 : (oneP s opsW 3 [] (spP s q)).1 = q2 at *
    have HO : Hid (oneP s opsW 3 [] (spP s q) = (q2, some k)) := by rw [← hq2, ← ho]; rfl
    have c7 := ws7.cell how
    have HG := hide hog
    have HW := hide how
    clear hq2 ho hog how
    obtain ⟨⟨m0, m1, m2, m3, m4, m5, m6, m7, m8⟩, fz⟩ := cells9 hs7
    have f2 := fz 2
    have hs8 : Sb (w7.setCell ⟨sb, 2, none⟩ (.string (bytesOf ow))) sb so n (bytesOf ow) noB false 0 0 noB lv := set_blk (o := 2) hs7 (.string (bytesOf ow))
    have kk8 := (Kp.refl 0 [104] w7).setCell (p := ⟨sb, 2, none⟩) hs7 (by simp) (Nat.zero_le _) (.string (bytesOf ow))
    have hkF := hkE.setCell (p := ⟨sb, 2, none⟩) hs7 (by simp [TM]) hBs (.string (bytesOf ow))
    have hm8 := hm7.kept kk8 (by decide)
    clear fz m0 m1 m3 m4 m5 m6 m7 m8
    go_wp2_with fail
    generalize w7.setCell ⟨sb, 2, none⟩ (.string (bytesOf ow)) = w8 at *
    clear c7 f2 m2 hs7 hm7 kk8 ws7 hkE
    refine (rspaces_any B mb s q2 false a m _ hm8 hB).mono ?_
    rintro e w9 ⟨rfl, hm9, hk9⟩
    have hs9 : Sb w9 sb so n (bytesOf ow) noB false 0 0 noB lv := hk9.at hs8 (by decide)
    have hkG := hkF.trans hk9.tm
    clear hs8 hm8 hkF hk9
    by_cases h34 : peekI s (spP s q2) = 34
    · have H34 := hide h34
      have HAg : Hid (againstP s (spP s q2) = if peekI s (untilP s (spP s q2 + 1)) = 34 then (untilP s (spP s q2 + 1) + 1, some (subB s (spP s q2 + 1) (untilP s (spP s q2 + 1)))) else (untilP s (spP s q2 + 1), none)) := hide (by unfold againstP; rw [if_pos h34])
      clear h34
      go_wp2_with fail
      refine (is_yes B mb s (spP s q2) a m 34 _ hm9 hB H34.out (by decide)).mono ?_
      rintro e w10 ⟨rfl, hm10, hk10⟩
      have hs10 : Sb w10 sb so n (bytesOf ow) noB false 0 0 noB lv := hk10.at hs9 (by decide)
      have hkH0 := hkG.trans hk10.tm
      generalize hq3 : spP s q2 + 1 = q3 at *
      clear hq3 hm9 hs9 hkG hk10
      have d1 := hm10.c1
      have h5 := hm10.max
      go_wp2
      clear d1
      go_loopw [58] (fun _ wr => ∃ q4 : Nat, Mk wr mb s q4 false a m ∧ Sb wr sb so n (bytesOf ow) noB false 0 0 noB lv ∧ q3 ≤ q4 ∧ Hid (untilP s q4 = untilP s q3) ∧ Ks B sb w wr) (fun _ wr => s.size - placeM wr mb)
      case atStart => exact ⟨q3, hm10, hs10, Nat.le_refl _, rfl, hkH0⟩
      case round =>
        obtain ⟨q4, hm11, hs11, hq34, HU, hk11⟩ := hrel
        have h4 := hm11.le
        clear hm10 hs10 hkH0
        cases h0 : (peekI s q4 == 0)
        · cases h34 : (peekI s q4 == 34)
          · obtain ⟨hu, hlt⟩ := until_yes h0 h34
            have HU2 := hide hu
            have b0 : (peekI s q4 != 0) = true := by unfold bne; rw [h0]; rfl
            have b34 : (peekI s q4 != 34) = true := by unfold bne; rw [h34]; rfl
            clear hu h0 h34
            go_wp2_with fail
            refine (next_is mb s q4 false a m _ (peekI s q4) hm11 (nextI_ok s q4)).mono ?_
            rintro e wa ⟨rfl, n1, rfl⟩
            have hma := hm11.drewN n1
            go_wp2_with fail
            refine (next_is mb s q4 false a m _ (peekI s q4) hma (nextI_ok s q4)).mono ?_
            rintro e wb ⟨rfl, n2, rfl⟩
            have hmb := hma.drewN n2
            have hsb : Sb ((wr.drewN n1).drewN n2) sb so n (bytesOf ow) noB false 0 0 noB lv := hs11
            have hkb := (hk11.drewN n1).drewN n2
            have hpl0 := hm11.placeM
            generalize (wr.drewN n1).drewN n2 = wc at *
            have d1 := hmb.c1; have df := hmb.free (o := 1)
            have hmc := hmb.set1 (q := q4 + 1) (v := (q4 : Int) + 1) hlt (by simp)
            have kkc := (Kp.refl B [153] wc).setCell (p := ⟨mb, 1, none⟩) hmb.blk (by simp) hB (.int .i64 ((q4 : Int) + 1))
            have hplc := hmc.placeM
            go_wp2
            go_roundw
            case rel => exact ⟨q4 + 1, hmc, kkc.at hsb (by decide), by omega, hide (HU2.out.symm.trans HU.out), hkb.trans kkc.tm⟩
            case measure => rw [hplc, hpl0]; omega
          · have hU : untilP s q3 = q4 := HU.out.symm.trans (until_no (.inr h34))
            have b0 : (peekI s q4 != 0) = true := by unfold bne; rw [h0]; rfl
            have b34 : (peekI s q4 != 34) = false := by unfold bne; rw [h34]; rfl
            go_wp2_with fail
            refine (next_is mb s q4 false a m _ (peekI s q4) hm11 (nextI_ok s q4)).mono ?_
            rintro e wa ⟨rfl, n1, rfl⟩
            have hma := hm11.drewN n1
            go_wp2_with fail
            refine (next_is mb s q4 false a m _ (peekI s q4) hma (nextI_ok s q4)).mono ?_
            rintro e wb ⟨rfl, n2, rfl⟩
            have hmb := hma.drewN n2
            have hsb : Sb ((wr.drewN n1).drewN n2) sb so n (bytesOf ow) noB false 0 0 noB lv := hs11
            have hkb := (hk11.drewN n1).drewN n2
            generalize (wr.drewN n1).drewN n2 = wc at *
            clear hm11 hs11 hk11 hma
            have HA : Hid (againstP s (spP s q2) = ((mustP s [34] q4 false).1, if (mustP s [34] q4 false).2 = true then none else some (subB s q3 q4))) := hide (by
              rw [HAg.out, hU, must_one (c := 34) (by decide)]
              by_cases hh : peekI s q4 = 34
              · rw [if_pos hh, if_pos (by exact hh)]; rfl
              · rw [if_neg hh, if_neg (by exact hh)]; rfl)
            have hsub := subB_eq s q3 q4
            have d0 := hmb.c0; have d1 := hmb.c1
            obtain ⟨⟨m0, m1, m2, m3, m4, m5, m6, m7, m8⟩, fz⟩ := cells9 hsb
            have f3 := fz 3
            have hs12 : Sb (wc.setCell ⟨sb, 3, none⟩ (.string (subB s q3 q4))) sb so n (bytesOf ow) (subB s q3 q4) false 0 0 noB lv := set_blk (o := 3) hsb (.string (subB s q3 q4))
            have kk12 := (Kp.refl 0 [104] wc).setCell (p := ⟨sb, 3, none⟩) hsb (by simp) (Nat.zero_le _) (.string (subB s q3 q4))
            have hkH2 := hkb.setCell (p := ⟨sb, 3, none⟩) hsb (by simp [TM]) hBs (.string (subB s q3 q4))
            have hm12 := hmb.kept kk12 (by decide)
            clear fz m0 m1 m2 m4 m5 m6 m7 m8
            have hle4 := hmb.le
            have hsl : ∀ wx : World, (Instr.slice 9 (.string s) (some (.int .i64 (q3 : Int))) (some (.int .i64 (q4 : Int))) none).run Tryz.prog wx = .ok (.string (subB s q3 q4)) wx := fun wx => by
              rw [run_slice_string wx 9 _ .i64 .i64 (q3 : Int) (q4 : Int) Tryz.underlying9 (by omega) (by omega) (by show (q4 : Int) ≤ (s.size : Int); omega)]
              rw [Int.toNat_natCast, Int.toNat_natCast, subB_eq]
            clear hsub
            go_wp2_with fail
            go_region_held3 (fun wx => wx.cell? ⟨mb, 0, none⟩ = some (.string s) ∧ wx.cell? ⟨mb, 1, none⟩ = some (.int .i64 (q4 : Int))) (simp [go_sem, *]) (fail)
            go_wp2_with fail
            replace hs12 : Sb (wc.setCell ⟨sb, 3, none⟩ (.string (subB s q3 q4))).drew sb so n (bytesOf ow) (subB s q3 q4) false 0 0 noB lv := hs12
            replace hkH2 : Ks B sb w (wc.setCell ⟨sb, 3, none⟩ (.string (subB s q3 q4))).drew := ⟨hkH2.os, hkH2.tape, hkH2.output, hkH2.size, hkH2.block⟩
            replace hm12 : Mk (wc.setCell ⟨sb, 3, none⟩ (.string (subB s q3 q4))).drew mb s q4 false a m := ⟨hm12.blk, hm12.le, hm12.max⟩
            generalize (wc.setCell ⟨sb, 3, none⟩ (.string (subB s q3 q4))).drew = w12 at *
            clear m3 f3 kk12 d0 d1 hsl h0 h34 b0 b34 hU hmb hsb hkb
            refine (must_any B mb s ⟨#[34]⟩ q4 false a m _ hm12 hB (by decide) (by decide)).mono ?_
            rintro e w13 ⟨rfl, hm13, hk13⟩
            have hs13 : Sb w13 sb so n (bytesOf ow) (subB s q3 q4) false 0 0 noB lv := hk13.at hs12 (by decide)
            have hkH3 := hkH2.trans hk13.tm
            have hm13' : Mk w13 mb s (mustP s [34] q4 false).1 (mustP s [34] q4 false).2 a m := hm13
            clear hm13 hm12 hs12 hkH2 hk13
            generalize (mustP s [34] q4 false).1 = q5 at *
            generalize (mustP s [34] q4 false).2 = bad at *
            generalize subB s q3 q4 = x at *
            go_wp2_with fail
            have HT := hide (ask_tail HN.out H93.out HO.out HA.out)
            have hle := hm13'.le
            refine (rspaces_any B mb s q5 bad a m _ hm13' hB).mono ?_
            rintro e wa ⟨rfl, hma, hka⟩
            have hsa : Sb wa sb so n (bytesOf ow) x false 0 0 noB lv := hka.at hs13 (by decide)
            have hkH := hkH3.trans hka.tm
            cases hi : tailI s q5 bad
            · have H5 : Hid (nextI s (spR s q5 bad) bad ≠ 105) := hide (by unfold tailI at hi; simpa using hi)
              have HQ : Hid (tailQ s q5 bad = spR s (spR s q5 bad) bad) := hide (by unfold tailQ; rw [hi]; rfl)
              rw [hi] at HT
              clear hi
              go_wp2_with fail
              refine (is_no B mb s (spR s q5 bad) bad a m 105 _ hma H5.out).mono ?_
              rintro e wb ⟨rfl, hmb, hkb⟩
              have hsb' : Sb wb sb so n (bytesOf ow) x false 0 0 noB lv := hkb.at hsa (by decide)
              have hkI := hkH.trans hkb.tm
              obtain ⟨⟨m0, m1, m2, m3, m4, m5, m6, m7, m8⟩, fz⟩ := cells9 hsb'
              have f4 := fz 4
              have hsc : Sb (wb.setCell ⟨sb, 4, none⟩ (.bool false)) sb so n (bytesOf ow) x false 0 0 noB lv := set_blk (o := 4) hsb' (.bool false)
              have kkc := (Kp.refl 0 [104] wb).setCell (p := ⟨sb, 4, none⟩) hsb' (by simp) (Nat.zero_le _) (.bool false)
              have hkJ := hkI.setCell (p := ⟨sb, 4, none⟩) hsb' (by simp [TM]) hBs (.bool false)
              have hmc := hmb.kept kkc (by decide)
              clear fz m0 m1 m2 m3 m5 m6 m7 m8
              go_wp2_with fail
              generalize wb.setCell ⟨sb, 4, none⟩ (.bool false) = wc at *
              clear m4 f4 kkc
              refine (rspaces_any B mb s (spR s q5 bad) bad a m _ hmc hB).mono ?_
              rintro e wd ⟨rfl, hmd, hkd⟩
              rw [← HQ.out] at hmd
              have hsd : Sb wd sb so n (bytesOf ow) x false 0 0 noB lv := hkd.at hsc (by decide)
              go_wp2_with fail
              refine (must_any B mb s ⟨#[93]⟩ _ bad a m _ hmd hB (by decide) (by decide)).mono ?_
              rintro e we ⟨rfl, hme, hke⟩
              have hse : Sb we sb so n (bytesOf ow) x false 0 0 noB lv := hke.at hsd (by decide)
              go_wp2
              go_end0
              rw [HT.out]
              refine ⟨rfl, (hkJ.trans hkd.tm).trans hke.tm, ?_⟩
              exact ask_end2 hme hse (congrArg bytesOf HG.out)
            · have H5 : Hid (nextI s (spR s q5 bad) bad = 105) := hide (by unfold tailI at hi; simpa using hi)
              obtain ⟨hbf, hlt5⟩ := nextI_lt (s := s) (p := spR s q5 bad) (bad := bad) (by rw [H5.out]; decide)
              have HQ : Hid (tailQ s q5 bad = spR s (spR s q5 bad + 1) bad) := hide (by unfold tailQ; rw [hi]; rfl)
              rw [hi] at HT
              clear hi
              subst hbf
              go_wp2_with fail
              refine (is_yes B mb s (spR s q5 false) a m 105 _ hma hB ((nextI_ok _ _).symm.trans H5.out) (by decide)).mono ?_
              rintro e wb ⟨rfl, hmb, hkb⟩
              have hsb' : Sb wb sb so n (bytesOf ow) x false 0 0 noB lv := hkb.at hsa (by decide)
              have hkI := hkH.trans hkb.tm
              obtain ⟨⟨m0, m1, m2, m3, m4, m5, m6, m7, m8⟩, fz⟩ := cells9 hsb'
              have f4 := fz 4
              have hsc : Sb (wb.setCell ⟨sb, 4, none⟩ (.bool true)) sb so n (bytesOf ow) x true 0 0 noB lv := set_blk (o := 4) hsb' (.bool true)
              have kkc := (Kp.refl 0 [104] wb).setCell (p := ⟨sb, 4, none⟩) hsb' (by simp) (Nat.zero_le _) (.bool true)
              have hkJ := hkI.setCell (p := ⟨sb, 4, none⟩) hsb' (by simp [TM]) hBs (.bool true)
              have hmc := hmb.kept kkc (by decide)
              clear fz m0 m1 m2 m3 m5 m6 m7 m8
              go_wp2_with fail
              generalize wb.setCell ⟨sb, 4, none⟩ (.bool true) = wc at *
              clear m4 f4 kkc
              refine (rspaces_any B mb s (spR s q5 false + 1) false a m _ hmc hB).mono ?_
              rintro e wd ⟨rfl, hmd, hkd⟩
              rw [← HQ.out] at hmd
              have hsd : Sb wd sb so n (bytesOf ow) x true 0 0 noB lv := hkd.at hsc (by decide)
              go_wp2_with fail
              refine (must_any B mb s ⟨#[93]⟩ _ false a m _ hmd hB (by decide) (by decide)).mono ?_
              rintro e we ⟨rfl, hme, hke⟩
              have hse : Sb we sb so n (bytesOf ow) x true 0 0 noB lv := hke.at hsd (by decide)
              go_wp2
              go_end0
              rw [HT.out]
              refine ⟨rfl, (hkJ.trans hkd.tm).trans hke.tm, ?_⟩
              exact ask_end2 hme hse (congrArg bytesOf HG.out)
        · have hU : untilP s q3 = q4 := HU.out.symm.trans (until_no (.inl h0))
          have b0 : (peekI s q4 != 0) = false := by unfold bne; rw [h0]; rfl
          have b34 : Hid True := trivial
          have h34 : Hid True := trivial
          go_wp2_with fail
          refine (next_is mb s q4 false a m _ (peekI s q4) hm11 (nextI_ok s q4)).mono ?_
          rintro e wa ⟨rfl, n1, rfl⟩
          have hma : Hid True := trivial
          have hmb := hm11.drewN n1
          have hsb : Sb (wr.drewN n1) sb so n (bytesOf ow) noB false 0 0 noB lv := hs11
          have hkb := hk11.drewN n1
          generalize wr.drewN n1 = wc at *
          clear hm11 hs11 hk11 hma
          have HA : Hid (againstP s (spP s q2) = ((mustP s [34] q4 false).1, if (mustP s [34] q4 false).2 = true then none else some (subB s q3 q4))) := hide (by
            rw [HAg.out, hU, must_one (c := 34) (by decide)]
            by_cases hh : peekI s q4 = 34
            · rw [if_pos hh, if_pos (by exact hh)]; rfl
            · rw [if_neg hh, if_neg (by exact hh)]; rfl)
          have hsub := subB_eq s q3 q4
          have d0 := hmb.c0; have d1 := hmb.c1
          obtain ⟨⟨m0, m1, m2, m3, m4, m5, m6, m7, m8⟩, fz⟩ := cells9 hsb
          have f3 := fz 3
          have hs12 : Sb (wc.setCell ⟨sb, 3, none⟩ (.string (subB s q3 q4))) sb so n (bytesOf ow) (subB s q3 q4) false 0 0 noB lv := set_blk (o := 3) hsb (.string (subB s q3 q4))
          have kk12 := (Kp.refl 0 [104] wc).setCell (p := ⟨sb, 3, none⟩) hsb (by simp) (Nat.zero_le _) (.string (subB s q3 q4))
          have hkH2 := hkb.setCell (p := ⟨sb, 3, none⟩) hsb (by simp [TM]) hBs (.string (subB s q3 q4))
          have hm12 := hmb.kept kk12 (by decide)
          clear fz m0 m1 m2 m4 m5 m6 m7 m8
          have hle4 := hmb.le
          have hsl : ∀ wx : World, (Instr.slice 9 (.string s) (some (.int .i64 (q3 : Int))) (some (.int .i64 (q4 : Int))) none).run Tryz.prog wx = .ok (.string (subB s q3 q4)) wx := fun wx => by
            rw [run_slice_string wx 9 _ .i64 .i64 (q3 : Int) (q4 : Int) Tryz.underlying9 (by omega) (by omega) (by show (q4 : Int) ≤ (s.size : Int); omega)]
            rw [Int.toNat_natCast, Int.toNat_natCast, subB_eq]
          clear hsub
          go_wp2_with fail
          go_region_held3 (fun wx => wx.cell? ⟨mb, 0, none⟩ = some (.string s) ∧ wx.cell? ⟨mb, 1, none⟩ = some (.int .i64 (q4 : Int))) (simp [go_sem, *]) (fail)
          go_wp2_with fail
          replace hs12 : Sb (wc.setCell ⟨sb, 3, none⟩ (.string (subB s q3 q4))).drew sb so n (bytesOf ow) (subB s q3 q4) false 0 0 noB lv := hs12
          replace hkH2 : Ks B sb w (wc.setCell ⟨sb, 3, none⟩ (.string (subB s q3 q4))).drew := ⟨hkH2.os, hkH2.tape, hkH2.output, hkH2.size, hkH2.block⟩
          replace hm12 : Mk (wc.setCell ⟨sb, 3, none⟩ (.string (subB s q3 q4))).drew mb s q4 false a m := ⟨hm12.blk, hm12.le, hm12.max⟩
          generalize (wc.setCell ⟨sb, 3, none⟩ (.string (subB s q3 q4))).drew = w12 at *
          clear m3 f3 kk12 d0 d1 hsl h0 h34 b0 b34 hU hmb hsb hkb
          refine (must_any B mb s ⟨#[34]⟩ q4 false a m _ hm12 hB (by decide) (by decide)).mono ?_
          rintro e w13 ⟨rfl, hm13, hk13⟩
          have hs13 : Sb w13 sb so n (bytesOf ow) (subB s q3 q4) false 0 0 noB lv := hk13.at hs12 (by decide)
          have hkH3 := hkH2.trans hk13.tm
          have hm13' : Mk w13 mb s (mustP s [34] q4 false).1 (mustP s [34] q4 false).2 a m := hm13
          clear hm13 hm12 hs12 hkH2 hk13
          generalize (mustP s [34] q4 false).1 = q5 at *
          generalize (mustP s [34] q4 false).2 = bad at *
          generalize subB s q3 q4 = x at *
          go_wp2_with fail
          have HT := hide (ask_tail HN.out H93.out HO.out HA.out)
          have hle := hm13'.le
          refine (rspaces_any B mb s q5 bad a m _ hm13' hB).mono ?_
          rintro e wa ⟨rfl, hma, hka⟩
          have hsa : Sb wa sb so n (bytesOf ow) x false 0 0 noB lv := hka.at hs13 (by decide)
          have hkH := hkH3.trans hka.tm
          cases hi : tailI s q5 bad
          · have H5 : Hid (nextI s (spR s q5 bad) bad ≠ 105) := hide (by unfold tailI at hi; simpa using hi)
            have HQ : Hid (tailQ s q5 bad = spR s (spR s q5 bad) bad) := hide (by unfold tailQ; rw [hi]; rfl)
            rw [hi] at HT
            clear hi
            go_wp2_with fail
            refine (is_no B mb s (spR s q5 bad) bad a m 105 _ hma H5.out).mono ?_
            rintro e wb ⟨rfl, hmb, hkb⟩
            have hsb' : Sb wb sb so n (bytesOf ow) x false 0 0 noB lv := hkb.at hsa (by decide)
            have hkI := hkH.trans hkb.tm
            obtain ⟨⟨m0, m1, m2, m3, m4, m5, m6, m7, m8⟩, fz⟩ := cells9 hsb'
            have f4 := fz 4
            have hsc : Sb (wb.setCell ⟨sb, 4, none⟩ (.bool false)) sb so n (bytesOf ow) x false 0 0 noB lv := set_blk (o := 4) hsb' (.bool false)
            have kkc := (Kp.refl 0 [104] wb).setCell (p := ⟨sb, 4, none⟩) hsb' (by simp) (Nat.zero_le _) (.bool false)
            have hkJ := hkI.setCell (p := ⟨sb, 4, none⟩) hsb' (by simp [TM]) hBs (.bool false)
            have hmc := hmb.kept kkc (by decide)
            clear fz m0 m1 m2 m3 m5 m6 m7 m8
            go_wp2_with fail
            generalize wb.setCell ⟨sb, 4, none⟩ (.bool false) = wc at *
            clear m4 f4 kkc
            refine (rspaces_any B mb s (spR s q5 bad) bad a m _ hmc hB).mono ?_
            rintro e wd ⟨rfl, hmd, hkd⟩
            rw [← HQ.out] at hmd
            have hsd : Sb wd sb so n (bytesOf ow) x false 0 0 noB lv := hkd.at hsc (by decide)
            go_wp2_with fail
            refine (must_any B mb s ⟨#[93]⟩ _ bad a m _ hmd hB (by decide) (by decide)).mono ?_
            rintro e we ⟨rfl, hme, hke⟩
            have hse : Sb we sb so n (bytesOf ow) x false 0 0 noB lv := hke.at hsd (by decide)
            go_wp2
            go_end0
            rw [HT.out]
            refine ⟨rfl, (hkJ.trans hkd.tm).trans hke.tm, ?_⟩
            exact ask_end2 hme hse (congrArg bytesOf HG.out)
          · have H5 : Hid (nextI s (spR s q5 bad) bad = 105) := hide (by unfold tailI at hi; simpa using hi)
            obtain ⟨hbf, hlt5⟩ := nextI_lt (s := s) (p := spR s q5 bad) (bad := bad) (by rw [H5.out]; decide)
            have HQ : Hid (tailQ s q5 bad = spR s (spR s q5 bad + 1) bad) := hide (by unfold tailQ; rw [hi]; rfl)
            rw [hi] at HT
            clear hi
            subst hbf
            go_wp2_with fail
            refine (is_yes B mb s (spR s q5 false) a m 105 _ hma hB ((nextI_ok _ _).symm.trans H5.out) (by decide)).mono ?_
            rintro e wb ⟨rfl, hmb, hkb⟩
            have hsb' : Sb wb sb so n (bytesOf ow) x false 0 0 noB lv := hkb.at hsa (by decide)
            have hkI := hkH.trans hkb.tm
            obtain ⟨⟨m0, m1, m2, m3, m4, m5, m6, m7, m8⟩, fz⟩ := cells9 hsb'
            have f4 := fz 4
            have hsc : Sb (wb.setCell ⟨sb, 4, none⟩ (.bool true)) sb so n (bytesOf ow) x true 0 0 noB lv := set_blk (o := 4) hsb' (.bool true)
            have kkc := (Kp.refl 0 [104] wb).setCell (p := ⟨sb, 4, none⟩) hsb' (by simp) (Nat.zero_le _) (.bool true)
            have hkJ := hkI.setCell (p := ⟨sb, 4, none⟩) hsb' (by simp [TM]) hBs (.bool true)
            have hmc := hmb.kept kkc (by decide)
            clear fz m0 m1 m2 m3 m5 m6 m7 m8
            go_wp2_with fail
            generalize wb.setCell ⟨sb, 4, none⟩ (.bool true) = wc at *
            clear m4 f4 kkc
            refine (rspaces_any B mb s (spR s q5 false + 1) false a m _ hmc hB).mono ?_
            rintro e wd ⟨rfl, hmd, hkd⟩
            rw [← HQ.out] at hmd
            have hsd : Sb wd sb so n (bytesOf ow) x true 0 0 noB lv := hkd.at hsc (by decide)
            go_wp2_with fail
            refine (must_any B mb s ⟨#[93]⟩ _ false a m _ hmd hB (by decide) (by decide)).mono ?_
            rintro e we ⟨rfl, hme, hke⟩
            have hse : Sb we sb so n (bytesOf ow) x true 0 0 noB lv := hke.at hsd (by decide)
            go_wp2
            go_end0
            rw [HT.out]
            refine ⟨rfl, (hkJ.trans hkd.tm).trans hke.tm, ?_⟩
            exact ask_end2 hme hse (congrArg bytesOf HG.out)
    · have H34 := hide h34
      have HAg : Hid (againstP s (spP s q2) = wordP s (spP s q2)) := hide (by unfold againstP; rw [if_neg h34])
      clear h34
      go_wp2_with fail
      refine (is_no B mb s (spP s q2) false a m 34 _ hm9 (by rw [nextI_ok]; exact H34.out)).mono ?_
      rintro e w10 ⟨rfl, hm10, hk10⟩
      have hs10 : Sb w10 sb so n (bytesOf ow) noB false 0 0 noB lv := hk10.at hs9 (by decide)
      have hkH0 := hkG.trans hk10.tm
      clear hm9 hs9 hkG hk10
      go_wp2_with fail
      refine (rword_word B mb s (spP s q2) a m _ hm10 hB).mono ?_
      rintro e w11 ⟨x, rfl, hk11, hor11⟩
      have hs11 : Sb w11 sb so n (bytesOf ow) noB false 0 0 noB lv := hk11.at hs10 (by decide)
      have hkH1 := hkH0.trans hk11.tm
      obtain ⟨q3, bad, hm11, HA⟩ : ∃ q3 bad, Mk w11 mb s q3 bad a m ∧ Hid (againstP s (spP s q2) = (q3, if bad = true then none else some x)) := by
        rcases hor11 with ⟨ho, hm⟩ | ⟨ho, hm⟩
        · exact ⟨_, false, hm, by rw [HAg.out]; show wordP s (spP s q2) = (_, some x); rw [← ho]⟩
        · exact ⟨_, true, hm, by rw [HAg.out]; show wordP s (spP s q2) = (_, none); rw [← ho]⟩
      clear hor11 hm10 hs10 hkH0 hk11 HAg
      obtain ⟨⟨m0, m1, m2, m3, m4, m5, m6, m7, m8⟩, fz⟩ := cells9 hs11
      have f3 := fz 3
      have hs12 : Sb (w11.setCell ⟨sb, 3, none⟩ (.string x)) sb so n (bytesOf ow) x false 0 0 noB lv := set_blk (o := 3) hs11 (.string x)
      have kk12 := (Kp.refl 0 [104] w11).setCell (p := ⟨sb, 3, none⟩) hs11 (by simp) (Nat.zero_le _) (.string x)
      have hkH2 := hkH1.setCell (p := ⟨sb, 3, none⟩) hs11 (by simp [TM]) hBs (.string x)
      have hm12 := hm11.kept kk12 (by decide)
      clear fz m0 m1 m2 m4 m5 m6 m7 m8
      go_wp2_with fail
      generalize w11.setCell ⟨sb, 3, none⟩ (.string x) = w12 at *
      clear m3 f3 kk12 hm11 hs11 hkH1
      have HT := hide (ask_tail HN.out H93.out HO.out HA.out)
      have hle := hm12.le
      refine (rspaces_any B mb s q3 bad a m _ hm12 hB).mono ?_
      rintro e wa ⟨rfl, hma, hka⟩
      have hsa : Sb wa sb so n (bytesOf ow) x false 0 0 noB lv := hka.at hs12 (by decide)
      have hkH := hkH2.trans hka.tm
      cases hi : tailI s q3 bad
      · have H5 : Hid (nextI s (spR s q3 bad) bad ≠ 105) := hide (by unfold tailI at hi; simpa using hi)
        have HQ : Hid (tailQ s q3 bad = spR s (spR s q3 bad) bad) := hide (by unfold tailQ; rw [hi]; rfl)
        rw [hi] at HT
        clear hi
        go_wp2_with fail
        refine (is_no B mb s (spR s q3 bad) bad a m 105 _ hma H5.out).mono ?_
        rintro e wb ⟨rfl, hmb, hkb⟩
        have hsb' : Sb wb sb so n (bytesOf ow) x false 0 0 noB lv := hkb.at hsa (by decide)
        have hkI := hkH.trans hkb.tm
        obtain ⟨⟨m0, m1, m2, m3, m4, m5, m6, m7, m8⟩, fz⟩ := cells9 hsb'
        have f4 := fz 4
        have hsc : Sb (wb.setCell ⟨sb, 4, none⟩ (.bool false)) sb so n (bytesOf ow) x false 0 0 noB lv := set_blk (o := 4) hsb' (.bool false)
        have kkc := (Kp.refl 0 [104] wb).setCell (p := ⟨sb, 4, none⟩) hsb' (by simp) (Nat.zero_le _) (.bool false)
        have hkJ := hkI.setCell (p := ⟨sb, 4, none⟩) hsb' (by simp [TM]) hBs (.bool false)
        have hmc := hmb.kept kkc (by decide)
        clear fz m0 m1 m2 m3 m5 m6 m7 m8
        go_wp2_with fail
        generalize wb.setCell ⟨sb, 4, none⟩ (.bool false) = wc at *
        clear m4 f4 kkc
        refine (rspaces_any B mb s (spR s q3 bad) bad a m _ hmc hB).mono ?_
        rintro e wd ⟨rfl, hmd, hkd⟩
        rw [← HQ.out] at hmd
        have hsd : Sb wd sb so n (bytesOf ow) x false 0 0 noB lv := hkd.at hsc (by decide)
        go_wp2_with fail
        refine (must_any B mb s ⟨#[93]⟩ _ bad a m _ hmd hB (by decide) (by decide)).mono ?_
        rintro e we ⟨rfl, hme, hke⟩
        have hse : Sb we sb so n (bytesOf ow) x false 0 0 noB lv := hke.at hsd (by decide)
        go_wp2
        go_end0
        rw [HT.out]
        refine ⟨rfl, (hkJ.trans hkd.tm).trans hke.tm, ?_⟩
        exact ask_end2 hme hse (congrArg bytesOf HG.out)
      · have H5 : Hid (nextI s (spR s q3 bad) bad = 105) := hide (by unfold tailI at hi; simpa using hi)
        obtain ⟨hbf, hlt5⟩ := nextI_lt (s := s) (p := spR s q3 bad) (bad := bad) (by rw [H5.out]; decide)
        have HQ : Hid (tailQ s q3 bad = spR s (spR s q3 bad + 1) bad) := hide (by unfold tailQ; rw [hi]; rfl)
        rw [hi] at HT
        clear hi
        subst hbf
        go_wp2_with fail
        refine (is_yes B mb s (spR s q3 false) a m 105 _ hma hB ((nextI_ok _ _).symm.trans H5.out) (by decide)).mono ?_
        rintro e wb ⟨rfl, hmb, hkb⟩
        have hsb' : Sb wb sb so n (bytesOf ow) x false 0 0 noB lv := hkb.at hsa (by decide)
        have hkI := hkH.trans hkb.tm
        obtain ⟨⟨m0, m1, m2, m3, m4, m5, m6, m7, m8⟩, fz⟩ := cells9 hsb'
        have f4 := fz 4
        have hsc : Sb (wb.setCell ⟨sb, 4, none⟩ (.bool true)) sb so n (bytesOf ow) x true 0 0 noB lv := set_blk (o := 4) hsb' (.bool true)
        have kkc := (Kp.refl 0 [104] wb).setCell (p := ⟨sb, 4, none⟩) hsb' (by simp) (Nat.zero_le _) (.bool true)
        have hkJ := hkI.setCell (p := ⟨sb, 4, none⟩) hsb' (by simp [TM]) hBs (.bool true)
        have hmc := hmb.kept kkc (by decide)
        clear fz m0 m1 m2 m3 m5 m6 m7 m8
        go_wp2_with fail
        generalize wb.setCell ⟨sb, 4, none⟩ (.bool true) = wc at *
        clear m4 f4 kkc
        refine (rspaces_any B mb s (spR s q3 false + 1) false a m _ hmc hB).mono ?_
        rintro e wd ⟨rfl, hmd, hkd⟩
        rw [← HQ.out] at hmd
        have hsd : Sb wd sb so n (bytesOf ow) x true 0 0 noB lv := hkd.at hsc (by decide)
        go_wp2_with fail
        refine (must_any B mb s ⟨#[93]⟩ _ false a m _ hmd hB (by decide) (by decide)).mono ?_
        rintro e we ⟨rfl, hme, hke⟩
        have hse : Sb we sb so n (bytesOf ow) x true 0 0 noB lv := hke.at hsd (by decide)
        go_wp2
        go_end0
        rw [HT.out]
        refine ⟨rfl, (hkJ.trans hkd.tm).trans hke.tm, ?_⟩
        exact ask_end2 hme hse (congrArg bytesOf HG.out)
end Go.Proofs.YtclpcnignheijaaGreatDoor
