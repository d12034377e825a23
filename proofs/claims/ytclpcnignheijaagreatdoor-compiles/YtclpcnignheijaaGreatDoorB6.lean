import Derived.Test.YtclpcnignheijaaGreatDoorB5
namespace Go.Proofs.YtclpcnignheijaaGreatDoor
open Go.RowKit

theorem owns_base {w : World} {B B' : Nat} {e : TypeId} {size : Nat} {v : Value} {n : Nat} {xs : List Value} (h : w.ownsRow B' e size v n xs) (hB : B ≤ B') : w.ownsRow B e size v n xs := by
  obtain ⟨h1, h2⟩ := h
  refine ⟨h1, ?_⟩
  rcases h2 with h2 | ⟨g, cap, cur, hv, hg, r⟩
  · exact .inl h2
  · exact .inr ⟨g, cap, cur, hv, by omega, r⟩
theorem cells_new {w : World} {n : Nat} (cs : Array Value) (t : TypeId) (hn : n = w.heap.size) : ∀ j u, cs.toList[j]? = some u → (w.alloc (.cells cs t)).cell? ((⟨n, 0, none⟩ : Addr).add j) = some u := by
  intro j u hj
  have hb : (w.alloc (.cells cs t)).heap[n]? = some (.cells cs t (0, 0)) := alloc_at' _ hn
  rw [addr_add, Nat.zero_add]
  simp only [World.cell?, hb]
  simpa using hj
theorem Tryz.infoAttr : (Tryz.prog.info? 169).map (fun i => (i.zero, i.size, i.bytes)) = some (some (.agg #[.string ⟨#[]⟩, .string ⟨#[]⟩]), 2, 32) := by kernel_rfl
theorem attrCells_snoc (l : List (ByteArray × ByteArray)) (x : ByteArray × ByteArray) : attrCells (l ++ [x]) = attrCells l ++ [.string x.1, .string x.2] := by
  induction l with
  | nil => rfl
  | cons y r ih => simp [attrCells, ih]

def attrsP (s : ByteArray) : Nat → Nat → List (ByteArray × ByteArray) → Nat × Option (List (ByteArray × ByteArray))
  | 0, p, _ => (p, none)
  | f + 1, p, l =>
    if p < runTo spaceB s p ∧ peekI s (runTo spaceB s p) ≠ 47 ∧ peekI s (runTo spaceB s p) ≠ 62 then
      match (attrP s (runTo spaceB s p) l).2 with
      | none => ((attrP s (runTo spaceB s p) l).1, none)
      | some x => attrsP s f (attrP s (runTo spaceB s p) l).1 (l ++ [x])
    else (runTo spaceB s p, some l)
def attributesP (s : ByteArray) (p : Nat) : Nat × Option (List (ByteArray × ByteArray)) := attrsP s (s.size + 1) p []
theorem runTo_le {f : Int → Bool} (h0 : f 0 = false) {s : ByteArray} {p : Nat} (h : p ≤ s.size) : p ≤ runTo f s p ∧ runTo f s p ≤ s.size := by
  have := runP_le f h0 s (s.size - p) p h
  exact ⟨this.1, this.2.1⟩
theorem attrsP_le (s : ByteArray) : ∀ f p l, p ≤ s.size → p ≤ (attrsP s f p l).1 ∧ (attrsP s f p l).1 ≤ s.size
  | 0, p, l, h => ⟨Nat.le_refl _, h⟩
  | f + 1, p, l, h => by
    have h1 := runTo_le (f := spaceB) (by decide) h
    have h2 := attrP_le s (runTo spaceB s p) l h1.2
    rw [attrsP]
    split
    · split
      · dsimp only; omega
      · have := attrsP_le s f (attrP s (runTo spaceB s p) l).1 (l ++ [‹ByteArray × ByteArray›]) h2.2
        omega
    · exact h1
theorem attributesP_le (s : ByteArray) (p : Nat) (h : p ≤ s.size) : p ≤ (attributesP s p).1 ∧ (attributesP s p).1 ≤ s.size := attrsP_le s _ p [] h

set_option maxRecDepth 100000 in
set_option maxHeartbeats 2000000 in
theorem attributes_any (B rb bb : Nat) (s : ByteArray) (p : Nat) (w : World) (h : Rd w rb s p) (hB : B ≤ rb) (hg : Gl w) (hB0 : 1 < B) :
    Calls Tryz.prog 223 #[.agg #[.pointer (some ⟨rb, 0, none⟩), .pointer (some ⟨bb, 0, none⟩)]] w fun e w' => ∃ (av v : Value), e = .returned (.tuple #[av, v]) ∧
      Rd w' rb s (attributesP s p).1 ∧ Kp B [210] w w' ∧ ((∃ l, (attributesP s p).2 = some l ∧ l.length ≤ s.size ∧ w'.ownsRow w.heap.size 169 2 av l.length (attrCells l) ∧ v = .nilIface) ∨ ((attributesP s p).2 = none ∧ ∃ n, Chain w' 2 (attributesP s p).1 n v)) := by
  have h5 := h.max; have h4 := h.le
  have hsz : B ≤ w.heap.size := by have := lt_of_block h.1; omega
  obtain ⟨i0, hi, hz0, hz1, hz2⟩ := info_parts Tryz.infoAttr
  go_enter Tryz.func223, Tryz.ntmps223
  go_wp2
  go_loopw [4] (fun v wr => ∃ (q f : Nat) (l : List (ByteArray × ByteArray)), Rd wr rb s q ∧ p ≤ q ∧ s.size < q + f ∧ l.length ≤ q ∧ wr.ownsRow w.heap.size 169 2 v l.length (attrCells l) ∧ wr.heap[w.heap.size]? = some (.cells #[.pointer (some ⟨rb, 0, none⟩), .pointer (some ⟨bb, 0, none⟩)] 163 (0, 0)) ∧ Hid (attrsP s f q l = attributesP s p) ∧ Kp B [210] w wr) (fun _ wr => s.size - placeOf wr rb)
  case atStart => exact ⟨p, s.size + 1, [], h.alloc _, Nat.le_refl _, by omega, Nat.zero_le _, World.ownsRow_nil _ _ _ _, alloc_at _ _, rfl, (Kp.refl _ _ _).alloc _⟩
  case round =>
    obtain ⟨q, f, l, hr, hpq, hf, hlq, hown, hbx, HQ, hk⟩ := hrel
    have b0 := cell2_0 hbx
    have hgr := hg.kept hk hB0
    have g4 := hr.le
    obtain ⟨f, rfl⟩ : ∃ f', f = f' + 1 := ⟨f - 1, by omega⟩
    have hle := runTo_le (f := spaceB) (by decide) g4
    by_cases hs : q < runTo spaceB s q
    · have hs' : decide (q < runTo spaceB s q) = true := by simp [hs]
      generalize hq2 : runTo spaceB s q = q2 at *
      by_cases h47 : peekI s q2 = 47
      · have HE : Hid (attributesP s p = (q2, some l)) := by rw [← HQ.out, attrsP, hq2, if_neg (by rw [h47]; simp)]; rfl
        have h47' : (peekI s q2 != 47) = false := by simp [h47]
        have HQ2 := hide hq2
        clear hq2 h47 hg hgr
        go_wp2_with (first
          | (go_at_call 127; refine (spaces_any B rb s q _ hr hB).mono ?_; rintro e w1 ⟨rfl, hr1, hk1⟩; rw [HQ2.out] at hr1 ⊢; have bx1 := hk1.at hbx (by decide); have c0 := cell2_0 bx1)
          | (go_at_call 144; refine (peek_any rb s q2 _ hr1).mono ?_; rintro e w2 ⟨rfl, nq, rfl⟩))
        go_ret2
        rw [HE.out]
        exact ⟨_, _, rfl, hr1.drewN _, (hk.trans hk1).drewN _, .inl ⟨l, rfl, by omega, hk1.owns hown (by decide), rfl⟩⟩
      · have h47' : (peekI s q2 != 47) = true := by simp [h47]
        by_cases h62 : peekI s q2 = 62
        · have HE : Hid (attributesP s p = (q2, some l)) := by rw [← HQ.out, attrsP, hq2, if_neg (by rw [h62]; simp)]; rfl
          have h62' : (peekI s q2 != 62) = false := by simp [h62]
          have HQ2 := hide hq2
          clear hq2 h47 h62 hg hgr
          go_wp2_with fail
          refine (spaces_any B rb s q _ hr hB).mono ?_
          rintro e w1 ⟨rfl, hr1, hk1⟩
          rw [HQ2.out] at hr1 ⊢
          have bx1 := hk1.at hbx (by decide)
          have c0 := cell2_0 bx1
          go_wp2_with fail
          refine (peek_any rb s q2 _ hr1).mono ?_
          rintro e w2 ⟨rfl, nq, rfl⟩
          go_wp2_with fail
          refine (peek_any rb s q2 _ (hr1.drewN _)).mono ?_
          rintro e w3 ⟨rfl, nq3, rfl⟩
          go_wp2
          go_ret2
          rw [HE.out]
          exact ⟨_, _, rfl, hr1.drewN _, (hk.trans hk1).drewN _, .inl ⟨l, rfl, by omega, hk1.owns hown (by decide), rfl⟩⟩
        · have h62' : (peekI s q2 != 62) = true := by simp [h62]
          have hyes : q < runTo spaceB s q ∧ peekI s (runTo spaceB s q) ≠ 47 ∧ peekI s (runTo spaceB s q) ≠ 62 := by rw [hq2]; exact ⟨hs, h47, h62⟩
          have hale := attrP_le s q2 l hle.2
          cases ha : (attrP s q2 l).2 with
          | none =>
            have HE : Hid (attributesP s p = ((attrP s q2 l).1, none)) := by rw [← HQ.out, attrsP, if_pos hyes, hq2, ha]; rfl
            have HA := hide ha
            have HQ2 := hide hq2
            clear hq2 h47 h62 hg ha hyes
            go_wp2_with fail
            refine (spaces_any B rb s q _ hr hB).mono ?_
            rintro e w1 ⟨rfl, hr1, hk1⟩
            rw [HQ2.out] at hr1 ⊢
            have bx1 := hk1.at hbx (by decide)
            have c0 := cell2_0 bx1; have c1 := cell2_1 bx1
            have own1 := hk1.owns hown (by decide)
            go_wp2_with fail
            refine (peek_any rb s q2 _ hr1).mono ?_
            rintro e w2 ⟨rfl, nq, rfl⟩
            go_wp2_with fail
            refine (peek_any rb s q2 _ (hr1.drewN _)).mono ?_
            rintro e w3 ⟨rfl, nq3, rfl⟩
            go_wp2_with fail
            refine (attribute_any B rb bb s q2 l _ _ (hr1.drewN _) hB ((hgr.kept hk1 hB0).drewN _) hB0 (owns_base own1 hsz) (by omega)).mono ?_
            rintro e w4 ⟨x, v, rfl, hr4, hk4, hor⟩
            rcases hor with ⟨hx, _⟩ | ⟨_, nn, hc⟩
            · exact absurd (hx.trans HA.out) (by simp)
            obtain ⟨ty, kk, hv⟩ := hc.shape
            rw [hv] at hc ⊢
            go_wp2_with fail
            refine (while_err B [] _ _ _ _ _ _ (hc.alloc _)).mono ?_
            rintro e w5 ⟨u, rfl, hc5, hk5⟩
            go_wp2
            go_ret2
            rw [HE.out]
            exact ⟨_, _, rfl, (hr4.alloc _).kept hk5 (by simp), (((hk.trans hk1).trans hk4.fromDrewN).alloc _).trans (hk5.mono (Nat.le_refl _) (by simp)), .inr ⟨rfl, _, hc5⟩⟩
          | some x =>
            have HE : Hid (attributesP s p = attrsP s f (attrP s q2 l).1 (l ++ [x])) := by rw [← HQ.out, attrsP, if_pos hyes, hq2, ha]; rfl
            have HA := hide ha
            have HQ2 := hide hq2
            clear hq2 h47 h62 hg ha hyes
            go_wp2_with fail
            refine (spaces_any B rb s q _ hr hB).mono ?_
            rintro e w1 ⟨rfl, hr1, hk1⟩
            rw [HQ2.out] at hr1 ⊢
            have bx1 := hk1.at hbx (by decide)
            have c0 := cell2_0 bx1; have c1 := cell2_1 bx1
            have own1 := hk1.owns hown (by decide)
            go_wp2_with fail
            refine (peek_any rb s q2 _ hr1).mono ?_
            rintro e w2 ⟨rfl, nq, rfl⟩
            go_wp2_with fail
            refine (peek_any rb s q2 _ (hr1.drewN _)).mono ?_
            rintro e w3 ⟨rfl, nq3, rfl⟩
            go_wp2_with fail
            refine (attribute_any B rb bb s q2 l _ _ (hr1.drewN _) hB ((hgr.kept hk1 hB0).drewN _) hB0 (owns_base own1 hsz) (by omega)).mono ?_
            rintro e w4 ⟨x2, v, rfl, hr4, hk4, hor⟩
            rcases hor with ⟨hx, rfl⟩ | ⟨hx, _⟩
            rotate_left
            · exact absurd (hx.symm.trans HA.out) (by simp)
            have hx2 := Option.some.inj (hx.trans HA.out)
            clear hx
            subst hx2
            have own4 := hk4.fromDrewN.owns own1 (by decide)
            have bx4 := hk4.fromDrewN.at bx1 (by decide)
            have sz4 := lt_of_block bx4
            go_wp2_with (at_builtin; refine wpList_append_own _ rfl _ _ 137 rfl w.heap.size 169 i0 (.agg #[.string ⟨#[]⟩, .string ⟨#[]⟩]) 2 32 Tryz.underlying137 hi hz0 hz1 hz2 rfl (by decide) _ _ _ rfl ((own4.alloc _).alloc _) ⟨w4.heap.size + 1, 0, none⟩ 1 1 [.string x2.1, .string x2.2] rfl rfl ?c1 ?c2 ?c3 ?c4 ?c5 ?_)
            case c1 => exact cells_new #[.string x2.1, .string x2.2] 169 (by simp)
            case c2 => intro u hu; simp at hu; rcases hu with rfl | rfl <;> rfl
            case c3 => unfold maxLen; omega
            case c4 => omega
            case c5 => simp; omega
            intro v1 w5 hown5 hgrow5 _
            have KA := (((((hk.trans hk1).trans hk4.fromDrewN).alloc _).alloc _)).grownNew hgrow5 (fun k e => (own4.lt k e).1)
            have NB : ∀ {c : Array Value} {ty : TypeId} {k : Nat}, w4.heap[k]? = some (.cells c ty (0, 0)) → ty ≠ 169 → w5.heap[k]? = some (.cells c ty (0, 0)) := fun hb hty => kept_grown ((own4.alloc _).alloc _) hgrow5 (alloc_old (alloc_old hb _) _) hty
            have R5 : Rd w5 rb s (attrP s q2 l).1 := ⟨NB hr4.1 (by decide), hr4.2, hr4.3⟩
            have B5 := NB bx4 (by decide)
            have O5 : w5.ownsRow w.heap.size 169 2 v1 (l ++ [x2]).length (attrCells (l ++ [x2])) := by
              rw [attrCells_snoc]; simpa using hown5
            clear hown5 hgrow5 own4 NB
            go_wp2
            go_roundw
            case rel => exact ⟨_, f, _, R5, by omega, by omega, by simp; omega, O5, B5, hide HE.out.symm, KA⟩
            case measure => rw [R5.placeOf, hr.placeOf]; omega
    · have hs' : decide (q < runTo spaceB s q) = false := by simp; omega
      have HE : Hid (attributesP s p = (runTo spaceB s q, some l)) := by rw [← HQ.out, attrsP, if_neg (fun h => hs h.1)]; rfl
      clear hg hgr hs
      go_wp2_with (go_at_call 127; refine (spaces_any B rb s q _ hr hB).mono ?_; rintro e w1 ⟨rfl, hr1, hk1⟩)
      go_ret2
      rw [HE.out]
      exact ⟨_, _, rfl, hr1, hk.trans hk1, .inl ⟨l, rfl, by omega, hk1.owns hown (by decide), rfl⟩⟩

/-! ### comment() -/
def comP (s : ByteArray) : Nat → Nat → Nat × Bool
  | 0, p => (p, false)
  | f + 1, p =>
    if peekI s p = 45 then
      if peekI s (p + 1) = 45 then expP s [62] (p + 2)
      else if peekI s (p + 1) = 0 then (p + 1, false) else comP s f (p + 2)
    else if peekI s p = 0 then (p, false) else comP s f (p + 1)
def commentP (s : ByteArray) (p : Nat) : Nat × Bool :=
  if (expP s [33, 45, 45] p).2 = false then ((expP s [33, 45, 45] p).1, false) else comP s (s.size + 1) (expP s [33, 45, 45] p).1
theorem comP_le (s : ByteArray) : ∀ f p, p ≤ s.size → p ≤ (comP s f p).1 ∧ (comP s f p).1 ≤ s.size
  | 0, p, h => ⟨Nat.le_refl _, h⟩
  | f + 1, p, h => by
    rw [comP]
    split
    · rename_i h1
      have l1 : p < s.size := peekI_lt (by omega)
      split
      · rename_i h2
        have l2 : p + 1 < s.size := peekI_lt (by omega)
        have := expP_le s [62] (p + 2) l2
        omega
      · split
        · dsimp only; omega
        · rename_i h3
          have l2 : p + 1 < s.size := peekI_lt h3
          have := comP_le s f (p + 2) l2
          omega
    · split
      · exact ⟨Nat.le_refl _, h⟩
      · rename_i h3
        have l2 : p < s.size := peekI_lt h3
        have := comP_le s f (p + 1) l2
        omega
theorem commentP_le (s : ByteArray) (p : Nat) (h : p ≤ s.size) : p ≤ (commentP s p).1 ∧ (commentP s p).1 ≤ s.size := by
  have h1 := expP_le s [33, 45, 45] p h
  unfold commentP
  split
  · exact h1
  · have := comP_le s (s.size + 1) _ h1.2
    omega
end Go.Proofs.YtclpcnignheijaaGreatDoor
