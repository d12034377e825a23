/-
  PARTS OF THE PROOF OF THE LAW 'Compiles', joined into one text: R21, X1.
-/
import Derived.Test.YtclpcnignheijaaGreatDoorQ6
import Derived.Test.YtclpcnignheijaaGreatDoorQ9
namespace Go.Proofs.YtclpcnignheijaaGreatDoor
open Go.RowKit

theorem comp_third2 {s : ByteArray} (h : ¬ 200 < s.size) (h1 : (listP s (s.size + 1) 0).2 = none ∨ Third s 0 (listP s (s.size + 1) 0).1) : compP s = (2, (listP s (s.size + 1) 0).1, none) := by
  generalize hr : listP s (s.size + 1) 0 = r at *
  obtain ⟨q, o⟩ := r
  cases o with
  | none => exact comp_bad h hr
  | some x =>
    rcases h1 with h1 | h1
    · cases h1
    · exact comp_more h hr (by have := h1.1; dsimp only at this; omega)
theorem ret3_int {lv : Value} {a b c d : Int} (h1 : a = c) (h2 : b = d) : Ending.returned (.tuple #[lv, .int .i64 a, .int .i64 b]) = .returned (.tuple #[lv, .int .i64 c, .int .i64 d]) := by rw [h1, h2]
set_option maxHeartbeats 4000000 in
set_option maxRecDepth 100000 in
theorem rcompile_any (s : ByteArray) (w : World) :
    Calls Tryz.prog 50 #[.string s] w fun e w' => Below w.heap.size w w' ∧ ∃ lv, e = .returned (.tuple #[lv, .int .i64 ((compP s).1 : Int), .int .i64 ((compP s).2.1 : Int)]) ∧ (∃ la lm lc, lv = .slice la lm lc) ∧ (∀ l, (compP s).2.2 = some l → RepL docL (fun g => w.heap.size ≤ g) w' (s.size + 1) lv l) := by
  by_cases hs : 200 < s.size
  · have e1 : (200 : Int) < (s.size : Int) := by omega
    have HE := hide (comp_long hs)
    go_enter Tryz.func50, Tryz.ntmps50
    go_wp2
    refine bodyPost_ret (v := .tuple #[.slice none 0 0, .int .i64 1, .int .i64 0]) (by simp [results, Tryz.results50, go_sem]) rfl ?_
    rw [HE.out]
    exact ⟨Below.refl _ _, _, rfl, ⟨_, _, _, rfl⟩, fun l hl => by cases hl⟩
  · have e1 : ¬ (200 : Int) < (s.size : Int) := by omega
    have h1 : Mk (w.alloc (.cells #[.string s, .int .i64 0, .bool false, .int .i64 0, .int .i64 0] 153)) w.heap.size s 0 false 0 0 := ⟨alloc_at _ _, Nat.zero_le _, by omega⟩
    have hk1 := (Kp.refl w.heap.size [153] w).alloc (.cells #[.string s, .int .i64 0, .bool false, .int .i64 0, .int .i64 0] 153)
    have hgd := listP_gd s (s.size + 1) 0 (Nat.zero_le _)
    have hsz1 : w.heap.size ≤ (w.alloc (.cells #[.string s, .int .i64 0, .bool false, .int .i64 0, .int .i64 0] 153)).heap.size := by simp
    go_enter Tryz.func50, Tryz.ntmps50
    go_wp2_with fail
    generalize w.alloc (.cells #[.string s, .int .i64 0, .bool false, .int .i64 0, .int .i64 0] 153) = w1 at *
    refine (rlist_ok w.heap.size w.heap.size s (Nat.le_refl _) (s.size + 1) 0 0 0 0 _ h1 (Nat.le_refl _) (Nat.le_refl _) (by omega)).mono ?_
    rintro e w3 ⟨lv, rfl, ⟨va, vm, vc, rfl⟩, hk3, hor⟩
    have hkA := hk1.trans hk3
    rcases hor with ⟨l, cn, d, ho, hm3, hr3⟩ | ⟨a', m', hm3, ho⟩
    rotate_left
    · have HE := hide (comp_third2 hs ho)
      clear ho
      generalize (listP s (s.size + 1) 0).1 = q at *
      have y1 := hm3.c1; have y2 := hm3.c2
      go_wp2
      go_quiet (fail)
      go_wp2
      refine bodyPost_ret (v := .tuple #[.slice none 0 0, .int .i64 2, .int .i64 (q : Int)]) (by simp [results, Tryz.results50, go_sem]) rfl ?_
      rw [HE.out]
      exact ⟨(hkA.drewN _).below (Nat.le_refl _), _, rfl, ⟨_, _, _, rfl⟩, fun l hl => by cases hl⟩
    · obtain ⟨g1, g2, g3⟩ := hgd
      have g3 := g3 _ ho
      dsimp only at g3
      generalize hq : (listP s (s.size + 1) 0).1 = q at *
      have HL : Hid (listP s (s.size + 1) 0 = (q, some (l, cn, d))) := by rw [← hq, ← ho]; rfl
      clear hq ho
      rw [show max 0 (0 + d) = d from by omega, show 0 + cn = cn from by omega] at hm3
      have y0 := hm3.c0; have y1 := hm3.c1; have y2 := hm3.c2; have y3 := hm3.c3; have y4 := hm3.c4
      by_cases hqs : q = s.size
      · have b1 : ¬ (q : Int) < (s.size : Int) := by omega
        by_cases hl : 24 < cn ∨ 4 < 1 + d
        · have HE := hide (comp_limit hs HL.out hqs hl)
          have HQS := hide hqs
          clear hqs
          by_cases h24 : 24 < cn
          · have b2 : (24 : Int) < (cn : Int) := by omega
            clear hl
            go_wp2
            refine bodyPost_ret (v := .tuple #[.slice none 0 0, .int .i64 3, .int .i64 0]) (by simp [results, Tryz.results50, go_sem]) rfl ?_
            rw [HE.out]
            exact ⟨hkA.below (Nat.le_refl _), _, rfl, ⟨_, _, _, rfl⟩, fun l hl => by cases hl⟩
          · have b2 : ¬ (24 : Int) < (cn : Int) := by omega
            have b3 : (4 : Int) ≤ (d : Int) := by omega
            clear hl
            go_wp2
            refine bodyPost_ret (v := .tuple #[.slice none 0 0, .int .i64 3, .int .i64 0]) (by simp [results, Tryz.results50, go_sem]) rfl ?_
            rw [HE.out]
            exact ⟨hkA.below (Nat.le_refl _), _, rfl, ⟨_, _, _, rfl⟩, fun l hl => by cases hl⟩
        · have HE := hide (comp_good hs HL.out hqs hl)
          have b2 : ¬ (24 : Int) < (cn : Int) := by omega
          have b3 : ¬ (4 : Int) ≤ (d : Int) := by omega
          have HQS := hide hqs
          clear hl hqs
          go_wp2
          refine bodyPost_ret (v := .tuple #[.slice va vm vc, .int .i64 0, .int .i64 0]) (by simp [results, Tryz.results50, go_sem]) rfl ?_
          rw [HE.out]
          exact ⟨hkA.below (Nat.le_refl _), _, rfl, ⟨_, _, _, rfl⟩, fun l' hl => by cases hl; exact hr3.map (Fr.same fun g hg => by omega)⟩
      · have HE := hide (comp_more hs HL.out hqs)
        have b1 : (q : Int) < (s.size : Int) := by omega
        clear hqs
        go_wp2
        go_quiet (fail)
        go_wp2
        refine bodyPost_ret (v := .tuple #[.slice none 0 0, .int .i64 2, .int .i64 (q : Int)]) (by simp [results, Tryz.results50, go_sem]) rfl ?_
        rw [HE.out]
        exact ⟨(hkA.drewN _).below (Nat.le_refl _), _, rfl, ⟨_, _, _, rfl⟩, fun l hl => by cases hl⟩
end Go.Proofs.YtclpcnignheijaaGreatDoor
/-
  The document's writer of selectors: a simple.
-/
namespace Go.Proofs.YtclpcnignheijaaGreatDoor
open Go.RowKit

/-- What the document's Write promises, lists within lying no deeper than n. -/
def RWriteOk (n : Nat) : Prop := ∀ (lv : Value) (l : SLst) (w : World), RepL docL (fun _ => True) w n lv l → wfL n l → (textL n l).length ≤ 1000000 →
  Calls Tryz.prog 19 #[lv] w fun e w' => e = .returned (.string (bytesOf (textL n l))) ∧ Below w.heap.size w w'
theorem byte_text (c : UInt8) (w : World) : (convert 50 9 (.slice (some ⟨w.heap.size, 0, none⟩) 1 1)).run Tryz.prog (w.alloc (.cells #[.int .u8 (c.toNat : Int)] 5)) = .ok (.string ⟨#[c]⟩) (w.alloc (.cells #[.int .u8 (c.toNat : Int)] 5)) :=
  run_convert_bytes_back (P := Tryz.prog) (w.alloc (.cells #[.int .u8 (c.toNat : Int)] 5)) 50 9 5 ⟨w.heap.size, 0, none⟩ 1 [c] Tryz.underlying50 Tryz.underlying5 Tryz.underlying9 (fun j hj => by
    have hj0 : j = 0 := by simpa using hj
    subst hj0
    rw [addr_add, Nat.zero_add, cell_of_one (alloc_at w _)]
    rfl)
theorem repL_len {L : Lay} {P : Nat → Prop} {w : World} : ∀ {n : Nat} {lv : Value} {l : SLst}, RepL L P w n lv l → ∃ la lc, lv = .slice la l.length lc
  | 0, _, _, ⟨h1, h2⟩ => ⟨none, 0, by rw [h1, h2]; rfl⟩
  | _ + 1, _, _, ⟨_, own, _⟩ => own_slice own.1
theorem Fr.dr (L : Lay) (P : Nat → Prop) (w : World) : Fr L P P w w.drew := fun _ _ _ hg hb _ => ⟨hg, hb⟩
theorem numT_ne (n : Int) : numT n ≠ [] := by unfold numT digsT; split <;> split <;> simp
theorem nthT_ne (z : NthQ) : (nthT z).length ≠ 0 := by
  unfold nthT
  split
  · split
    · simp
    · have := numT_ne z.b; simpa using this
  · rename_i h; rw [sz_len]; exact h
theorem box9 (w : World) (so : Int) (wd op va : ByteArray) (sm : Bool) (i j : Int) (nt : ByteArray) (lv : Value) : (w.alloc (.cells #[.int .u8 so, .string wd, .string op, .string va, .bool sm, .int .i64 i, .int .i64 j, .string nt, lv] 104)).heap[w.heap.size]? = some (.cells #[.int .u8 so, .string wd, .string op, .string va, .bool sm, .int .i64 i, .int .i64 j, .string nt, lv] 104 (0, 0)) := alloc_at _ _
section
variable (n : Nat) (x : ByteArray) (y : AttrQ) (z : NthQ) (la : Option Addr) (lc : Nat) (l : SLst) (w : World)
set_option maxRecDepth 100000 in
set_option maxHeartbeats 4000000 in
theorem rtext_attr (hs : (simT (textL n) (.mk 2 x y z l)).length ≤ 1000000) :
    Calls Tryz.prog 52 #[.agg #[.int .u8 91, .string y.name, .string y.op, .string y.val, .bool y.any, .int .i64 z.a, .int .i64 z.b, .string ⟨#[]⟩, .slice la l.length lc]] w fun e w' => e = .returned (.string (bytesOf (simT (textL n) (.mk 2 x y z l)))) ∧ Below w.heap.size w w' := by
  obtain ⟨nm, op, va, any⟩ := y
  have hT0 : simT (textL n) (.mk 2 x ⟨nm, op, va, any⟩ z l) = 91 :: (attrT ⟨nm, op, va, any⟩ ++ [93]) := rfl
  obtain ⟨⟨c0, c1, c2, c3, c4, c5, c6, c7, c8⟩, _⟩ := cells9 (box9 w 91 nm op va any z.a z.b ⟨#[]⟩ (.slice la l.length lc))
  have hbl : ∀ o, Below w.heap.size w (w.alloc o) := fun o => (Below.refl _ _).alloc (Nat.le_refl _) o
  dsimp only
  by_cases hop : op.size = 0
  · obtain rfl := noB_size hop
    have HT : Hid (simT (textL n) (.mk 2 x ⟨nm, ⟨#[]⟩, va, any⟩ z l) = [91] ++ nm.data.toList ++ [93]) := by
      have e : attrT ⟨nm, ⟨#[]⟩, va, any⟩ = nm.data.toList := by unfold attrT; simp; rfl
      rw [hT0, e]; simp [Hid]
    have hsn : nm.size ≤ 1000000 := by
      rw [HT.out] at hs; simp only [List.length_append, sz_len] at hs; omega
    clear hT0 hop hs
    go_enter Tryz.func52, Tryz.ntmps52
    go_wp2
    go_ret
    rw [HT.out, ← app_bytes, ← app_bytes]
    exact ⟨rfl, hbl _⟩
  · have hne := str_ne hop
    have hT1 : attrT ⟨nm, op, va, any⟩ = nm.data.toList ++ (op.data.toList ++ 34 :: (va.data.toList ++ 34 :: (if any = true then [32, 105] else []))) := by unfold attrT; rw [if_neg hop]
    have hlen : nm.size + op.size + va.size ≤ 1000000 := by
      rw [hT0, hT1] at hs; simp only [List.length_append, List.length_cons, sz_len] at hs; omega
    have h1 : nm.size ≤ 1000000 := by omega
    have h2 : op.size ≤ 1000000 := by omega
    have h3 : va.size ≤ 1000000 := by omega
    cases any
    · have HT : Hid (simT (textL n) (.mk 2 x ⟨nm, op, va, false⟩ z l) = [91] ++ nm.data.toList ++ op.data.toList ++ [34] ++ va.data.toList ++ [34, 93]) := by
        rw [hT0, hT1]; simp [Hid]
      clear hT0 hT1 hop hs hlen
      go_enter Tryz.func52, Tryz.ntmps52
      go_wp2
      go_ret
      rw [HT.out]
      simp only [← app_bytes]
      exact ⟨rfl, hbl _⟩
    · have HT : Hid (simT (textL n) (.mk 2 x ⟨nm, op, va, true⟩ z l) = [91] ++ nm.data.toList ++ op.data.toList ++ [34] ++ va.data.toList ++ [34, 32, 105, 93]) := by
        rw [hT0, hT1]; simp [Hid]
      clear hT0 hT1 hop hs hlen
      go_enter Tryz.func52, Tryz.ntmps52
      go_wp2
      go_ret
      rw [HT.out]
      simp only [← app_bytes]
      exact ⟨rfl, hbl _⟩
set_option maxRecDepth 100000 in
set_option maxHeartbeats 4000000 in
theorem rtext_nth (hs : (simT (textL n) (.mk 8 x y z l)).length ≤ 1000000) :
    Calls Tryz.prog 52 #[.agg #[.int .u8 58, .string (wordR 8 x y), .string y.op, .string y.val, .bool y.any, .int .i64 z.a, .int .i64 z.b, .string (bytesOf (nthT z)), .slice la l.length lc]] w fun e w' => e = .returned (.string (bytesOf (simT (textL n) (.mk 8 x y z l)))) ∧ Below w.heap.size w w' := by
  generalize wordR 8 x y = wd
  have HT : Hid (simT (textL n) (.mk 8 x y z l) = [58, 110, 116, 104, 45, 99, 104, 105, 108, 100, 40] ++ nthT z ++ [41]) := by
    show openW.getD 8 [] ++ (nthT z ++ closeW 8) = _
    rw [← List.append_assoc]; rfl
  have hl : (nthT z).length ≤ 1000000 := by rw [HT.out] at hs; simp only [List.length_append] at hs; omega
  have hne := str_ne (x := bytesOf (nthT z)) (by rw [bytesOf_size]; exact nthT_ne z)
  have hsz : (bytesOf (nthT z)).size ≤ 1000000 := by rw [bytesOf_size]; exact hl
  obtain ⟨⟨c0, c1, c2, c3, c4, c5, c6, c7, c8⟩, _⟩ := cells9 (box9 w 58 wd y.op y.val y.any z.a z.b (bytesOf (nthT z)) (.slice la l.length lc))
  have hbl : ∀ o, Below w.heap.size w (w.alloc o) := fun o => (Below.refl _ _).alloc (Nat.le_refl _) o
  clear hs hl
  go_enter Tryz.func52, Tryz.ntmps52
  go_wp2
  go_ret
  rw [HT.out, ← app_bytes, ← app_bytes]
  exact ⟨rfl, hbl _⟩
theorem rwrite_keep (IH : RWriteOk n) (lv : Value) (W : World) (hr : RepL docL (fun _ => True) W n lv l) (hw : wfL n l) (hs : (textL n l).length ≤ 1000000) {R : Nat} {c : Array Value} {t : TypeId} (rs : W.heap[R]? = some (.cells c t (0, 0))) :
    Calls Tryz.prog 19 #[lv] W fun e w' => e = .returned (.string (bytesOf (textL n l))) ∧ Below W.heap.size W w' ∧ w'.heap[R]? = some (.cells c t (0, 0)) :=
  (IH lv l W hr hw hs).mono fun _ _ ⟨he, hb⟩ => ⟨he, hb, below_at hb rs (lt_of_block rs)⟩
set_option maxRecDepth 100000 in
set_option maxHeartbeats 4000000 in
theorem rtext_list (IH : RWriteOk n) (k : Nat) (hk : k = 9 ∨ k = 10) (hr : RepL docL (fun _ => True) w n (.slice la l.length lc) l) (hw : wfL n l) (hl0 : l ≠ []) (hs : (simT (textL n) (.mk k x y z l)).length ≤ 1000000) :
    Calls Tryz.prog 52 #[.agg #[.int .u8 58, .string (wordR k x y), .string y.op, .string y.val, .bool y.any, .int .i64 z.a, .int .i64 z.b, .string ⟨#[]⟩, .slice la l.length lc]] w fun e w' => e = .returned (.string (bytesOf (simT (textL n) (.mk k x y z l)))) ∧ Below w.heap.size w w' := by
  have HT : Hid (simT (textL n) (.mk k x y z l) = [58] ++ (wordR k x y).data.toList ++ textL n l ++ [41]) := by
    rcases hk with rfl | rfl
    · show openW.getD 9 [] ++ (textL n l ++ closeW 9) = _
      rw [← List.append_assoc]; rfl
    · show openW.getD 10 [] ++ (textL n l ++ closeW 10) = _
      rw [← List.append_assoc]; rfl
  generalize hwd : wordR k x y = wd at *
  have hle : wd.size + (textL n l).length ≤ 1000000 := by rw [HT.out] at hs; simp only [List.length_append, sz_len] at hs; omega
  have hs1 : wd.size ≤ 1000000 := by omega
  have hs2 : (textL n l).length ≤ 1000000 := by omega
  have hsz : (bytesOf (textL n l)).size ≤ 1000000 := by rw [bytesOf_size]; exact hs2
  have hpos : (0 : Int) < (l.length : Int) := by have := List.length_pos_iff.2 hl0; omega
  have r0 := box9 w 58 wd y.op y.val y.any z.a z.b ⟨#[]⟩ (.slice la l.length lc)
  have hr0 := hr.map (Fr.alloc (P' := fun _ => True) (.cells #[.int .u8 58, .string wd, .string y.op, .string y.val, .bool y.any, .int .i64 z.a, .int .i64 z.b, .string ⟨#[]⟩, .slice la l.length lc] 104) fun _ h => h)
  have hrd : RepL docL (fun _ => True) (w.alloc (.cells #[.int .u8 58, .string wd, .string y.op, .string y.val, .bool y.any, .int .i64 z.a, .int .i64 z.b, .string ⟨#[]⟩, .slice la l.length lc] 104)).drew n (.slice la l.length lc) l := hr0.map (Fr.dr docL (fun _ => True) _)
  obtain ⟨⟨c0, c1, c2, c3, c4, c5, c6, c7, c8⟩, _⟩ := cells9 r0
  have hbl : ∀ o, Below w.heap.size w (w.alloc o) := fun o => (Below.refl _ _).alloc (Nat.le_refl _) o
  clear hs hle hwd hk hl0
  go_enter Tryz.func52, Tryz.ntmps52
  go_wp2
  go_region_with (go_at_call 19; refine (rwrite_keep n l IH _ _ hrd hw hs2 (at_dr r0)).mono ?_; rintro e w1 ⟨rfl, hb1, r1⟩; obtain ⟨⟨_, p1, _, _, _, _, _, _, p8⟩, _⟩ := cells9 r1)
  all_goals
    go_wp2
    go_ret
    rw [HT.out, ← app_bytes, ← app_bytes, ← app_bytes]
    exact ⟨rfl, (hbl _).trans ((show Below _ (w.alloc _) w1 from ⟨hb1.os, hb1.tape, hb1.output, hb1.size, hb1.block⟩).mono (by simp))⟩
set_option maxRecDepth 100000 in
set_option maxHeartbeats 4000000 in
theorem rtext_plain (k : Nat) (c : UInt8) (wd : ByteArray) (hc : (c.toNat : Int) ≠ 91) (hl : l.length = 0) (hT : simT (textL n) (.mk k x y z l) = [c] ++ wd.data.toList) (hs : (simT (textL n) (.mk k x y z l)).length ≤ 1000000) :
    Calls Tryz.prog 52 #[.agg #[.int .u8 (c.toNat : Int), .string wd, .string y.op, .string y.val, .bool y.any, .int .i64 z.a, .int .i64 z.b, .string ⟨#[]⟩, .slice la l.length lc]] w fun e w' => e = .returned (.string (bytesOf (simT (textL n) (.mk k x y z l)))) ∧ Below w.heap.size w w' := by
  have HT := hide hT
  have hs1 : wd.size ≤ 1000000 := by rw [hT] at hs; simp only [List.length_append, sz_len] at hs; omega
  have b91 : ((c.toNat : Int) == 91) = false := by simpa using hc
  have hz : ¬ (0 : Int) < (l.length : Int) := by omega
  have hcv := byte_text c (w.alloc (.cells #[.int .u8 (c.toNat : Int), .string wd, .string y.op, .string y.val, .bool y.any, .int .i64 z.a, .int .i64 z.b, .string ⟨#[]⟩, .slice la l.length lc] 104))
  simp only [World.size_alloc] at hcv
  obtain ⟨⟨c0, c1, c2, c3, c4, c5, c6, c7, c8⟩, _⟩ := cells9 (box9 w (c.toNat : Int) wd y.op y.val y.any z.a z.b ⟨#[]⟩ (.slice la l.length lc))
  have hbl : ∀ o o', Below w.heap.size w ((w.alloc o).alloc o') := fun o o' => ((Below.refl _ _).alloc (Nat.le_refl _) o).alloc (by simp) o'
  clear hs hT hc
  generalize l.length = ll at *
  clear hl
  go_enter Tryz.func52, Tryz.ntmps52
  go_wp2
  go_ret
  rw [HT.out, ← app_bytes]
  exact ⟨rfl, hbl _ _⟩
/-- text of a simple, whatever it is. -/
theorem rtext_any (IH : RWriteOk n) (k : Nat) (lv : Value) (hr : RepL docL (fun _ => True) w n lv l) (hwf : wfS (wfL n) (.mk k x y z l)) (hs : (simT (textL n) (.mk k x y z l)).length ≤ 1000000) :
    Calls Tryz.prog 52 #[.agg (refCells k x y z lv).toArray] w fun e w' => e = .returned (.string (bytesOf (simT (textL n) (.mk k x y z l)))) ∧ Below w.heap.size w w' := by
  obtain ⟨hk, h8, h9, hl9⟩ := hwf
  obtain ⟨la, lc, rfl⟩ := repL_len hr
  by_cases hk9 : 9 ≤ k
  · obtain ⟨hl0, hw⟩ := h9 hk9
    have h910 : k = 9 ∨ k = 10 := by omega
    have := rtext_list n x y z la lc l w IH k h910 hr hw hl0 hs
    rcases h910 with rfl | rfl <;> exact this
  · have hl := hl9 (by omega)
    rcases k with _ | _ | _ | _ | _ | _ | _ | _ | _ | k
    · exact rtext_plain n x y z la lc l w 0 35 x (by decide) (by rw [hl]; rfl) (by show [35] ++ (x.data.toList ++ []) = _; rw [List.append_nil]) hs
    · exact rtext_plain n x y z la lc l w 1 46 x (by decide) (by rw [hl]; rfl) (by show [46] ++ (x.data.toList ++ []) = _; rw [List.append_nil]) hs
    · exact rtext_attr n x y z la lc l w hs
    · exact rtext_plain n x y z la lc l w 3 58 (wordR 3 x y) (by decide) (by rw [hl]; rfl) rfl hs
    · exact rtext_plain n x y z la lc l w 4 58 (wordR 4 x y) (by decide) (by rw [hl]; rfl) rfl hs
    · exact rtext_plain n x y z la lc l w 5 58 (wordR 5 x y) (by decide) (by rw [hl]; rfl) rfl hs
    · exact rtext_plain n x y z la lc l w 6 58 (wordR 6 x y) (by decide) (by rw [hl]; rfl) rfl hs
    · exact rtext_plain n x y z la lc l w 7 58 (wordR 7 x y) (by decide) (by rw [hl]; rfl) rfl hs
    · exact rtext_nth n x y z la lc l w hs
    · omega
end
end Go.Proofs.YtclpcnignheijaaGreatDoor
