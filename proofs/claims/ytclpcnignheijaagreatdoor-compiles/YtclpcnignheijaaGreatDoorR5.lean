import Derived.Test.YtclpcnignheijaaGreatDoorR4
namespace Go.Proofs.YtclpcnignheijaaGreatDoor
open Go.RowKit

def signR (s : ByteArray) (p : Nat) : Int := if (signP s p).2.2 = true then (signP s p).2.1 else 0
set_option maxHeartbeats 1000000 in
theorem rsign_any (B mb : Nat) (s : ByteArray) (p a m : Nat) (w : World) (h : Mk w mb s p false a m) (hB : B ≤ mb) :
    Calls Tryz.prog 238 #[.pointer (some ⟨mb, 0, none⟩)] w fun e w' => e = .returned (.int .i64 (signR s p)) ∧ Mk w' mb s (signP s p).1 false a m ∧ Kp B [153] w w' := by
  by_cases h1 : peekI s p = 43
  · have HE : Hid (signP s p = (p + 1, 1, true)) := by unfold signP; rw [if_neg (by rw [h1]; decide), if_pos h1]; rfl
    have H1 := hide h1
    clear h1
    go_enter Tryz.func238, Tryz.ntmps238
    go_wp2_with (go_at_call 98; refine (is_yes B mb s p a m _ _ h hB H1.out (by decide)).mono ?_; rintro e w1 ⟨rfl, hm1, hk1⟩)
    go_ret
    have hr : signR s p = 1 := by unfold signR; rw [HE.out]; rfl
    rw [hr, HE.out]
    exact ⟨rfl, hm1, hk1⟩
  · have H1 := hide h1
    by_cases h2 : peekI s p = 45
    · have HE : Hid (signP s p = (p + 1, -1, true)) := by unfold signP; rw [if_pos h2]; rfl
      have H2 := hide h2
      clear h1 h2
      go_enter Tryz.func238, Tryz.ntmps238
      go_wp2_with fail
      refine (is_no B mb s p false a m _ _ h (by rw [nextI_ok]; exact H1.out)).mono ?_
      rintro e w1 ⟨rfl, hm1, hk1⟩
      go_wp2_with (go_at_call 98; refine (is_yes B mb s p a m _ _ hm1 hB H2.out (by decide)).mono ?_; rintro e w2 ⟨rfl, hm2, hk2⟩)
      go_ret
      have hr : signR s p = -1 := by unfold signR; rw [HE.out]; rfl
      rw [hr, HE.out]
      exact ⟨rfl, hm2, hk1.trans hk2⟩
    · have HE : Hid (signP s p = (p, 1, false)) := by unfold signP; rw [if_neg h2, if_neg h1]; rfl
      have H2 := hide h2
      clear h1 h2
      go_enter Tryz.func238, Tryz.ntmps238
      go_wp2_with fail
      refine (is_no B mb s p false a m _ _ h (by rw [nextI_ok]; exact H1.out)).mono ?_
      rintro e w1 ⟨rfl, hm1, hk1⟩
      go_wp2_with (go_at_call 98; refine (is_no B mb s p false a m _ _ hm1 (by rw [nextI_ok]; exact H2.out)).mono ?_; rintro e w2 ⟨rfl, hm2, hk2⟩)
      go_ret
      have hr : signR s p = 0 := by unfold signR; rw [HE.out]; rfl
      rw [hr, HE.out]
      exact ⟨rfl, hm2, hk1.trans hk2⟩
set_option maxRecDepth 100000 in
set_option maxHeartbeats 2000000 in
theorem rcount_any (B mb : Nat) (s : ByteArray) (p a m : Nat) (w : World) (h : Mk w mb s p false a m) (hB : B ≤ mb) :
    Calls Tryz.prog 239 #[.pointer (some ⟨mb, 0, none⟩)] w fun e w' => ∃ kk : Nat, e = .returned (.tuple #[.int .i64 (countP s p).2.1, .int .i64 kk]) ∧ (kk ≤ 2 ∧ (kk == 0) = !(countP s p).2.2) ∧ Mk w' mb s (countP s p).1 false a m ∧ Kp B [153] w w' := by
  have h4 := h.le; have h5 := h.max
  have d1 := h.c1; have df := h.free (o := 1)
  cases hd1 : digitB (peekI s p)
  · have HE : Hid (countP s p = (p, 0, false)) := by unfold countP; rw [hd1, if_neg (by simp)]; rfl
    have HD := hide hd1
    clear hd1
    go_enter Tryz.func239, Tryz.ntmps239
    go_wp2
    refine wp_loop_rounds 1 ?_
    rw [rounds_succ]
    go_wp2_with (first | (go_at_call 131; refine (next_is mb s p false a m _ (peekI s p) h (nextI_ok s p)).mono ?_; rintro e w' ⟨rfl, nq, rfl⟩) | (go_at_call 176; refine (rdigit_is _ _ _ HD.out).mono ?_; rintro e w' ⟨rfl, rfl⟩))
    go_ret2
    rw [HE.out]
    exact ⟨0, rfl, ⟨by omega, rfl⟩, h.drewN _, (Kp.refl _ _ _).drewN _⟩
  · have hbd1 := digitB_bd hd1
    have hin1 := digit_in hd1
    have HD := hide hd1
    cases hd2 : digitB (peekI s (p + 1))
    · have HE : Hid (countP s p = (p + 1, peekI s p - 48, true)) := by unfold countP; rw [hd1, hd2, if_pos rfl, if_neg (by simp)]; rfl
      have HD2 := hide hd2
      clear hd1 hd2
      go_enter Tryz.func239, Tryz.ntmps239
      go_wp2
      refine wp_loop_rounds 2 ?_
      rw [rounds_succ]
      go_wp2_with (first | (go_at_call 131; refine (next_is mb s p false a m _ (peekI s p) h (nextI_ok s p)).mono ?_; rintro e w' ⟨rfl, nq, rfl⟩) | (go_at_call 176; refine (rdigit_is _ _ _ HD.out).mono ?_; rintro e w' ⟨rfl, rfl⟩))
      have hm1 := (h.drewN nq).set1 (q := p + 1) (v := (p : Int) + 1) (by omega) (by simp)
      have hk1 := (h.drewN nq).kp ((Kp.refl B [153] w).drewN nq) hB 1 (.int .i64 ((p : Int) + 1))
      clear d1 df
      generalize (w.drewN nq).setCell ⟨mb, 1, none⟩ (.int .i64 ((p : Int) + 1)) = w1 at *
      rw [rounds_succ]
      have d1 := hm1.c1; have df := hm1.free (o := 1)
      go_wp2_with (first | (go_at_call 131; refine (next_is mb s (p + 1) false a m _ (peekI s (p + 1)) hm1 (nextI_ok s (p + 1))).mono ?_; rintro e w' ⟨rfl, nq2, rfl⟩) | (go_at_call 176; refine (rdigit_is _ _ _ HD2.out).mono ?_; rintro e w' ⟨rfl, rfl⟩))
      go_ret2
      rw [HE.out]
      exact ⟨1, rfl, ⟨by omega, rfl⟩, hm1.drewN _, hk1.drewN _⟩
    · have hbd2 := digitB_bd hd2
      have hin2 := digit_in hd2
      have HE : Hid (countP s p = (p + 2, 10 * (peekI s p - 48) + (peekI s (p + 1) - 48), true)) := by unfold countP; rw [hd1, hd2, if_pos rfl, if_pos rfl]; rfl
      have HD2 := hide hd2
      clear hd1 hd2
      go_enter Tryz.func239, Tryz.ntmps239
      go_wp2
      refine wp_loop_rounds 3 ?_
      rw [rounds_succ]
      go_wp2_with (first | (go_at_call 131; refine (next_is mb s p false a m _ (peekI s p) h (nextI_ok s p)).mono ?_; rintro e w' ⟨rfl, nq, rfl⟩) | (go_at_call 176; refine (rdigit_is _ _ _ HD.out).mono ?_; rintro e w' ⟨rfl, rfl⟩))
      have hm1 := (h.drewN nq).set1 (q := p + 1) (v := (p : Int) + 1) (by omega) (by simp)
      have hk1 := (h.drewN nq).kp ((Kp.refl B [153] w).drewN nq) hB 1 (.int .i64 ((p : Int) + 1))
      clear d1 df
      generalize (w.drewN nq).setCell ⟨mb, 1, none⟩ (.int .i64 ((p : Int) + 1)) = w1 at *
      rw [rounds_succ]
      have d1 := hm1.c1; have df := hm1.free (o := 1)
      go_wp2_with (first | (go_at_call 131; refine (next_is mb s (p + 1) false a m _ (peekI s (p + 1)) hm1 (nextI_ok s (p + 1))).mono ?_; rintro e w' ⟨rfl, nq2, rfl⟩) | (go_at_call 176; refine (rdigit_is _ _ _ HD2.out).mono ?_; rintro e w' ⟨rfl, rfl⟩))
      rw [rounds_succ]
      go_wp2
      go_ret2
      rw [HE.out]
      refine ⟨2, ?_, ⟨by omega, rfl⟩, (hm1.drewN _).set1 (by omega) (by omega), (hm1.drewN _).kp (hk1.drewN _) hB _ _⟩
      show Ending.returned (.tuple #[.int .i64 (10 * (peekI s p - 48) + peekI s (p + 1) - 48), .int .i64 2]) = .returned (.tuple #[.int .i64 (10 * (peekI s p - 48) + (peekI s (p + 1) - 48)), .int .i64 2])
      rw [show 10 * (peekI s p - 48) + peekI s (p + 1) - 48 = 10 * (peekI s p - 48) + (peekI s (p + 1) - 48) from by omega]

/-- A number from -99 to 99, written. -/
def digU (n : Nat) : UInt8 := UInt8.ofNat (48 + n)
def digsT (n : Nat) : List UInt8 := if 10 ≤ n then [digU (n / 10), digU (n % 10)] else [digU n]
def numT (n : Int) : List UInt8 := if n < 0 then 45 :: digsT n.natAbs else digsT n.natAbs
theorem app_bytes (x y : List UInt8) : bytesOf x ++ bytesOf y = bytesOf (x ++ y) := by
  apply ByteArray.ext
  apply Array.toList_inj.mp
  simp [bytesOf]
theorem digU_nat {n : Nat} (h : n < 10) : (digU n).toNat = 48 + n := by
  unfold digU
  rw [UInt8.toNat_ofNat']; omega
theorem digit_text (n : Nat) (w : World) : (convert 50 9 (.slice (some ⟨w.heap.size, 0, none⟩) 1 1)).run Tryz.prog (w.alloc (.cells #[.int .u8 (48 + (n : Int) % 10)] 5)) = .ok (.string ⟨#[digU (n % 10)]⟩) (w.alloc (.cells #[.int .u8 (48 + (n : Int) % 10)] 5)) := by
  have hd := digU_nat (n := n % 10) (by omega)
  exact run_convert_bytes_back (P := Tryz.prog) (w.alloc (.cells #[.int .u8 (48 + (n : Int) % 10)] 5)) 50 9 5 ⟨w.heap.size, 0, none⟩ 1 [digU (n % 10)] Tryz.underlying50 Tryz.underlying5 Tryz.underlying9 (fun j hj => by
    have hj0 : j = 0 := by simpa using hj
    subst hj0
    rw [addr_add, Nat.zero_add, cell_of_one (alloc_at w _)]
    simp only [List.getElem_cons_zero, hd]
    congr 2)
set_option maxRecDepth 100000 in
set_option maxHeartbeats 2000000 in
theorem number_one (n : Nat) (w : World) (h : n < 10) :
    Calls Tryz.prog 240 #[.int .i64 n] w fun e w' => e = .returned (.string (bytesOf [digU n])) ∧ Below w.heap.size w w' := by
  have hcv := digit_text n w
  have hmod : n % 10 = n := by omega
  rw [hmod] at hcv
  have e1 : ¬ (10 : Int) ≤ (n : Int) := by omega
  have e0 : ¬ (n : Int) < 0 := by omega
  clear hmod
  go_enter Tryz.func240, Tryz.ntmps240
  go_wp2_with fail
  go_ret
  exact ⟨congrArg (fun x => Ending.returned (.string x)) (app_bytes [] [digU n]), (Below.refl _ _).alloc (Nat.le_refl _) _⟩
set_option maxRecDepth 100000 in
set_option maxHeartbeats 2000000 in
theorem number_pos (n : Nat) (w : World) (h : n < 100) :
    Calls Tryz.prog 240 #[.int .i64 n] w fun e w' => e = .returned (.string (bytesOf (digsT n))) ∧ Below w.heap.size w w' := by
  by_cases h10 : n < 10
  · have hd : digsT n = [digU n] := by unfold digsT; rw [if_neg (by omega)]
    rw [hd]; exact number_one n w h10
  · have hd : digsT n = [digU (n / 10), digU (n % 10)] := by unfold digsT; rw [if_pos (by omega)]
    have HD := hide hd
    clear hd
    have e1 : (10 : Int) ≤ (n : Int) := by omega
    have e0 : ¬ (n : Int) < 0 := by omega
    go_enter Tryz.func240, Tryz.ntmps240
    go_wp2_with fail
    rw [show (n : Int) / 10 = ((n / 10 : Nat) : Int) from rfl]
    refine (number_one (n / 10) _ (by omega)).mono ?_
    rintro e w1 ⟨rfl, hb1⟩
    have hcv := digit_text n w1
    have hsz := hb1.size
    have hbs : (bytesOf [digU (n / 10)]).size ≤ 10 := by show [digU (n / 10)].toArray.size ≤ 10; simp
    go_wp2
    go_ret
    rw [HD.out]
    exact ⟨congrArg (fun x => Ending.returned (.string x)) (app_bytes [digU (n / 10)] [digU (n % 10)]), hb1.alloc hsz _⟩
set_option maxRecDepth 100000 in
set_option maxHeartbeats 2000000 in
theorem number_any (n : Int) (w : World) (h1 : -100 < n) (h2 : n < 100) :
    Calls Tryz.prog 240 #[.int .i64 n] w fun e w' => e = .returned (.string (bytesOf (numT n))) ∧ Below w.heap.size w w' := by
  by_cases h0 : n < 0
  · have hd : numT n = 45 :: digsT n.natAbs := by unfold numT; rw [if_pos h0]
    have HD := hide hd
    clear hd
    have hbs : (bytesOf (digsT n.natAbs)).size ≤ 10 := by
      show (digsT n.natAbs).toArray.size ≤ 10
      unfold digsT; split <;> simp
    go_enter Tryz.func240, Tryz.ntmps240
    go_wp2_with fail
    rw [show -n = ((n.natAbs : Nat) : Int) from by omega]
    refine (number_pos n.natAbs _ (by omega)).mono ?_
    rintro e w1 ⟨rfl, hb1⟩
    go_wp2
    go_ret
    rw [HD.out]
    exact ⟨congrArg (fun x => Ending.returned (.string x)) (app_bytes [45] (digsT n.natAbs)), hb1⟩
  · have hd : numT n = digsT n.natAbs := by unfold numT; rw [if_neg h0]
    rw [hd, show n = ((n.natAbs : Nat) : Int) from by omega]
    exact number_pos n.natAbs w (by omega)
end Go.Proofs.YtclpcnignheijaaGreatDoor
