/-
  PARTS OF THE PROOF OF THE LAW 'Nearest', joined into one text: R4, R5, R6, W1, W8.
-/
import Derived.Test.YtclpcnignheijaaGreatDoorQ11
import Derived.Test.YtclpcnignheijaaGreatDoorQ7
import Derived.Deep.RegionWith
namespace Go.Proofs.YtclpcnignheijaaGreatDoor
open Go.RowKit

theorem goesOn_pk {words : List (List UInt8)} {t : List UInt8} {b : Int} (hw : ∀ x ∈ words, (0 : UInt8) ∉ x) (h : goesOn words t b = true) : b ≠ 0 := by
  intro e
  rw [e] at h
  unfold goesOn at h
  rw [List.any_eq_true] at h
  obtain ⟨x, hx, h⟩ := h
  rw [Bool.and_eq_true] at h
  obtain ⟨_, h⟩ := h
  split at h
  · rename_i c hc
    have hc0 : (c.toNat : Int) = 0 := by simpa using h
    have h1 : (0 : UInt8).toNat = 0 := rfl
    have : c = 0 := UInt8.toNat_inj.mp (by omega)
    exact hw x hx (this ▸ List.mem_of_getElem? hc)
  · cases h
set_option maxRecDepth 100000 in
set_option maxHeartbeats 4000000 in
theorem among_any (B mb g cap N : Nat) (ws : List (List UInt8)) (s : ByteArray) (p a m : Nat) (w : World) (h : Mk w mb s p false a m) (hB : B ≤ mb) (hb : Ws w g ws) (hl : ws.length ≤ 100) (h0 : ∀ x ∈ ws, (0 : UInt8) ∉ x) (hN : ∀ x ∈ ws, x.length < N) (hN0 : 0 < N) (hN1 : N ≤ 100) :
    Calls Tryz.prog 132 #[.pointer (some ⟨mb, 0, none⟩), .slice (some ⟨g, 0, none⟩) ws.length cap] w fun e w' => ∃ i : Int, e = .returned (.int .i64 i) ∧ Kp B [153] w w' ∧
      ((∃ k : Nat, (oneP s ws N [] p).2 = some k ∧ i = (k : Int) ∧ Mk w' mb s (oneP s ws N [] p).1 false a m) ∨ ((oneP s ws N [] p).2 = none ∧ i = -1 ∧ Mk w' mb s (oneP s ws N [] p).1 true a m)) := by
  have h4 := h.le; have h5 := h.max
  have d1 := h.c1
  go_enter Tryz.func132, Tryz.ntmps132
  go_wp2
  clear d1
  go_loopw [14] (fun _ wr => ∃ q : Nat, Mk wr mb s q false a m ∧ p ≤ q ∧ q - p < N ∧ Hid (oneP s ws (N - (q - p)) (subB s p q).data.toList q = oneP s ws N [] p) ∧ Kp B [153] w wr) (fun _ wr => s.size - placeM wr mb)
  case atStart => exact ⟨p, h, Nat.le_refl _, by omega, by rw [subB_nil, Nat.sub_self]; rfl, Kp.refl _ _ _⟩
  case round =>
    obtain ⟨q, hm, hpq, hqN, HQ, hk⟩ := hrel
    have d2 := hm.c2; have d1 := hm.c1
    have hbr := hb.kept hk (by decide)
    have h6 := hm.le
    obtain ⟨M, hM⟩ : ∃ M, N - (q - p) = M + 1 := ⟨N - (q - p) - 1, by omega⟩
    have HM := hide hM
    clear hM
    have hsub := subB_eq s p q
    have hts : (subB s p q).data.toList.length = q - p := by rw [← subB_size h6 hpq]; simp
    go_wp2
    obtain ⟨L, hL⟩ : ∃ L, q - p = L := ⟨_, rfl⟩
    rw [show (q : Int) - (p : Int) = (L : Int) from by omega]
    rw [hL] at hts
    have hLs : (subB s p q).size = L := by rw [subB_size h6 hpq]; exact hL
    have hL100 : L < 100 := by omega
    have HL := hide hL
    clear hL
    go_loopw [7, 8] (fun cv iv wx => ∃ (k n : Nat) (cb : Bool), iv = .int .i64 k ∧ cv = .bool cb ∧ k ≤ ws.length ∧ wx = wr.drewN n ∧ Hid (∀ j, j < k → ∀ x, ws[j]? = some x → (x == (subB s p q).data.toList) = false) ∧ Hid (cb = (ws.take k).any fun x => goesW x (subB s p q).data.toList (peekI s q))) (fun _ iv _ => ws.length - (intOf iv).toNat)
    case atStart => exact ⟨0, 0, false, rfl, rfl, Nat.zero_le _, rfl, fun j hj => absurd hj (by omega), rfl⟩
    case round =>
      obtain ⟨k, n, cb, rfl, rfl, hkl, rfl, HJ, HCB⟩ := hrel
      by_cases hlt : k < ws.length
      · obtain ⟨x, hx⟩ : ∃ x, ws[k]? = some x := ⟨ws[k], List.getElem?_eq_getElem hlt⟩
        have c1 := hbr.cell hx
        have hbe : ((bytesOf x).toList == (subB s p q).toList) = (x == (subB s p q).data.toList) := bytesOf_eq x _
        have HX := hide hx
        clear hx
        have d0 := hm.c0
        cases he : x == (subB s p q).data.toList
        · rw [he] at hbe
          have HE := hide he
          clear he
          have hxs : (bytesOf x).size = x.length := by show x.toArray.size = _; simp
          have hstep : ∀ b : Bool, goesW x (subB s p q).data.toList (peekI s q) = b → Hid ((cb || b) = (ws.take (k + 1)).any fun x => goesW x (subB s p q).data.toList (peekI s q)) := by
            intro b hb
            have hg : ws[k] = x := Option.some.inj ((List.getElem?_eq_getElem hlt).symm.trans HX.out)
            rw [List.take_succ_eq_append_getElem hlt, List.any_append, ← HCB.out, hg]
            simp [hb]; exact trivial
          have hnot : ∀ j, j < k + 1 → ∀ y, ws[j]? = some y → (y == (subB s p q).data.toList) = false := by
            intro j hj y hy
            by_cases hjk : j < k
            · exact HJ.out j hjk y hy
            · have : j = k := by omega
              subst this
              have e : x = y := Option.some.inj (HX.out.symm.trans hy)
              rw [← e]; exact HE.out
          have HSt := hide hstep; have HNot := hide hnot
          clear hstep hnot
          by_cases hgt : L < x.length
          · have hgt' : (L : Int) < ((bytesOf x).size : Int) := by rw [hxs]; omega
            have hgt2 : L < (bytesOf x).size := by rw [hxs]; exact hgt
            have hpre : (((bytesOf x).extract 0 L).toList == (subB s p q).toList) = (subB s p q).data.toList.isPrefixOf x := by
              rw [← hLs]; exact prefix_eq (bytesOf x) (subB s p q)
            have hgw : goesW x (subB s p q).data.toList (peekI s q) = ((subB s p q).data.toList.isPrefixOf x && (((bytesOf x)[L].toNat : Int) == peekI s q)) := by
              unfold goesW
              rw [hts, List.getElem?_eq_getElem hgt]; rfl
            obtain ⟨cc, hcc⟩ : ∃ cc, peekI s q = cc := ⟨_, rfl⟩
            have HCC := hide hcc
            rw [hcc] at hgw
            cases hp1 : (subB s p q).data.toList.isPrefixOf x
            · rw [hp1] at hpre hgw
              have HG := hide hgw
              clear hp1 hgw hcc
              go_wp2
              go_quiet (fail)
              go_wp2_with fail
              refine (next_is mb s q false a m _ cc (hm.drewN _) ((nextI_ok s q).trans HCC.out)).mono ?_
              rintro e w2 ⟨rfl, nq2, rfl⟩
              go_wp2
              go_quiet (fail)
              go_wp2
              go_roundw
              case rel =>
                refine ⟨k + 1, _, cb, by go_num, rfl, by omega, rfl, HNot.out, ?_⟩
                have := HSt.out false (by rw [HCC.out]; exact HG.out)
                rwa [Bool.or_false] at this
              case measure => simp [intOf]; omega
            · rw [hp1] at hpre hgw
              cases hp2 : ((bytesOf x)[L].toNat : Int) == cc
              · rw [hp2] at hgw
                have HG := hide hgw
                clear hp1 hgw hcc
                go_wp2
                go_quiet (fail)
                go_wp2_with fail
                refine (next_is mb s q false a m _ cc (hm.drewN _) ((nextI_ok s q).trans HCC.out)).mono ?_
                rintro e w2 ⟨rfl, nq2, rfl⟩
                go_wp2
                go_quiet (fail)
                go_wp2
                go_roundw
                case rel =>
                  refine ⟨k + 1, _, cb, by go_num, rfl, by omega, rfl, HNot.out, ?_⟩
                  have := HSt.out false (by rw [HCC.out]; exact HG.out)
                  rwa [Bool.or_false] at this
                case measure => simp [intOf]; omega
              · rw [hp2] at hgw
                have HG := hide hgw
                clear hp1 hgw hcc
                go_wp2
                go_quiet (fail)
                go_wp2_with fail
                refine (next_is mb s q false a m _ cc (hm.drewN _) ((nextI_ok s q).trans HCC.out)).mono ?_
                rintro e w2 ⟨rfl, nq2, rfl⟩
                go_wp2
                go_quiet (fail)
                go_wp2
                go_roundw
                case rel =>
                  refine ⟨k + 1, _, true, by go_num, rfl, by omega, rfl, HNot.out, ?_⟩
                  have := HSt.out true (by rw [HCC.out]; exact HG.out)
                  rwa [Bool.or_true] at this
                case measure => simp [intOf]; omega
          · have hgt' : ¬ (L : Int) < ((bytesOf x).size : Int) := by rw [hxs]; omega
            have hgw : goesW x (subB s p q).data.toList (peekI s q) = false := by
              unfold goesW
              rw [hts, List.getElem?_eq_none (by omega)]; simp
            have HG := hide hgw
            clear hgw
            go_wp2
            go_quiet (fail)
            go_wp2_with fail
            refine (next_any mb s q false a m _ (hm.drewN _)).mono ?_
            rintro e w2 ⟨rfl, nq2, rfl⟩
            go_wp2
            go_quiet (fail)
            go_wp2
            go_roundw
            case rel =>
              refine ⟨k + 1, _, cb, by go_num, rfl, by omega, rfl, HNot.out, ?_⟩
              have := HSt.out false HG.out
              rwa [Bool.or_false] at this
            case measure => simp [intOf]; omega
        · rw [he] at hbe
          have HF := hide (wordsI_some HX.out he HJ.out)
          clear he
          go_wp2
          go_quiet (fail)
          go_wp2
          go_ret
          have HE : oneP s ws N [] p = (q, some k) := by rw [← HQ.out, HM.out]; exact oneP_some HF.out
          rw [HE]
          exact ⟨_, rfl, (hk.drewN _).drewN _, .inl ⟨k, rfl, rfl, (hm.drewN _).drewN _⟩⟩
      · have hk2 : k = ws.length := by omega
        have hnone := wordsI_none (ws := ws) (t := (subB s p q).data.toList) (fun j hj => HJ.out j (by omega))
        have hcb : cb = goesOn ws (subB s p q).data.toList (peekI s q) := by
          rw [HCB.out, hk2, List.take_length]; rfl
        have HNone := hide hnone
        have HGo := hide hcb
        have df := hm.free (o := 2); have df1 := hm.free (o := 1)
        clear hnone hcb hk2
        cases cb
        · have HE : Hid (oneP s ws N [] p = (q, none)) := by rw [← HQ.out, HM.out]; exact hide (oneP_no HNone.out HGo.out.symm)
          go_wp2
          go_ret
          rw [HE.out]
          exact ⟨_, rfl, (hm.drewN _).kp (hk.drewN _) hB _ _, .inr ⟨rfl, rfl, (hm.drewN _).set2 true⟩⟩
        · have hg := HGo.out.symm
          have hlt2 := goesOn_lt h0 hg
          have hlen := goesOn_len hN hg
          have hpk : peekI s q ≠ 0 := goesOn_pk h0 hg
          have hsn := subB_snoc hpq hpk
          rw [hts] at hlen
          have HE : Hid (oneP s ws (N - (q + 1 - p)) (subB s p (q + 1)).data.toList (q + 1) = oneP s ws N [] p) := by
            have hLv := HL.out
            have hMv := HM.out
            have e1 : N - (q + 1 - p) = M := by omega
            rw [← HQ.out, HM.out, oneP_go HNone.out hg, hsn, e1]; rfl
          have hLv := HL.out
          clear hg hpk hsn
          go_wp2
          go_roundw
          case rel => exact ⟨q + 1, (hm.drewN _).set1 (by omega) (by simp), by omega, by omega, HE, (hm.drewN _).kp (hk.drewN _) hB _ _⟩
          case measure => rw [((hm.drewN _).set1 (q := q + 1) (by omega) (by simp)).placeM, hm.placeM]; omega
end Go.Proofs.YtclpcnignheijaaGreatDoor
namespace Go.Proofs.YtclpcnignheijaaGreatDoor
open Go.RowKit

def signR (s : ByteArray) (p : Nat) : Int := if (signP s p).2.2 = true then (signP s p).2.1 else 0
set_option maxHeartbeats 1000000 in
theorem rsign_any (B mb : Nat) (s : ByteArray) (p a m : Nat) (w : World) (h : Mk w mb s p false a m) (hB : B ≤ mb) :
    Calls Tryz.prog 238 #[.pointer (some ⟨mb, 0, none⟩)] w fun e w' => e = .returned (.int .i64 (signR s p)) ∧ Mk w' mb s (signP s p).1 false a m ∧ Kp B [153] w w' := by
  by_cases h1 : peekI s p = 43
  · have HE : Hid (signP s p = (p + 1, 1, true)) := by unfold signP; rw [if_neg (by rw [h1]; decide), if_pos h1]; rfl
    have H1 := hide h1
    clear h1
    go_enter Tryz.func238, Tryz.ntmps238
    go_wp2_with (go_at_call 98; refine (is_yes B mb s p a m _ _ h hB H1.out (by decide)).mono ?_; rintro e w1 ⟨rfl, hm1, hk1⟩)
    go_ret
    have hr : signR s p = 1 := by unfold signR; rw [HE.out]; rfl
    rw [hr, HE.out]
    exact ⟨rfl, hm1, hk1⟩
  · have H1 := hide h1
    by_cases h2 : peekI s p = 45
    · have HE : Hid (signP s p = (p + 1, -1, true)) := by unfold signP; rw [if_pos h2]; rfl
      have H2 := hide h2
      clear h1 h2
      go_enter Tryz.func238, Tryz.ntmps238
      go_wp2_with fail
      refine (is_no B mb s p false a m _ _ h (by rw [nextI_ok]; exact H1.out)).mono ?_
      rintro e w1 ⟨rfl, hm1, hk1⟩
      go_wp2_with (go_at_call 98; refine (is_yes B mb s p a m _ _ hm1 hB H2.out (by decide)).mono ?_; rintro e w2 ⟨rfl, hm2, hk2⟩)
      go_ret
      have hr : signR s p = -1 := by unfold signR; rw [HE.out]; rfl
      rw [hr, HE.out]
      exact ⟨rfl, hm2, hk1.trans hk2⟩
    · have HE : Hid (signP s p = (p, 1, false)) := by unfold signP; rw [if_neg h2, if_neg h1]; rfl
      have H2 := hide h2
      clear h1 h2
      go_enter Tryz.func238, Tryz.ntmps238
      go_wp2_with fail
      refine (is_no B mb s p false a m _ _ h (by rw [nextI_ok]; exact H1.out)).mono ?_
      rintro e w1 ⟨rfl, hm1, hk1⟩
      go_wp2_with (go_at_call 98; refine (is_no B mb s p false a m _ _ hm1 (by rw [nextI_ok]; exact H2.out)).mono ?_; rintro e w2 ⟨rfl, hm2, hk2⟩)
      go_ret
      have hr : signR s p = 0 := by unfold signR; rw [HE.out]; rfl
      rw [hr, HE.out]
      exact ⟨rfl, hm2, hk1.trans hk2⟩
set_option maxRecDepth 100000 in
set_option maxHeartbeats 2000000 in
theorem rcount_any (B mb : Nat) (s : ByteArray) (p a m : Nat) (w : World) (h : Mk w mb s p false a m) (hB : B ≤ mb) :
    Calls Tryz.prog 239 #[.pointer (some ⟨mb, 0, none⟩)] w fun e w' => ∃ kk : Nat, e = .returned (.tuple #[.int .i64 (countP s p).2.1, .int .i64 kk]) ∧ (kk ≤ 2 ∧ (kk == 0) = !(countP s p).2.2) ∧ Mk w' mb s (countP s p).1 false a m ∧ Kp B [153] w w' := by
  have h4 := h.le; have h5 := h.max
  have d1 := h.c1; have df := h.free (o := 1)
  cases hd1 : digitB (peekI s p)
  · have HE : Hid (countP s p = (p, 0, false)) := by unfold countP; rw [hd1, if_neg (by simp)]; rfl
    have HD := hide hd1
    clear hd1
    go_enter Tryz.func239, Tryz.ntmps239
    go_wp2
    refine wp_loop_rounds 1 ?_
    rw [rounds_succ]
    go_wp2_with (first | (go_at_call 131; refine (next_is mb s p false a m _ (peekI s p) h (nextI_ok s p)).mono ?_; rintro e w' ⟨rfl, nq, rfl⟩) | (go_at_call 176; refine (rdigit_is _ _ _ HD.out).mono ?_; rintro e w' ⟨rfl, rfl⟩))
    go_ret2
    rw [HE.out]
    exact ⟨0, rfl, ⟨by omega, rfl⟩, h.drewN _, (Kp.refl _ _ _).drewN _⟩
  · have hbd1 := digitB_bd hd1
    have hin1 := digit_in hd1
    have HD := hide hd1
    cases hd2 : digitB (peekI s (p + 1))
    · have HE : Hid (countP s p = (p + 1, peekI s p - 48, true)) := by unfold countP; rw [hd1, hd2, if_pos rfl, if_neg (by simp)]; rfl
      have HD2 := hide hd2
      clear hd1 hd2
      go_enter Tryz.func239, Tryz.ntmps239
      go_wp2
      refine wp_loop_rounds 2 ?_
      rw [rounds_succ]
      go_wp2_with (first | (go_at_call 131; refine (next_is mb s p false a m _ (peekI s p) h (nextI_ok s p)).mono ?_; rintro e w' ⟨rfl, nq, rfl⟩) | (go_at_call 176; refine (rdigit_is _ _ _ HD.out).mono ?_; rintro e w' ⟨rfl, rfl⟩))
      have hm1 := (h.drewN nq).set1 (q := p + 1) (v := (p : Int) + 1) (by omega) (by simp)
      have hk1 := (h.drewN nq).kp ((Kp.refl B [153] w).drewN nq) hB 1 (.int .i64 ((p : Int) + 1))
      clear d1 df
      generalize (w.drewN nq).setCell ⟨mb, 1, none⟩ (.int .i64 ((p : Int) + 1)) = w1 at *
      rw [rounds_succ]
      have d1 := hm1.c1; have df := hm1.free (o := 1)
      go_wp2_with (first | (go_at_call 131; refine (next_is mb s (p + 1) false a m _ (peekI s (p + 1)) hm1 (nextI_ok s (p + 1))).mono ?_; rintro e w' ⟨rfl, nq2, rfl⟩) | (go_at_call 176; refine (rdigit_is _ _ _ HD2.out).mono ?_; rintro e w' ⟨rfl, rfl⟩))
      go_ret2
      rw [HE.out]
      exact ⟨1, rfl, ⟨by omega, rfl⟩, hm1.drewN _, hk1.drewN _⟩
    · have hbd2 := digitB_bd hd2
      have hin2 := digit_in hd2
      have HE : Hid (countP s p = (p + 2, 10 * (peekI s p - 48) + (peekI s (p + 1) - 48), true)) := by unfold countP; rw [hd1, hd2, if_pos rfl, if_pos rfl]; rfl
      have HD2 := hide hd2
      clear hd1 hd2
      go_enter Tryz.func239, Tryz.ntmps239
      go_wp2
      refine wp_loop_rounds 3 ?_
      rw [rounds_succ]
      go_wp2_with (first | (go_at_call 131; refine (next_is mb s p false a m _ (peekI s p) h (nextI_ok s p)).mono ?_; rintro e w' ⟨rfl, nq, rfl⟩) | (go_at_call 176; refine (rdigit_is _ _ _ HD.out).mono ?_; rintro e w' ⟨rfl, rfl⟩))
      have hm1 := (h.drewN nq).set1 (q := p + 1) (v := (p : Int) + 1) (by omega) (by simp)
      have hk1 := (h.drewN nq).kp ((Kp.refl B [153] w).drewN nq) hB 1 (.int .i64 ((p : Int) + 1))
      clear d1 df
      generalize (w.drewN nq).setCell ⟨mb, 1, none⟩ (.int .i64 ((p : Int) + 1)) = w1 at *
      rw [rounds_succ]
      have d1 := hm1.c1; have df := hm1.free (o := 1)
      go_wp2_with (first | (go_at_call 131; refine (next_is mb s (p + 1) false a m _ (peekI s (p + 1)) hm1 (nextI_ok s (p + 1))).mono ?_; rintro e w' ⟨rfl, nq2, rfl⟩) | (go_at_call 176; refine (rdigit_is _ _ _ HD2.out).mono ?_; rintro e w' ⟨rfl, rfl⟩))
      rw [rounds_succ]
      go_wp2
      go_ret2
      rw [HE.out]
      refine ⟨2, ?_, ⟨by omega, rfl⟩, (hm1.drewN _).set1 (by omega) (by omega), (hm1.drewN _).kp (hk1.drewN _) hB _ _⟩
      show Ending.returned (.tuple #[.int .i64 (10 * (peekI s p - 48) + peekI s (p + 1) - 48), .int .i64 2]) = .returned (.tuple #[.int .i64 (10 * (peekI s p - 48) + (peekI s (p + 1) - 48)), .int .i64 2])
      rw [show 10 * (peekI s p - 48) + peekI s (p + 1) - 48 = 10 * (peekI s p - 48) + (peekI s (p + 1) - 48) from by omega]

/-- A number from -99 to 99, written. -/
def digU (n : Nat) : UInt8 := UInt8.ofNat (48 + n)
def digsT (n : Nat) : List UInt8 := if 10 ≤ n then [digU (n / 10), digU (n % 10)] else [digU n]
def numT (n : Int) : List UInt8 := if n < 0 then 45 :: digsT n.natAbs else digsT n.natAbs
theorem app_bytes (x y : List UInt8) : bytesOf x ++ bytesOf y = bytesOf (x ++ y) := by
  apply ByteArray.ext
  apply Array.toList_inj.mp
  simp [bytesOf]
theorem digU_nat {n : Nat} (h : n < 10) : (digU n).toNat = 48 + n := by
  unfold digU
  rw [UInt8.toNat_ofNat']; omega
theorem digit_text (n : Nat) (w : World) : (convert 50 9 (.slice (some ⟨w.heap.size, 0, none⟩) 1 1)).run Tryz.prog (w.alloc (.cells #[.int .u8 (48 + (n : Int) % 10)] 5)) = .ok (.string ⟨#[digU (n % 10)]⟩) (w.alloc (.cells #[.int .u8 (48 + (n : Int) % 10)] 5)) := by
  have hd := digU_nat (n := n % 10) (by omega)
  exact run_convert_bytes_back (P := Tryz.prog) (w.alloc (.cells #[.int .u8 (48 + (n : Int) % 10)] 5)) 50 9 5 ⟨w.heap.size, 0, none⟩ 1 [digU (n % 10)] Tryz.underlying50 Tryz.underlying5 Tryz.underlying9 (fun j hj => by
    have hj0 : j = 0 := by simpa using hj
    subst hj0
    rw [addr_add, Nat.zero_add, cell_of_one (alloc_at w _)]
    simp only [List.getElem_cons_zero, hd]
    congr 2)
set_option maxRecDepth 100000 in
set_option maxHeartbeats 2000000 in
theorem number_one (n : Nat) (w : World) (h : n < 10) :
    Calls Tryz.prog 240 #[.int .i64 n] w fun e w' => e = .returned (.string (bytesOf [digU n])) ∧ Below w.heap.size w w' := by
  have hcv := digit_text n w
  have hmod : n % 10 = n := by omega
  rw [hmod] at hcv
  have e1 : ¬ (10 : Int) ≤ (n : Int) := by omega
  have e0 : ¬ (n : Int) < 0 := by omega
  clear hmod
  go_enter Tryz.func240, Tryz.ntmps240
  go_wp2_with fail
  go_ret
  exact ⟨congrArg (fun x => Ending.returned (.string x)) (app_bytes [] [digU n]), (Below.refl _ _).alloc (Nat.le_refl _) _⟩
set_option maxRecDepth 100000 in
set_option maxHeartbeats 2000000 in
theorem number_pos (n : Nat) (w : World) (h : n < 100) :
    Calls Tryz.prog 240 #[.int .i64 n] w fun e w' => e = .returned (.string (bytesOf (digsT n))) ∧ Below w.heap.size w w' := by
  by_cases h10 : n < 10
  · have hd : digsT n = [digU n] := by unfold digsT; rw [if_neg (by omega)]
    rw [hd]; exact number_one n w h10
  · have hd : digsT n = [digU (n / 10), digU (n % 10)] := by unfold digsT; rw [if_pos (by omega)]
    have HD := hide hd
    clear hd
    have e1 : (10 : Int) ≤ (n : Int) := by omega
    have e0 : ¬ (n : Int) < 0 := by omega
    go_enter Tryz.func240, Tryz.ntmps240
    go_wp2_with fail
    rw [show (n : Int) / 10 = ((n / 10 : Nat) : Int) from rfl]
    refine (number_one (n / 10) _ (by omega)).mono ?_
    rintro e w1 ⟨rfl, hb1⟩
    have hcv := digit_text n w1
    have hsz := hb1.size
    have hbs : (bytesOf [digU (n / 10)]).size ≤ 10 := by show [digU (n / 10)].toArray.size ≤ 10; simp
    go_wp2
    go_ret
    rw [HD.out]
    exact ⟨congrArg (fun x => Ending.returned (.string x)) (app_bytes [digU (n / 10)] [digU (n % 10)]), hb1.alloc hsz _⟩
set_option maxRecDepth 100000 in
set_option maxHeartbeats 2000000 in
theorem number_any (n : Int) (w : World) (h1 : -100 < n) (h2 : n < 100) :
    Calls Tryz.prog 240 #[.int .i64 n] w fun e w' => e = .returned (.string (bytesOf (numT n))) ∧ Below w.heap.size w w' := by
  by_cases h0 : n < 0
  · have hd : numT n = 45 :: digsT n.natAbs := by unfold numT; rw [if_pos h0]
    have HD := hide hd
    clear hd
    have hbs : (bytesOf (digsT n.natAbs)).size ≤ 10 := by
      show (digsT n.natAbs).toArray.size ≤ 10
      unfold digsT; split <;> simp
    go_enter Tryz.func240, Tryz.ntmps240
    go_wp2_with fail
    rw [show -n = ((n.natAbs : Nat) : Int) from by omega]
    refine (number_pos n.natAbs _ (by omega)).mono ?_
    rintro e w1 ⟨rfl, hb1⟩
    go_wp2
    go_ret
    rw [HD.out]
    exact ⟨congrArg (fun x => Ending.returned (.string x)) (app_bytes [45] (digsT n.natAbs)), hb1⟩
  · have hd : numT n = digsT n.natAbs := by unfold numT; rw [if_neg h0]
    rw [hd, show n = ((n.natAbs : Nat) : Int) from by omega]
    exact number_pos n.natAbs w (by omega)
end Go.Proofs.YtclpcnignheijaaGreatDoor
namespace Go.Proofs.YtclpcnignheijaaGreatDoor
open Go.RowKit

def plusT (b : Int) : List UInt8 := if 0 < b then 43 :: numT b else if b < 0 then numT b else []
/-- What stands in an nth-child, written. -/
def nthT (z : NthQ) : List UInt8 := if z.word.size = 0 then (if z.hasN = true then numT z.a ++ 110 :: plusT z.b else numT z.b) else z.word.data.toList
theorem cells9 {w : World} {b : Nat} {x0 x1 x2 x3 x4 x5 x6 x7 x8 : Value} {t : TypeId} (h : w.heap[b]? = some (.cells #[x0, x1, x2, x3, x4, x5, x6, x7, x8] t (0, 0))) :
    (w.cell? ⟨b, 0, none⟩ = some x0 ∧ w.cell? ⟨b, 1, none⟩ = some x1 ∧ w.cell? ⟨b, 2, none⟩ = some x2 ∧ w.cell? ⟨b, 3, none⟩ = some x3 ∧ w.cell? ⟨b, 4, none⟩ = some x4 ∧ w.cell? ⟨b, 5, none⟩ = some x5 ∧ w.cell? ⟨b, 6, none⟩ = some x6 ∧ w.cell? ⟨b, 7, none⟩ = some x7 ∧ w.cell? ⟨b, 8, none⟩ = some x8) ∧ (∀ o, w.frozen? ⟨b, o, none⟩ = false) := by
  refine ⟨by simp [World.cell?, h], fun o => free_of h⟩
/-- A simple that is being read, at block sb. -/
def Sb (w : World) (sb : Nat) (so : Int) (wd op va : ByteArray) (sm : Bool) (x y : Int) (nt : ByteArray) (lv : Value) : Prop :=
  w.heap[sb]? = some (.cells #[.int .u8 so, .string wd, .string op, .string va, .bool sm, .int .i64 x, .int .i64 y, .string nt, lv] 104 (0, 0))
def TM : List TypeId := [153, 104]
/-- The frame of what reads into a simple at block sb: besides that block only the reader's has turned. -/
structure Ks (B sb : Nat) (w w' : World) : Prop where
  os : w'.os = w.os
  tape : w'.tape = w.tape
  output : w'.output = w.output
  size : w.heap.size ≤ w'.heap.size
  block : ∀ k, k < w.heap.size → k ≠ sb → (k < B ∨ ∀ c t fr, w.heap[k]? = some (.cells c t fr) → t ≠ 153) → w'.heap[k]? = w.heap[k]?
theorem Kp.tm {B sb : Nat} {w w' : World} (h : Kp B [153] w w') : Ks B sb w w' := ⟨h.os, h.tape, h.output, h.size, fun k hk _ hc => h.block k hk (by
  rcases hc with hc | hc
  · exact .inl hc
  · exact .inr fun c t fr he ht => hc c t fr he (by simpa using ht))⟩
theorem Ks.trans {B sb : Nat} {a b c : World} (h : Ks B sb a b) (k : Ks B sb b c) : Ks B sb a c := by
  refine ⟨k.os.trans h.os, k.tape.trans h.tape, k.output.trans h.output, Nat.le_trans h.size k.size, fun i hi hne hc => ?_⟩
  have e := h.block i hi hne hc
  refine (k.block i (Nat.lt_of_lt_of_le hi h.size) hne ?_).trans e
  rcases hc with hc | hc
  · exact .inl hc
  · exact .inr fun c t fr he => hc c t fr (by rw [← e]; exact he)
theorem Ks.refl (B sb : Nat) (w : World) : Ks B sb w w := (Kp.refl B [153] w).tm
theorem Ks.drewN {B sb : Nat} {a w : World} (h : Ks B sb a w) (n : Nat) : Ks B sb a (w.drewN n) := ⟨h.os, h.tape, h.output, h.size, h.block⟩
theorem Ks.alloc {B sb : Nat} {a w : World} (h : Ks B sb a w) (o : Obj) : Ks B sb a (w.alloc o) := h.trans ((Kp.refl B [153] w).alloc o).tm
theorem Ks.setCell {B : Nat} {a w : World} {p : Addr} (h : Ks B p.block a w) {c : Array Value} {t : TypeId} {fr : Nat × Nat} (_hp : w.heap[p.block]? = some (.cells c t fr)) (_ht : t ∈ TM) (_hB : B ≤ p.block) (u : Value) : Ks B p.block a (w.setCell p u) :=
  h.trans ⟨rfl, rfl, rfl, by simp [World.setCell], fun k _ hne _ => Below.heap_setCell _ _ _ _ hne⟩
theorem Ks.at {B sb : Nat} {w w' : World} (h : Ks B sb w w') {k : Nat} {c : Array Value} {t : TypeId} {fr : Nat × Nat} (hk : w.heap[k]? = some (.cells c t fr)) (ht : t ≠ 153) (hne : k ≠ sb) : w'.heap[k]? = some (.cells c t fr) := by
  rw [h.block k (lt_of_block hk) hne (.inr fun c' t' fr' he => ?_)]
  · exact hk
  · rw [hk] at he
    simp only [Option.some.injEq, Obj.cells.injEq] at he
    obtain ⟨_, rfl, _⟩ := he
    exact ht
/-- A simple that is new: nothing elder but the reader has turned. -/
theorem Ks.new {B sb : Nat} {a b c : World} (k : Ks B sb b c) (h : Kp B [153] a b) (hn : a.heap.size ≤ sb) : Kp B [153] a c := by
  refine ⟨k.os.trans h.os, k.tape.trans h.tape, k.output.trans h.output, Nat.le_trans h.size k.size, fun i hi hc => ?_⟩
  have e := h.block i hi hc
  refine (k.block i (Nat.lt_of_lt_of_le hi h.size) (by omega) ?_).trans e
  rcases hc with hc | hc
  · exact .inl hc
  · exact .inr fun c t fr he ht => hc c t fr (by rw [← e]; exact he) (by simp [ht])
theorem numbers_word {s : ByteArray} {p : Nat} {z : NthQ} {i : Nat} (h : (peekI s p = 111 ∧ z = ⟨bytesOf oddW, true, 2, 1⟩ ∧ i = 1) ∨ (peekI s p = 101 ∧ z = ⟨bytesOf evenW, true, 2, 0⟩ ∧ i = 0)) :
    ∃ q o, numbersP s p = (q, if o = true then some z else none) ∧ oneP s evodW 5 [] p = (q, if o = true then some i else none) := by
  rcases h with ⟨h, rfl, rfl⟩ | ⟨h, rfl, rfl⟩
  · refine ⟨_, _, ?_, evod_odd s p h⟩
    unfold numbersP; rw [if_pos h]
  · refine ⟨_, _, ?_, evod_even s p h⟩
    unfold numbersP; rw [if_neg (by rw [h]; decide), if_pos h]
theorem evod_len : ∀ x ∈ evodW, x.length < 5 := by decide
theorem evod_no0 : ∀ x ∈ evodW, (0 : UInt8) ∉ x := by decide
def RNth (B mb sb : Nat) (s : ByteArray) (p a m : Nat) (so : Int) (wd : ByteArray) (lv : Value) (w : World) : Prop :=
    Calls Tryz.prog 215 #[.pointer (some ⟨mb, 0, none⟩), .pointer (some ⟨sb, 0, none⟩)] w fun e w' => e = .returned (.tuple #[]) ∧ Ks B sb w w' ∧
      ((∃ z, (numbersP s p).2 = some z ∧ Mk w' mb s (numbersP s p).1 false a m ∧ Sb w' sb so wd noB noB false z.a z.b (bytesOf (nthT z)) lv) ∨ ((numbersP s p).2 = none ∧ Mk w' mb s (numbersP s p).1 true a m ∧ ∃ x y nt, Sb w' sb so wd noB noB false x y nt lv))
set_option maxRecDepth 100000 in
set_option maxHeartbeats 4000000 in
theorem rnth_odd (B mb sb : Nat) (s : ByteArray) (p a m : Nat) (so : Int) (wd : ByteArray) (lv : Value) (w : World) (h : Mk w mb s p false a m) (hs : Sb w sb so wd noB noB false 0 0 noB lv) (hB : B ≤ mb) (hBs : B ≤ sb) (hc : peekI s p = 111) : RNth B mb sb s p a m so wd lv w := by
  obtain ⟨q, o, hnum, hone⟩ := numbers_word (s := s) (p := p) (z := ⟨bytesOf oddW, true, 2, 1⟩) (i := 1) (.inl ⟨hc, rfl, rfl⟩)
  have HC := hide hc; have HNum := hide hnum; have HOne := hide hone
  clear hc hnum hone
  unfold RNth
  go_enter Tryz.func215, Tryz.ntmps215
  go_wp2_with fail
  refine (next_is mb s p false a m _ 111 h ((nextI_ok s p).trans HC.out)).mono ?_
  rintro e w1 ⟨rfl, n1, rfl⟩
  have h1 := (h.drewN n1).alloc (.cells (evodW.map fun l => Value.string (bytesOf l)).toArray 9)
  have ws1 : Ws ((w.drewN n1).alloc (.cells (evodW.map fun l => Value.string (bytesOf l)).toArray 9)) w.heap.size evodW := alloc_at (w.drewN n1) _
  have hs1 : Sb ((w.drewN n1).alloc (.cells (evodW.map fun l => Value.string (bytesOf l)).toArray 9)) sb so wd noB noB false 0 0 noB lv := alloc_old (w := w.drewN n1) hs _
  have hk1 := ((Kp.refl B [153] w).drewN n1).alloc (.cells (evodW.map fun l => Value.string (bytesOf l)).toArray 9)
  go_wp2_with fail
  refine (among_any B mb w.heap.size 2 5 evodW s p a m _ h1 hB ws1 (by decide) evod_no0 evod_len (by decide) (by decide)).mono ?_
  rintro e w2 ⟨ii, rfl, hk2, hor2⟩
  have hs2 : Sb w2 sb so wd noB noB false 0 0 noB lv := hk2.at hs1 (by decide)
  have hkA := hk1.trans hk2
  rw [HOne.out] at hor2
  obtain ⟨⟨m0, m1, m2, m3, m4, m5, m6, m7, m8⟩, fz⟩ := cells9 hs2
  have f5 := fz 5; have f6 := fz 6; have f7 := fz 7
  cases o
  · rcases hor2 with ⟨k, hk, _⟩ | ⟨_, rfl, hm2⟩
    · simp at hk
    clear m0 m1 m2 m3 m4 m5 m6 m7 m8 fz
    go_wp2
    refine bodyPost_ret (results_none Tryz.results215 _ _ _) rfl ?_
    rw [HNum.out]
    exact ⟨rfl, hkA.tm, .inr ⟨rfl, hm2, _, _, _, hs2⟩⟩
  · rcases hor2 with ⟨k, hk, rfl, hm2⟩ | ⟨hn, _⟩
    rotate_left
    · simp at hn
    obtain rfl : 1 = k := by simpa using hk
    clear hk fz
    have k5 := set_blk (o := 5) hs2 (.int .i64 2)
    have k6 := set_blk (o := 6) k5 (.int .i64 1)
    have kk5 := (Kp.refl 0 [104] w2).setCell (p := ⟨sb, 5, none⟩) hs2 (by simp) (Nat.zero_le _) (.int .i64 2)
    have kk6 := kk5.setCell (p := ⟨sb, 6, none⟩) k5 (by simp) (Nat.zero_le _) (.int .i64 1)
    have hk5 := hkA.tm.setCell (p := ⟨sb, 5, none⟩) hs2 (by simp [TM]) hBs (.int .i64 2)
    have hk6 := hk5.setCell (p := ⟨sb, 6, none⟩) k5 (by simp [TM]) hBs (.int .i64 1)
    have k7 := set_blk (o := 7) k6 (.string (bytesOf oddW))
    have kk7 := kk6.setCell (p := ⟨sb, 7, none⟩) k6 (by simp) (Nat.zero_le _) (.string (bytesOf oddW))
    have hk7 := hk6.setCell (p := ⟨sb, 7, none⟩) k6 (by simp [TM]) hBs (.string (bytesOf oddW))
    have k8 := alloc_old k7 (.cells (evodW.map fun l => Value.string (bytesOf l)).toArray 9)
    have kk8 := kk7.alloc (.cells (evodW.map fun l => Value.string (bytesOf l)).toArray 9)
    have hk8 := hk7.alloc (.cells (evodW.map fun l => Value.string (bytesOf l)).toArray 9)
    have hm8 := hm2.kept kk8 (by decide)
    have hlt := lt_of_block hs2
    have hne := Nat.ne_of_lt hlt
    have hne' := Ne.symm hne
    clear k5 k6 kk5 kk6 hk5 hk6 k7 kk7 hk7 kk8
    go_wp2
    refine bodyPost_ret (results_none Tryz.results215 _ _ _) rfl ?_
    rw [HNum.out]
    exact ⟨rfl, hk8, .inl ⟨_, rfl, hm8, k8⟩⟩
set_option maxRecDepth 100000 in
set_option maxHeartbeats 4000000 in
theorem rnth_even (B mb sb : Nat) (s : ByteArray) (p a m : Nat) (so : Int) (wd : ByteArray) (lv : Value) (w : World) (h : Mk w mb s p false a m) (hs : Sb w sb so wd noB noB false 0 0 noB lv) (hB : B ≤ mb) (hBs : B ≤ sb) (hc : peekI s p = 101) : RNth B mb sb s p a m so wd lv w := by
  obtain ⟨q, o, hnum, hone⟩ := numbers_word (s := s) (p := p) (z := ⟨bytesOf evenW, true, 2, 0⟩) (i := 0) (.inr ⟨hc, rfl, rfl⟩)
  have HC := hide hc; have HNum := hide hnum; have HOne := hide hone
  clear hc hnum hone
  unfold RNth
  go_enter Tryz.func215, Tryz.ntmps215
  go_wp2_with fail
  refine (next_is mb s p false a m _ 101 h ((nextI_ok s p).trans HC.out)).mono ?_
  rintro e w1 ⟨rfl, n1, rfl⟩
  have h1 := (h.drewN n1).alloc (.cells (evodW.map fun l => Value.string (bytesOf l)).toArray 9)
  have ws1 : Ws ((w.drewN n1).alloc (.cells (evodW.map fun l => Value.string (bytesOf l)).toArray 9)) w.heap.size evodW := alloc_at (w.drewN n1) _
  have hs1 : Sb ((w.drewN n1).alloc (.cells (evodW.map fun l => Value.string (bytesOf l)).toArray 9)) sb so wd noB noB false 0 0 noB lv := alloc_old (w := w.drewN n1) hs _
  have hk1 := ((Kp.refl B [153] w).drewN n1).alloc (.cells (evodW.map fun l => Value.string (bytesOf l)).toArray 9)
  go_wp2_with fail
  refine (among_any B mb w.heap.size 2 5 evodW s p a m _ h1 hB ws1 (by decide) evod_no0 evod_len (by decide) (by decide)).mono ?_
  rintro e w2 ⟨ii, rfl, hk2, hor2⟩
  have hs2 : Sb w2 sb so wd noB noB false 0 0 noB lv := hk2.at hs1 (by decide)
  have hkA := hk1.trans hk2
  rw [HOne.out] at hor2
  obtain ⟨⟨m0, m1, m2, m3, m4, m5, m6, m7, m8⟩, fz⟩ := cells9 hs2
  have f5 := fz 5; have f6 := fz 6; have f7 := fz 7
  cases o
  · rcases hor2 with ⟨k, hk, _⟩ | ⟨_, rfl, hm2⟩
    · simp at hk
    clear m0 m1 m2 m3 m4 m5 m6 m7 m8 fz
    go_wp2
    refine bodyPost_ret (results_none Tryz.results215 _ _ _) rfl ?_
    rw [HNum.out]
    exact ⟨rfl, hkA.tm, .inr ⟨rfl, hm2, _, _, _, hs2⟩⟩
  · rcases hor2 with ⟨k, hk, rfl, hm2⟩ | ⟨hn, _⟩
    rotate_left
    · simp at hn
    obtain rfl : 0 = k := by simpa using hk
    clear hk fz
    have k5 := set_blk (o := 5) hs2 (.int .i64 2)
    have k6 := set_blk (o := 6) k5 (.int .i64 0)
    have kk5 := (Kp.refl 0 [104] w2).setCell (p := ⟨sb, 5, none⟩) hs2 (by simp) (Nat.zero_le _) (.int .i64 2)
    have kk6 := kk5.setCell (p := ⟨sb, 6, none⟩) k5 (by simp) (Nat.zero_le _) (.int .i64 0)
    have hk5 := hkA.tm.setCell (p := ⟨sb, 5, none⟩) hs2 (by simp [TM]) hBs (.int .i64 2)
    have hk6 := hk5.setCell (p := ⟨sb, 6, none⟩) k5 (by simp [TM]) hBs (.int .i64 0)
    have k7 := set_blk (o := 7) k6 (.string (bytesOf evenW))
    have kk7 := kk6.setCell (p := ⟨sb, 7, none⟩) k6 (by simp) (Nat.zero_le _) (.string (bytesOf evenW))
    have hk7 := hk6.setCell (p := ⟨sb, 7, none⟩) k6 (by simp [TM]) hBs (.string (bytesOf evenW))
    have k8 := alloc_old k7 (.cells (evodW.map fun l => Value.string (bytesOf l)).toArray 9)
    have kk8 := kk7.alloc (.cells (evodW.map fun l => Value.string (bytesOf l)).toArray 9)
    have hk8 := hk7.alloc (.cells (evodW.map fun l => Value.string (bytesOf l)).toArray 9)
    have hm8 := hm2.kept kk8 (by decide)
    have hlt := lt_of_block hs2
    have hne := Nat.ne_of_lt hlt
    have hne' := Ne.symm hne
    clear k5 k6 kk5 kk6 hk5 hk6 k7 kk7 hk7 kk8
    go_wp2
    refine bodyPost_ret (results_none Tryz.results215 _ _ _) rfl ?_
    rw [HNum.out]
    exact ⟨rfl, hk8, .inl ⟨_, rfl, hm8, k8⟩⟩
end Go.Proofs.YtclpcnignheijaaGreatDoor
/-
  A selector, written, plainly; and what holds of every selector that was read: its kinds, its combinators, its numbers, its lists; and that it is written with no more than four times the bytes that it was read from.
-/
namespace Go.Proofs.YtclpcnignheijaaGreatDoor
open Go.RowKit

def attrT (a : AttrQ) : List UInt8 := a.name.data.toList ++ (if a.op.size = 0 then [] else a.op.data.toList ++ 34 :: (a.val.data.toList ++ 34 :: (if a.any = true then [32, 105] else [])))
def askT (tl : SLst → List UInt8) (k : Nat) (x : ByteArray) (a : AttrQ) (t : NthQ) (l : SLst) : List UInt8 := if k ≤ 1 then x.data.toList else if k = 2 then attrT a else if k = 8 then nthT t else if 9 ≤ k then tl l else []
def simT (tl : SLst → List UInt8) : Sim → List UInt8
  | .mk k x a t l => openW.getD k [] ++ (askT tl k x a t l ++ closeW k)
def simsT (tl : SLst → List UInt8) (ms : List Sim) : List UInt8 := ms.flatMap (simT tl)
def byT (b : Int) : List UInt8 := if b = 0 then [] else [UInt8.ofNat b.toNat]
def stpT (tl : SLst → List UInt8) (st : Stp) : List UInt8 := byT st.1 ++ (st.2.1.data.toList ++ simsT tl st.2.2)
def cpxT (tl : SLst → List UInt8) (c : Cpx) : List UInt8 := c.flatMap (stpT tl)
/-- Parts with a comma ahead of each but the first. -/
def lstT (tl : SLst → List UInt8) : SLst → List UInt8
  | [] => []
  | c :: r => cpxT tl c ++ r.flatMap fun c => 44 :: cpxT tl c
def textL : Nat → SLst → List UInt8
  | 0, _ => []
  | n + 1, l => lstT (textL n) l

def wfS (W : SLst → Prop) : Sim → Prop
  | .mk k _ _ t l => k < 11 ∧ (k = 8 → (-100 < t.a ∧ t.a < 100) ∧ (-100 < t.b ∧ t.b < 100)) ∧ (9 ≤ k → l ≠ [] ∧ W l) ∧ (k < 9 → l = [])
def wfT (W : SLst → Prop) (st : Stp) : Prop := ∀ m ∈ st.2.2, wfS W m
def wfC (W : SLst → Prop) (c : Cpx) : Prop := ∀ i st, c[i]? = some st → wfT W st ∧ (i = 0 → st.1 = 0) ∧ (i ≠ 0 → 0 < st.1 ∧ st.1 < 128)
def wfL : Nat → SLst → Prop
  | 0, l => l = []
  | n + 1, l => ∀ c ∈ l, wfC (wfL n) c

theorem digsT_len (n : Nat) : (digsT n).length ≤ 2 := by unfold digsT; split <;> simp
theorem numT_len (n : Int) : (numT n).length ≤ 3 := by
  have := digsT_len n.natAbs
  unfold numT; split
  · simp; omega
  · omega
theorem nthT_len {z : NthQ} (h : z.word.size ≤ 4) : (nthT z).length ≤ 8 := by
  have h1 := numT_len z.a; have h2 := numT_len z.b
  unfold nthT
  split
  · split
    · have : (plusT z.b).length ≤ 4 := by
        unfold plusT; split
        · simp; omega
        · split
          · omega
          · simp
      simp; omega
    · omega
  · have : z.word.data.toList.length = z.word.size := by rw [Array.length_toList]; rfl
    omega
theorem numbersP_wf {s : ByteArray} {p : Nat} {z : NthQ} (h : (numbersP s p).2 = some z) : ((-100 < z.a ∧ z.a < 100) ∧ (-100 < z.b ∧ z.b < 100)) ∧ z.word.size ≤ 4 := by
  have hb := fun q => countP_bd s q
  have hs := fun q => signP_val s q
  have hmul : ∀ (q r : Nat), -100 < (signP s q).2.1 * (countP s r).2.1 ∧ (signP s q).2.1 * (countP s r).2.1 < 100 := fun q r => by
    have := hb r
    rcases hs q with e | e <;> rw [e] <;> omega
  unfold numbersP at h
  split at h
  · dsimp only at h
    split at h
    · simp only [Option.some.injEq] at h; subst h; exact ⟨by decide, by decide⟩
    · cases h
  · split at h
    · dsimp only at h
      split at h
      · simp only [Option.some.injEq] at h; subst h; exact ⟨by decide, by decide⟩
      · cases h
    · split at h
      · dsimp only at h
        obtain ⟨b, hbb, rfl⟩ := Option.map_eq_some_iff.1 h
        refine ⟨⟨?_, ?_⟩, Nat.zero_le _⟩
        · dsimp only
          split
          · exact hmul _ _
          · rcases hs p with e | e <;> rw [e] <;> omega
        · unfold behindP at hbb
          split at hbb
          · simp only [Option.some.injEq] at hbb; subst hbb; dsimp only; omega
          · split at hbb
            · cases hbb
            · simp only [Option.some.injEq] at hbb; subst hbb; exact hmul _ _
      · split at h
        · cases h
        · simp only [Option.some.injEq] at h; subst h
          exact ⟨⟨by dsimp only; omega, hmul _ _⟩, Nat.zero_le _⟩
theorem sub_len (s : ByteArray) (p q : Nat) : (subB s p q).data.toList.length ≤ q - p := by
  show ((s.data.toList.drop p).take (q - p)).toArray.toList.length ≤ q - p
  simp; omega
theorem newP_len {s : ByteArray} {p : Nat} {n : ByteArray} (hp : p ≤ s.size) (h : (newP s p noneTaken).2 = some n) : n.data.toList.length ≤ (newP s p noneTaken).1 - p ∧ p < (newP s p noneTaken).1 := by
  refine ⟨?_, newP_lt h⟩
  unfold newP at h ⊢
  split at h
  · cases h
  · split at h
    · cases h
    · split at h
      · cases h
      · rename_i h1 h2 h3
        rw [if_neg h1, if_neg h2, if_neg h3]
        simp only [Option.some.injEq] at h
        subst h
        have := nameAt_size hp
        rw [Array.length_toList]
        show (nameAt s p).size ≤ nameEnd s p - p
        omega
theorem wordP_len {s : ByteArray} {p : Nat} {x : ByteArray} (h : (wordP s p).2 = some x) : x.data.toList.length ≤ (wordP s p).1 - p := by
  unfold wordP at h ⊢
  split at h
  · cases h
  · rename_i h1
    rw [if_neg h1]
    simp only [Option.some.injEq] at h
    subst h
    exact sub_len _ _ _
theorem expP_len (s : ByteArray) : ∀ (l : List UInt8) (p : Nat), (expP s l p).2 = true → (expP s l p).1 = p + l.length
  | [], p, _ => rfl
  | c :: l, p, h => by
    rw [expP] at h ⊢
    split at h
    · rename_i hc
      rw [if_pos hc, expP_len s l (p + 1) h]; simp; omega
    · cases h
theorem opsW_len {i : Nat} {x : List UInt8} (h : opsW[i]? = some x) : x.length ≤ 2 := by
  have : ∀ y ∈ opsW, y.length ≤ 2 := by decide
  exact this x (List.mem_of_getElem? h)
theorem attrQP_len {s : ByteArray} {p : Nat} {y : AttrQ} (hp : p ≤ s.size) (h : (attrQP s p).2 = some y) : (attrT y).length ≤ (attrQP s p).1 - p + 4 ∧ p < (attrQP s p).1 := by
  unfold attrQP at h ⊢
  have h1 := spP_le hp
  have h2 := fun n => newP_len (s := s) (p := spP s p) (n := n) h1.2
  have h2' := newP_le s (spP s p) noneTaken h1.2
  generalize newP s (spP s p) noneTaken = r at h h2 h2'
  obtain ⟨q, o⟩ := r
  cases o with
  | none => cases h
  | some n =>
    dsimp only at h h2 h2' ⊢
    have h3 := h2 n rfl
    have h4 := spP_le h2'.2
    by_cases h93 : peekI s (spP s q) = 93
    · rw [if_pos h93] at h ⊢
      simp only [Option.some.injEq] at h
      subst h
      have e : attrT ⟨n, noB, noB, false⟩ = n.data.toList := by unfold attrT; simp [noB]; rfl
      rw [e]; dsimp only; omega
    · rw [if_neg h93] at h ⊢
      have h5 := oneP_le (s := s) opsW_no0 3 [] (spP s q) h4.2
      have h6 := fun i => oneP_len (s := s) (words := opsW) 3 [] (spP s q) i
      generalize oneP s opsW 3 [] (spP s q) = r at h h5 h6
      obtain ⟨q2, o2⟩ := r
      cases o2 with
      | none => cases h
      | some i =>
        dsimp only at h h5 h6 ⊢
        obtain ⟨ow, how, hol⟩ := h6 i rfl
        have h7 := spP_le h5.2
        have h8 := againstP_le h7.2
        have h9 : ∀ x, (againstP s (spP s q2)).2 = some x → x.data.toList.length ≤ (againstP s (spP s q2)).1 - spP s q2 := by
          intro x hx
          unfold againstP at hx ⊢
          split at hx
          · rename_i e1
            rw [if_pos e1]
            split at hx
            · rename_i e2
              rw [if_pos e2]
              simp only [Option.some.injEq] at hx
              subst hx
              have := sub_len s (spP s q2 + 1) (untilP s (spP s q2 + 1))
              dsimp only; omega
            · cases hx
          · rename_i e1
            rw [if_neg e1]
            exact wordP_len hx
        generalize againstP s (spP s q2) = r at h h8 h9
        obtain ⟨q3, o3⟩ := r
        cases o3 with
        | none => cases h
        | some x =>
          dsimp only at h h8 h9 ⊢
          simp only [Option.some.injEq] at h
          subst h
          have g1 := h9 x rfl
          have g2 := spP_le h8.2
          have g3 := anyP_le g2.2
          have g4 := spP_le g3.2
          have g5 : (bytesOf (opsW.getD i [])).data.toList.length = ow.length := by
            rw [List.getD_eq_getElem?_getD, how]; simp [bytesOf]
          have g6 := opsW_len how
          simp only [List.length_nil, Nat.add_zero] at hol
          generalize (anyP s (spP s q3)).2 = bb
          unfold attrT
          dsimp only
          split
          · simp only [List.append_nil]; omega
          · have : (if bb = true then ([32, 105] : List UInt8) else []).length ≤ 2 := by split <;> simp
            simp only [List.length_append, List.length_cons]
            generalize (if bb = true then ([32, 105] : List UInt8) else []) = tt at *
            omega
section
variable {lf : Nat → Nat × Option (SLst × Nat × Nat)} {s : ByteArray} {W : SLst → Prop} {tl : SLst → List UInt8}
def LWf (lf : Nat → Nat × Option (SLst × Nat × Nat)) (s : ByteArray) (W : SLst → Prop) (tl : SLst → List UInt8) : Prop :=
  ∀ p x, p ≤ s.size → (lf p).2 = some x → (W x.1 ∧ x.1 ≠ []) ∧ (tl x.1).length ≤ 4 * ((lf p).1 - p)
theorem askedP_wf (hl : LWf lf s W tl) {k p : Nat} {x : Sim × Nat × Nat} (hk : k < 11) (hp : p ≤ s.size) (h : (askedP lf s k p).2 = some x) :
    ∃ xx a t l, x.1 = .mk k xx a t l ∧ wfS W x.1 ∧ (askT tl k xx a t l).length ≤ 4 * ((askedP lf s k p).1 - p) + (if k = 8 then 8 else if k = 2 then 4 else 0) := by
  unfold askedP at h ⊢
  by_cases h1 : k ≤ 1
  · rw [if_pos h1] at h ⊢
    obtain ⟨y, hy, rfl⟩ := Option.map_eq_some_iff.1 h
    have := wordP_len hy
    refine ⟨_, _, _, _, rfl, ⟨hk, fun e => by omega, fun e => by omega, fun _ => rfl⟩, ?_⟩
    unfold askT
    rw [if_pos h1]; dsimp only; omega
  · rw [if_neg h1] at h ⊢
    by_cases h2 : k = 2
    · rw [if_pos h2] at h ⊢
      obtain ⟨y, hy, rfl⟩ := Option.map_eq_some_iff.1 h
      have := attrQP_len hp hy
      refine ⟨_, _, _, _, rfl, ⟨hk, fun e => by omega, fun e => by omega, fun _ => rfl⟩, ?_⟩
      unfold askT
      rw [if_neg h1, if_pos h2, if_neg (by omega), if_pos h2]; dsimp only; omega
    · rw [if_neg h2] at h ⊢
      by_cases h3 : k = 8
      · rw [if_pos h3] at h ⊢
        obtain ⟨y, hy, rfl⟩ := Option.map_eq_some_iff.1 h
        have hz : ((-100 < y.a ∧ y.a < 100) ∧ (-100 < y.b ∧ y.b < 100)) ∧ y.word.size ≤ 4 := by
          unfold nthP at hy
          have h5 := fun z => numbersP_wf (s := s) (p := spP s p) (z := z)
          generalize numbersP s (spP s p) = r at hy h5
          obtain ⟨q, o⟩ := r
          cases o with
          | none => cases hy
          | some z =>
            simp only [Option.some.injEq] at hy
            subst hy
            exact h5 z rfl
        refine ⟨_, _, _, _, rfl, ⟨hk, fun _ => hz.1, fun e => by omega, fun _ => rfl⟩, ?_⟩
        have := nthT_len hz.2
        unfold askT
        rw [if_neg h1, if_neg h2, if_pos h3, if_pos h3]; dsimp only; omega
      · rw [if_neg h3] at h ⊢
        by_cases h4 : 9 ≤ k
        · rw [if_pos h4] at h ⊢
          obtain ⟨y, hy, rfl⟩ := Option.map_eq_some_iff.1 h
          obtain ⟨g1, g2⟩ := hl p y hp hy
          refine ⟨_, _, _, _, rfl, ⟨hk, fun e => by omega, fun _ => ⟨g1.2, g1.1⟩, fun e => by omega⟩, ?_⟩
          unfold askT
          rw [if_neg h1, if_neg h2, if_neg h3, if_pos h4]; dsimp only; omega
        · rw [if_neg h4] at h ⊢
          simp only [Option.some.injEq] at h
          subst h
          refine ⟨_, _, _, _, rfl, ⟨hk, fun e => by omega, fun e => by omega, fun _ => rfl⟩, ?_⟩
          unfold askT
          rw [if_neg h1, if_neg h2, if_neg h3, if_neg h4]; simp
theorem open_len8 {k : Nat} {x : List UInt8} (h : openW[k]? = some x) : 1 ≤ x.length ∧ (k = 8 → x.length = 11) ∧ (closeW k).length ≤ 1 ∧ (k = 2 → (closeW k).length = 1) ∧ k < 11 := by
  have hk : k < 11 := (List.getElem?_eq_some_iff.1 h).1
  rcases k with _ | _ | _ | _ | _ | _ | _ | _ | _ | _ | _ | k
  all_goals first
    | omega
    | (simp [openW] at h; subst h; decide)
theorem simpleP_wf (hg : ∀ p, p ≤ s.size → Gd s p (lf p)) (hl : LWf lf s W tl) {p : Nat} {x : Sim × Nat × Nat} (hp : p ≤ s.size) (h : (simpleP lf s p).2 = some x) : wfS W x.1 ∧ (simT tl x.1).length ≤ 4 * ((simpleP lf s p).1 - p) := by
  unfold simpleP at h ⊢
  have h1 := oneP_le (s := s) openW_no0 13 [] p hp
  have h2 := fun i => oneP_len (s := s) (words := openW) 13 [] p i
  generalize oneP s openW 13 [] p = r at h h1 h2
  obtain ⟨q, o⟩ := r
  cases o with
  | none => cases h
  | some k =>
    dsimp only at h h1 h2 ⊢
    obtain ⟨ow, how, hol⟩ := h2 k rfl
    obtain ⟨o1, o2, o3, o4, o5⟩ := open_len8 how
    have h3 := askedP_gd hg (k := k) h1.2
    have h4 := fun y => askedP_wf (x := y) hl o5 h1.2
    generalize askedP lf s k q = r at h h3 h4
    obtain ⟨q2, o'⟩ := r
    cases o' with
    | none => cases h
    | some y =>
      dsimp only at h h3 h4 ⊢
      obtain ⟨xx, a, t, l, hy, hw, hlen⟩ := h4 y rfl
      have h5 := expP_len s (closeW k) q2
      split at h
      · rename_i hx
        have h5 := h5 hx
        simp only [Option.some.injEq] at h
        subst h
        refine ⟨hw, ?_⟩
        dsimp only
        rw [hy]
        have e : (openW.getD k []).length = ow.length := by rw [List.getD_eq_getElem?_getD, how]; rfl
        simp only [List.length_nil, Nat.add_zero] at hol
        show (openW.getD k [] ++ (askT tl k xx a t l ++ closeW k)).length ≤ _
        rw [List.length_append, List.length_append, e, h5]
        by_cases k8 : k = 8
        · have := o2 k8
          rw [if_pos k8] at hlen; omega
        · rw [if_neg k8] at hlen
          by_cases k2 : k = 2
          · have := o4 k2
            rw [if_pos k2] at hlen; omega
          · rw [if_neg k2] at hlen; omega
      · cases h
theorem simsT_snoc (l : List Sim) (m : Sim) : simsT tl (l ++ [m]) = simsT tl l ++ simT tl m := by unfold simsT; simp
theorem simplesP_wf (hg : ∀ p, p ≤ s.size → Gd s p (lf p)) (hl : LWf lf s W tl) : ∀ f l c d p, p ≤ s.size → (∀ m ∈ l, wfS W m) → ∀ x, (simplesP lf s f l c d p).2 = some x → (∀ m ∈ x.1, wfS W m) ∧ (simsT tl x.1).length ≤ (simsT tl l).length + 4 * ((simplesP lf s f l c d p).1 - p)
  | 0, l, c, d, p, hp, hw, x, h => by simp [simplesP] at h
  | f + 1, l, c, d, p, hp, hw, x, h => by
    rw [simplesP] at h ⊢
    split at h
    · rename_i hat
      rw [if_pos hat]
      have h1 := fun y => simpleP_wf (x := y) hg hl hp
      have h2 := simpleP_gd hg hp
      generalize simpleP lf s p = r at h h1 h2
      obtain ⟨q, o⟩ := r
      cases o with
      | none => cases h
      | some y =>
        dsimp only at h h1 h2 ⊢
        obtain ⟨g1, g2⟩ := h1 y rfl
        obtain ⟨⟨e1, e2, _⟩, _⟩ := h2
        dsimp only at e1 e2
        have e3 := (simplesP_gd hg f (l ++ [y.1]) (c + y.2.1) (max d y.2.2) q e2).1
        obtain ⟨g3, g4⟩ := simplesP_wf hg hl f (l ++ [y.1]) (c + y.2.1) (max d y.2.2) q e2 (by
          intro m hm
          rcases List.mem_append.1 hm with hm | hm
          · exact hw m hm
          · rw [List.mem_singleton.1 hm]; exact g1) x h
        refine ⟨g3, ?_⟩
        rw [simsT_snoc, List.length_append] at g4
        omega
    · rename_i hat
      rw [if_neg hat]
      simp only [Option.some.injEq] at h
      subst h
      exact ⟨hw, by dsimp only; omega⟩
theorem compoundP_wf (hg : ∀ p, p ≤ s.size → Gd s p (lf p)) (hl : LWf lf s W tl) {p : Nat} {x : (ByteArray × List Sim) × Nat × Nat} (hp : p ≤ s.size) (h : (compoundP lf s p).2 = some x) : (∀ m ∈ x.1.2, wfS W m) ∧ x.1.1.data.toList.length + (simsT tl x.1.2).length ≤ 4 * ((compoundP lf s p).1 - p) := by
  unfold compoundP at h ⊢
  have h1 := headP_le hp
  have h2 : ∀ n, (headP s p).2 = some n → n.data.toList.length ≤ (headP s p).1 - p := by
    intro n hn
    unfold headP at hn ⊢
    split at hn
    · rename_i e
      rw [if_pos e]
      simp only [Option.some.injEq] at hn
      subst hn
      simp [bytesOf]
    · rename_i e
      rw [if_neg e]
      split at hn
      · rename_i e2
        rw [if_pos e2]
        simp only [Option.some.injEq] at hn
        subst hn
        simp [noB]
      · rename_i e2
        rw [if_neg e2]
        exact (newP_len hp hn).1
  generalize headP s p = r at h h1 h2
  obtain ⟨q, o⟩ := r
  cases o with
  | none => cases h
  | some n =>
    dsimp only at h h1 h2 ⊢
    have h3 := h2 n rfl
    have h4 := simplesP_wf hg hl (s.size + 1) [] 0 0 q h1.2.1 (by simp)
    have h5 := (simplesP_gd hg (s.size + 1) [] 0 0 q h1.2.1).1
    generalize simplesP lf s (s.size + 1) [] 0 0 q = r at h h4 h5
    obtain ⟨q2, o2⟩ := r
    cases o2 with
    | none => cases h
    | some y =>
      dsimp only at h h4 h5 ⊢
      simp only [Option.some.injEq] at h
      subst h
      obtain ⟨g1, g2⟩ := h4 y rfl
      have e : (simsT tl []).length = 0 := rfl
      exact ⟨g1, by dsimp only; omega⟩
theorem combP_wf {q : Nat} {b : Int} (h : (combP s q).2 = some b) : 0 < b ∧ b < 128 := by
  unfold combP at h
  split at h
  · rename_i e
    simp only [Option.some.injEq] at h
    subst h
    unfold combB at e
    simp only [Bool.or_eq_true, beq_iff_eq] at e
    omega
  · split at h
    · cases h
    · split at h
      · simp only [Option.some.injEq] at h
        subst h; decide
      · cases h
theorem byT_len (b : Int) : (byT b).length ≤ 1 := by unfold byT; split <;> simp
theorem combP_some_lt {q : Nat} {b : Int} (hq : q ≤ s.size) (h : (combP s q).2 = some b) : q < (combP s q).1 := by
  unfold combP at h ⊢
  have h1 := spP_le hq
  split at h
  · rename_i e
    rw [if_pos e]
    have h2 : spP s q < s.size := peekI_lt (fun e0 => by rw [e0] at e; revert e; decide)
    have := spP_le (s := s) (p := spP s q + 1) h2
    dsimp only; omega
  · rename_i e
    rw [if_neg e]
    split at h
    · cases h
    · rename_i e2
      rw [if_neg e2]
      split at h
      · rename_i e3
        rw [if_pos e3]; exact e3
      · cases h
theorem cpxT_snoc (l : Cpx) (st : Stp) : cpxT tl (l ++ [st]) = cpxT tl l ++ stpT tl st := by unfold cpxT; simp
/-- A complex that is being read: all steps well; the next combinator. -/
theorem complexP_wf (hg : ∀ p, p ≤ s.size → Gd s p (lf p)) (hl : LWf lf s W tl) : ∀ f l c d b p, p ≤ s.size → wfC W l → ((l = [] → b = 0) ∧ (l ≠ [] → 0 < b ∧ b < 128)) → ∀ x, (complexP lf s f l c d b p).2 = some x → (wfC W x.1 ∧ x.1 ≠ []) ∧ (cpxT tl x.1).length ≤ (cpxT tl l).length + (byT b).length + 4 * ((complexP lf s f l c d b p).1 - p)
  | 0, l, c, d, b, p, hp, hw, hb, x, h => by simp [complexP] at h
  | f + 1, l, c, d, b, p, hp, hw, hb, x, h => by
    rw [complexP] at h ⊢
    have h1 := fun y => compoundP_wf (x := y) hg hl hp
    have h2 := compoundP_gd hg hp
    generalize compoundP lf s p = r at h h1 h2
    obtain ⟨q, o⟩ := r
    cases o with
    | none => cases h
    | some y =>
      dsimp only at h h1 h2 ⊢
      obtain ⟨g1, g2⟩ := h1 y rfl
      obtain ⟨⟨e1, e2, _⟩, _⟩ := h2
      dsimp only at e1 e2
      have hw' : wfC W (l ++ [(b, y.1.1, y.1.2)]) := by
        intro i st hi
        by_cases hil : i < l.length
        · rw [List.getElem?_append_left hil] at hi
          exact hw i st hi
        · rw [List.getElem?_append_right (by omega)] at hi
          have hz : i - l.length = 0 := by
            cases hh : i - l.length with
            | zero => rfl
            | succ n => rw [hh] at hi; simp at hi
          rw [hz] at hi
          simp only [List.getElem?_cons_zero, Option.some.injEq] at hi
          subst hi
          refine ⟨g1, fun e => hb.1 (List.eq_nil_of_length_eq_zero (by omega)), fun e => hb.2 (fun e0 => ?_)⟩
          rw [e0] at hz; simp at hz; omega
      have hT : (cpxT tl (l ++ [(b, y.1.1, y.1.2)])).length ≤ (cpxT tl l).length + (byT b).length + 4 * (q - p) := by
        rw [cpxT_snoc, List.length_append]
        unfold stpT
        rw [List.length_append, List.length_append]
        dsimp only; omega
      have h3 := combP_le (s := s) e2
      have h4 := fun b' => combP_wf (s := s) (q := q) (b := b')
      have h4' := fun b' => combP_some_lt (s := s) (q := q) (b := b') e2
      generalize combP s q = r at h h3 h4 h4'
      obtain ⟨q2, o2⟩ := r
      cases o2 with
      | none =>
        dsimp only at h h3 ⊢
        simp only [Option.some.injEq] at h
        subst h
        exact ⟨⟨hw', by simp⟩, by dsimp only; omega⟩
      | some b' =>
        dsimp only at h h3 h4 h4' ⊢
        have h5 := h4' b' rfl
        obtain ⟨g3, g4⟩ := complexP_wf hg hl f (l ++ [(b, y.1.1, y.1.2)]) (c + y.2.1) (max d y.2.2) b' q2 h3.2 hw' ⟨fun e => by simp at e, fun _ => h4 b' rfl⟩ x h
        have h6 := (complexP_gd hg f (l ++ [(b, y.1.1, y.1.2)]) (c + y.2.1) (max d y.2.2) b' q2 h3.2).1
        have := byT_len b'
        exact ⟨g3, by omega⟩
theorem lstT_snoc (l : SLst) (c : Cpx) : (lstT tl (l ++ [c])).length ≤ (lstT tl l).length + (if l = [] then 0 else 1) + (cpxT tl c).length := by
  cases l with
  | nil => simp [lstT]
  | cons c0 r => simp [lstT]; omega
theorem partsP_wf (hg : ∀ p, p ≤ s.size → Gd s p (lf p)) (hl : LWf lf s W tl) : ∀ f l c d p, p ≤ s.size → (∀ c ∈ l, wfC W c) → ∀ x, (partsP lf s f l c d p).2 = some x → ((∀ c ∈ x.1, wfC W c) ∧ x.1 ≠ []) ∧ (lstT tl x.1).length ≤ (lstT tl l).length + (if l = [] then 0 else 1) + 4 * ((partsP lf s f l c d p).1 - p)
  | 0, l, c, d, p, hp, hw, x, h => by simp [partsP] at h
  | f + 1, l, c, d, p, hp, hw, x, h => by
    rw [partsP] at h ⊢
    have h0 := spP_le hp
    have h1 := complexP_wf hg hl (s.size + 1) [] 0 0 0 (spP s p) h0.2 (fun i st hi => by simp at hi) ⟨fun _ => rfl, fun e => absurd rfl e⟩
    have h2 := complexP_gd hg (s.size + 1) [] 0 0 0 (spP s p) h0.2
    generalize complexP lf s (s.size + 1) [] 0 0 0 (spP s p) = r at h h1 h2
    obtain ⟨q, o⟩ := r
    cases o with
    | none => cases h
    | some y =>
      dsimp only at h h1 h2 ⊢
      obtain ⟨g1, g2⟩ := h1 y rfl
      obtain ⟨e1, e2, e3⟩ := h2
      have hlt := (e3 y rfl).2
      have e0 : (cpxT tl []).length = 0 := rfl
      have e0' : (byT 0).length = 0 := rfl
      have hw' : ∀ c ∈ l ++ [y.1], wfC W c := by
        intro c hc
        rcases List.mem_append.1 hc with hc | hc
        · exact hw c hc
        · rw [List.mem_singleton.1 hc]; exact g1.1
      have hT := lstT_snoc (tl := tl) l y.1
      by_cases hc : peekI s q = 44
      · rw [if_pos hc] at h ⊢
        have hq := peek_in hc (by decide)
        obtain ⟨g3, g4⟩ := partsP_wf hg hl f (l ++ [y.1]) (c + y.2.1) (max d y.2.2) (q + 1) hq hw' x h
        have h6 := (partsP_gd hg f (l ++ [y.1]) (c + y.2.1) (max d y.2.2) (q + 1) hq).1
        rw [if_neg (by simp)] at g4
        exact ⟨g3, by omega⟩
      · rw [if_neg hc] at h ⊢
        simp only [Option.some.injEq] at h
        subst h
        exact ⟨⟨hw', by simp⟩, by dsimp only; omega⟩
end
theorem listP_wf (s : ByteArray) : ∀ n, LWf (listP s n) s (wfL n) (textL n)
  | 0 => fun p x hp h => by simp [listP] at h
  | n + 1 => fun p x hp h => by
    obtain ⟨⟨h1, h2⟩, h3⟩ := partsP_wf (listP_gd s n) (listP_wf s n) (s.size + 1) [] 0 0 p hp (by simp) x h
    refine ⟨⟨h1, h2⟩, ?_⟩
    have e : (lstT (textL n) []).length = 0 := rfl
    rw [if_pos rfl, e] at h3
    show (lstT (textL n) x.1).length ≤ 4 * ((partsP (listP s n) s (s.size + 1) [] 0 0 p).1 - p)
    omega
end Go.Proofs.YtclpcnignheijaaGreatDoor
/-
  No selector that was read is written as nothing.
-/
namespace Go.Proofs.YtclpcnignheijaaGreatDoor
open Go.RowKit

section
variable {lf : Nat → Nat × Option (SLst × Nat × Nat)} {s : ByteArray}
theorem simplesP_more : ∀ f l c d p x, (simplesP lf s f l c d p).2 = some x → l.length ≤ x.1.length ∧ (atB (peekI s p) = true → l.length < x.1.length)
  | 0, l, c, d, p, x, h => by simp [simplesP] at h
  | f + 1, l, c, d, p, x, h => by
    rw [simplesP] at h
    by_cases ha : atB (peekI s p) = true
    · rw [if_pos ha] at h
      generalize simpleP lf s p = r at h
      obtain ⟨q, o⟩ := r
      cases o with
      | none => cases h
      | some y =>
        have := (simplesP_more f _ _ _ _ x h).1
        simp only [List.length_append, List.length_cons, List.length_nil] at this
        exact ⟨by omega, fun _ => by omega⟩
    · rw [if_neg ha] at h
      simp only [Option.some.injEq] at h
      subst h
      exact ⟨Nat.le_refl _, fun e => absurd e ha⟩
def okStp (st : Stp) : Prop := st.2.1.size ≠ 0 ∨ st.2.2 ≠ []
def okCpx (c : Cpx) : Prop := (∀ st ∈ c, okStp st) ∧ c ≠ []
theorem compoundP_ne {p : Nat} {x : (ByteArray × List Sim) × Nat × Nat} (hp : p ≤ s.size) (h : (compoundP lf s p).2 = some x) : x.1.1.size ≠ 0 ∨ x.1.2 ≠ [] := by
  unfold compoundP headP at h
  by_cases h42 : peekI s p = 42
  · rw [if_pos h42] at h
    dsimp only at h
    generalize simplesP lf s (s.size + 1) [] 0 0 (p + 1) = r at h
    obtain ⟨q, o⟩ := r
    cases o with
    | none => cases h
    | some y =>
      simp only [Option.some.injEq] at h
      subst h
      exact .inl (by show (bytesOf [42]).size ≠ 0; decide)
  · rw [if_neg h42] at h
    by_cases ha : atB (peekI s p) = true
    · rw [if_pos ha] at h
      dsimp only at h
      have h1 := fun y => simplesP_more (lf := lf) (s := s) (s.size + 1) [] 0 0 p y
      generalize simplesP lf s (s.size + 1) [] 0 0 p = r at h h1
      obtain ⟨q, o⟩ := r
      cases o with
      | none => cases h
      | some y =>
        simp only [Option.some.injEq] at h
        subst h
        have := (h1 y rfl).2 ha
        exact .inr (fun e => by dsimp only at e; rw [e] at this; simp at this)
    · rw [if_neg ha] at h
      have h1 := fun n => newP_lt (s := s) (p := p) (x := n)
      have h2 : ∀ n, (newP s p noneTaken).2 = some n → n.size ≠ 0 := fun n hn => by
        have hlt := newP_lt hn
        have hna := nameAt_size hp
        unfold newP at hn hlt
        split at hn
        · cases hn
        · split at hn
          · cases hn
          · split at hn
            · cases hn
            · rename_i a1 a2 a3
              rw [if_neg a1, if_neg a2, if_neg a3] at hlt
              simp only [Option.some.injEq] at hn
              subst hn
              dsimp only at hlt
              omega
      generalize newP s p noneTaken = r at h h2
      obtain ⟨q, o⟩ := r
      cases o with
      | none => cases h
      | some n =>
        dsimp only at h
        generalize simplesP lf s (s.size + 1) [] 0 0 q = r at h
        obtain ⟨q', o'⟩ := r
        cases o' with
        | none => cases h
        | some y =>
          simp only [Option.some.injEq] at h
          subst h
          exact .inl (h2 n rfl)
theorem complexP_ne (hg : ∀ p, p ≤ s.size → Gd s p (lf p)) : ∀ f l c d b p, p ≤ s.size → (∀ st ∈ l, okStp st) → ∀ x, (complexP lf s f l c d b p).2 = some x → okCpx x.1
  | 0, l, c, d, b, p, _, _, x, h => by simp [complexP] at h
  | f + 1, l, c, d, b, p, hp, hl, x, h => by
    rw [complexP] at h
    have h1 := fun y => compoundP_ne (lf := lf) (x := y) hp
    have h2 := compoundP_gd hg hp
    generalize compoundP lf s p = r at h h1 h2
    obtain ⟨q, o⟩ := r
    cases o with
    | none => cases h
    | some y =>
      have hn : ∀ st ∈ l ++ [(b, y.1.1, y.1.2)], okStp st := fun st hst => by
        rcases List.mem_append.1 hst with hst | hst
        · exact hl st hst
        · rw [List.mem_singleton] at hst; subst hst; exact h1 y rfl
      have h3 := combP_le (s := s) (p := q) h2.1.2.1
      dsimp only at h
      generalize combP s q = r at h h3
      obtain ⟨q2, o2⟩ := r
      cases o2 with
      | none =>
        simp only [Option.some.injEq] at h
        subst h
        exact ⟨hn, by simp⟩
      | some b' => exact complexP_ne hg f _ _ _ _ _ h3.2 hn x h
theorem partsP_ne (hg : ∀ p, p ≤ s.size → Gd s p (lf p)) : ∀ f l c d p, p ≤ s.size → (∀ cx ∈ l, okCpx cx) → ∀ x, (partsP lf s f l c d p).2 = some x → (∀ cx ∈ x.1, okCpx cx)
  | 0, l, c, d, p, _, _, x, h => by simp [partsP] at h
  | f + 1, l, c, d, p, hp, hl, x, h => by
    rw [partsP] at h
    have hsp := spP_le hp
    have h1 := complexP_ne (lf := lf) hg (s.size + 1) [] 0 0 0 (spP s p) hsp.2 (fun _ h => by cases h)
    have h2 := complexP_gd hg (s.size + 1) [] 0 0 0 (spP s p) hsp.2
    generalize complexP lf s (s.size + 1) [] 0 0 0 (spP s p) = r at h h1 h2
    obtain ⟨q, o⟩ := r
    cases o with
    | none => cases h
    | some y =>
      have hn : ∀ cx ∈ l ++ [y.1], okCpx cx := fun cx hcx => by
        rcases List.mem_append.1 hcx with hcx | hcx
        · exact hl cx hcx
        · rw [List.mem_singleton] at hcx; subst hcx; exact h1 y rfl
      dsimp only at h
      split at h
      · rename_i h44
        exact partsP_ne hg f _ _ _ _ (peek_in h44 (by decide)) hn x h
      · simp only [Option.some.injEq] at h
        subst h
        exact hn
end
theorem openW_ne {k : Nat} (hk : k < 11) : openW.getD k [] ≠ [] := by
  have h : ∀ j, j < 11 → openW.getD j [] ≠ [] := by decide
  exact h k hk
theorem stpT_ne {W : SLst → Prop} {tl : SLst → List UInt8} {st : Stp} (h : okStp st) (hw : wfT W st) : stpT tl st ≠ [] := by
  unfold stpT
  intro e
  simp only [List.append_eq_nil_iff] at e
  obtain ⟨_, e1, e2⟩ := e
  rcases h with h | h
  · apply h
    have := congrArg List.length e1
    rwa [Array.length_toList] at this
  · obtain ⟨m, r, hm⟩ := List.exists_cons_of_ne_nil h
    rw [hm] at e2
    obtain ⟨k, x, a, t, l⟩ := m
    have hk := (hw (.mk k x a t l) (by rw [hm]; simp)).1
    simp only [simsT, List.flatMap_cons, List.append_eq_nil_iff, simT] at e2
    exact openW_ne hk e2.1.1
/-- A selector that was read: how it is written. -/
theorem listP_text {s : ByteArray} {n p : Nat} {x : SLst × Nat × Nat} (hp : p ≤ s.size) (h : (listP s n p).2 = some x) : wfL n x.1 ∧ (textL n x.1).length ≤ 4 * s.size ∧ textL n x.1 ≠ [] := by
  have h1 := listP_wf s n p x hp h
  have h2 := listP_gd s n p hp
  refine ⟨h1.1.1, by have := h1.2; have := h2.2.1; omega, ?_⟩
  cases n with
  | zero => simp [listP] at h
  | succ n =>
    have h3 := partsP_ne (lf := listP s n) (listP_gd s n) (s.size + 1) [] 0 0 p hp (fun _ h => by cases h) x h
    obtain ⟨c, r, hc⟩ := List.exists_cons_of_ne_nil h1.1.2
    have hwc : wfC (wfL n) c := h1.1.1 c (by rw [hc]; simp)
    have hokc := h3 c (by rw [hc]; simp)
    show lstT (textL n) x.1 ≠ []
    rw [hc]
    show cpxT (textL n) c ++ _ ≠ []
    intro e
    have e1 := (List.append_eq_nil_iff.1 e).1
    obtain ⟨st, r', hst⟩ := List.exists_cons_of_ne_nil hokc.2
    rw [hst] at e1
    simp only [cpxT, List.flatMap_cons, List.append_eq_nil_iff] at e1
    exact stpT_ne (hokc.1 st (by rw [hst]; simp)) (hwc 0 st (by rw [hst]; rfl)).1 e1.1
end Go.Proofs.YtclpcnignheijaaGreatDoor
