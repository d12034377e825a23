import Derived.Test.YtclpcnignheijaaGreatDoorR3
namespace Go.Proofs.YtclpcnignheijaaGreatDoor
open Go.RowKit

theorem goesOn_pk {words : List (List UInt8)} {t : List UInt8} {b : Int} (hw : ∀ x ∈ words, (0 : UInt8) ∉ x) (h : goesOn words t b = true) : b ≠ 0 := by
  intro e
  rw [e] at h
  unfold goesOn at h
  rw [List.any_eq_true] at h
  obtain ⟨x, hx, h⟩ := h
  rw [Bool.and_eq_true] at h
  obtain ⟨_, h⟩ := h
  split at h
  · rename_i c hc
    have hc0 : (c.toNat : Int) = 0 := by simpa using h
    have h1 : (0 : UInt8).toNat = 0 := rfl
    have : c = 0 := UInt8.toNat_inj.mp (by omega)
    exact hw x hx (this ▸ List.mem_of_getElem? hc)
  · cases h
set_option maxRecDepth 100000 in
set_option maxHeartbeats 4000000 in
theorem among_any (B mb g cap N : Nat) (ws : List (List UInt8)) (s : ByteArray) (p a m : Nat) (w : World) (h : Mk w mb s p false a m) (hB : B ≤ mb) (hb : Ws w g ws) (hl : ws.length ≤ 100) (h0 : ∀ x ∈ ws, (0 : UInt8) ∉ x) (hN : ∀ x ∈ ws, x.length < N) (hN0 : 0 < N) (hN1 : N ≤ 100) :
    Calls Tryz.prog 132 #[.pointer (some ⟨mb, 0, none⟩), .slice (some ⟨g, 0, none⟩) ws.length cap] w fun e w' => ∃ i : Int, e = .returned (.int .i64 i) ∧ Kp B [153] w w' ∧
      ((∃ k : Nat, (oneP s ws N [] p).2 = some k ∧ i = (k : Int) ∧ Mk w' mb s (oneP s ws N [] p).1 false a m) ∨ ((oneP s ws N [] p).2 = none ∧ i = -1 ∧ Mk w' mb s (oneP s ws N [] p).1 true a m)) := by
  have h4 := h.le; have h5 := h.max
  have d1 := h.c1
  go_enter Tryz.func132, Tryz.ntmps132
  go_wp2
  clear d1
  go_loopw [14] (fun _ wr => ∃ q : Nat, Mk wr mb s q false a m ∧ p ≤ q ∧ q - p < N ∧ Hid (oneP s ws (N - (q - p)) (subB s p q).data.toList q = oneP s ws N [] p) ∧ Kp B [153] w wr) (fun _ wr => s.size - placeM wr mb)
  case atStart => exact ⟨p, h, Nat.le_refl _, by omega, by rw [subB_nil, Nat.sub_self]; rfl, Kp.refl _ _ _⟩
  case round =>
    obtain ⟨q, hm, hpq, hqN, HQ, hk⟩ := hrel
    have d2 := hm.c2; have d1 := hm.c1
    have hbr := hb.kept hk (by decide)
    have h6 := hm.le
    obtain ⟨M, hM⟩ : ∃ M, N - (q - p) = M + 1 := ⟨N - (q - p) - 1, by omega⟩
    have HM := hide hM
    clear hM
    have hsub := subB_eq s p q
    have hts : (subB s p q).data.toList.length = q - p := by rw [← subB_size h6 hpq]; simp
    go_wp2
    obtain ⟨L, hL⟩ : ∃ L, q - p = L := ⟨_, rfl⟩
    rw [show (q : Int) - (p : Int) = (L : Int) from by omega]
    rw [hL] at hts
    have hLs : (subB s p q).size = L := by rw [subB_size h6 hpq]; exact hL
    have hL100 : L < 100 := by omega
    have HL := hide hL
    clear hL
    go_loopw [7, 8] (fun cv iv wx => ∃ (k n : Nat) (cb : Bool), iv = .int .i64 k ∧ cv = .bool cb ∧ k ≤ ws.length ∧ wx = wr.drewN n ∧ Hid (∀ j, j < k → ∀ x, ws[j]? = some x → (x == (subB s p q).data.toList) = false) ∧ Hid (cb = (ws.take k).any fun x => goesW x (subB s p q).data.toList (peekI s q))) (fun _ iv _ => ws.length - (intOf iv).toNat)
    case atStart => exact ⟨0, 0, false, rfl, rfl, Nat.zero_le _, rfl, fun j hj => absurd hj (by omega), rfl⟩
    case round =>
      obtain ⟨k, n, cb, rfl, rfl, hkl, rfl, HJ, HCB⟩ := hrel
      by_cases hlt : k < ws.length
      · obtain ⟨x, hx⟩ : ∃ x, ws[k]? = some x := ⟨ws[k], List.getElem?_eq_getElem hlt⟩
        have c1 := hbr.cell hx
        have hbe : ((bytesOf x).toList == (subB s p q).toList) = (x == (subB s p q).data.toList) := bytesOf_eq x _
        have HX := hide hx
        clear hx
        have d0 := hm.c0
        cases he : x == (subB s p q).data.toList
        · rw [he] at hbe
          have HE := hide he
          clear he
          have hxs : (bytesOf x).size = x.length := by show x.toArray.size = _; simp
          have hstep : ∀ b : Bool, goesW x (subB s p q).data.toList (peekI s q) = b → Hid ((cb || b) = (ws.take (k + 1)).any fun x => goesW x (subB s p q).data.toList (peekI s q)) := by
            intro b hb
            have hg : ws[k] = x := Option.some.inj ((List.getElem?_eq_getElem hlt).symm.trans HX.out)
            rw [List.take_succ_eq_append_getElem hlt, List.any_append, ← HCB.out, hg]
            simp [hb]; exact trivial
          have hnot : ∀ j, j < k + 1 → ∀ y, ws[j]? = some y → (y == (subB s p q).data.toList) = false := by
            intro j hj y hy
            by_cases hjk : j < k
            · exact HJ.out j hjk y hy
            · have : j = k := by omega
              subst this
              have e : x = y := Option.some.inj (HX.out.symm.trans hy)
              rw [← e]; exact HE.out
          have HSt := hide hstep; have HNot := hide hnot
          clear hstep hnot
          by_cases hgt : L < x.length
          · have hgt' : (L : Int) < ((bytesOf x).size : Int) := by rw [hxs]; omega
            have hgt2 : L < (bytesOf x).size := by rw [hxs]; exact hgt
            have hpre : (((bytesOf x).extract 0 L).toList == (subB s p q).toList) = (subB s p q).data.toList.isPrefixOf x := by
              rw [← hLs]; exact prefix_eq (bytesOf x) (subB s p q)
            have hgw : goesW x (subB s p q).data.toList (peekI s q) = ((subB s p q).data.toList.isPrefixOf x && (((bytesOf x)[L].toNat : Int) == peekI s q)) := by
              unfold goesW
              rw [hts, List.getElem?_eq_getElem hgt]; rfl
            obtain ⟨cc, hcc⟩ : ∃ cc, peekI s q = cc := ⟨_, rfl⟩
            have HCC := hide hcc
            rw [hcc] at hgw
            cases hp1 : (subB s p q).data.toList.isPrefixOf x
            · rw [hp1] at hpre hgw
              have HG := hide hgw
              clear hp1 hgw hcc
              go_wp2
              go_quiet (fail)
              go_wp2_with fail
              refine (next_is mb s q false a m _ cc (hm.drewN _) ((nextI_ok s q).trans HCC.out)).mono ?_
              rintro e w2 ⟨rfl, nq2, rfl⟩
              go_wp2
              go_quiet (fail)
              go_wp2
              go_roundw
              case rel =>
                refine ⟨k + 1, _, cb, by go_num, rfl, by omega, rfl, HNot.out, ?_⟩
                have := HSt.out false (by rw [HCC.out]; exact HG.out)
                rwa [Bool.or_false] at this
              case measure => simp [intOf]; omega
            · rw [hp1] at hpre hgw
              cases hp2 : ((bytesOf x)[L].toNat : Int) == cc
              · rw [hp2] at hgw
                have HG := hide hgw
                clear hp1 hgw hcc
                go_wp2
                go_quiet (fail)
                go_wp2_with fail
                refine (next_is mb s q false a m _ cc (hm.drewN _) ((nextI_ok s q).trans HCC.out)).mono ?_
                rintro e w2 ⟨rfl, nq2, rfl⟩
                go_wp2
                go_quiet (fail)
                go_wp2
                go_roundw
                case rel =>
                  refine ⟨k + 1, _, cb, by go_num, rfl, by omega, rfl, HNot.out, ?_⟩
                  have := HSt.out false (by rw [HCC.out]; exact HG.out)
                  rwa [Bool.or_false] at this
                case measure => simp [intOf]; omega
              · rw [hp2] at hgw
                have HG := hide hgw
                clear hp1 hgw hcc
                go_wp2
                go_quiet (fail)
                go_wp2_with fail
                refine (next_is mb s q false a m _ cc (hm.drewN _) ((nextI_ok s q).trans HCC.out)).mono ?_
                rintro e w2 ⟨rfl, nq2, rfl⟩
                go_wp2
                go_quiet (fail)
                go_wp2
                go_roundw
                case rel =>
                  refine ⟨k + 1, _, true, by go_num, rfl, by omega, rfl, HNot.out, ?_⟩
                  have := HSt.out true (by rw [HCC.out]; exact HG.out)
                  rwa [Bool.or_true] at this
                case measure => simp [intOf]; omega
          · have hgt' : ¬ (L : Int) < ((bytesOf x).size : Int) := by rw [hxs]; omega
            have hgw : goesW x (subB s p q).data.toList (peekI s q) = false := by
              unfold goesW
              rw [hts, List.getElem?_eq_none (by omega)]; simp
            have HG := hide hgw
            clear hgw
            go_wp2
            go_quiet (fail)
            go_wp2_with fail
            refine (next_any mb s q false a m _ (hm.drewN _)).mono ?_
            rintro e w2 ⟨rfl, nq2, rfl⟩
            go_wp2
            go_quiet (fail)
            go_wp2
            go_roundw
            case rel =>
              refine ⟨k + 1, _, cb, by go_num, rfl, by omega, rfl, HNot.out, ?_⟩
              have := HSt.out false HG.out
              rwa [Bool.or_false] at this
            case measure => simp [intOf]; omega
        · rw [he] at hbe
          have HF := hide (wordsI_some HX.out he HJ.out)
          clear he
          go_wp2
          go_quiet (fail)
          go_wp2
          go_ret
          have HE : oneP s ws N [] p = (q, some k) := by rw [← HQ.out, HM.out]; exact oneP_some HF.out
          rw [HE]
          exact ⟨_, rfl, (hk.drewN _).drewN _, .inl ⟨k, rfl, rfl, (hm.drewN _).drewN _⟩⟩
      · have hk2 : k = ws.length := by omega
        have hnone := wordsI_none (ws := ws) (t := (subB s p q).data.toList) (fun j hj => HJ.out j (by omega))
        have hcb : cb = goesOn ws (subB s p q).data.toList (peekI s q) := by
          rw [HCB.out, hk2, List.take_length]; rfl
        have HNone := hide hnone
        have HGo := hide hcb
        have df := hm.free (o := 2); have df1 := hm.free (o := 1)
        clear hnone hcb hk2
        cases cb
        · have HE : Hid (oneP s ws N [] p = (q, none)) := by rw [← HQ.out, HM.out]; exact hide (oneP_no HNone.out HGo.out.symm)
          go_wp2
          go_ret
          rw [HE.out]
          exact ⟨_, rfl, (hm.drewN _).kp (hk.drewN _) hB _ _, .inr ⟨rfl, rfl, (hm.drewN _).set2 true⟩⟩
        · have hg := HGo.out.symm
          have hlt2 := goesOn_lt h0 hg
          have hlen := goesOn_len hN hg
          have hpk : peekI s q ≠ 0 := goesOn_pk h0 hg
          have hsn := subB_snoc hpq hpk
          rw [hts] at hlen
          have HE : Hid (oneP s ws (N - (q + 1 - p)) (subB s p (q + 1)).data.toList (q + 1) = oneP s ws N [] p) := by
            have hLv := HL.out
            have hMv := HM.out
            have e1 : N - (q + 1 - p) = M := by omega
            rw [← HQ.out, HM.out, oneP_go HNone.out hg, hsn, e1]; rfl
          have hLv := HL.out
          clear hg hpk hsn
          go_wp2
          go_roundw
          case rel => exact ⟨q + 1, (hm.drewN _).set1 (by omega) (by simp), by omega, by omega, HE, (hm.drewN _).kp (hk.drewN _) hB _ _⟩
          case measure => rw [((hm.drewN _).set1 (q := q + 1) (by omega) (by simp)).placeM, hm.placeM]; omega
end Go.Proofs.YtclpcnignheijaaGreatDoor
