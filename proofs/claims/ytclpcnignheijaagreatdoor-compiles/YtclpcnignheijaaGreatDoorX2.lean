/-
  The document's writer of selectors: Write.
-/
import Derived.Test.YtclpcnignheijaaGreatDoorQ11
import Derived.Test.YtclpcnignheijaaGreatDoorQ9
namespace Go.Proofs.YtclpcnignheijaaGreatDoor
open Go.RowKit

theorem docSim_len {RL : Value → SLst → Prop} : ∀ (m : Sim) (c : List Value), repS docL RL m c → c.length = 9 := fun _ _ h => h.len
theorem docStp_len {P : Nat → Prop} {w : World} {RL : Value → SLst → Prop} : ∀ (st : Stp) (c : List Value), repT docL P w RL st c → c.length = 3 := fun _ _ h => h.len
theorem docCpx_len {P : Nat → Prop} {w : World} {RL : Value → SLst → Prop} : ∀ (c : Cpx) (vs : List Value), (∃ v', vs = [v'] ∧ repC docL P w RL v' c) → vs.length = 1 := fun _ _ ⟨_, e, _⟩ => by rw [e]; rfl
theorem Fr.below {L : Lay} {w w' : World} (hb : Below w.heap.size w w') : Fr L (fun _ => True) (fun _ => True) w w' := fun _ _ _ _ h _ => ⟨trivial, below_at hb h (lt_of_block h)⟩
theorem byT_bytes {b : Int} (hb : 0 < b ∧ b < 128) : byT b = [UInt8.ofNat b.toNat] ∧ ((UInt8.ofNat b.toNat).toNat : Int) = b := by
  refine ⟨by unfold byT; rw [if_neg (by omega)], by rw [UInt8.toNat_ofNat']; omega⟩
theorem bytesOf_le {x : List UInt8} {N : Nat} (h : x.length ≤ N) : (bytesOf x).size ≤ N := by rw [bytesOf_size]; exact h
theorem app_str (x : List UInt8) (y : ByteArray) : bytesOf x ++ y = bytesOf (x ++ y.data.toList) := app_bytes x y.data.toList

set_option maxRecDepth 100000 in
set_option maxHeartbeats 8000000 in
theorem rwrite_succ (n : Nat) (IH : RWriteOk n) : RWriteOk (n + 1) := by
  intro lv l w hr hwf hs
  obtain ⟨la, lc, rfl⟩ := repL_len hr
  have HWF := hide hwf
  have hcm : l.length ≤ maxLen := by
    obtain ⟨xs, own, row⟩ := hr
    rcases Nat.eq_zero_or_pos l.length with h0 | h0
    · rw [h0]; exact Nat.zero_le _
    · obtain ⟨_, _, _, _, hm, _⟩ := rep_at docCpx_len own row rfl (List.getElem?_eq_getElem h0); exact hm
  unfold maxLen at hcm
  have HS : Hid ((lstT (textL n) l).length ≤ 1000000) := hs
  have HR := hide hr
  clear hwf hs hr
  show Calls _ _ _ _ fun e w' => e = .returned (.string (bytesOf (lstT (textL n) l))) ∧ Below w.heap.size w w'
  go_enter Tryz.func19, Tryz.ntmps19
  go_wp2
  go_loopw [3, 4] (fun ov iv wr => ∃ i : Nat, iv = .int .i64 i ∧ ov = .string (bytesOf (lstT (textL n) (l.take i))) ∧ i ≤ l.length ∧ Below w.heap.size w wr) (fun _ iv _ => l.length - (intOf iv).toNat)
  case atStart => exact ⟨0, rfl, rfl, Nat.zero_le _, Below.refl _ _⟩
  case round =>
    obtain ⟨i, rfl, rfl, hil, hb⟩ := hrel
    obtain ⟨w1, rfl⟩ : ∃ w1, w1 = wr := ⟨_, rfl⟩
    have hsi : (bytesOf (lstT (textL n) (l.take i))).size ≤ 1000000 := bytesOf_le (Nat.le_trans (lstT_take_le _ _ _) HS.out)
    by_cases hlt : i < l.length
    · obtain ⟨c, hc⟩ : ∃ c, l[i]? = some c := ⟨_, List.getElem?_eq_getElem hlt⟩
      have hwc := hide (HWF.out c (List.mem_of_getElem? hc))
      obtain ⟨g, cap, vs, hv, _, ⟨cv, rfl, hrc⟩, hcell⟩ : ∃ g cap vs, Value.slice la l.length lc = .slice (some ⟨g, 0, none⟩) l.length cap ∧ l.length ≤ maxLen ∧ (∃ v', vs = [v'] ∧ repC docL (fun _ => True) w (RepL docL (fun _ => True) w n) v' c) ∧ ∀ j u, vs[j]? = some u → w.cell? ⟨g, i * 1 + j, none⟩ = some u := by
        obtain ⟨xs, own, row⟩ := HR.out
        exact rep_at docCpx_len own row rfl hc
      obtain ⟨rfl, rfl⟩ : la = some ⟨g, 0, none⟩ ∧ lc = cap := by simp only [Value.slice.injEq] at hv; exact ⟨hv.1, hv.2.2⟩
      obtain ⟨ca, cc, rfl⟩ : ∃ ca cc, cv = .slice ca c.length cc := by obtain ⟨ys, own2, _⟩ := hrc; exact own_shapeP own2
      have hcl : c.length ≤ maxLen := by
        obtain ⟨xs, own, row⟩ := hrc
        rcases Nat.eq_zero_or_pos c.length with h0 | h0
        · rw [h0]; exact Nat.zero_le _
        · obtain ⟨_, _, _, _, hm, _⟩ := rep_at docStp_len own row rfl (List.getElem?_eq_getElem h0); exact hm
      unfold maxLen at hcl
      have hc0 := hcell 0 _ rfl
      rw [Nat.mul_one, Nat.add_zero] at hc0
      have hgw : g < w.heap.size := by
        rcases Nat.lt_or_ge g w.heap.size with h | h
        · exact h
        · simp [World.cell?, Array.getElem?_eq_none h] at hc0
      have HC0 : Hid (∀ wx, Below w.heap.size w wx → wx.cell? ⟨g, i, none⟩ = some (.slice ca c.length cc)) := fun wx hx => by rw [hx.cell (p := ⟨g, i, none⟩) hgw]; exact hc0
      have HRC := hide hrc
      clear hv hcell hrc hc0
      have htk : Hid (lstT (textL n) (l.take (i + 1)) = lstT (textL n) (l.take i) ++ ((if i = 0 then [] else [44]) ++ cpxT (textL n) c)) := by
        rw [take_snocL hc, lstT_app]
        have e : (l.take i = []) ↔ i = 0 := by
          rw [List.take_eq_nil_iff]
          constructor
          · rintro (h | h)
            · exact h
            · rw [h] at hlt; simp at hlt
          · exact .inl
        by_cases h0 : i = 0
        · rw [if_pos (e.2 h0), if_pos h0]; rfl
        · rw [if_neg (fun h => h0 (e.1 h)), if_neg h0]; rfl
      have HLE : Hid ((lstT (textL n) (l.take i) ++ (if i = 0 then [] else [44])).length + (cpxT (textL n) c).length ≤ 1000000) := by
        have h1 := lstT_take_le (textL n) l (i + 1)
        rw [htk.out] at h1
        have := HS.out
        simp only [List.length_append, Hid] at h1 ⊢
        omega
      obtain ⟨O1, hO1, hmain⟩ : ∃ O1, Hid (O1 = lstT (textL n) (l.take i) ++ (if i = 0 then [] else [44])) ∧ True := ⟨_, hide rfl, trivial⟩
      clear hmain
      by_cases hi0 : i = 0
      · have bk : ¬ (0 : Int) < (i : Int) := by omega
        have hO : Hid (bytesOf (lstT (textL n) (l.take i)) = bytesOf O1) := by rw [hO1.out, if_pos hi0, List.append_nil]; rfl
        clear hi0
        go_wp2
        rw [hO.out]
        go_loopw [3, 5] (fun ov kv wk => ∃ k : Nat, kv = .int .i64 k ∧ ov = .string (bytesOf (O1 ++ cpxT (textL n) (c.take k))) ∧ k ≤ c.length ∧ Below w.heap.size w wk) (fun _ kv _ => c.length - (intOf kv).toNat)
        case atStart => exact ⟨0, rfl, by simp [cpxT], Nat.zero_le _, hb⟩
        case round =>
          obtain ⟨k, rfl, rfl, hkc, hbk⟩ := hrel
          obtain ⟨w2, rfl⟩ : ∃ w2, w2 = wr := ⟨_, rfl⟩
          have cI := HC0.out _ hbk
          have hsk : (bytesOf (O1 ++ cpxT (textL n) (c.take k))).size ≤ 1000000 := bytesOf_le (by
            have h1 : (cpxT (textL n) (c.take k)).length ≤ (cpxT (textL n) c).length := flatMap_take_le _ _ _
            have := HLE.out
            rw [← hO1.out] at this
            simp only [List.length_append] at this ⊢; omega)
          by_cases hkl : k < c.length
          · obtain ⟨st, hst⟩ : ∃ st, c[k]? = some st := ⟨_, List.getElem?_eq_getElem hkl⟩
            obtain ⟨hwt, hwz, hwp⟩ := hwc.out k st hst
            obtain ⟨g2, cap2, vs, hv, _, hvs, hcell⟩ : ∃ g cap vs, Value.slice ca c.length cc = .slice (some ⟨g, 0, none⟩) c.length cap ∧ c.length ≤ maxLen ∧ repT docL (fun _ => True) w (RepL docL (fun _ => True) w n) st vs ∧ ∀ j u, vs[j]? = some u → w.cell? ⟨g, k * 3 + j, none⟩ = some u := by
              obtain ⟨xs, own, row⟩ := HRC.out
              exact rep_at docStp_len own row rfl hst
            obtain ⟨rfl, rfl⟩ : ca = some ⟨g2, 0, none⟩ ∧ cc = cap2 := by simp only [Value.slice.injEq] at hv; exact ⟨hv.1, hv.2.2⟩
            obtain ⟨sv, pr, rfl, hpr, hrm⟩ := hvs
            obtain rfl : pr = [] := hpr
            obtain ⟨bb, nm, ms⟩ := st
            dsimp only at *
            obtain ⟨sa, sc, rfl⟩ : ∃ sa sc, sv = .slice sa ms.length sc := by obtain ⟨ys, own2, _⟩ := hrm; exact own_shapeP own2
            have hml : ms.length ≤ maxLen := by
              obtain ⟨xs, own, row⟩ := hrm
              rcases Nat.eq_zero_or_pos ms.length with h0 | h0
              · rw [h0]; exact Nat.zero_le _
              · obtain ⟨_, _, _, _, hm, _⟩ := rep_at docSim_len own row rfl (List.getElem?_eq_getElem h0); exact hm
            unfold maxLen at hml
            have hg2 : g2 < w.heap.size := by
              have h0 := hcell 0 _ rfl
              rcases Nat.lt_or_ge g2 w.heap.size with h | h
              · exact h
              · simp [World.cell?, Array.getElem?_eq_none h] at h0
            have hck : ∀ j u, ([] ++ [Value.int .u8 bb, .string nm, .slice sa ms.length sc])[j]? = some u → w2.cell? ⟨g2, k * 3 + j, none⟩ = some u := fun j u hu => by rw [hbk.cell (p := ⟨g2, k * 3 + j, none⟩) hg2]; exact hcell j u hu
            have d0 := hck 0 _ rfl; have d1 := hck 1 _ rfl; have d2 := hck 2 _ rfl
            rw [Nat.add_zero] at d0
            have HRM := hide hrm; have HWT := hide hwt
            have htk2 : Hid (cpxT (textL n) (c.take (k + 1)) = cpxT (textL n) (c.take k) ++ (byT bb ++ (nm.data.toList ++ simsT (textL n) ms))) := by rw [take_snocL hst, cpxT_app]; rfl
            have HLE2 : Hid (O1.length + ((cpxT (textL n) (c.take k)).length + ((byT bb).length + (nm.size + (simsT (textL n) ms).length))) ≤ 1000000) := by
              have h1 : (cpxT (textL n) (c.take (k + 1))).length ≤ (cpxT (textL n) c).length := flatMap_take_le _ _ _
              rw [htk2.out] at h1
              have := HLE.out
              rw [← hO1.out] at this
              simp only [List.length_append, sz_len, Hid] at h1 this ⊢
              omega
            have hsn : nm.size ≤ 1000000 := by have := HLE2.out; omega
            have rS := alloc_at w2 (.cells #[.int .u8 bb, .string nm, .slice sa ms.length sc] 102)
            have hbS : Below w.heap.size w (w2.alloc (.cells #[.int .u8 bb, .string nm, .slice sa ms.length sc] 102)) := hbk.alloc hbk.size _
            clear hv hcell hck hrm hwt hst
            by_cases hk0 : k = 0
            · have hbb := hwz hk0
              have b0 : (bb != 0) = false := by rw [hbb]; rfl
              have e : byT bb = [] := by rw [hbb]; rfl
              obtain ⟨O2, HO2⟩ : ∃ O2, Hid (O2 = O1 ++ cpxT (textL n) (c.take k) ++ byT bb ++ nm.data.toList) := ⟨_, hide rfl⟩
              have hO : Hid (bytesOf (O1 ++ cpxT (textL n) (c.take k)) ++ nm = bytesOf O2) := by rw [app_str, HO2.out, e, List.append_nil]; rfl
              have HLE3 : Hid (O2.length + (simsT (textL n) ms).length ≤ 1000000) := by
                have := HLE2.out; rw [HO2.out]; simp only [List.length_append, sz_len, Hid] at this ⊢; omega
              clear hwz hwp hk0 hbb e
              obtain ⟨z0, z1, z2⟩ := cell3 rS
              go_wp2
              have hb3 := hbS
              rw [hO.out]
              clear z0 z1 z2 d0 d1 d2 cI
              go_loopw [3, 7] (fun ov jv wj => ∃ j : Nat, jv = .int .i64 j ∧ ov = .string (bytesOf (O2 ++ simsT (textL n) (ms.take j))) ∧ j ≤ ms.length ∧ Below w.heap.size w wj ∧ wj.heap[w2.heap.size]? = some (.cells #[.int .u8 bb, .string nm, .slice sa ms.length sc] 102 (0, 0))) (fun _ jv _ => ms.length - (intOf jv).toNat)
              case atStart => exact ⟨0, rfl, by simp [simsT], Nat.zero_le _, hb3, rS⟩
              case round =>
                obtain ⟨j, rfl, rfl, hjm, hbj, rj⟩ := hrel
                clear hb3 rS
                have f2 := (cell3 rj).2.2
                have hsj : (bytesOf (O2 ++ simsT (textL n) (ms.take j))).size ≤ 1000000 := bytesOf_le (by
                  have h1 : (simsT (textL n) (ms.take j)).length ≤ (simsT (textL n) ms).length := flatMap_take_le _ _ _
                  have := HLE3.out
                  simp only [List.length_append] at this ⊢; omega)
                by_cases hjl : j < ms.length
                · obtain ⟨m, hm⟩ : ∃ m, ms[j]? = some m := ⟨_, List.getElem?_eq_getElem hjl⟩
                  have hwm := HWT.out m (List.mem_of_getElem? hm)
                  obtain ⟨g3, cap3, vs, hv, _, hvs, hcell⟩ : ∃ g cap vs, Value.slice sa ms.length sc = .slice (some ⟨g, 0, none⟩) ms.length cap ∧ ms.length ≤ maxLen ∧ repS docL (RepL docL (fun _ => True) w n) m vs ∧ ∀ j' u, vs[j']? = some u → w.cell? ⟨g, j * 9 + j', none⟩ = some u := by
                    obtain ⟨ys, own2, row2⟩ := HRM.out
                    exact rep_at docSim_len own2 row2 rfl hm
                  obtain ⟨rfl, rfl⟩ : sa = some ⟨g3, 0, none⟩ ∧ sc = cap3 := by simp only [Value.slice.injEq] at hv; exact ⟨hv.1, hv.2.2⟩
                  obtain ⟨kk, x, y, z, ll⟩ := m
                  obtain ⟨lv, rfl, hrl⟩ := hvs
                  obtain ⟨va, vc, rfl⟩ := repL_len hrl
                  have hg3 : g3 < w.heap.size := by
                    have h0 := hcell 0 _ rfl
                    rcases Nat.lt_or_ge g3 w.heap.size with h | h
                    · exact h
                    · simp [World.cell?, Array.getElem?_eq_none h] at h0
                  have hcj : ∀ j' u, (refCells kk x y z (.slice va ll.length vc))[j']? = some u → wr.cell? ⟨g3, j * 9 + j', none⟩ = some u := fun j' u hu => by rw [hbj.cell (p := ⟨g3, j * 9 + j', none⟩) hg3]; exact hcell j' u hu
                  have e0 := hcj 0 _ rfl; have e1 := hcj 1 _ rfl; have e2 := hcj 2 _ rfl; have e3 := hcj 3 _ rfl; have e4 := hcj 4 _ rfl
                  have e5 := hcj 5 _ rfl; have e6 := hcj 6 _ rfl; have e7 := hcj 7 _ rfl; have e8 := hcj 8 _ rfl
                  rw [Nat.add_zero] at e0
                  have hrl2 : RepL docL (fun _ => True) wr n (.slice va ll.length vc) ll := hrl.map (Fr.below hbj)
                  have htj : Hid (simsT (textL n) (ms.take (j + 1)) = simsT (textL n) (ms.take j) ++ simT (textL n) (.mk kk x y z ll)) := by rw [take_snocL hm, simsT_app]; rfl
                  have hst2 : (simT (textL n) (.mk kk x y z ll)).length ≤ 1000000 := by
                    have h1 : (simsT (textL n) (ms.take (j + 1))).length ≤ (simsT (textL n) ms).length := flatMap_take_le _ _ _
                    rw [htj.out] at h1
                    have := HLE3.out
                    simp only [List.length_append] at h1 this
                    omega
                  have hsz2 : (bytesOf (simT (textL n) (.mk kk x y z ll))).size ≤ 1000000 := bytesOf_le hst2
                  clear hv hcell hcj hrl hm
                  go_wp2_with fail
                  refine (rtext_any n x y z ll _ IH kk _ hrl2 hwm hst2).mono ?_
                  rintro e w5 ⟨rfl, hb5⟩
                  have hbJ : Below w.heap.size w w5 := hbj.trans (hb5.mono hbj.size)
                  have rJ := below_at hb5 rj (lt_of_block rj)
                  have HO : Hid (bytesOf (O2 ++ simsT (textL n) (ms.take j)) ++ bytesOf (simT (textL n) (.mk kk x y z ll)) = bytesOf (O2 ++ simsT (textL n) (ms.take (j + 1)))) := by rw [app_bytes, htj.out, List.append_assoc]; rfl
                  go_wp2
                  go_roundw
                  case rel => exact ⟨j + 1, by go_num, congrArg Value.string HO.out, by omega, hbJ, rJ⟩
                  case measure => simp [intOf]; omega
                · rw [List.take_of_length_le (l := ms) (i := j) (by omega)] at *
                  have HO : Hid (bytesOf (O2 ++ simsT (textL n) ms) = bytesOf (O1 ++ cpxT (textL n) (c.take (k + 1)))) := by rw [HO2.out, htk2.out]; simp [Hid]
                  go_wp2
                  go_roundw
                  case rel => exact ⟨k + 1, by go_num, congrArg Value.string HO.out, by omega, hbj⟩
                  case measure => simp [intOf]; omega
            · have hbb := hwp hk0
              have b0 : (bb != 0) = true := by simp; omega
              obtain ⟨e, ee⟩ := byT_bytes hbb
              have hcv := byte_text (UInt8.ofNat bb.toNat) (w2.alloc (.cells #[.int .u8 bb, .string nm, .slice sa ms.length sc] 102))
              rw [ee] at hcv
              simp only [World.size_alloc] at hcv
              have hs1 : (bytesOf (O1 ++ cpxT (textL n) (c.take k)) ++ ⟨#[UInt8.ofNat bb.toNat]⟩).size ≤ 1000000 := by
                rw [app_size, bytesOf_size]
                have e1 : (⟨#[UInt8.ofNat bb.toNat]⟩ : ByteArray).size = 1 := rfl
                have := HLE2.out
                rw [e] at this
                rw [e1]; simp only [List.length_append, List.length_cons, List.length_nil] at this ⊢; omega
              obtain ⟨O2, HO2⟩ : ∃ O2, Hid (O2 = O1 ++ cpxT (textL n) (c.take k) ++ byT bb ++ nm.data.toList) := ⟨_, hide rfl⟩
              have hO : Hid (bytesOf (O1 ++ cpxT (textL n) (c.take k)) ++ ⟨#[UInt8.ofNat bb.toNat]⟩ ++ nm = bytesOf O2) := by rw [app_str, app_str, HO2.out, e]; rfl
              have HLE3 : Hid (O2.length + (simsT (textL n) ms).length ≤ 1000000) := by
                have := HLE2.out; rw [HO2.out]; simp only [List.length_append, sz_len, Hid] at this ⊢; omega
              have rS' := alloc_old rS (.cells #[.int .u8 bb] 5)
              have hb3 := hbS.alloc (by simp; exact Nat.le_succ_of_le hbk.size) (.cells #[.int .u8 bb] 5)
              obtain ⟨z0, z1, z2⟩ := cell3 rS
              obtain ⟨z0', z1', z2'⟩ := cell3 rS'
              clear hwz hwp hk0 e ee
              go_wp2
              rw [hO.out]
              clear z0 z1 z2 z0' z1' z2' d0 d1 d2 cI hcv hs1 rS hbS
              have rS := rS'
              clear rS'
              go_loopw [3, 7] (fun ov jv wj => ∃ j : Nat, jv = .int .i64 j ∧ ov = .string (bytesOf (O2 ++ simsT (textL n) (ms.take j))) ∧ j ≤ ms.length ∧ Below w.heap.size w wj ∧ wj.heap[w2.heap.size]? = some (.cells #[.int .u8 bb, .string nm, .slice sa ms.length sc] 102 (0, 0))) (fun _ jv _ => ms.length - (intOf jv).toNat)
              case atStart => exact ⟨0, rfl, by simp [simsT], Nat.zero_le _, hb3, rS⟩
              case round =>
                obtain ⟨j, rfl, rfl, hjm, hbj, rj⟩ := hrel
                clear hb3 rS
                have f2 := (cell3 rj).2.2
                have hsj : (bytesOf (O2 ++ simsT (textL n) (ms.take j))).size ≤ 1000000 := bytesOf_le (by
                  have h1 : (simsT (textL n) (ms.take j)).length ≤ (simsT (textL n) ms).length := flatMap_take_le _ _ _
                  have := HLE3.out
                  simp only [List.length_append] at this ⊢; omega)
                by_cases hjl : j < ms.length
                · obtain ⟨m, hm⟩ : ∃ m, ms[j]? = some m := ⟨_, List.getElem?_eq_getElem hjl⟩
                  have hwm := HWT.out m (List.mem_of_getElem? hm)
                  obtain ⟨g3, cap3, vs, hv, _, hvs, hcell⟩ : ∃ g cap vs, Value.slice sa ms.length sc = .slice (some ⟨g, 0, none⟩) ms.length cap ∧ ms.length ≤ maxLen ∧ repS docL (RepL docL (fun _ => True) w n) m vs ∧ ∀ j' u, vs[j']? = some u → w.cell? ⟨g, j * 9 + j', none⟩ = some u := by
                    obtain ⟨ys, own2, row2⟩ := HRM.out
                    exact rep_at docSim_len own2 row2 rfl hm
                  obtain ⟨rfl, rfl⟩ : sa = some ⟨g3, 0, none⟩ ∧ sc = cap3 := by simp only [Value.slice.injEq] at hv; exact ⟨hv.1, hv.2.2⟩
                  obtain ⟨kk, x, y, z, ll⟩ := m
                  obtain ⟨lv, rfl, hrl⟩ := hvs
                  obtain ⟨va, vc, rfl⟩ := repL_len hrl
                  have hg3 : g3 < w.heap.size := by
                    have h0 := hcell 0 _ rfl
                    rcases Nat.lt_or_ge g3 w.heap.size with h | h
                    · exact h
                    · simp [World.cell?, Array.getElem?_eq_none h] at h0
                  have hcj : ∀ j' u, (refCells kk x y z (.slice va ll.length vc))[j']? = some u → wr.cell? ⟨g3, j * 9 + j', none⟩ = some u := fun j' u hu => by rw [hbj.cell (p := ⟨g3, j * 9 + j', none⟩) hg3]; exact hcell j' u hu
                  have e0 := hcj 0 _ rfl; have e1 := hcj 1 _ rfl; have e2 := hcj 2 _ rfl; have e3 := hcj 3 _ rfl; have e4 := hcj 4 _ rfl
                  have e5 := hcj 5 _ rfl; have e6 := hcj 6 _ rfl; have e7 := hcj 7 _ rfl; have e8 := hcj 8 _ rfl
                  rw [Nat.add_zero] at e0
                  have hrl2 : RepL docL (fun _ => True) wr n (.slice va ll.length vc) ll := hrl.map (Fr.below hbj)
                  have htj : Hid (simsT (textL n) (ms.take (j + 1)) = simsT (textL n) (ms.take j) ++ simT (textL n) (.mk kk x y z ll)) := by rw [take_snocL hm, simsT_app]; rfl
                  have hst2 : (simT (textL n) (.mk kk x y z ll)).length ≤ 1000000 := by
                    have h1 : (simsT (textL n) (ms.take (j + 1))).length ≤ (simsT (textL n) ms).length := flatMap_take_le _ _ _
                    rw [htj.out] at h1
                    have := HLE3.out
                    simp only [List.length_append] at h1 this
                    omega
                  have hsz2 : (bytesOf (simT (textL n) (.mk kk x y z ll))).size ≤ 1000000 := bytesOf_le hst2
                  clear hv hcell hcj hrl hm
                  go_wp2_with fail
                  refine (rtext_any n x y z ll _ IH kk _ hrl2 hwm hst2).mono ?_
                  rintro e w5 ⟨rfl, hb5⟩
                  have hbJ : Below w.heap.size w w5 := hbj.trans (hb5.mono hbj.size)
                  have rJ := below_at hb5 rj (lt_of_block rj)
                  have HO : Hid (bytesOf (O2 ++ simsT (textL n) (ms.take j)) ++ bytesOf (simT (textL n) (.mk kk x y z ll)) = bytesOf (O2 ++ simsT (textL n) (ms.take (j + 1)))) := by rw [app_bytes, htj.out, List.append_assoc]; rfl
                  go_wp2
                  go_roundw
                  case rel => exact ⟨j + 1, by go_num, congrArg Value.string HO.out, by omega, hbJ, rJ⟩
                  case measure => simp [intOf]; omega
                · rw [List.take_of_length_le (l := ms) (i := j) (by omega)] at *
                  have HO : Hid (bytesOf (O2 ++ simsT (textL n) ms) = bytesOf (O1 ++ cpxT (textL n) (c.take (k + 1)))) := by rw [HO2.out, htk2.out]; simp [Hid]
                  go_wp2
                  go_roundw
                  case rel => exact ⟨k + 1, by go_num, congrArg Value.string HO.out, by omega, hbj⟩
                  case measure => simp [intOf]; omega
          · have HO : Hid (bytesOf (O1 ++ cpxT (textL n) (c.take k)) = bytesOf (lstT (textL n) (l.take (i + 1)))) := by
              rw [List.take_of_length_le (l := c) (i := k) (by omega), htk.out, hO1.out, List.append_assoc]; rfl
            go_wp2
            go_roundw
            case rel => exact ⟨i + 1, by go_num, congrArg Value.string HO.out, by omega, hbk⟩
            case measure => simp [intOf]; omega
      · have bk : (0 : Int) < (i : Int) := by omega
        have hs1 : (bytesOf (lstT (textL n) (l.take i)) ++ ⟨#[44]⟩).size ≤ 1000000 := by
          rw [app_size, bytesOf_size]
          have e1 : (⟨#[44]⟩ : ByteArray).size = 1 := rfl
          have := HLE.out
          rw [if_neg hi0] at this
          rw [e1]; simp only [List.length_append, List.length_cons, List.length_nil] at this; omega
        have hO : Hid (bytesOf (lstT (textL n) (l.take i)) ++ ⟨#[44]⟩ = bytesOf O1) := by rw [hO1.out, if_neg hi0, app_str]; rfl
        clear hi0
        go_wp2
        rw [hO.out]
        go_loopw [3, 5] (fun ov kv wk => ∃ k : Nat, kv = .int .i64 k ∧ ov = .string (bytesOf (O1 ++ cpxT (textL n) (c.take k))) ∧ k ≤ c.length ∧ Below w.heap.size w wk) (fun _ kv _ => c.length - (intOf kv).toNat)
        case atStart => exact ⟨0, rfl, by simp [cpxT], Nat.zero_le _, hb⟩
        case round =>
          obtain ⟨k, rfl, rfl, hkc, hbk⟩ := hrel
          obtain ⟨w2, rfl⟩ : ∃ w2, w2 = wr := ⟨_, rfl⟩
          have cI := HC0.out _ hbk
          have hsk : (bytesOf (O1 ++ cpxT (textL n) (c.take k))).size ≤ 1000000 := bytesOf_le (by
            have h1 : (cpxT (textL n) (c.take k)).length ≤ (cpxT (textL n) c).length := flatMap_take_le _ _ _
            have := HLE.out
            rw [← hO1.out] at this
            simp only [List.length_append] at this ⊢; omega)
          by_cases hkl : k < c.length
          · obtain ⟨st, hst⟩ : ∃ st, c[k]? = some st := ⟨_, List.getElem?_eq_getElem hkl⟩
            obtain ⟨hwt, hwz, hwp⟩ := hwc.out k st hst
            obtain ⟨g2, cap2, vs, hv, _, hvs, hcell⟩ : ∃ g cap vs, Value.slice ca c.length cc = .slice (some ⟨g, 0, none⟩) c.length cap ∧ c.length ≤ maxLen ∧ repT docL (fun _ => True) w (RepL docL (fun _ => True) w n) st vs ∧ ∀ j u, vs[j]? = some u → w.cell? ⟨g, k * 3 + j, none⟩ = some u := by
              obtain ⟨xs, own, row⟩ := HRC.out
              exact rep_at docStp_len own row rfl hst
            obtain ⟨rfl, rfl⟩ : ca = some ⟨g2, 0, none⟩ ∧ cc = cap2 := by simp only [Value.slice.injEq] at hv; exact ⟨hv.1, hv.2.2⟩
            obtain ⟨sv, pr, rfl, hpr, hrm⟩ := hvs
            obtain rfl : pr = [] := hpr
            obtain ⟨bb, nm, ms⟩ := st
            dsimp only at *
            obtain ⟨sa, sc, rfl⟩ : ∃ sa sc, sv = .slice sa ms.length sc := by obtain ⟨ys, own2, _⟩ := hrm; exact own_shapeP own2
            have hml : ms.length ≤ maxLen := by
              obtain ⟨xs, own, row⟩ := hrm
              rcases Nat.eq_zero_or_pos ms.length with h0 | h0
              · rw [h0]; exact Nat.zero_le _
              · obtain ⟨_, _, _, _, hm, _⟩ := rep_at docSim_len own row rfl (List.getElem?_eq_getElem h0); exact hm
            unfold maxLen at hml
            have hg2 : g2 < w.heap.size := by
              have h0 := hcell 0 _ rfl
              rcases Nat.lt_or_ge g2 w.heap.size with h | h
              · exact h
              · simp [World.cell?, Array.getElem?_eq_none h] at h0
            have hck : ∀ j u, ([] ++ [Value.int .u8 bb, .string nm, .slice sa ms.length sc])[j]? = some u → w2.cell? ⟨g2, k * 3 + j, none⟩ = some u := fun j u hu => by rw [hbk.cell (p := ⟨g2, k * 3 + j, none⟩) hg2]; exact hcell j u hu
            have d0 := hck 0 _ rfl; have d1 := hck 1 _ rfl; have d2 := hck 2 _ rfl
            rw [Nat.add_zero] at d0
            have HRM := hide hrm; have HWT := hide hwt
            have htk2 : Hid (cpxT (textL n) (c.take (k + 1)) = cpxT (textL n) (c.take k) ++ (byT bb ++ (nm.data.toList ++ simsT (textL n) ms))) := by rw [take_snocL hst, cpxT_app]; rfl
            have HLE2 : Hid (O1.length + ((cpxT (textL n) (c.take k)).length + ((byT bb).length + (nm.size + (simsT (textL n) ms).length))) ≤ 1000000) := by
              have h1 : (cpxT (textL n) (c.take (k + 1))).length ≤ (cpxT (textL n) c).length := flatMap_take_le _ _ _
              rw [htk2.out] at h1
              have := HLE.out
              rw [← hO1.out] at this
              simp only [List.length_append, sz_len, Hid] at h1 this ⊢
              omega
            have hsn : nm.size ≤ 1000000 := by have := HLE2.out; omega
            have rS := alloc_at w2 (.cells #[.int .u8 bb, .string nm, .slice sa ms.length sc] 102)
            have hbS : Below w.heap.size w (w2.alloc (.cells #[.int .u8 bb, .string nm, .slice sa ms.length sc] 102)) := hbk.alloc hbk.size _
            clear hv hcell hck hrm hwt hst
            by_cases hk0 : k = 0
            · have hbb := hwz hk0
              have b0 : (bb != 0) = false := by rw [hbb]; rfl
              have e : byT bb = [] := by rw [hbb]; rfl
              obtain ⟨O2, HO2⟩ : ∃ O2, Hid (O2 = O1 ++ cpxT (textL n) (c.take k) ++ byT bb ++ nm.data.toList) := ⟨_, hide rfl⟩
              have hO : Hid (bytesOf (O1 ++ cpxT (textL n) (c.take k)) ++ nm = bytesOf O2) := by rw [app_str, HO2.out, e, List.append_nil]; rfl
              have HLE3 : Hid (O2.length + (simsT (textL n) ms).length ≤ 1000000) := by
                have := HLE2.out; rw [HO2.out]; simp only [List.length_append, sz_len, Hid] at this ⊢; omega
              clear hwz hwp hk0 hbb e
              obtain ⟨z0, z1, z2⟩ := cell3 rS
              go_wp2
              have hb3 := hbS
              rw [hO.out]
              clear z0 z1 z2 d0 d1 d2 cI
              go_loopw [3, 7] (fun ov jv wj => ∃ j : Nat, jv = .int .i64 j ∧ ov = .string (bytesOf (O2 ++ simsT (textL n) (ms.take j))) ∧ j ≤ ms.length ∧ Below w.heap.size w wj ∧ wj.heap[w2.heap.size]? = some (.cells #[.int .u8 bb, .string nm, .slice sa ms.length sc] 102 (0, 0))) (fun _ jv _ => ms.length - (intOf jv).toNat)
              case atStart => exact ⟨0, rfl, by simp [simsT], Nat.zero_le _, hb3, rS⟩
              case round =>
                obtain ⟨j, rfl, rfl, hjm, hbj, rj⟩ := hrel
                clear hb3 rS
                have f2 := (cell3 rj).2.2
                have hsj : (bytesOf (O2 ++ simsT (textL n) (ms.take j))).size ≤ 1000000 := bytesOf_le (by
                  have h1 : (simsT (textL n) (ms.take j)).length ≤ (simsT (textL n) ms).length := flatMap_take_le _ _ _
                  have := HLE3.out
                  simp only [List.length_append] at this ⊢; omega)
                by_cases hjl : j < ms.length
                · obtain ⟨m, hm⟩ : ∃ m, ms[j]? = some m := ⟨_, List.getElem?_eq_getElem hjl⟩
                  have hwm := HWT.out m (List.mem_of_getElem? hm)
                  obtain ⟨g3, cap3, vs, hv, _, hvs, hcell⟩ : ∃ g cap vs, Value.slice sa ms.length sc = .slice (some ⟨g, 0, none⟩) ms.length cap ∧ ms.length ≤ maxLen ∧ repS docL (RepL docL (fun _ => True) w n) m vs ∧ ∀ j' u, vs[j']? = some u → w.cell? ⟨g, j * 9 + j', none⟩ = some u := by
                    obtain ⟨ys, own2, row2⟩ := HRM.out
                    exact rep_at docSim_len own2 row2 rfl hm
                  obtain ⟨rfl, rfl⟩ : sa = some ⟨g3, 0, none⟩ ∧ sc = cap3 := by simp only [Value.slice.injEq] at hv; exact ⟨hv.1, hv.2.2⟩
                  obtain ⟨kk, x, y, z, ll⟩ := m
                  obtain ⟨lv, rfl, hrl⟩ := hvs
                  obtain ⟨va, vc, rfl⟩ := repL_len hrl
                  have hg3 : g3 < w.heap.size := by
                    have h0 := hcell 0 _ rfl
                    rcases Nat.lt_or_ge g3 w.heap.size with h | h
                    · exact h
                    · simp [World.cell?, Array.getElem?_eq_none h] at h0
                  have hcj : ∀ j' u, (refCells kk x y z (.slice va ll.length vc))[j']? = some u → wr.cell? ⟨g3, j * 9 + j', none⟩ = some u := fun j' u hu => by rw [hbj.cell (p := ⟨g3, j * 9 + j', none⟩) hg3]; exact hcell j' u hu
                  have e0 := hcj 0 _ rfl; have e1 := hcj 1 _ rfl; have e2 := hcj 2 _ rfl; have e3 := hcj 3 _ rfl; have e4 := hcj 4 _ rfl
                  have e5 := hcj 5 _ rfl; have e6 := hcj 6 _ rfl; have e7 := hcj 7 _ rfl; have e8 := hcj 8 _ rfl
                  rw [Nat.add_zero] at e0
                  have hrl2 : RepL docL (fun _ => True) wr n (.slice va ll.length vc) ll := hrl.map (Fr.below hbj)
                  have htj : Hid (simsT (textL n) (ms.take (j + 1)) = simsT (textL n) (ms.take j) ++ simT (textL n) (.mk kk x y z ll)) := by rw [take_snocL hm, simsT_app]; rfl
                  have hst2 : (simT (textL n) (.mk kk x y z ll)).length ≤ 1000000 := by
                    have h1 : (simsT (textL n) (ms.take (j + 1))).length ≤ (simsT (textL n) ms).length := flatMap_take_le _ _ _
                    rw [htj.out] at h1
                    have := HLE3.out
                    simp only [List.length_append] at h1 this
                    omega
                  have hsz2 : (bytesOf (simT (textL n) (.mk kk x y z ll))).size ≤ 1000000 := bytesOf_le hst2
                  clear hv hcell hcj hrl hm
                  go_wp2_with fail
                  refine (rtext_any n x y z ll _ IH kk _ hrl2 hwm hst2).mono ?_
                  rintro e w5 ⟨rfl, hb5⟩
                  have hbJ : Below w.heap.size w w5 := hbj.trans (hb5.mono hbj.size)
                  have rJ := below_at hb5 rj (lt_of_block rj)
                  have HO : Hid (bytesOf (O2 ++ simsT (textL n) (ms.take j)) ++ bytesOf (simT (textL n) (.mk kk x y z ll)) = bytesOf (O2 ++ simsT (textL n) (ms.take (j + 1)))) := by rw [app_bytes, htj.out, List.append_assoc]; rfl
                  go_wp2
                  go_roundw
                  case rel => exact ⟨j + 1, by go_num, congrArg Value.string HO.out, by omega, hbJ, rJ⟩
                  case measure => simp [intOf]; omega
                · rw [List.take_of_length_le (l := ms) (i := j) (by omega)] at *
                  have HO : Hid (bytesOf (O2 ++ simsT (textL n) ms) = bytesOf (O1 ++ cpxT (textL n) (c.take (k + 1)))) := by rw [HO2.out, htk2.out]; simp [Hid]
                  go_wp2
                  go_roundw
                  case rel => exact ⟨k + 1, by go_num, congrArg Value.string HO.out, by omega, hbj⟩
                  case measure => simp [intOf]; omega
            · have hbb := hwp hk0
              have b0 : (bb != 0) = true := by simp; omega
              obtain ⟨e, ee⟩ := byT_bytes hbb
              have hcv := byte_text (UInt8.ofNat bb.toNat) (w2.alloc (.cells #[.int .u8 bb, .string nm, .slice sa ms.length sc] 102))
              rw [ee] at hcv
              simp only [World.size_alloc] at hcv
              have hs1 : (bytesOf (O1 ++ cpxT (textL n) (c.take k)) ++ ⟨#[UInt8.ofNat bb.toNat]⟩).size ≤ 1000000 := by
                rw [app_size, bytesOf_size]
                have e1 : (⟨#[UInt8.ofNat bb.toNat]⟩ : ByteArray).size = 1 := rfl
                have := HLE2.out
                rw [e] at this
                rw [e1]; simp only [List.length_append, List.length_cons, List.length_nil] at this ⊢; omega
              obtain ⟨O2, HO2⟩ : ∃ O2, Hid (O2 = O1 ++ cpxT (textL n) (c.take k) ++ byT bb ++ nm.data.toList) := ⟨_, hide rfl⟩
              have hO : Hid (bytesOf (O1 ++ cpxT (textL n) (c.take k)) ++ ⟨#[UInt8.ofNat bb.toNat]⟩ ++ nm = bytesOf O2) := by rw [app_str, app_str, HO2.out, e]; rfl
              have HLE3 : Hid (O2.length + (simsT (textL n) ms).length ≤ 1000000) := by
                have := HLE2.out; rw [HO2.out]; simp only [List.length_append, sz_len, Hid] at this ⊢; omega
              have rS' := alloc_old rS (.cells #[.int .u8 bb] 5)
              have hb3 := hbS.alloc (by simp; exact Nat.le_succ_of_le hbk.size) (.cells #[.int .u8 bb] 5)
              obtain ⟨z0, z1, z2⟩ := cell3 rS
              obtain ⟨z0', z1', z2'⟩ := cell3 rS'
              clear hwz hwp hk0 e ee
              go_wp2
              rw [hO.out]
              clear z0 z1 z2 z0' z1' z2' d0 d1 d2 cI hcv hs1 rS hbS
              have rS := rS'
              clear rS'
              go_loopw [3, 7] (fun ov jv wj => ∃ j : Nat, jv = .int .i64 j ∧ ov = .string (bytesOf (O2 ++ simsT (textL n) (ms.take j))) ∧ j ≤ ms.length ∧ Below w.heap.size w wj ∧ wj.heap[w2.heap.size]? = some (.cells #[.int .u8 bb, .string nm, .slice sa ms.length sc] 102 (0, 0))) (fun _ jv _ => ms.length - (intOf jv).toNat)
              case atStart => exact ⟨0, rfl, by simp [simsT], Nat.zero_le _, hb3, rS⟩
              case round =>
                obtain ⟨j, rfl, rfl, hjm, hbj, rj⟩ := hrel
                clear hb3 rS
                have f2 := (cell3 rj).2.2
                have hsj : (bytesOf (O2 ++ simsT (textL n) (ms.take j))).size ≤ 1000000 := bytesOf_le (by
                  have h1 : (simsT (textL n) (ms.take j)).length ≤ (simsT (textL n) ms).length := flatMap_take_le _ _ _
                  have := HLE3.out
                  simp only [List.length_append] at this ⊢; omega)
                by_cases hjl : j < ms.length
                · obtain ⟨m, hm⟩ : ∃ m, ms[j]? = some m := ⟨_, List.getElem?_eq_getElem hjl⟩
                  have hwm := HWT.out m (List.mem_of_getElem? hm)
                  obtain ⟨g3, cap3, vs, hv, _, hvs, hcell⟩ : ∃ g cap vs, Value.slice sa ms.length sc = .slice (some ⟨g, 0, none⟩) ms.length cap ∧ ms.length ≤ maxLen ∧ repS docL (RepL docL (fun _ => True) w n) m vs ∧ ∀ j' u, vs[j']? = some u → w.cell? ⟨g, j * 9 + j', none⟩ = some u := by
                    obtain ⟨ys, own2, row2⟩ := HRM.out
                    exact rep_at docSim_len own2 row2 rfl hm
                  obtain ⟨rfl, rfl⟩ : sa = some ⟨g3, 0, none⟩ ∧ sc = cap3 := by simp only [Value.slice.injEq] at hv; exact ⟨hv.1, hv.2.2⟩
                  obtain ⟨kk, x, y, z, ll⟩ := m
                  obtain ⟨lv, rfl, hrl⟩ := hvs
                  obtain ⟨va, vc, rfl⟩ := repL_len hrl
                  have hg3 : g3 < w.heap.size := by
                    have h0 := hcell 0 _ rfl
                    rcases Nat.lt_or_ge g3 w.heap.size with h | h
                    · exact h
                    · simp [World.cell?, Array.getElem?_eq_none h] at h0
                  have hcj : ∀ j' u, (refCells kk x y z (.slice va ll.length vc))[j']? = some u → wr.cell? ⟨g3, j * 9 + j', none⟩ = some u := fun j' u hu => by rw [hbj.cell (p := ⟨g3, j * 9 + j', none⟩) hg3]; exact hcell j' u hu
                  have e0 := hcj 0 _ rfl; have e1 := hcj 1 _ rfl; have e2 := hcj 2 _ rfl; have e3 := hcj 3 _ rfl; have e4 := hcj 4 _ rfl
                  have e5 := hcj 5 _ rfl; have e6 := hcj 6 _ rfl; have e7 := hcj 7 _ rfl; have e8 := hcj 8 _ rfl
                  rw [Nat.add_zero] at e0
                  have hrl2 : RepL docL (fun _ => True) wr n (.slice va ll.length vc) ll := hrl.map (Fr.below hbj)
                  have htj : Hid (simsT (textL n) (ms.take (j + 1)) = simsT (textL n) (ms.take j) ++ simT (textL n) (.mk kk x y z ll)) := by rw [take_snocL hm, simsT_app]; rfl
                  have hst2 : (simT (textL n) (.mk kk x y z ll)).length ≤ 1000000 := by
                    have h1 : (simsT (textL n) (ms.take (j + 1))).length ≤ (simsT (textL n) ms).length := flatMap_take_le _ _ _
                    rw [htj.out] at h1
                    have := HLE3.out
                    simp only [List.length_append] at h1 this
                    omega
                  have hsz2 : (bytesOf (simT (textL n) (.mk kk x y z ll))).size ≤ 1000000 := bytesOf_le hst2
                  clear hv hcell hcj hrl hm
                  go_wp2_with fail
                  refine (rtext_any n x y z ll _ IH kk _ hrl2 hwm hst2).mono ?_
                  rintro e w5 ⟨rfl, hb5⟩
                  have hbJ : Below w.heap.size w w5 := hbj.trans (hb5.mono hbj.size)
                  have rJ := below_at hb5 rj (lt_of_block rj)
                  have HO : Hid (bytesOf (O2 ++ simsT (textL n) (ms.take j)) ++ bytesOf (simT (textL n) (.mk kk x y z ll)) = bytesOf (O2 ++ simsT (textL n) (ms.take (j + 1)))) := by rw [app_bytes, htj.out, List.append_assoc]; rfl
                  go_wp2
                  go_roundw
                  case rel => exact ⟨j + 1, by go_num, congrArg Value.string HO.out, by omega, hbJ, rJ⟩
                  case measure => simp [intOf]; omega
                · rw [List.take_of_length_le (l := ms) (i := j) (by omega)] at *
                  have HO : Hid (bytesOf (O2 ++ simsT (textL n) ms) = bytesOf (O1 ++ cpxT (textL n) (c.take (k + 1)))) := by rw [HO2.out, htk2.out]; simp [Hid]
                  go_wp2
                  go_roundw
                  case rel => exact ⟨k + 1, by go_num, congrArg Value.string HO.out, by omega, hbj⟩
                  case measure => simp [intOf]; omega
          · have HO : Hid (bytesOf (O1 ++ cpxT (textL n) (c.take k)) = bytesOf (lstT (textL n) (l.take (i + 1)))) := by
              rw [List.take_of_length_le (l := c) (i := k) (by omega), htk.out, hO1.out, List.append_assoc]; rfl
            go_wp2
            go_roundw
            case rel => exact ⟨i + 1, by go_num, congrArg Value.string HO.out, by omega, hbk⟩
            case measure => simp [intOf]; omega
    · go_wp2
      go_ret
      rw [List.take_of_length_le (by omega)]
      exact ⟨rfl, hb⟩
set_option maxRecDepth 100000 in
set_option maxHeartbeats 2000000 in
theorem rwrite_zero : RWriteOk 0 := by
  intro lv l w hr hwf hs
  obtain ⟨rfl, rfl⟩ := hr
  go_enter Tryz.func19, Tryz.ntmps19
  go_wp2
  go_loopw [3, 4] (fun ov iv wr => ov = .string ⟨#[]⟩ ∧ iv = .int .i64 0 ∧ wr = w) (fun _ _ _ => 0)
  case atStart => exact ⟨rfl, rfl, rfl⟩
  case round =>
    obtain ⟨rfl, rfl, rfl⟩ := hrel
    go_wp2
    go_ret
    exact ⟨rfl, Below.refl _ _⟩
theorem rwrite_ok : ∀ n, RWriteOk n
  | 0 => rwrite_zero
  | n + 1 => rwrite_succ n (rwrite_ok n)
end Go.Proofs.YtclpcnignheijaaGreatDoor
