import Derived.Test.YtclpcnignheijaaGreatDoorE4
namespace Go.Proofs.YtclpcnignheijaaGreatDoor
open Go.RowKit

def attrW (a : ByteArray × ByteArray) : List UInt8 := [32] ++ a.1.data.toList ++ [61, 34] ++ escL vsp a.2.data.toList ++ [34]
def attrsW (l : List (ByteArray × ByteArray)) : List UInt8 := l.flatMap attrW
def beginL (x : El) : List UInt8 := [60] ++ x.name.data.toList ++ attrsW x.attrs ++ [62]
theorem attrsW_snoc (l : List (ByteArray × ByteArray)) (a : ByteArray × ByteArray) : attrsW (l ++ [a]) = attrsW l ++ attrW a := by simp [attrsW]
set_option maxRecDepth 100000 in
set_option maxHeartbeats 4000000 in
theorem wbegin_any (B wb db : Nat) (x : El) (av : Value) (out : List UInt8) (pl : Nat) (op : Int) (w : World) (h : Wr w B wb db out pl op) (hB : B ≤ wb) (hg : Gl w) (hB0 : 1 < B) (ho : w.ownsRow B 169 2 av x.attrs.length (attrCells x.attrs)) (hn : x.name.size ≤ 16) (hl : x.attrs.length ≤ 5000)
    (ha : ∀ a ∈ x.attrs, a.1.size ≤ 16 ∧ a.2.size ≤ 100000) (hs : out.length + (beginL x).length ≤ 1000000) :
    Calls Tryz.prog 76 #[.pointer (some ⟨wb, 0, none⟩), .agg #[.string x.name, .int .i64 x.parent, av, .int .i64 x.lo, .int .i64 x.hi]] w fun e w' => e = .returned (.tuple #[]) ∧ Wr w' B wb db (out ++ beginL x) pl op ∧ Kp B TW w w' := by
  obtain ⟨ao, cp, hav⟩ := owns_shape ho
  subst hav
  have hlen : (beginL x).length = 1 + x.name.size + (attrsW x.attrs).length + 1 := by
    unfold beginL
    have : x.name.data.toList.length = x.name.size := by simp
    simp only [List.length_append, this, List.length_singleton]
  have hstr : (({ data := #[60] } : ByteArray) ++ x.name).data.toList = [60] ++ x.name.data.toList := by simp [ByteArray.data_append]
  have hss : (({ data := #[60] } : ByteArray) ++ x.name).size = 1 + x.name.size := by rw [Lib.size_eq, hstr, List.length_append]; simp
  have HStr := hide hstr; have HSS := hide hss
  clear hstr hss
  have hK0 : ∀ (w1 : World), Kp B TW (w.alloc (.cells #[.string x.name, .int .i64 x.parent, .slice ao x.attrs.length cp, .int .i64 x.lo, .int .i64 x.hi] 139)) w1 → Kp B TW w w1 := fun w1 k => ((Kp.refl B TW w).alloc _).trans k
  rcases ho.2 with ⟨hnil, h0⟩ | ⟨ga, capa, cur, hrow, hBa, hga, _⟩
  · have hat : x.attrs = [] := List.eq_nil_of_length_eq_zero h0
    have hao : ao = none ∧ cp = 0 := by simp only [Value.slice.injEq] at hnil; exact ⟨hnil.1, hnil.2.2⟩
    obtain ⟨rfl, rfl⟩ := hao
    have HB : Hid (beginL x = [60] ++ x.name.data.toList ++ [62]) := by unfold beginL attrsW; rw [hat]; simp [Hid]
    have hl0 : (x.attrs.length : Int) = 0 := by omega
    clear hnil h0 hat
    go_enter Tryz.func76, Tryz.ntmps76
    go_wp2
    go_region_with (go_at_call 112; refine (sbWrite_any B wb db out pl op _ _ ?_ hB ?_).mono ?_; (exact h.kept ((Kp.refl 0 [] w).alloc _).drew (by simp) (by simp)); (rw [HSS.out]; omega); rintro e w1 ⟨rfl, hw1, hk1'⟩; have hk1 := hk1'.fromDrew; have bx1 := hk1.at (k := w.heap.size) (t := 139) (alloc_at w _) (by decide))
    all_goals
      obtain ⟨z0, z1, z2, z3, z4⟩ := cell5 bx1
      go_wp2
      have hw62 : (out ++ (({ data := #[60] } : ByteArray) ++ x.name).data.toList).length + (⟨#[62]⟩ : ByteArray).size ≤ 1000000 := by
        have e1 : x.name.data.toList.length = x.name.size := by simp
        have e2 : (⟨#[62]⟩ : ByteArray).size = 1 := rfl
        rw [List.length_append, HStr.out, List.length_append, e1, e2, List.length_singleton]; omega
      refine wp_loop_rounds 1 ?_
      rw [rounds_succ]
      go_wp2_with fail
      refine (sbWrite_any B wb db _ pl op ⟨#[62]⟩ _ hw1 hB hw62).mono ?_
      rintro e w2 ⟨rfl, hw2, hk2⟩
      go_wp2
      go_end0
      refine ⟨rfl, ?_, (hK0 _ hk1).trans hk2⟩
      rw [HB.out]
      rw [HStr.out] at hw2
      simpa [List.append_assoc] using hw2
  · have hao : ao = some ⟨ga, 0, none⟩ ∧ cp = capa := by simp only [Value.slice.injEq] at hrow; exact ⟨hrow.1, hrow.2.2⟩
    obtain ⟨rfl, rfl⟩ := hao
    have hgas := lt_of_block hga
    have HO := hide ho
    clear hrow hga ho
    go_enter Tryz.func76, Tryz.ntmps76
    go_wp2
    go_region_with (go_at_call 112; refine (sbWrite_any B wb db out pl op _ _ ?_ hB ?_).mono ?_; (exact h.kept ((Kp.refl 0 [] w).alloc _).drew (by simp) (by simp)); (rw [HSS.out]; omega); rintro e w1 ⟨rfl, hw1, hk1'⟩; have hk1 := hk1'.fromDrew; have bx1 := hk1.at (k := w.heap.size) (t := 139) (alloc_at w _) (by decide))
    all_goals
      obtain ⟨z0, z1, z2, z3, z4⟩ := cell5 bx1
      rw [HStr.out] at hw1
      have K1 := hK0 _ hk1
      go_wp2
      go_loopw [16] (fun i wr => ∃ k : Nat, i = .int .i64 k ∧ k ≤ x.attrs.length ∧ Wr wr B wb db (out ++ ([60] ++ x.name.data.toList) ++ attrsW (x.attrs.take k)) pl op ∧ Kp B TW w wr) (fun i _ => x.attrs.length - (intOf i).toNat)
      case atStart => exact ⟨0, rfl, Nat.zero_le _, by simpa [attrsW] using hw1, K1⟩
      case round =>
        clear hw1 hk1 hk1' bx1 z0 z1 z2 z3 z4 K1 hK0
        obtain ⟨k, rfl, hkl, hwr, hk⟩ := hrel
        have hpre : ∀ j, j ≤ x.attrs.length → (attrsW (x.attrs.take j)).length ≤ (attrsW x.attrs).length := fun j _ => by
          have : attrsW x.attrs = attrsW (x.attrs.take j) ++ attrsW (x.attrs.drop j) := by simp only [attrsW, ← List.flatMap_append, List.take_append_drop]
          rw [this, List.length_append]; omega
        have hnl : x.name.data.toList.length = x.name.size := by simp
        by_cases hlt : k < x.attrs.length
        · obtain ⟨y, hy⟩ : ∃ y, x.attrs[k]? = some y := ⟨x.attrs[k], List.getElem?_eq_getElem hlt⟩
          have hmem : y ∈ x.attrs := List.mem_of_getElem? hy
          obtain ⟨hy1, hy2⟩ := ha y hmem
          obtain ⟨q1, q2⟩ := attrCells_at x.attrs k y hy
          have r1 : wr.cell? ⟨ga, k * 2, none⟩ = some (.string y.1) := by rw [(hk.owns HO.out (by decide)).cellAt _ (by omega), q1]
          have r2 : wr.cell? ⟨ga, k * 2 + 1, none⟩ = some (.string y.2) := by rw [(hk.owns HO.out (by decide)).cellAt _ (by omega), q2]
          have htk : x.attrs.take (k + 1) = x.attrs.take k ++ [y] := by
            rw [List.take_succ_eq_append_getElem hlt]
            rw [List.getElem?_eq_getElem hlt] at hy
            rw [Option.some.inj hy]
          have hln := hpre (k + 1) hlt
          rw [htk, attrsW_snoc, List.length_append] at hln
          have hy1l : y.1.data.toList.length = y.1.size := by simp
          have hy2l : y.2.data.toList.length = y.2.size := by simp
          have haw : (attrW y).length = 1 + y.1.size + 2 + (escL vsp y.2.data.toList).length + 1 := by
            unfold attrW; simp only [List.length_append, hy1l, List.length_cons, List.length_nil]
          have hstr2 : (({ data := #[32] } : ByteArray) ++ y.1 ++ { data := #[61, 34] }).data.toList = [32] ++ y.1.data.toList ++ [61, 34] := by simp [ByteArray.data_append]
          have hss2 : (({ data := #[32] } : ByteArray) ++ y.1 ++ { data := #[61, 34] }).size = 1 + y.1.size + 2 := by rw [Lib.size_eq, hstr2]; simp only [List.length_append, hy1l, List.length_cons, List.length_nil]
          have HStr2 := hide hstr2; have HSS2 := hide hss2; have HTK := hide htk
          have hwl : (out ++ ([60] ++ x.name.data.toList) ++ attrsW (x.attrs.take k)).length = out.length + (1 + x.name.size) + (attrsW (x.attrs.take k)).length := by simp only [List.length_append, hnl, List.length_singleton]
          have HWL := hide hwl
          clear hstr2 hss2 htk q1 q2 hy hwl hmem hpre hnl hy1l
          go_wp2
          go_region_with (go_at_call 112; refine (sbWrite_any B wb db (out ++ ([60] ++ x.name.data.toList) ++ attrsW (x.attrs.take k)) pl op _ _ ?_ hB ?_).mono ?_; (exact hwr.kept ((Kp.refl 0 [] wr).alloc _).drew (by simp) (by simp)); (rw [HSS2.out, HWL.out]; omega); rintro e w2 ⟨rfl, hw2, hk2'⟩; have hk2 := hk2'.fromDrew; have bx2 := hk2.at (k := wr.heap.size) (t := 169) (alloc_at wr _) (by decide))
          all_goals
            have m0 := cell2_0 bx2; have m1 := cell2_1 bx2
            rw [HStr2.out] at hw2
            have hwl2 : (out ++ ([60] ++ x.name.data.toList) ++ attrsW (x.attrs.take k) ++ ([32] ++ y.1.data.toList ++ [61, 34])).length = out.length + (1 + x.name.size) + (attrsW (x.attrs.take k)).length + (1 + y.1.size + 2) := by
              have e3 : y.1.data.toList.length = y.1.size := by simp
              rw [List.length_append, HWL.out]
              simp only [List.length_append, e3, List.length_cons, List.length_nil]
            have hg2 := ((hg.kept hk hB0).alloc (.cells #[.string y.1, .string y.2] 169)).kept hk2 hB0
            go_wp2_with fail
            refine (escaped_any B wb db _ pl op y.2 ⟨#[38, 60, 34]⟩ _ hw2 hB hg2 hB0 rfl (by omega) ?_).mono ?_
            · rw [hwl2]; show _ + (escL vsp y.2.data.toList).length ≤ _; omega
            rintro e w3 ⟨rfl, hw3, hk3⟩
            have hwl3 : (out ++ ([60] ++ x.name.data.toList) ++ attrsW (x.attrs.take k) ++ ([32] ++ y.1.data.toList ++ [61, 34]) ++ escL vsp y.2.data.toList).length + (⟨#[34]⟩ : ByteArray).size ≤ 1000000 := by
              have e4 : (⟨#[34]⟩ : ByteArray).size = 1 := rfl
              rw [List.length_append, hwl2, e4]; omega
            go_wp2_with fail
            refine (sbWrite_any B wb db _ pl op ⟨#[34]⟩ _ hw3 hB hwl3).mono ?_
            rintro e w4 ⟨rfl, hw4, hk4⟩
            go_wp2
            go_roundw
            case rel =>
              refine ⟨k + 1, by go_num, by omega, ?_, (((hk.alloc _).trans hk2).trans hk3).trans hk4⟩
              rw [HTK.out, attrsW_snoc]
              have e5 : attrW y = ([32] ++ y.1.data.toList ++ [61, 34]) ++ escL vsp y.2.data.toList ++ [34] := by unfold attrW; simp [List.append_assoc]
              rw [e5]
              simpa [List.append_assoc, vsp] using hw4
            case measure => simp [intOf]; omega
        · have hd : x.attrs.take k = x.attrs := List.take_of_length_le (by omega)
          rw [hd] at hwr
          have hwl4 : (out ++ ([60] ++ x.name.data.toList) ++ attrsW x.attrs).length + (⟨#[62]⟩ : ByteArray).size ≤ 1000000 := by
            have e4 : (⟨#[62]⟩ : ByteArray).size = 1 := rfl
            rw [e4]
            simp only [List.length_append, hnl, List.length_singleton]
            omega
          clear hd
          go_wp2_with fail
          refine (sbWrite_any B wb db _ pl op ⟨#[62]⟩ _ hwr hB hwl4).mono ?_
          rintro e w4 ⟨rfl, hw4, hk4⟩
          go_wp2
          go_end0
          refine ⟨rfl, ?_, hk.trans hk4⟩
          unfold beginL
          simpa [List.append_assoc] using hw4
end Go.Proofs.YtclpcnignheijaaGreatDoor
