import Derived.Test.YtclpcnignheijaaGreatDoorB2
namespace Go.Proofs.YtclpcnignheijaaGreatDoor
open Go.RowKit

theorem Kp.grownNew {B : Nat} {T : List TypeId} {a w w' : World} {row : Option Nat} (h : Kp B T a w) (hg : w.grownBy w' row) (hr : ∀ k, row = some k → a.heap.size ≤ k) : Kp B T a w' := by
  refine ⟨hg.os.trans h.os, hg.tape.trans h.tape, hg.output.trans h.output, Nat.le_trans h.size hg.size, fun k hk hc => ?_⟩
  rw [hg.block k (Nat.lt_of_lt_of_le hk h.size) (fun e => by have := hr k e.symm; omega)]
  exact h.block k hk hc

theorem kept_grown {w w' : World} {base : Nat} {e : TypeId} {size : Nat} {v : Value} {n : Nat} {xs : List Value} (ho : w.ownsRow base e size v n xs) (hg : w.grownBy w' v.ownBlock) {c : Array Value} {ty : TypeId} {fr : Nat × Nat} {k : Nat} (hb : w.heap[k]? = some (.cells c ty fr)) (hty : ty ≠ e) : w'.heap[k]? = some (.cells c ty fr) := by
  rw [hg.block k (lt_of_block hb) (fun h => ?_)]
  · exact hb
  · rcases ho.2 with ⟨hv, _⟩ | ⟨g, cap, cur, hv, _, hh, _⟩
    · rw [hv] at h; simp [Value.ownBlock] at h
    · rw [hv] at h
      simp only [Value.ownBlock, Option.some.injEq] at h
      subst h
      rw [hb] at hh
      simp only [Option.some.injEq, Obj.cells.injEq] at hh
      exact hty hh.2.1

def u8s (l : List UInt8) : List Value := l.map fun b => .int .u8 (b.toNat : Int)
theorem u8s_len (l : List UInt8) : (u8s l).length = l.length := by simp [u8s]
theorem u8s_snoc (l : List UInt8) (b : UInt8) : u8s (l ++ [b]) = u8s l ++ [.int .u8 (b.toNat : Int)] := by simp [u8s]
theorem Tryz.infoU8 : (Tryz.prog.info? 5).map (fun i => (i.zero, i.size, i.bytes)) = some (some (.int .u8 0), 1, 1) := by kernel_rfl
theorem byte_back {c : Int} (h0 : 0 ≤ c) (h1 : c < 256) : (c.toNat.toUInt8.toNat : Int) = c := by
  rw [Nat.toUInt8, UInt8.toNat_ofNat']; omega

theorem conv_own {wx : World} {base : Nat} {v : Value} {l : List UInt8} (ho : wx.ownsRow base 5 1 v l.length (u8s l)) : (convert 50 9 v).run Tryz.prog wx = .ok (.string ⟨l.toArray⟩) wx := by
  rcases ho.2 with ⟨hv, h0⟩ | ⟨g, cap, cur, hv, _⟩
  · have : l = [] := List.eq_nil_of_length_eq_zero h0
    subst this; subst hv
    rw [run_convert_bytes_string wx 50 9 5 none 0 0 Tryz.underlying50 Tryz.underlying5 Tryz.underlying9]
    rfl
  · subst hv
    refine run_convert_bytes_back wx 50 9 5 ⟨g, 0, none⟩ cap l Tryz.underlying50 Tryz.underlying5 Tryz.underlying9 fun j hj => ?_
    rw [addr_add, Nat.zero_add, ho.cellAt j (by omega)]
    simp [u8s, hj]

def contP (s : ByteArray) (ends : List UInt8) : Nat → Nat → List UInt8 → Nat × Option (List UInt8)
  | 0, p, _ => (p, none)
  | f + 1, p, acc =>
    if peekI s p = 0 ∨ inB ends (peekI s p) = true then (p, some acc)
    else if peekI s p = 38 then
      match (refP s (p + 1)).2 with
      | some m => contP s ends f (refP s (p + 1)).1 (acc ++ [m.toNat.toUInt8])
      | none => ((refP s (p + 1)).1, none)
    else contP s ends f (p + 1) (acc ++ [(peekI s p).toNat.toUInt8])
def contentP (s : ByteArray) (ends : List UInt8) (p : Nat) : Nat × Option (List UInt8) := contP s ends (s.size + 1) p []

set_option maxRecDepth 100000 in
set_option maxHeartbeats 2000000 in
theorem content_any (B rb bb : Nat) (s t : ByteArray) (p : Nat) (w : World) (h : Rd w rb s p) (hB : B ≤ rb) (hg : Gl w) (hB0 : 1 < B) :
    Calls Tryz.prog 185 #[.agg #[.pointer (some ⟨rb, 0, none⟩), .pointer (some ⟨bb, 0, none⟩)], .string t] w fun e w' => ∃ (m : ByteArray) (v : Value), e = .returned (.tuple #[.string m, v]) ∧
      Rd w' rb s (contentP s t.data.toList p).1 ∧ Kp B [210] w w' ∧ ((some m.data.toList = (contentP s t.data.toList p).2 ∧ v = .nilIface) ∨ ((contentP s t.data.toList p).2 = none ∧ Chain w' 2 (contentP s t.data.toList p).1 1 v)) := by
  have h5 := h.max; have h4 := h.le
  obtain ⟨i0, hi, hz0, hz1, hz2⟩ := info_parts Tryz.infoU8
  go_enter Tryz.func185, Tryz.ntmps185
  go_wp2
  go_loopw [6] (fun v wr => ∃ (q f : Nat) (acc : List UInt8), Rd wr rb s q ∧ p ≤ q ∧ s.size < q + f ∧ acc.length ≤ q ∧ wr.ownsRow w.heap.size 5 1 v acc.length (u8s acc) ∧ wr.heap[w.heap.size]? = some (.cells #[.pointer (some ⟨rb, 0, none⟩), .pointer (some ⟨bb, 0, none⟩)] 163 (0, 0)) ∧ Hid (contP s t.data.toList f q acc = contentP s t.data.toList p) ∧ Kp B [210] w wr) (fun _ wr => s.size - placeOf wr rb)
  case atStart => exact ⟨p, s.size + 1, [], h.alloc _, Nat.le_refl _, by omega, Nat.zero_le _, World.ownsRow_nil _ _ _ _, alloc_at _ _, rfl, (Kp.refl _ _ _).alloc _⟩
  case round =>
    obtain ⟨q, f, acc, hr, hpq, hf, hacc, hown, hbx, HQ, hk⟩ := hrel
    have b0 := cell2_0 hbx
    have hgr := hg.kept hk hB0
    have g4 := hr.le
    obtain ⟨f, rfl⟩ : ∃ f', f = f' + 1 := ⟨f - 1, by omega⟩
    have hbd := peekI_bd s q
    by_cases hz : peekI s q = 0
    · have HE : Hid (contentP s t.data.toList p = (q, some acc)) := by rw [← HQ.out, contP, if_pos (.inl hz)]; rfl
      have hz' : (peekI s q == 0) = true := by simp [hz]
      have hcv : ∀ n, (convert 50 9 u6).run Tryz.prog (wr.drewN n) = .ok (.string ⟨acc.toArray⟩) (wr.drewN n) := fun n => conv_own hown
      clear hz hbx hown hgr hg
      go_wp2_with (go_at_call 144; refine (peek_any rb s q _ hr).mono ?_; rintro e w' ⟨rfl, nq, rfl⟩)
      go_ret2
      rw [HE.out]
      exact ⟨_, _, rfl, hr.drewN _, hk.drewN _, .inl ⟨by simp, rfl⟩⟩
    · have hz' : (peekI s q == 0) = false := by simp [hz]
      cases hin : inB t.data.toList (peekI s q)
      · have HIn := hide hin
        have hlt := peekI_lt hz
        have hsk : skipP s q = q + 1 := by unfold skipP; rw [if_neg hz]
        by_cases hm : peekI s q = 38
        · have hm' : (peekI s q == 38) = true := by simp [hm]
          cases hrf : (refP s (q + 1)).2 with
          | none =>
            have HE : Hid (contentP s t.data.toList p = ((refP s (q + 1)).1, none)) := by
              rw [← HQ.out, contP, if_neg (by rw [hin]; simp [hz]), if_pos hm, hrf]; rfl
            have HRf := hide hrf
            have HSk := hide hsk
            clear hz hin hm hrf hsk hg hown
            go_wp2_with (first
              | (go_at_call 144; refine (peek_any rb s q _ hr).mono ?_; rintro e w' ⟨rfl, nq, rfl⟩)
              | (go_at_call 218; refine (indexByte_no _ _ _ hbd.1 hbd.2 HIn.out).mono ?_; rintro e w' ⟨ix, rfl, hix, rfl⟩)
              | (go_at_call 189; refine (skip_any B rb s q _ (hr.drewN _) hB).mono ?_; rintro e w1 ⟨rfl, hr1, hk1⟩; have bx1 := hk1.at hbx (by decide); have c0 := cell2_0 bx1; have c1 := cell2_1 bx1; rw [HSk.out] at hr1)
              | (go_at_call 219; refine (reference_any B rb bb s (q + 1) _ hr1 hB (Gl.kept (hgr.drewN _) hk1 hB0)).mono ?_; rintro e w2 ⟨mm, v, rfl, hr2, hk2, hor⟩; rcases hor with ⟨ho, _⟩ | ⟨_, hc⟩; (rw [HRf.out] at ho; cases ho); obtain ⟨ty, kk, hv⟩ := hc.shape; rw [hv] at hc ⊢)
              | (go_at_call 54; refine (while_err B [] _ _ _ _ _ _ hc).mono ?_; rintro e w3 ⟨u, rfl, hc3, hk3⟩))
            go_ret2
            rw [HE.out]
            exact ⟨_, _, rfl, hr2.kept hk3 (by simp), ((hk.trans hk1.fromDrewN).trans hk2).trans (hk3.mono (Nat.le_refl _) (by simp)), .inr ⟨rfl, hc3⟩⟩
          | some mm =>
            have hms := refP_small hrf
            have HE : Hid (contentP s t.data.toList p = contP s t.data.toList f (refP s (q + 1)).1 (acc ++ [mm.toNat.toUInt8])) := by
              rw [← HQ.out, contP, if_neg (by rw [hin]; simp [hz]), if_pos hm, hrf]; rfl
            have HRf := hide hrf
            have HSk := hide hsk
            have hle : q + 1 ≤ (refP s (q + 1)).1 ∧ (refP s (q + 1)).1 ≤ s.size := refL_le s (q + 1) hlt refsL
            clear hz hin hm hrf hsk hg
            go_wp2_with (first
              | (go_at_call 144; refine (peek_any rb s q _ hr).mono ?_; rintro e w' ⟨rfl, nq, rfl⟩)
              | (go_at_call 218; refine (indexByte_no _ _ _ hbd.1 hbd.2 HIn.out).mono ?_; rintro e w' ⟨ix, rfl, hix, rfl⟩)
              | (go_at_call 189; refine (skip_any B rb s q _ (hr.drewN _) hB).mono ?_; rintro e w1 ⟨rfl, hr1, hk1⟩; have bx1 := hk1.at hbx (by decide); have c0 := cell2_0 bx1; have c1 := cell2_1 bx1; rw [HSk.out] at hr1)
              | (go_at_call 219; refine (reference_any B rb bb s (q + 1) _ hr1 hB (Gl.kept (hgr.drewN _) hk1 hB0)).mono ?_; rintro e w2 ⟨m3, v, rfl, hr2, hk2, hor⟩; rcases hor with ⟨ho, rfl⟩ | ⟨ho, _⟩; rotate_left; (rw [HRf.out] at ho; cases ho); have ho2 := Option.some.inj (ho.trans HRf.out); clear ho; subst ho2; have hown2 := hk2.owns (hk1.owns hown (by decide)) (by decide); have bx2 := hk2.at bx1 (by decide); have sz2 := lt_of_block bx2)
              | (at_builtin; refine wpList_append_own _ rfl _ _ 50 rfl w.heap.size 5 i0 (.int .u8 0) 1 1 Tryz.underlying50 hi hz0 hz1 hz2 rfl (by decide) _ _ _ rfl (hown2.alloc _) ⟨w2.heap.size, 0, none⟩ 1 1 [.int .u8 m3] rfl rfl (fun j u hj => by match j, hj with | 0, hj => (simp at hj; subst hj; simp [Addr.add])) (by intro u hu; simp at hu; subst hu; rfl) (by unfold maxLen; omega) (by omega) (by simp; omega) ?_; intro v1 w5 hown5 hgrow5 _))
            have KA := (((hk.trans hk1.fromDrewN).trans hk2).alloc _).grownNew hgrow5 (fun k e => (hown2.lt k e).1)
            have NB : ∀ {c : Array Value} {ty : TypeId} {k : Nat}, w2.heap[k]? = some (.cells c ty (0, 0)) → ty ≠ 5 → w5.heap[k]? = some (.cells c ty (0, 0)) := fun hb hty => kept_grown (hown2.alloc _) hgrow5 (alloc_old hb _) hty
            have R5 : Rd w5 rb s (refP s (q + 1)).1 := ⟨NB hr2.1 (by decide), hr2.2, hr2.3⟩
            have B5 := NB bx2 (by decide)
            have O5 : w5.ownsRow w.heap.size 5 1 v1 (acc ++ [m3.toNat.toUInt8]).length (u8s (acc ++ [m3.toNat.toUInt8])) := by
              rw [u8s_snoc, byte_back hms.1 hms.2]; simpa using hown5
            clear hown5 hgrow5 hown2 NB
            go_roundw
            case rel =>
              exact ⟨_, f, _, R5, by omega, by omega, by simp; omega, O5, B5, hide HE.out.symm, KA⟩
            case measure => rw [R5.placeOf, hr.placeOf]; omega
        · have hm' : (peekI s q == 38) = false := by simp [hm]
          have HE : Hid (contentP s t.data.toList p = contP s t.data.toList f (q + 1) (acc ++ [(peekI s q).toNat.toUInt8])) := by
            rw [← HQ.out, contP, if_neg (by rw [hin]; simp [hz]), if_neg hm]; rfl
          have HSk := hide hsk
          clear hz hin hm hsk hg
          go_wp2_with (first
            | (go_at_call 144; refine (peek_any rb s q _ hr).mono ?_; rintro e w' ⟨rfl, nq, rfl⟩)
            | (go_at_call 218; refine (indexByte_no _ _ _ hbd.1 hbd.2 HIn.out).mono ?_; rintro e w' ⟨ix, rfl, hix, rfl⟩)
            | (go_at_call 189; refine (skip_any B rb s q _ (hr.drewN _) hB).mono ?_; rintro e w1 ⟨rfl, hr1, hk1⟩; have bx1 := hk1.at hbx (by decide); rw [HSk.out] at hr1; have hown2 := hk1.owns hown (by decide); have sz2 := lt_of_block bx1)
            | (at_builtin; refine wpList_append_own _ rfl _ _ 50 rfl w.heap.size 5 i0 (.int .u8 0) 1 1 Tryz.underlying50 hi hz0 hz1 hz2 rfl (by decide) _ _ _ rfl (hown2.alloc _) ⟨w1.heap.size, 0, none⟩ 1 1 [.int .u8 (peekI s q)] rfl rfl (fun j u hj => by match j, hj with | 0, hj => (simp at hj; subst hj; simp [Addr.add])) (by intro u hu; simp at hu; subst hu; rfl) (by unfold maxLen; omega) (by omega) (by simp; omega) ?_; intro v1 w5 hown5 hgrow5 _))
          have KA := ((hk.trans hk1.fromDrewN).alloc _).grownNew hgrow5 (fun k e => (hown2.lt k e).1)
          have NB : ∀ {c : Array Value} {ty : TypeId} {k : Nat}, w1.heap[k]? = some (.cells c ty (0, 0)) → ty ≠ 5 → w5.heap[k]? = some (.cells c ty (0, 0)) := fun hb hty => kept_grown (hown2.alloc _) hgrow5 (alloc_old hb _) hty
          have R5 : Rd w5 rb s (q + 1) := ⟨NB hr1.1 (by decide), hr1.2, hr1.3⟩
          have B5 := NB bx1 (by decide)
          have O5 : w5.ownsRow w.heap.size 5 1 v1 (acc ++ [(peekI s q).toNat.toUInt8]).length (u8s (acc ++ [(peekI s q).toNat.toUInt8])) := by
            rw [u8s_snoc, byte_back hbd.1 hbd.2]; simpa using hown5
          clear hown5 hgrow5 hown2 NB
          go_roundw
          case rel =>
            exact ⟨_, f, _, R5, by omega, by omega, by simp; omega, O5, B5, hide HE.out.symm, KA⟩
          case measure => rw [R5.placeOf, hr.placeOf]; omega
      · have HE : Hid (contentP s t.data.toList p = (q, some acc)) := by rw [← HQ.out, contP, if_pos (.inr hin)]; rfl
        have HIn := hide hin
        have hcv : ∀ n, (convert 50 9 u6).run Tryz.prog (wr.drewN n) = .ok (.string ⟨acc.toArray⟩) (wr.drewN n) := fun n => conv_own hown
        clear hz hbx hown hgr hg hin
        go_wp2_with (first | (go_at_call 144; refine (peek_any rb s q _ hr).mono ?_; rintro e w' ⟨rfl, nq, rfl⟩) | (go_at_call 218; refine (indexByte_yes _ _ _ hbd.1 hbd.2 HIn.out).mono ?_; rintro e w' ⟨ix, rfl, hix, rfl⟩))
        go_ret2
        rw [HE.out]
        exact ⟨_, _, rfl, hr.drewN _, hk.drewN _, .inl ⟨by simp, rfl⟩⟩
end Go.Proofs.YtclpcnignheijaaGreatDoor
