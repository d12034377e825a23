import Derived.Test.YtclpcnignheijaaGreatDoorQ5
namespace Go.Proofs.YtclpcnignheijaaGreatDoor
open Go.RowKit

set_option maxHeartbeats 8000000 in
set_option maxRecDepth 100000 in
theorem rcompound_simple (B mb : Nat) (s : ByteArray) (n others p a m : Nat) (w : World) (IH : ListR B mb s n) (h : Mk w mb s p false a m) (hB : B ≤ mb) (ha : a ≤ p) (ho1 : others ≤ p) (hom : others ≤ m) (hn : s.size ≤ p + n) (hats : atB (peekI s p) = true) :
    Calls Tryz.prog 141 #[.pointer (some ⟨mb, 0, none⟩), .int .i64 others] w (CompR B mb s n others p a m w) := by
  have h5 := h.max; have h6 := h.le
  have h0 := (h.alloc (.cells #[.int .u8 0, .string ⟨#[]⟩, .slice none 0 0] 102)).alloc (.cells #[.int .u8 0, .string ⟨#[]⟩, .slice none 0 0] 102)
  have rs0 := alloc_old (alloc_at w (.cells #[.int .u8 0, .string ⟨#[]⟩, .slice none 0 0] 102)) (.cells #[.int .u8 0, .string ⟨#[]⟩, .slice none 0 0] 102)
  have ns0 := alloc_at' (w := w.alloc (.cells #[.int .u8 0, .string ⟨#[]⟩, .slice none 0 0] 102)) (n := w.heap.size + 1) (.cells #[.int .u8 0, .string ⟨#[]⟩, .slice none 0 0] 102) (by simp)
  have hk0 := ((Kp.refl B [153] w).alloc (.cells #[.int .u8 0, .string ⟨#[]⟩, .slice none 0 0] 102)).alloc (.cells #[.int .u8 0, .string ⟨#[]⟩, .slice none 0 0] 102)
  have hz0 : ((w.alloc (.cells #[.int .u8 0, .string ⟨#[]⟩, .slice none 0 0] 102)).alloc (.cells #[.int .u8 0, .string ⟨#[]⟩, .slice none 0 0] 102)).heap.size = w.heap.size + 2 := by simp
  obtain ⟨i0, hi, hy0, hy1, hy2⟩ := info_parts Tryz.infoRSim
  have hln : letterB (peekI s p) = false := by rcases atB_cases hats with e | e | e | e <;> rw [e] <;> decide
  have h42 : peekI s p ≠ 42 := by rcases atB_cases hats with e | e | e | e <;> rw [e] <;> decide
  have H0 : Hid (headP s p = (p, some ⟨#[]⟩)) := by unfold headP; rw [if_neg h42, if_pos hats]; rfl
  have HATS := hide hats; have HLN := hide hln; have H42 := hide h42
  clear hats hln h42
  unfold CompR
  go_enter Tryz.func141, Tryz.ntmps141
  go_wp2_with fail
  refine (next_is mb s p false a m _ (peekI s p) h0 (nextI_ok s p)).mono ?_
  rintro e w1 ⟨rfl, n1, rfl⟩
  go_wp2_with fail
  refine (rletter_is (peekI s p) _ false HLN.out).mono ?_
  rintro e w1 ⟨rfl, rfl⟩
  go_wp2_with fail
  refine (is_no B mb s p false a m 42 _ (h0.drewN n1) (by rw [nextI_ok]; exact H42.out)).mono ?_
  rintro e w2 ⟨rfl, hmS, hk2⟩
  have rsS := hk2.at (k := w.heap.size) rs0 (by decide)
  have nsS := hk2.at (k := w.heap.size + 1) ns0 (by decide)
  have hkS := (hk0.drewN n1).trans hk2
  clear rs0 ns0 hk0 h0 hz0 hk2
  go_wp2
  go_loopw [9] (fun _ wr => ∃ (q : Nat) (bad : Bool) (a' m' k : Nat) (sv : Value) (xs : List Value), CompI B mb s n others p a m w (⟨#[]⟩ : ByteArray) p wr q bad a' m' k sv xs) (fun _ wr => if badM wr mb = true then 0 else s.size + 1 - placeM wr mb)
  case atStart => exact ⟨p, false, a, m, 0, .slice none 0 0, [], ⟨hmS, rsS, nsS, World.ownsRow_nil _ _ _ _, hkS, fun _ => ⟨rfl, rfl⟩, .inl ⟨rfl, s.size + 1, 0, 0, [], rfl, Nat.zero_le _, by omega, rfl, by omega, by omega, by omega, by omega, rfl, rfl⟩⟩⟩
  case round =>
    obtain ⟨q, bad, a', m', k, sv, xs, I⟩ := hrel
    clear hmS rsS nsS hkS
    obtain ⟨la, lc, rfl⟩ := own_slice' I.own
    obtain ⟨hm, rs, ns, own, hk, hfst, hst⟩ := I
    have hbm := hm.badM; have hpl := hm.placeM
    cases bad
    rotate_left
    · have HE : Hid (compoundP (listP s n) s p = (q, none)) := by
        rcases hst with ⟨h, _⟩ | ⟨_, h⟩
        · cases h
        · rw [compR_done H0.out h]; rfl
      have hkp : 0 < k := by
        rcases Nat.eq_zero_or_pos k with h | h
        · exact absurd (hfst h).1 (by decide)
        · exact h
      have hk0 : ((k : Int) == 0) = false := by simp; omega
      clear hst hfst
      have d2 := hm.c2
      obtain ⟨c0, c1, c2⟩ := cell3 ns
      obtain ⟨r0, r1, r2⟩ := cell3 rs
      have fr0 := free_of (o := 0) rs; have fr1 := free_of (o := 1) rs; have fr2 := free_of (o := 2) rs
      go_wp2
      obtain ⟨rsF, oF⟩ := fin3 rs (.int .u8 0) (.string (⟨#[]⟩ : ByteArray)) (.slice la k lc)
      refine bodyPost_ret (v := .agg #[.int .u8 0, .string (⟨#[]⟩ : ByteArray), .slice la k lc]) (by simp [results, Tryz.results141, go_sem, r0, r1, r2]) rfl ?_
      rw [HE.out]
      exact compE_bad hm rs hk oF fin3_same ⟨_, _, _, rfl⟩

    · rcases hst with ⟨_, f, cn, d, l, hlk, hkq, hpq, rfl, rfl, hf, hcq, hdq, hrow, hq⟩ | ⟨hc, _⟩
      rotate_left
      · cases hc
      have HLK := hide hlk; have HQ := hide hq
      clear hlk hq
      obtain ⟨f, rfl⟩ : ∃ f', f = f' + 1 := ⟨f - 1, by have := hm.le; omega⟩
      have d2 := hm.c2
      cases hat : atB (peekI s q)
      · have HE : Hid (compoundP (listP s n) s p = (q, some (((⟨#[]⟩ : ByteArray), l), cn, d))) := by
          rw [compR_done H0.out (HQ.out.symm.trans (sims_stop hat))]; rfl
        have hkp : 0 < k := by
          rcases Nat.eq_zero_or_pos k with h | h
          · exact absurd HATS.out (by rw [← (hfst h).2, hat]; decide)
          · exact h
        have hk0 : ((k : Int) == 0) = false := by simp; omega
        obtain ⟨x35, x46, x91, x58⟩ := atB_no hat
        generalize hv : peekI s q = v at *
        have b35 : (v != 35) = true := by simpa using x35
        have b46 : (v != 46) = true := by simpa using x46
        have b91 : (v != 91) = true := by simpa using x91
        have b58 : (v != 58) = true := by simpa using x58
        have HV := hide hv
        clear hat hv x35 x46 x91 x58
        go_wp2_with fail
        refine (next_is mb s q false (a + cn) (max m (others + d)) _ v hm (by rw [nextI_ok]; exact HV.out)).mono ?_
        rintro e w1 ⟨rfl, n1, rfl⟩
        replace hm := hm.drewN n1
        replace rs : (wr.drewN n1).heap[w.heap.size]? = some (.cells #[.int .u8 0, .string ⟨#[]⟩, .slice none 0 0] 102 (0, 0)) := rs
        replace ns : (wr.drewN n1).heap[w.heap.size + 1]? = some (.cells #[.int .u8 0, .string (⟨#[]⟩ : ByteArray), .slice la k lc] 102 (0, 0)) := ns
        replace own : (wr.drewN n1).ownsRow (w.heap.size + 2) 104 9 (.slice la k lc) k xs := own
        replace hk := hk.drewN n1
        replace hrow := hrow.mono fun _ _ hh => hh.mp (Fr.drewN (docL) (fun g => w.heap.size + 2 ≤ g ∧ (Value.slice la k lc).ownBlock ≠ some g) wr n1)
        clear d2
        generalize wr.drewN n1 = wx at *
        have hmA := hm.alloc (.cells #[.int .u8 v, .string ⟨#[]⟩, .string ⟨#[]⟩, .string ⟨#[]⟩, .bool false, .int .i64 0, .int .i64 0, .string ⟨#[]⟩, .slice none 0 0] 104)
        have rsA := alloc_old rs (.cells #[.int .u8 v, .string ⟨#[]⟩, .string ⟨#[]⟩, .string ⟨#[]⟩, .bool false, .int .i64 0, .int .i64 0, .string ⟨#[]⟩, .slice none 0 0] 104)
        have nsA := alloc_old ns (.cells #[.int .u8 v, .string ⟨#[]⟩, .string ⟨#[]⟩, .string ⟨#[]⟩, .bool false, .int .i64 0, .int .i64 0, .string ⟨#[]⟩, .slice none 0 0] 104)
        have ownA := own.alloc (.cells #[.int .u8 v, .string ⟨#[]⟩, .string ⟨#[]⟩, .string ⟨#[]⟩, .bool false, .int .i64 0, .int .i64 0, .string ⟨#[]⟩, .slice none 0 0] 104)
        have hkA := hk.alloc (.cells #[.int .u8 v, .string ⟨#[]⟩, .string ⟨#[]⟩, .string ⟨#[]⟩, .bool false, .int .i64 0, .int .i64 0, .string ⟨#[]⟩, .slice none 0 0] 104)
        have hrowA := hide (hrow.mono fun _ _ hh => hh.mp (Fr.alloc (.cells #[.int .u8 v, .string ⟨#[]⟩, .string ⟨#[]⟩, .string ⟨#[]⟩, .bool false, .int .i64 0, .int .i64 0, .string ⟨#[]⟩, .slice none 0 0] 104) fun _ hg => hg))
        obtain ⟨c0, c1, c2⟩ := cell3 nsA
        obtain ⟨r0, r1, r2⟩ := cell3 rsA
        have fr0 := free_of (o := 0) rsA; have fr1 := free_of (o := 1) rsA; have fr2 := free_of (o := 2) rsA
        clear hm rs ns own hk hrow
        go_wp2
        generalize wx.alloc (.cells #[.int .u8 v, .string ⟨#[]⟩, .string ⟨#[]⟩, .string ⟨#[]⟩, .bool false, .int .i64 0, .int .i64 0, .string ⟨#[]⟩, .slice none 0 0] 104) = W3 at *
        obtain ⟨rsF, oF⟩ := fin3 rsA (.int .u8 0) (.string (⟨#[]⟩ : ByteArray)) (.slice la k lc)
        refine bodyPost_ret (v := .agg #[.int .u8 0, .string (⟨#[]⟩ : ByteArray), .slice la k lc]) (by simp [results, Tryz.results141, go_sem, r0, r1, r2]) rfl ?_
        rw [HE.out]
        exact compE_good hmA rsA hkA oF fin3_same ownA HLK.out hrowA.out
      · have HAt := hide hat
        have hgd := simpleP_gd (listP_gd s n) (lf := listP s n) (p := q) hm.le
        have hAt := atB_cases hat
        clear hat
        generalize hA : a + cn = a1 at *
        generalize hM : max m (others + d) = m1 at *
        have HA := hide hA; have HM := hide hM
        have hom1 : others ≤ m1 := by omega
        have ha1 : a1 ≤ q := by omega
        clear hA hM
        rcases hAt with h1 | h1 | h1 | h1
        · have H1 := hide h1
          have hlt : q < s.size := peek_in h1 (by decide)
          clear h1
          go_wp2_with fail
          refine (next_is mb s q false a1 m1 _ 35 hm (by rw [nextI_ok]; exact H1.out)).mono ?_
          rintro e w1 ⟨rfl, n1, rfl⟩
          replace hm := hm.drewN n1
          replace rs : (wr.drewN n1).heap[w.heap.size]? = some (.cells #[.int .u8 0, .string ⟨#[]⟩, .slice none 0 0] 102 (0, 0)) := rs
          replace ns : (wr.drewN n1).heap[w.heap.size + 1]? = some (.cells #[.int .u8 0, .string (⟨#[]⟩ : ByteArray), .slice la k lc] 102 (0, 0)) := ns
          replace own : (wr.drewN n1).ownsRow (w.heap.size + 2) 104 9 (.slice la k lc) k xs := own
          replace hk := hk.drewN n1
          replace hrow := hrow.mono fun _ _ hh => hh.mp (Fr.drewN (docL) (fun g => w.heap.size + 2 ≤ g ∧ (Value.slice la k lc).ownBlock ≠ some g) wr n1)
          clear d2
          generalize wr.drewN n1 = wx at *
          have e1 := hm.c1; have e3 := hm.c3; have x1 := hm.free (o := 1); have x3 := hm.free (o := 3); have hmb := lt_of_block hm.blk
          have hm3 := (hm.set1 (q := q + 1) (v := (q : Int) + 1) hlt (by omega)).set3 (a' := a1 + 1) (v := (a1 : Int) + 1) (by omega)
          have kp3 : Kp B [153] wx ((wx.setCell ⟨mb, 1, none⟩ (.int .i64 ((q : Int) + 1))).setCell ⟨mb, 3, none⟩ (.int .i64 ((a1 : Int) + 1))) := (hm.set1 (q := q + 1) (v := (q : Int) + 1) hlt (by omega)).kp (hm.kp (Kp.refl _ _ _) hB 1 _) hB 3 _
          go_wp2_with fail
          clear e1 e3 x1 x3
          have hs3 : Sb (((wx.setCell ⟨mb, 1, none⟩ (.int .i64 ((q : Int) + 1))).setCell ⟨mb, 3, none⟩ (.int .i64 ((a1 : Int) + 1))).alloc (.cells #[.int .u8 35, .string ⟨#[]⟩, .string ⟨#[]⟩, .string ⟨#[]⟩, .bool false, .int .i64 0, .int .i64 0, .string ⟨#[]⟩, .slice none 0 0] 104)) wx.heap.size 35 noB noB noB false 0 0 noB (.slice none 0 0) := alloc_at' _ (by simp [World.setCell])
          have hm4 := hm3.alloc (.cells #[.int .u8 35, .string ⟨#[]⟩, .string ⟨#[]⟩, .string ⟨#[]⟩, .bool false, .int .i64 0, .int .i64 0, .string ⟨#[]⟩, .slice none 0 0] 104)
          have hks : Ks B wx.heap.size wx (((wx.setCell ⟨mb, 1, none⟩ (.int .i64 ((q : Int) + 1))).setCell ⟨mb, 3, none⟩ (.int .i64 ((a1 : Int) + 1))).alloc (.cells #[.int .u8 35, .string ⟨#[]⟩, .string ⟨#[]⟩, .string ⟨#[]⟩, .bool false, .int .i64 0, .int .i64 0, .string ⟨#[]⟩, .slice none 0 0] 104)) := (kp3.alloc (.cells #[.int .u8 35, .string ⟨#[]⟩, .string ⟨#[]⟩, .string ⟨#[]⟩, .bool false, .int .i64 0, .int .i64 0, .string ⟨#[]⟩, .slice none 0 0] 104)).tm
          have hz2 := lt_of_block hs3
          have hBx : B ≤ wx.heap.size := by omega
          clear hm3 kp3
          generalize ((wx.setCell ⟨mb, 1, none⟩ (.int .i64 ((q : Int) + 1))).setCell ⟨mb, 3, none⟩ (.int .i64 ((a1 : Int) + 1))).alloc (.cells #[.int .u8 35, .string ⟨#[]⟩, .string ⟨#[]⟩, .string ⟨#[]⟩, .bool false, .int .i64 0, .int .i64 0, .string ⟨#[]⟩, .slice none 0 0] 104) = w2 at *
          refine (rword_word B mb s (q + 1) (a1 + 1) m1 _ hm4 hB).mono ?_
          rintro e w3 ⟨y, rfl, hk3, hor⟩
          have hs4 : Sb w3 wx.heap.size 35 noB noB noB false 0 0 noB (.slice none 0 0) := hk3.at hs3 (by decide)
          obtain ⟨⟨z0, z1, z2, z3, z4, z5, z6, z7, z8⟩, fz⟩ := cells9 hs4
          have fz1 := fz 1
          have hs5 : Sb (w3.setCell ⟨wx.heap.size, 1, none⟩ (.string y)) wx.heap.size 35 y noB noB false 0 0 noB (.slice none 0 0) := set_blk (o := 1) hs4 (.string y)
          have kk5 := Kp.setAny (p := ⟨wx.heap.size, 1, none⟩) hs4 (.string y)
          have hks6 : Ks B wx.heap.size wx (w3.setCell ⟨wx.heap.size, 1, none⟩ (.string y)) := (hks.trans hk3.tm).setCell (p := ⟨wx.heap.size, 1, none⟩) hs4 (by simp [TM]) hBx (.string y)
          obtain ⟨so, wd, op, va, sm, i, j, nt, lv, hS⟩ : ∃ so wd op va sm i j nt lv, SimR mb wx.heap.size s n others q a1 m1 w2 (w3.setCell ⟨wx.heap.size, 1, none⟩ (.string y)) so wd op va sm i j nt lv := ⟨_, _, _, _, _, _, _, _, _, simR_word (.inl ⟨rfl, rfl⟩) H1.out hom1 hs5 (by
            rcases hor with ⟨ho, hmo⟩ | ⟨ho, hmo⟩
            · exact .inl ⟨ho, hmo.kept kk5 (by decide)⟩
            · exact .inr ⟨ho, hmo.kept kk5 (by decide)⟩)⟩
          clear hor kk5 hs5 z0 z2 z3 z4 z5 z6 z7 z8 fz
          obtain ⟨hs6, ⟨va1, va2, va3, rfl⟩, hor6⟩ := hS
          obtain ⟨bad', a', m', q', hm6, HST⟩ : ∃ bad' a' m' q', Mk (w3.setCell ⟨wx.heap.size, 1, none⟩ (.string y)) mb s q' bad' a' m' ∧ Hid ((bad' = false ∧ ∃ x, simpleP (listP s n) s q = (q', some x) ∧ a' = a1 + x.2.1 ∧ m' = max m1 (others + x.2.2) ∧ repS docL (RepL docL (fun g => wx.heap.size < g) (w3.setCell ⟨wx.heap.size, 1, none⟩ (.string y)) n) x.1 (sbCells so wd op va sm i j nt (.slice va1 va2 va3))) ∨ (bad' = true ∧ simpleP (listP s n) s q = (q', none))) := by
            rcases hor6 with ⟨x, hx, hmx, hrx⟩ | ⟨hx, a', m', hmx⟩
            · exact ⟨false, _, _, _, hmx, hide (.inl ⟨rfl, x, by rw [← hx], rfl, rfl, hrx.mp (Fr.same fun g hg => by omega)⟩)⟩
            · exact ⟨true, a', m', _, hmx, hide (.inr ⟨rfl, by rw [← hx]⟩)⟩
          have hz1 := lt_of_block ns
          have hk6 := hks6.new hk (by omega)
          have rs6 := hks6.at rs (by decide) (by omega)
          have ns6 := hks6.at ns (by decide) (by omega)
          have hown : ∀ g, (Value.slice la k lc).ownBlock = some g → g < wx.heap.size := fun g hg => (own.lt g hg).2
          have own6 := hks6.owns own (by decide) (fun g hg => by have := hown g hg; omega)
          have hrow6 := hide (hrow.mono fun _ _ hh => hh.mp (Fr.ofKs hks6 (Nat.le_refl _) fun _ hg => hg))
          have HOWN := hide hown
          have hz6 := lt_of_block hs6
          have hzw : wx.heap.size ≤ w3.heap.size := by simpa [World.setCell] using hks6.size
          clear hor6 hrow own rs ns hk hks6 hks hs3 hm4 hk3 hown
          obtain ⟨⟨z0, z1', z2, z3, z4, z5, z6, z7, z8⟩, _⟩ := cells9 hs6
          obtain ⟨t0, t1, t2⟩ := cell3 ns6
          have f2 := free_of (o := 2) ns6
          go_wp2_with (at_builtin; refine wpList_append_lies _ rfl _ _ 100 rfl (w.heap.size + 2) 104 i0 (.agg #[.int .u8 0, .string ⟨#[]⟩, .string ⟨#[]⟩, .string ⟨#[]⟩, .bool false, .int .i64 0, .int .i64 0, .string ⟨#[]⟩, .slice none 0 0]) 9 120 Tryz.underlying100 hi hy0 hy1 hy2 rfl (by decide) _ _ _ rfl (own6.alloc _) ⟨w3.heap.size, 0, none⟩ 1 1 (sbCells so wd op va sm i j nt (.slice va1 va2 va3)) rfl rfl ?c1 ?c2 (by decide) ?c3 ?c4 ?c5 _ rfl ?_)
          case c1 => exact cells_new #[.int .u8 so, .string wd, .string op, .string va, .bool sm, .int .i64 i, .int .i64 j, .string nt, .slice va1 va2 va3] 104 (by simp [World.setCell])
          case c2 => exact sbCells_one _ _ _ _ _ _ _ _ _ _ _
          case c3 => unfold maxLen; omega
          case c4 => omega
          case c5 => simp; omega
          intro g cap w7 own7 hgrow7 hat7 hlt7
          have KA := (hk6.alloc (.cells #[.int .u8 so, .string wd, .string op, .string va, .bool sm, .int .i64 i, .int .i64 j, .string nt, .slice va1 va2 va3] 104)).grownNew hgrow7 (fun k e => by have := (own6.lt k e).1; omega)
          have NB : ∀ {cc : Array Value} {ty : TypeId} {bk : Nat}, (w3.setCell ⟨wx.heap.size, 1, none⟩ (.string y)).heap[bk]? = some (.cells cc ty (0, 0)) → ty ≠ 104 → w7.heap[bk]? = some (.cells cc ty (0, 0)) := fun hb hty => kept_grown (own6.alloc _) hgrow7 (alloc_old hb _) hty
          have hm7 : Mk w7 mb s q' bad' a' m' := ⟨NB hm6.blk (by decide), hm6.le, hm6.max⟩
          have rs7 := NB rs6 (by decide)
          have ns7 := NB ns6 (by decide)
          have frg : Fr docL (fun g' => w.heap.size + 2 ≤ g' ∧ (Value.slice la k lc).ownBlock ≠ some g') (fun g' => w.heap.size + 2 ≤ g' ∧ (Value.slice (some ⟨g, 0, none⟩) (k + 1) cap).ownBlock ≠ some g') ((w3.setCell ⟨wx.heap.size, 1, none⟩ (.string y)).alloc (.cells #[.int .u8 so, .string wd, .string op, .string va, .bool sm, .int .i64 i, .int .i64 j, .string nt, .slice va1 va2 va3] 104)) w7 :=
            Fr.grown hgrow7 (by simpa using hat7) (fun k hk => hk.2) (fun k hk hne => ⟨hk.1, by simp only [Value.ownBlock, ne_eq, Option.some.injEq]; exact fun e => hne e.symm⟩)
          have fr8 : Fr docL (fun g' => w.heap.size + 2 ≤ g' ∧ (Value.slice (some ⟨g, 0, none⟩) (k + 1) cap).ownBlock ≠ some g') (fun g' => w.heap.size + 2 ≤ g' ∧ (Value.slice (some ⟨g, 0, none⟩) (k + 1) cap).ownBlock ≠ some g') w7 (w7.setCell ⟨w.heap.size + 1, 2, none⟩ (.slice (some ⟨g, 0, none⟩) (k + 1) cap)) := Fr.setOther (fun g' hg => by show g' ≠ w.heap.size + 1; omega) _
          have hrow8 := hrow6.out.mono fun _ _ hh => ((hh.mp (Fr.alloc (.cells #[.int .u8 so, .string wd, .string op, .string va, .bool sm, .int .i64 i, .int .i64 j, .string nt, .slice va1 va2 va3] 104) fun _ hg => hg)).mp frg).mp fr8
          have hlt8 : bad' = false → q < q' := fun hb => by
            rcases HST.out with ⟨_, x, hx, _⟩ | ⟨hc, _⟩
            · rw [hx] at hgd; exact hgd.2 x rfl
            · rw [hb] at hc; cases hc
          have HST8 : Hid ((bad' = false ∧ ∃ f cn d l, l.length = k + 1 ∧ k + 1 ≤ q' ∧ p ≤ q' ∧ a' = a + cn ∧ m' = max m (others + d) ∧ s.size < q' + f ∧ p + cn ≤ q' ∧ p + d ≤ q' ∧ Row (repS docL (RepL docL (fun g' => w.heap.size + 2 ≤ g' ∧ (Value.slice (some ⟨g, 0, none⟩) (k + 1) cap).ownBlock ≠ some g') (w7.setCell ⟨w.heap.size + 1, 2, none⟩ (.slice (some ⟨g, 0, none⟩) (k + 1) cap)) n)) l (xs ++ sbCells so wd op va sm i j nt (.slice va1 va2 va3)) ∧ simplesP (listP s n) s f l cn d q' = simplesP (listP s n) s (s.size + 1) [] 0 0 p) ∨
              (bad' = true ∧ simplesP (listP s n) s (s.size + 1) [] 0 0 p = (q', none))) := by
            rcases HST.out with ⟨rfl, x, hx, rfl, rfl, hrx⟩ | ⟨rfl, hx⟩
            · rw [hx] at hgd
              obtain ⟨⟨g1, g2, g3⟩, g4⟩ := hgd
              have g3 := g3 x rfl
              have g4 := g4 x rfl
              dsimp only at g1 g2 g3 g4
              have hA := HA.out; have hM := HM.out
              refine hide (.inl ⟨rfl, f, cn + x.2.1, max d x.2.2, l ++ [x.1], by rw [List.length_append, HLK.out]; rfl, by omega, by omega, by omega, by omega, by omega, by omega, by omega, hrow8.snoc ((((hrx.mp (Fr.same fun g' hg => ⟨by omega, fun e => by have := HOWN.out g' e; omega⟩)).mp (Fr.alloc (.cells #[.int .u8 so, .string wd, .string op, .string va, .bool sm, .int .i64 i, .int .i64 j, .string nt, .slice va1 va2 va3] 104) fun _ hg => hg)).mp frg).mp fr8), ?_⟩)
              rw [← HQ.out, sims_go HAt.out hx]
            · refine hide (.inr ⟨rfl, ?_⟩)
              rw [← HQ.out, sims_none HAt.out hx]
          have hm8 : Mk (w7.setCell ⟨w.heap.size + 1, 2, none⟩ (.slice (some ⟨g, 0, none⟩) (k + 1) cap)) mb s q' bad' a' m' := ⟨setCell_other hm7.blk (block_ne hm7.blk ns7 (by decide)) _, hm7.le, hm7.max⟩
          have rs8 := setCell_other (a := ⟨w.heap.size + 1, 2, none⟩) rs7 (by simp) (.slice (some ⟨g, 0, none⟩) (k + 1) cap)
          have ns8 : (w7.setCell ⟨w.heap.size + 1, 2, none⟩ (.slice (some ⟨g, 0, none⟩) (k + 1) cap)).heap[w.heap.size + 1]? = some (.cells #[.int .u8 0, .string (⟨#[]⟩ : ByteArray), .slice (some ⟨g, 0, none⟩) (k + 1) cap] 102 (0, 0)) := set_blk (o := 2) ns7 _
          have own8 := owns_other (R := w.heap.size + 1) (w' := w7.setCell ⟨w.heap.size + 1, 2, none⟩ (.slice (some ⟨g, 0, none⟩) (k + 1) cap)) (fun j hj => Below.heap_setCell _ _ _ _ hj) own7 (by omega)
          have KB := KA.setNew (p := ⟨w.heap.size + 1, 2, none⟩) (by simp) (.slice (some ⟨g, 0, none⟩) (k + 1) cap)
          clear hgrow7 NB frg fr8 hat7 own6 hrow6 hrow8 z0 z1' z2 z3 z4 z5 z6 z7 z8 t0 t1 t2 f2 HST KA own7 hs6 ns6 rs6 hk6 hm6
          obtain ⟨t0, t1, t2⟩ := cell3 ns7
          have f2 := free_of (o := 2) ns7
          have hpb := hm8.badM; have hpp := hm8.placeM
          go_wp2
          go_roundw
          case rel => exact ⟨q', bad', a', m', k + 1, _, _, ⟨hm8, rs8, ns8, own8, KB, fun e => absurd e (by omega), HST8.out⟩⟩
          case measure =>
            rw [hbm, hpl, hpb, hpp]
            cases bad'
            · have := hlt8 rfl; simp; omega
            · simp; omega
        · have H1 := hide h1
          have hlt : q < s.size := peek_in h1 (by decide)
          clear h1
          go_wp2_with fail
          refine (next_is mb s q false a1 m1 _ 46 hm (by rw [nextI_ok]; exact H1.out)).mono ?_
          rintro e w1 ⟨rfl, n1, rfl⟩
          replace hm := hm.drewN n1
          replace rs : (wr.drewN n1).heap[w.heap.size]? = some (.cells #[.int .u8 0, .string ⟨#[]⟩, .slice none 0 0] 102 (0, 0)) := rs
          replace ns : (wr.drewN n1).heap[w.heap.size + 1]? = some (.cells #[.int .u8 0, .string (⟨#[]⟩ : ByteArray), .slice la k lc] 102 (0, 0)) := ns
          replace own : (wr.drewN n1).ownsRow (w.heap.size + 2) 104 9 (.slice la k lc) k xs := own
          replace hk := hk.drewN n1
          replace hrow := hrow.mono fun _ _ hh => hh.mp (Fr.drewN (docL) (fun g => w.heap.size + 2 ≤ g ∧ (Value.slice la k lc).ownBlock ≠ some g) wr n1)
          clear d2
          generalize wr.drewN n1 = wx at *
          have e1 := hm.c1; have e3 := hm.c3; have x1 := hm.free (o := 1); have x3 := hm.free (o := 3); have hmb := lt_of_block hm.blk
          have hm3 := (hm.set1 (q := q + 1) (v := (q : Int) + 1) hlt (by omega)).set3 (a' := a1 + 1) (v := (a1 : Int) + 1) (by omega)
          have kp3 : Kp B [153] wx ((wx.setCell ⟨mb, 1, none⟩ (.int .i64 ((q : Int) + 1))).setCell ⟨mb, 3, none⟩ (.int .i64 ((a1 : Int) + 1))) := (hm.set1 (q := q + 1) (v := (q : Int) + 1) hlt (by omega)).kp (hm.kp (Kp.refl _ _ _) hB 1 _) hB 3 _
          go_wp2_with fail
          clear e1 e3 x1 x3
          have hs3 : Sb (((wx.setCell ⟨mb, 1, none⟩ (.int .i64 ((q : Int) + 1))).setCell ⟨mb, 3, none⟩ (.int .i64 ((a1 : Int) + 1))).alloc (.cells #[.int .u8 46, .string ⟨#[]⟩, .string ⟨#[]⟩, .string ⟨#[]⟩, .bool false, .int .i64 0, .int .i64 0, .string ⟨#[]⟩, .slice none 0 0] 104)) wx.heap.size 46 noB noB noB false 0 0 noB (.slice none 0 0) := alloc_at' _ (by simp [World.setCell])
          have hm4 := hm3.alloc (.cells #[.int .u8 46, .string ⟨#[]⟩, .string ⟨#[]⟩, .string ⟨#[]⟩, .bool false, .int .i64 0, .int .i64 0, .string ⟨#[]⟩, .slice none 0 0] 104)
          have hks : Ks B wx.heap.size wx (((wx.setCell ⟨mb, 1, none⟩ (.int .i64 ((q : Int) + 1))).setCell ⟨mb, 3, none⟩ (.int .i64 ((a1 : Int) + 1))).alloc (.cells #[.int .u8 46, .string ⟨#[]⟩, .string ⟨#[]⟩, .string ⟨#[]⟩, .bool false, .int .i64 0, .int .i64 0, .string ⟨#[]⟩, .slice none 0 0] 104)) := (kp3.alloc (.cells #[.int .u8 46, .string ⟨#[]⟩, .string ⟨#[]⟩, .string ⟨#[]⟩, .bool false, .int .i64 0, .int .i64 0, .string ⟨#[]⟩, .slice none 0 0] 104)).tm
          have hz2 := lt_of_block hs3
          have hBx : B ≤ wx.heap.size := by omega
          clear hm3 kp3
          generalize ((wx.setCell ⟨mb, 1, none⟩ (.int .i64 ((q : Int) + 1))).setCell ⟨mb, 3, none⟩ (.int .i64 ((a1 : Int) + 1))).alloc (.cells #[.int .u8 46, .string ⟨#[]⟩, .string ⟨#[]⟩, .string ⟨#[]⟩, .bool false, .int .i64 0, .int .i64 0, .string ⟨#[]⟩, .slice none 0 0] 104) = w2 at *
          refine (rword_word B mb s (q + 1) (a1 + 1) m1 _ hm4 hB).mono ?_
          rintro e w3 ⟨y, rfl, hk3, hor⟩
          have hs4 : Sb w3 wx.heap.size 46 noB noB noB false 0 0 noB (.slice none 0 0) := hk3.at hs3 (by decide)
          obtain ⟨⟨z0, z1, z2, z3, z4, z5, z6, z7, z8⟩, fz⟩ := cells9 hs4
          have fz1 := fz 1
          have hs5 : Sb (w3.setCell ⟨wx.heap.size, 1, none⟩ (.string y)) wx.heap.size 46 y noB noB false 0 0 noB (.slice none 0 0) := set_blk (o := 1) hs4 (.string y)
          have kk5 := Kp.setAny (p := ⟨wx.heap.size, 1, none⟩) hs4 (.string y)
          have hks6 : Ks B wx.heap.size wx (w3.setCell ⟨wx.heap.size, 1, none⟩ (.string y)) := (hks.trans hk3.tm).setCell (p := ⟨wx.heap.size, 1, none⟩) hs4 (by simp [TM]) hBx (.string y)
          obtain ⟨so, wd, op, va, sm, i, j, nt, lv, hS⟩ : ∃ so wd op va sm i j nt lv, SimR mb wx.heap.size s n others q a1 m1 w2 (w3.setCell ⟨wx.heap.size, 1, none⟩ (.string y)) so wd op va sm i j nt lv := ⟨_, _, _, _, _, _, _, _, _, simR_word (.inr ⟨rfl, rfl⟩) H1.out hom1 hs5 (by
            rcases hor with ⟨ho, hmo⟩ | ⟨ho, hmo⟩
            · exact .inl ⟨ho, hmo.kept kk5 (by decide)⟩
            · exact .inr ⟨ho, hmo.kept kk5 (by decide)⟩)⟩
          clear hor kk5 hs5 z0 z2 z3 z4 z5 z6 z7 z8 fz
          obtain ⟨hs6, ⟨va1, va2, va3, rfl⟩, hor6⟩ := hS
          obtain ⟨bad', a', m', q', hm6, HST⟩ : ∃ bad' a' m' q', Mk (w3.setCell ⟨wx.heap.size, 1, none⟩ (.string y)) mb s q' bad' a' m' ∧ Hid ((bad' = false ∧ ∃ x, simpleP (listP s n) s q = (q', some x) ∧ a' = a1 + x.2.1 ∧ m' = max m1 (others + x.2.2) ∧ repS docL (RepL docL (fun g => wx.heap.size < g) (w3.setCell ⟨wx.heap.size, 1, none⟩ (.string y)) n) x.1 (sbCells so wd op va sm i j nt (.slice va1 va2 va3))) ∨ (bad' = true ∧ simpleP (listP s n) s q = (q', none))) := by
            rcases hor6 with ⟨x, hx, hmx, hrx⟩ | ⟨hx, a', m', hmx⟩
            · exact ⟨false, _, _, _, hmx, hide (.inl ⟨rfl, x, by rw [← hx], rfl, rfl, hrx.mp (Fr.same fun g hg => by omega)⟩)⟩
            · exact ⟨true, a', m', _, hmx, hide (.inr ⟨rfl, by rw [← hx]⟩)⟩
          have hz1 := lt_of_block ns
          have hk6 := hks6.new hk (by omega)
          have rs6 := hks6.at rs (by decide) (by omega)
          have ns6 := hks6.at ns (by decide) (by omega)
          have hown : ∀ g, (Value.slice la k lc).ownBlock = some g → g < wx.heap.size := fun g hg => (own.lt g hg).2
          have own6 := hks6.owns own (by decide) (fun g hg => by have := hown g hg; omega)
          have hrow6 := hide (hrow.mono fun _ _ hh => hh.mp (Fr.ofKs hks6 (Nat.le_refl _) fun _ hg => hg))
          have HOWN := hide hown
          have hz6 := lt_of_block hs6
          have hzw : wx.heap.size ≤ w3.heap.size := by simpa [World.setCell] using hks6.size
          clear hor6 hrow own rs ns hk hks6 hks hs3 hm4 hk3 hown
          obtain ⟨⟨z0, z1', z2, z3, z4, z5, z6, z7, z8⟩, _⟩ := cells9 hs6
          obtain ⟨t0, t1, t2⟩ := cell3 ns6
          have f2 := free_of (o := 2) ns6
          go_wp2_with (at_builtin; refine wpList_append_lies _ rfl _ _ 100 rfl (w.heap.size + 2) 104 i0 (.agg #[.int .u8 0, .string ⟨#[]⟩, .string ⟨#[]⟩, .string ⟨#[]⟩, .bool false, .int .i64 0, .int .i64 0, .string ⟨#[]⟩, .slice none 0 0]) 9 120 Tryz.underlying100 hi hy0 hy1 hy2 rfl (by decide) _ _ _ rfl (own6.alloc _) ⟨w3.heap.size, 0, none⟩ 1 1 (sbCells so wd op va sm i j nt (.slice va1 va2 va3)) rfl rfl ?c1 ?c2 (by decide) ?c3 ?c4 ?c5 _ rfl ?_)
          case c1 => exact cells_new #[.int .u8 so, .string wd, .string op, .string va, .bool sm, .int .i64 i, .int .i64 j, .string nt, .slice va1 va2 va3] 104 (by simp [World.setCell])
          case c2 => exact sbCells_one _ _ _ _ _ _ _ _ _ _ _
          case c3 => unfold maxLen; omega
          case c4 => omega
          case c5 => simp; omega
          intro g cap w7 own7 hgrow7 hat7 hlt7
          have KA := (hk6.alloc (.cells #[.int .u8 so, .string wd, .string op, .string va, .bool sm, .int .i64 i, .int .i64 j, .string nt, .slice va1 va2 va3] 104)).grownNew hgrow7 (fun k e => by have := (own6.lt k e).1; omega)
          have NB : ∀ {cc : Array Value} {ty : TypeId} {bk : Nat}, (w3.setCell ⟨wx.heap.size, 1, none⟩ (.string y)).heap[bk]? = some (.cells cc ty (0, 0)) → ty ≠ 104 → w7.heap[bk]? = some (.cells cc ty (0, 0)) := fun hb hty => kept_grown (own6.alloc _) hgrow7 (alloc_old hb _) hty
          have hm7 : Mk w7 mb s q' bad' a' m' := ⟨NB hm6.blk (by decide), hm6.le, hm6.max⟩
          have rs7 := NB rs6 (by decide)
          have ns7 := NB ns6 (by decide)
          have frg : Fr docL (fun g' => w.heap.size + 2 ≤ g' ∧ (Value.slice la k lc).ownBlock ≠ some g') (fun g' => w.heap.size + 2 ≤ g' ∧ (Value.slice (some ⟨g, 0, none⟩) (k + 1) cap).ownBlock ≠ some g') ((w3.setCell ⟨wx.heap.size, 1, none⟩ (.string y)).alloc (.cells #[.int .u8 so, .string wd, .string op, .string va, .bool sm, .int .i64 i, .int .i64 j, .string nt, .slice va1 va2 va3] 104)) w7 :=
            Fr.grown hgrow7 (by simpa using hat7) (fun k hk => hk.2) (fun k hk hne => ⟨hk.1, by simp only [Value.ownBlock, ne_eq, Option.some.injEq]; exact fun e => hne e.symm⟩)
          have fr8 : Fr docL (fun g' => w.heap.size + 2 ≤ g' ∧ (Value.slice (some ⟨g, 0, none⟩) (k + 1) cap).ownBlock ≠ some g') (fun g' => w.heap.size + 2 ≤ g' ∧ (Value.slice (some ⟨g, 0, none⟩) (k + 1) cap).ownBlock ≠ some g') w7 (w7.setCell ⟨w.heap.size + 1, 2, none⟩ (.slice (some ⟨g, 0, none⟩) (k + 1) cap)) := Fr.setOther (fun g' hg => by show g' ≠ w.heap.size + 1; omega) _
          have hrow8 := hrow6.out.mono fun _ _ hh => ((hh.mp (Fr.alloc (.cells #[.int .u8 so, .string wd, .string op, .string va, .bool sm, .int .i64 i, .int .i64 j, .string nt, .slice va1 va2 va3] 104) fun _ hg => hg)).mp frg).mp fr8
          have hlt8 : bad' = false → q < q' := fun hb => by
            rcases HST.out with ⟨_, x, hx, _⟩ | ⟨hc, _⟩
            · rw [hx] at hgd; exact hgd.2 x rfl
            · rw [hb] at hc; cases hc
          have HST8 : Hid ((bad' = false ∧ ∃ f cn d l, l.length = k + 1 ∧ k + 1 ≤ q' ∧ p ≤ q' ∧ a' = a + cn ∧ m' = max m (others + d) ∧ s.size < q' + f ∧ p + cn ≤ q' ∧ p + d ≤ q' ∧ Row (repS docL (RepL docL (fun g' => w.heap.size + 2 ≤ g' ∧ (Value.slice (some ⟨g, 0, none⟩) (k + 1) cap).ownBlock ≠ some g') (w7.setCell ⟨w.heap.size + 1, 2, none⟩ (.slice (some ⟨g, 0, none⟩) (k + 1) cap)) n)) l (xs ++ sbCells so wd op va sm i j nt (.slice va1 va2 va3)) ∧ simplesP (listP s n) s f l cn d q' = simplesP (listP s n) s (s.size + 1) [] 0 0 p) ∨
              (bad' = true ∧ simplesP (listP s n) s (s.size + 1) [] 0 0 p = (q', none))) := by
            rcases HST.out with ⟨rfl, x, hx, rfl, rfl, hrx⟩ | ⟨rfl, hx⟩
            · rw [hx] at hgd
              obtain ⟨⟨g1, g2, g3⟩, g4⟩ := hgd
              have g3 := g3 x rfl
              have g4 := g4 x rfl
              dsimp only at g1 g2 g3 g4
              have hA := HA.out; have hM := HM.out
              refine hide (.inl ⟨rfl, f, cn + x.2.1, max d x.2.2, l ++ [x.1], by rw [List.length_append, HLK.out]; rfl, by omega, by omega, by omega, by omega, by omega, by omega, by omega, hrow8.snoc ((((hrx.mp (Fr.same fun g' hg => ⟨by omega, fun e => by have := HOWN.out g' e; omega⟩)).mp (Fr.alloc (.cells #[.int .u8 so, .string wd, .string op, .string va, .bool sm, .int .i64 i, .int .i64 j, .string nt, .slice va1 va2 va3] 104) fun _ hg => hg)).mp frg).mp fr8), ?_⟩)
              rw [← HQ.out, sims_go HAt.out hx]
            · refine hide (.inr ⟨rfl, ?_⟩)
              rw [← HQ.out, sims_none HAt.out hx]
          have hm8 : Mk (w7.setCell ⟨w.heap.size + 1, 2, none⟩ (.slice (some ⟨g, 0, none⟩) (k + 1) cap)) mb s q' bad' a' m' := ⟨setCell_other hm7.blk (block_ne hm7.blk ns7 (by decide)) _, hm7.le, hm7.max⟩
          have rs8 := setCell_other (a := ⟨w.heap.size + 1, 2, none⟩) rs7 (by simp) (.slice (some ⟨g, 0, none⟩) (k + 1) cap)
          have ns8 : (w7.setCell ⟨w.heap.size + 1, 2, none⟩ (.slice (some ⟨g, 0, none⟩) (k + 1) cap)).heap[w.heap.size + 1]? = some (.cells #[.int .u8 0, .string (⟨#[]⟩ : ByteArray), .slice (some ⟨g, 0, none⟩) (k + 1) cap] 102 (0, 0)) := set_blk (o := 2) ns7 _
          have own8 := owns_other (R := w.heap.size + 1) (w' := w7.setCell ⟨w.heap.size + 1, 2, none⟩ (.slice (some ⟨g, 0, none⟩) (k + 1) cap)) (fun j hj => Below.heap_setCell _ _ _ _ hj) own7 (by omega)
          have KB := KA.setNew (p := ⟨w.heap.size + 1, 2, none⟩) (by simp) (.slice (some ⟨g, 0, none⟩) (k + 1) cap)
          clear hgrow7 NB frg fr8 hat7 own6 hrow6 hrow8 z0 z1' z2 z3 z4 z5 z6 z7 z8 t0 t1 t2 f2 HST KA own7 hs6 ns6 rs6 hk6 hm6
          obtain ⟨t0, t1, t2⟩ := cell3 ns7
          have f2 := free_of (o := 2) ns7
          have hpb := hm8.badM; have hpp := hm8.placeM
          go_wp2
          go_roundw
          case rel => exact ⟨q', bad', a', m', k + 1, _, _, ⟨hm8, rs8, ns8, own8, KB, fun e => absurd e (by omega), HST8.out⟩⟩
          case measure =>
            rw [hbm, hpl, hpb, hpp]
            cases bad'
            · have := hlt8 rfl; simp; omega
            · simp; omega
        · have H1 := hide h1
          have hlt : q < s.size := peek_in h1 (by decide)
          clear h1
          go_wp2_with fail
          refine (next_is mb s q false a1 m1 _ 91 hm (by rw [nextI_ok]; exact H1.out)).mono ?_
          rintro e w1 ⟨rfl, n1, rfl⟩
          replace hm := hm.drewN n1
          replace rs : (wr.drewN n1).heap[w.heap.size]? = some (.cells #[.int .u8 0, .string ⟨#[]⟩, .slice none 0 0] 102 (0, 0)) := rs
          replace ns : (wr.drewN n1).heap[w.heap.size + 1]? = some (.cells #[.int .u8 0, .string (⟨#[]⟩ : ByteArray), .slice la k lc] 102 (0, 0)) := ns
          replace own : (wr.drewN n1).ownsRow (w.heap.size + 2) 104 9 (.slice la k lc) k xs := own
          replace hk := hk.drewN n1
          replace hrow := hrow.mono fun _ _ hh => hh.mp (Fr.drewN (docL) (fun g => w.heap.size + 2 ≤ g ∧ (Value.slice la k lc).ownBlock ≠ some g) wr n1)
          clear d2
          generalize wr.drewN n1 = wx at *
          have e1 := hm.c1; have e3 := hm.c3; have x1 := hm.free (o := 1); have x3 := hm.free (o := 3); have hmb := lt_of_block hm.blk
          have hm3 := (hm.set1 (q := q + 1) (v := (q : Int) + 1) hlt (by omega)).set3 (a' := a1 + 1) (v := (a1 : Int) + 1) (by omega)
          have kp3 : Kp B [153] wx ((wx.setCell ⟨mb, 1, none⟩ (.int .i64 ((q : Int) + 1))).setCell ⟨mb, 3, none⟩ (.int .i64 ((a1 : Int) + 1))) := (hm.set1 (q := q + 1) (v := (q : Int) + 1) hlt (by omega)).kp (hm.kp (Kp.refl _ _ _) hB 1 _) hB 3 _
          go_wp2_with fail
          clear e1 e3 x1 x3
          have hs3 : Sb (((wx.setCell ⟨mb, 1, none⟩ (.int .i64 ((q : Int) + 1))).setCell ⟨mb, 3, none⟩ (.int .i64 ((a1 : Int) + 1))).alloc (.cells #[.int .u8 91, .string ⟨#[]⟩, .string ⟨#[]⟩, .string ⟨#[]⟩, .bool false, .int .i64 0, .int .i64 0, .string ⟨#[]⟩, .slice none 0 0] 104)) wx.heap.size 91 noB noB noB false 0 0 noB (.slice none 0 0) := alloc_at' _ (by simp [World.setCell])
          have hm4 := hm3.alloc (.cells #[.int .u8 91, .string ⟨#[]⟩, .string ⟨#[]⟩, .string ⟨#[]⟩, .bool false, .int .i64 0, .int .i64 0, .string ⟨#[]⟩, .slice none 0 0] 104)
          have hks : Ks B wx.heap.size wx (((wx.setCell ⟨mb, 1, none⟩ (.int .i64 ((q : Int) + 1))).setCell ⟨mb, 3, none⟩ (.int .i64 ((a1 : Int) + 1))).alloc (.cells #[.int .u8 91, .string ⟨#[]⟩, .string ⟨#[]⟩, .string ⟨#[]⟩, .bool false, .int .i64 0, .int .i64 0, .string ⟨#[]⟩, .slice none 0 0] 104)) := (kp3.alloc (.cells #[.int .u8 91, .string ⟨#[]⟩, .string ⟨#[]⟩, .string ⟨#[]⟩, .bool false, .int .i64 0, .int .i64 0, .string ⟨#[]⟩, .slice none 0 0] 104)).tm
          have hz2 := lt_of_block hs3
          have hBx : B ≤ wx.heap.size := by omega
          clear hm3 kp3
          generalize ((wx.setCell ⟨mb, 1, none⟩ (.int .i64 ((q : Int) + 1))).setCell ⟨mb, 3, none⟩ (.int .i64 ((a1 : Int) + 1))).alloc (.cells #[.int .u8 91, .string ⟨#[]⟩, .string ⟨#[]⟩, .string ⟨#[]⟩, .bool false, .int .i64 0, .int .i64 0, .string ⟨#[]⟩, .slice none 0 0] 104) = w2 at *
          refine (rasked_any B mb wx.heap.size s (q + 1) (a1 + 1) m1 91 (.slice none 0 0) _ hm4 hs3 hB hBx).mono ?_
          rintro e w3 ⟨rfl, hk3, hor⟩
          have hks6 := hks.trans hk3
          obtain ⟨so, wd, op, va, sm, i, j, nt, lv, hS⟩ : ∃ so wd op va sm i j nt lv, SimR mb wx.heap.size s n others q a1 m1 w2 w3 so wd op va sm i j nt lv := by
            obtain ⟨wd, op, va, sm, h⟩ := simR_attr (n := n) (others := others) (w := w2) H1.out hom1 hor
            exact ⟨_, _, _, _, _, _, _, _, _, h⟩
          clear hor
          obtain ⟨hs6, ⟨va1, va2, va3, rfl⟩, hor6⟩ := hS
          obtain ⟨bad', a', m', q', hm6, HST⟩ : ∃ bad' a' m' q', Mk w3 mb s q' bad' a' m' ∧ Hid ((bad' = false ∧ ∃ x, simpleP (listP s n) s q = (q', some x) ∧ a' = a1 + x.2.1 ∧ m' = max m1 (others + x.2.2) ∧ repS docL (RepL docL (fun g => wx.heap.size < g) w3 n) x.1 (sbCells so wd op va sm i j nt (.slice va1 va2 va3))) ∨ (bad' = true ∧ simpleP (listP s n) s q = (q', none))) := by
            rcases hor6 with ⟨x, hx, hmx, hrx⟩ | ⟨hx, a', m', hmx⟩
            · exact ⟨false, _, _, _, hmx, hide (.inl ⟨rfl, x, by rw [← hx], rfl, rfl, hrx.mp (Fr.same fun g hg => by omega)⟩)⟩
            · exact ⟨true, a', m', _, hmx, hide (.inr ⟨rfl, by rw [← hx]⟩)⟩
          have hz1 := lt_of_block ns
          have hk6 := hks6.new hk (by omega)
          have rs6 := hks6.at rs (by decide) (by omega)
          have ns6 := hks6.at ns (by decide) (by omega)
          have hown : ∀ g, (Value.slice la k lc).ownBlock = some g → g < wx.heap.size := fun g hg => (own.lt g hg).2
          have own6 := hks6.owns own (by decide) (fun g hg => by have := hown g hg; omega)
          have hrow6 := hide (hrow.mono fun _ _ hh => hh.mp (Fr.ofKs hks6 (Nat.le_refl _) fun _ hg => hg))
          have HOWN := hide hown
          have hz6 := lt_of_block hs6
          have hzw : wx.heap.size ≤ w3.heap.size := by simpa [World.setCell] using hks6.size
          clear hor6 hrow own rs ns hk hks6 hks hs3 hm4 hk3 hown
          obtain ⟨⟨z0, z1', z2, z3, z4, z5, z6, z7, z8⟩, _⟩ := cells9 hs6
          obtain ⟨t0, t1, t2⟩ := cell3 ns6
          have f2 := free_of (o := 2) ns6
          go_wp2_with (at_builtin; refine wpList_append_lies _ rfl _ _ 100 rfl (w.heap.size + 2) 104 i0 (.agg #[.int .u8 0, .string ⟨#[]⟩, .string ⟨#[]⟩, .string ⟨#[]⟩, .bool false, .int .i64 0, .int .i64 0, .string ⟨#[]⟩, .slice none 0 0]) 9 120 Tryz.underlying100 hi hy0 hy1 hy2 rfl (by decide) _ _ _ rfl (own6.alloc _) ⟨w3.heap.size, 0, none⟩ 1 1 (sbCells so wd op va sm i j nt (.slice va1 va2 va3)) rfl rfl ?c1 ?c2 (by decide) ?c3 ?c4 ?c5 _ rfl ?_)
          case c1 => exact cells_new #[.int .u8 so, .string wd, .string op, .string va, .bool sm, .int .i64 i, .int .i64 j, .string nt, .slice va1 va2 va3] 104 (rfl)
          case c2 => exact sbCells_one _ _ _ _ _ _ _ _ _ _ _
          case c3 => unfold maxLen; omega
          case c4 => omega
          case c5 => simp; omega
          intro g cap w7 own7 hgrow7 hat7 hlt7
          have KA := (hk6.alloc (.cells #[.int .u8 so, .string wd, .string op, .string va, .bool sm, .int .i64 i, .int .i64 j, .string nt, .slice va1 va2 va3] 104)).grownNew hgrow7 (fun k e => by have := (own6.lt k e).1; omega)
          have NB : ∀ {cc : Array Value} {ty : TypeId} {bk : Nat}, w3.heap[bk]? = some (.cells cc ty (0, 0)) → ty ≠ 104 → w7.heap[bk]? = some (.cells cc ty (0, 0)) := fun hb hty => kept_grown (own6.alloc _) hgrow7 (alloc_old hb _) hty
          have hm7 : Mk w7 mb s q' bad' a' m' := ⟨NB hm6.blk (by decide), hm6.le, hm6.max⟩
          have rs7 := NB rs6 (by decide)
          have ns7 := NB ns6 (by decide)
          have frg : Fr docL (fun g' => w.heap.size + 2 ≤ g' ∧ (Value.slice la k lc).ownBlock ≠ some g') (fun g' => w.heap.size + 2 ≤ g' ∧ (Value.slice (some ⟨g, 0, none⟩) (k + 1) cap).ownBlock ≠ some g') (w3.alloc (.cells #[.int .u8 so, .string wd, .string op, .string va, .bool sm, .int .i64 i, .int .i64 j, .string nt, .slice va1 va2 va3] 104)) w7 :=
            Fr.grown hgrow7 (by simpa using hat7) (fun k hk => hk.2) (fun k hk hne => ⟨hk.1, by simp only [Value.ownBlock, ne_eq, Option.some.injEq]; exact fun e => hne e.symm⟩)
          have fr8 : Fr docL (fun g' => w.heap.size + 2 ≤ g' ∧ (Value.slice (some ⟨g, 0, none⟩) (k + 1) cap).ownBlock ≠ some g') (fun g' => w.heap.size + 2 ≤ g' ∧ (Value.slice (some ⟨g, 0, none⟩) (k + 1) cap).ownBlock ≠ some g') w7 (w7.setCell ⟨w.heap.size + 1, 2, none⟩ (.slice (some ⟨g, 0, none⟩) (k + 1) cap)) := Fr.setOther (fun g' hg => by show g' ≠ w.heap.size + 1; omega) _
          have hrow8 := hrow6.out.mono fun _ _ hh => ((hh.mp (Fr.alloc (.cells #[.int .u8 so, .string wd, .string op, .string va, .bool sm, .int .i64 i, .int .i64 j, .string nt, .slice va1 va2 va3] 104) fun _ hg => hg)).mp frg).mp fr8
          have hlt8 : bad' = false → q < q' := fun hb => by
            rcases HST.out with ⟨_, x, hx, _⟩ | ⟨hc, _⟩
            · rw [hx] at hgd; exact hgd.2 x rfl
            · rw [hb] at hc; cases hc
          have HST8 : Hid ((bad' = false ∧ ∃ f cn d l, l.length = k + 1 ∧ k + 1 ≤ q' ∧ p ≤ q' ∧ a' = a + cn ∧ m' = max m (others + d) ∧ s.size < q' + f ∧ p + cn ≤ q' ∧ p + d ≤ q' ∧ Row (repS docL (RepL docL (fun g' => w.heap.size + 2 ≤ g' ∧ (Value.slice (some ⟨g, 0, none⟩) (k + 1) cap).ownBlock ≠ some g') (w7.setCell ⟨w.heap.size + 1, 2, none⟩ (.slice (some ⟨g, 0, none⟩) (k + 1) cap)) n)) l (xs ++ sbCells so wd op va sm i j nt (.slice va1 va2 va3)) ∧ simplesP (listP s n) s f l cn d q' = simplesP (listP s n) s (s.size + 1) [] 0 0 p) ∨
              (bad' = true ∧ simplesP (listP s n) s (s.size + 1) [] 0 0 p = (q', none))) := by
            rcases HST.out with ⟨rfl, x, hx, rfl, rfl, hrx⟩ | ⟨rfl, hx⟩
            · rw [hx] at hgd
              obtain ⟨⟨g1, g2, g3⟩, g4⟩ := hgd
              have g3 := g3 x rfl
              have g4 := g4 x rfl
              dsimp only at g1 g2 g3 g4
              have hA := HA.out; have hM := HM.out
              refine hide (.inl ⟨rfl, f, cn + x.2.1, max d x.2.2, l ++ [x.1], by rw [List.length_append, HLK.out]; rfl, by omega, by omega, by omega, by omega, by omega, by omega, by omega, hrow8.snoc ((((hrx.mp (Fr.same fun g' hg => ⟨by omega, fun e => by have := HOWN.out g' e; omega⟩)).mp (Fr.alloc (.cells #[.int .u8 so, .string wd, .string op, .string va, .bool sm, .int .i64 i, .int .i64 j, .string nt, .slice va1 va2 va3] 104) fun _ hg => hg)).mp frg).mp fr8), ?_⟩)
              rw [← HQ.out, sims_go HAt.out hx]
            · refine hide (.inr ⟨rfl, ?_⟩)
              rw [← HQ.out, sims_none HAt.out hx]
          have hm8 : Mk (w7.setCell ⟨w.heap.size + 1, 2, none⟩ (.slice (some ⟨g, 0, none⟩) (k + 1) cap)) mb s q' bad' a' m' := ⟨setCell_other hm7.blk (block_ne hm7.blk ns7 (by decide)) _, hm7.le, hm7.max⟩
          have rs8 := setCell_other (a := ⟨w.heap.size + 1, 2, none⟩) rs7 (by simp) (.slice (some ⟨g, 0, none⟩) (k + 1) cap)
          have ns8 : (w7.setCell ⟨w.heap.size + 1, 2, none⟩ (.slice (some ⟨g, 0, none⟩) (k + 1) cap)).heap[w.heap.size + 1]? = some (.cells #[.int .u8 0, .string (⟨#[]⟩ : ByteArray), .slice (some ⟨g, 0, none⟩) (k + 1) cap] 102 (0, 0)) := set_blk (o := 2) ns7 _
          have own8 := owns_other (R := w.heap.size + 1) (w' := w7.setCell ⟨w.heap.size + 1, 2, none⟩ (.slice (some ⟨g, 0, none⟩) (k + 1) cap)) (fun j hj => Below.heap_setCell _ _ _ _ hj) own7 (by omega)
          have KB := KA.setNew (p := ⟨w.heap.size + 1, 2, none⟩) (by simp) (.slice (some ⟨g, 0, none⟩) (k + 1) cap)
          clear hgrow7 NB frg fr8 hat7 own6 hrow6 hrow8 z0 z1' z2 z3 z4 z5 z6 z7 z8 t0 t1 t2 f2 HST KA own7 hs6 ns6 rs6 hk6 hm6
          obtain ⟨t0, t1, t2⟩ := cell3 ns7
          have f2 := free_of (o := 2) ns7
          have hpb := hm8.badM; have hpp := hm8.placeM
          go_wp2
          go_roundw
          case rel => exact ⟨q', bad', a', m', k + 1, _, _, ⟨hm8, rs8, ns8, own8, KB, fun e => absurd e (by omega), HST8.out⟩⟩
          case measure =>
            rw [hbm, hpl, hpb, hpp]
            cases bad'
            · have := hlt8 rfl; simp; omega
            · simp; omega
        · have H1 := hide h1
          have hlt : q < s.size := peek_in h1 (by decide)
          clear h1
          go_wp2_with fail
          refine (next_is mb s q false a1 m1 _ 58 hm (by rw [nextI_ok]; exact H1.out)).mono ?_
          rintro e w1 ⟨rfl, n1, rfl⟩
          replace hm := hm.drewN n1
          replace rs : (wr.drewN n1).heap[w.heap.size]? = some (.cells #[.int .u8 0, .string ⟨#[]⟩, .slice none 0 0] 102 (0, 0)) := rs
          replace ns : (wr.drewN n1).heap[w.heap.size + 1]? = some (.cells #[.int .u8 0, .string (⟨#[]⟩ : ByteArray), .slice la k lc] 102 (0, 0)) := ns
          replace own : (wr.drewN n1).ownsRow (w.heap.size + 2) 104 9 (.slice la k lc) k xs := own
          replace hk := hk.drewN n1
          replace hrow := hrow.mono fun _ _ hh => hh.mp (Fr.drewN (docL) (fun g => w.heap.size + 2 ≤ g ∧ (Value.slice la k lc).ownBlock ≠ some g) wr n1)
          clear d2
          generalize wr.drewN n1 = wx at *
          have e1 := hm.c1; have e3 := hm.c3; have x1 := hm.free (o := 1); have x3 := hm.free (o := 3); have hmb := lt_of_block hm.blk
          have hm3 := (hm.set1 (q := q + 1) (v := (q : Int) + 1) hlt (by omega)).set3 (a' := a1 + 1) (v := (a1 : Int) + 1) (by omega)
          have kp3 : Kp B [153] wx ((wx.setCell ⟨mb, 1, none⟩ (.int .i64 ((q : Int) + 1))).setCell ⟨mb, 3, none⟩ (.int .i64 ((a1 : Int) + 1))) := (hm.set1 (q := q + 1) (v := (q : Int) + 1) hlt (by omega)).kp (hm.kp (Kp.refl _ _ _) hB 1 _) hB 3 _
          go_wp2_with fail
          clear e1 e3 x1 x3
          have hs3 : Sb (((wx.setCell ⟨mb, 1, none⟩ (.int .i64 ((q : Int) + 1))).setCell ⟨mb, 3, none⟩ (.int .i64 ((a1 : Int) + 1))).alloc (.cells #[.int .u8 58, .string ⟨#[]⟩, .string ⟨#[]⟩, .string ⟨#[]⟩, .bool false, .int .i64 0, .int .i64 0, .string ⟨#[]⟩, .slice none 0 0] 104)) wx.heap.size 58 noB noB noB false 0 0 noB (.slice none 0 0) := alloc_at' _ (by simp [World.setCell])
          have hm4 := hm3.alloc (.cells #[.int .u8 58, .string ⟨#[]⟩, .string ⟨#[]⟩, .string ⟨#[]⟩, .bool false, .int .i64 0, .int .i64 0, .string ⟨#[]⟩, .slice none 0 0] 104)
          have hks : Ks B wx.heap.size wx (((wx.setCell ⟨mb, 1, none⟩ (.int .i64 ((q : Int) + 1))).setCell ⟨mb, 3, none⟩ (.int .i64 ((a1 : Int) + 1))).alloc (.cells #[.int .u8 58, .string ⟨#[]⟩, .string ⟨#[]⟩, .string ⟨#[]⟩, .bool false, .int .i64 0, .int .i64 0, .string ⟨#[]⟩, .slice none 0 0] 104)) := (kp3.alloc (.cells #[.int .u8 58, .string ⟨#[]⟩, .string ⟨#[]⟩, .string ⟨#[]⟩, .bool false, .int .i64 0, .int .i64 0, .string ⟨#[]⟩, .slice none 0 0] 104)).tm
          have hz2 := lt_of_block hs3
          have hBx : B ≤ wx.heap.size := by omega
          clear hm3 kp3
          generalize ((wx.setCell ⟨mb, 1, none⟩ (.int .i64 ((q : Int) + 1))).setCell ⟨mb, 3, none⟩ (.int .i64 ((a1 : Int) + 1))).alloc (.cells #[.int .u8 58, .string ⟨#[]⟩, .string ⟨#[]⟩, .string ⟨#[]⟩, .bool false, .int .i64 0, .int .i64 0, .string ⟨#[]⟩, .slice none 0 0] 104) = w2 at *
          refine (rpseudo_any B mb wx.heap.size s n others (q + 1) (a1 + 1) m1 _ IH hm4 hs3 hB hBx (by omega) (by omega) hom1 (by omega)).mono ?_
          rintro e w3 ⟨rfl, hk3, hor⟩
          have hks6 := hks.trans hk3
          obtain ⟨so, wd, op, va, sm, i, j, nt, lv, hS⟩ : ∃ so wd op va sm i j nt lv, SimR mb wx.heap.size s n others q a1 m1 w2 w3 so wd op va sm i j nt lv := simR_colon H1.out hor
          clear hor
          obtain ⟨hs6, ⟨va1, va2, va3, rfl⟩, hor6⟩ := hS
          obtain ⟨bad', a', m', q', hm6, HST⟩ : ∃ bad' a' m' q', Mk w3 mb s q' bad' a' m' ∧ Hid ((bad' = false ∧ ∃ x, simpleP (listP s n) s q = (q', some x) ∧ a' = a1 + x.2.1 ∧ m' = max m1 (others + x.2.2) ∧ repS docL (RepL docL (fun g => wx.heap.size < g) w3 n) x.1 (sbCells so wd op va sm i j nt (.slice va1 va2 va3))) ∨ (bad' = true ∧ simpleP (listP s n) s q = (q', none))) := by
            rcases hor6 with ⟨x, hx, hmx, hrx⟩ | ⟨hx, a', m', hmx⟩
            · exact ⟨false, _, _, _, hmx, hide (.inl ⟨rfl, x, by rw [← hx], rfl, rfl, hrx.mp (Fr.same fun g hg => by omega)⟩)⟩
            · exact ⟨true, a', m', _, hmx, hide (.inr ⟨rfl, by rw [← hx]⟩)⟩
          have hz1 := lt_of_block ns
          have hk6 := hks6.new hk (by omega)
          have rs6 := hks6.at rs (by decide) (by omega)
          have ns6 := hks6.at ns (by decide) (by omega)
          have hown : ∀ g, (Value.slice la k lc).ownBlock = some g → g < wx.heap.size := fun g hg => (own.lt g hg).2
          have own6 := hks6.owns own (by decide) (fun g hg => by have := hown g hg; omega)
          have hrow6 := hide (hrow.mono fun _ _ hh => hh.mp (Fr.ofKs hks6 (Nat.le_refl _) fun _ hg => hg))
          have HOWN := hide hown
          have hz6 := lt_of_block hs6
          have hzw : wx.heap.size ≤ w3.heap.size := by simpa [World.setCell] using hks6.size
          clear hor6 hrow own rs ns hk hks6 hks hs3 hm4 hk3 hown
          obtain ⟨⟨z0, z1', z2, z3, z4, z5, z6, z7, z8⟩, _⟩ := cells9 hs6
          obtain ⟨t0, t1, t2⟩ := cell3 ns6
          have f2 := free_of (o := 2) ns6
          go_wp2_with (at_builtin; refine wpList_append_lies _ rfl _ _ 100 rfl (w.heap.size + 2) 104 i0 (.agg #[.int .u8 0, .string ⟨#[]⟩, .string ⟨#[]⟩, .string ⟨#[]⟩, .bool false, .int .i64 0, .int .i64 0, .string ⟨#[]⟩, .slice none 0 0]) 9 120 Tryz.underlying100 hi hy0 hy1 hy2 rfl (by decide) _ _ _ rfl (own6.alloc _) ⟨w3.heap.size, 0, none⟩ 1 1 (sbCells so wd op va sm i j nt (.slice va1 va2 va3)) rfl rfl ?c1 ?c2 (by decide) ?c3 ?c4 ?c5 _ rfl ?_)
          case c1 => exact cells_new #[.int .u8 so, .string wd, .string op, .string va, .bool sm, .int .i64 i, .int .i64 j, .string nt, .slice va1 va2 va3] 104 (rfl)
          case c2 => exact sbCells_one _ _ _ _ _ _ _ _ _ _ _
          case c3 => unfold maxLen; omega
          case c4 => omega
          case c5 => simp; omega
          intro g cap w7 own7 hgrow7 hat7 hlt7
          have KA := (hk6.alloc (.cells #[.int .u8 so, .string wd, .string op, .string va, .bool sm, .int .i64 i, .int .i64 j, .string nt, .slice va1 va2 va3] 104)).grownNew hgrow7 (fun k e => by have := (own6.lt k e).1; omega)
          have NB : ∀ {cc : Array Value} {ty : TypeId} {bk : Nat}, w3.heap[bk]? = some (.cells cc ty (0, 0)) → ty ≠ 104 → w7.heap[bk]? = some (.cells cc ty (0, 0)) := fun hb hty => kept_grown (own6.alloc _) hgrow7 (alloc_old hb _) hty
          have hm7 : Mk w7 mb s q' bad' a' m' := ⟨NB hm6.blk (by decide), hm6.le, hm6.max⟩
          have rs7 := NB rs6 (by decide)
          have ns7 := NB ns6 (by decide)
          have frg : Fr docL (fun g' => w.heap.size + 2 ≤ g' ∧ (Value.slice la k lc).ownBlock ≠ some g') (fun g' => w.heap.size + 2 ≤ g' ∧ (Value.slice (some ⟨g, 0, none⟩) (k + 1) cap).ownBlock ≠ some g') (w3.alloc (.cells #[.int .u8 so, .string wd, .string op, .string va, .bool sm, .int .i64 i, .int .i64 j, .string nt, .slice va1 va2 va3] 104)) w7 :=
            Fr.grown hgrow7 (by simpa using hat7) (fun k hk => hk.2) (fun k hk hne => ⟨hk.1, by simp only [Value.ownBlock, ne_eq, Option.some.injEq]; exact fun e => hne e.symm⟩)
          have fr8 : Fr docL (fun g' => w.heap.size + 2 ≤ g' ∧ (Value.slice (some ⟨g, 0, none⟩) (k + 1) cap).ownBlock ≠ some g') (fun g' => w.heap.size + 2 ≤ g' ∧ (Value.slice (some ⟨g, 0, none⟩) (k + 1) cap).ownBlock ≠ some g') w7 (w7.setCell ⟨w.heap.size + 1, 2, none⟩ (.slice (some ⟨g, 0, none⟩) (k + 1) cap)) := Fr.setOther (fun g' hg => by show g' ≠ w.heap.size + 1; omega) _
          have hrow8 := hrow6.out.mono fun _ _ hh => ((hh.mp (Fr.alloc (.cells #[.int .u8 so, .string wd, .string op, .string va, .bool sm, .int .i64 i, .int .i64 j, .string nt, .slice va1 va2 va3] 104) fun _ hg => hg)).mp frg).mp fr8
          have hlt8 : bad' = false → q < q' := fun hb => by
            rcases HST.out with ⟨_, x, hx, _⟩ | ⟨hc, _⟩
            · rw [hx] at hgd; exact hgd.2 x rfl
            · rw [hb] at hc; cases hc
          have HST8 : Hid ((bad' = false ∧ ∃ f cn d l, l.length = k + 1 ∧ k + 1 ≤ q' ∧ p ≤ q' ∧ a' = a + cn ∧ m' = max m (others + d) ∧ s.size < q' + f ∧ p + cn ≤ q' ∧ p + d ≤ q' ∧ Row (repS docL (RepL docL (fun g' => w.heap.size + 2 ≤ g' ∧ (Value.slice (some ⟨g, 0, none⟩) (k + 1) cap).ownBlock ≠ some g') (w7.setCell ⟨w.heap.size + 1, 2, none⟩ (.slice (some ⟨g, 0, none⟩) (k + 1) cap)) n)) l (xs ++ sbCells so wd op va sm i j nt (.slice va1 va2 va3)) ∧ simplesP (listP s n) s f l cn d q' = simplesP (listP s n) s (s.size + 1) [] 0 0 p) ∨
              (bad' = true ∧ simplesP (listP s n) s (s.size + 1) [] 0 0 p = (q', none))) := by
            rcases HST.out with ⟨rfl, x, hx, rfl, rfl, hrx⟩ | ⟨rfl, hx⟩
            · rw [hx] at hgd
              obtain ⟨⟨g1, g2, g3⟩, g4⟩ := hgd
              have g3 := g3 x rfl
              have g4 := g4 x rfl
              dsimp only at g1 g2 g3 g4
              have hA := HA.out; have hM := HM.out
              refine hide (.inl ⟨rfl, f, cn + x.2.1, max d x.2.2, l ++ [x.1], by rw [List.length_append, HLK.out]; rfl, by omega, by omega, by omega, by omega, by omega, by omega, by omega, hrow8.snoc ((((hrx.mp (Fr.same fun g' hg => ⟨by omega, fun e => by have := HOWN.out g' e; omega⟩)).mp (Fr.alloc (.cells #[.int .u8 so, .string wd, .string op, .string va, .bool sm, .int .i64 i, .int .i64 j, .string nt, .slice va1 va2 va3] 104) fun _ hg => hg)).mp frg).mp fr8), ?_⟩)
              rw [← HQ.out, sims_go HAt.out hx]
            · refine hide (.inr ⟨rfl, ?_⟩)
              rw [← HQ.out, sims_none HAt.out hx]
          have hm8 : Mk (w7.setCell ⟨w.heap.size + 1, 2, none⟩ (.slice (some ⟨g, 0, none⟩) (k + 1) cap)) mb s q' bad' a' m' := ⟨setCell_other hm7.blk (block_ne hm7.blk ns7 (by decide)) _, hm7.le, hm7.max⟩
          have rs8 := setCell_other (a := ⟨w.heap.size + 1, 2, none⟩) rs7 (by simp) (.slice (some ⟨g, 0, none⟩) (k + 1) cap)
          have ns8 : (w7.setCell ⟨w.heap.size + 1, 2, none⟩ (.slice (some ⟨g, 0, none⟩) (k + 1) cap)).heap[w.heap.size + 1]? = some (.cells #[.int .u8 0, .string (⟨#[]⟩ : ByteArray), .slice (some ⟨g, 0, none⟩) (k + 1) cap] 102 (0, 0)) := set_blk (o := 2) ns7 _
          have own8 := owns_other (R := w.heap.size + 1) (w' := w7.setCell ⟨w.heap.size + 1, 2, none⟩ (.slice (some ⟨g, 0, none⟩) (k + 1) cap)) (fun j hj => Below.heap_setCell _ _ _ _ hj) own7 (by omega)
          have KB := KA.setNew (p := ⟨w.heap.size + 1, 2, none⟩) (by simp) (.slice (some ⟨g, 0, none⟩) (k + 1) cap)
          clear hgrow7 NB frg fr8 hat7 own6 hrow6 hrow8 z0 z1' z2 z3 z4 z5 z6 z7 z8 t0 t1 t2 f2 HST KA own7 hs6 ns6 rs6 hk6 hm6
          obtain ⟨t0, t1, t2⟩ := cell3 ns7
          have f2 := free_of (o := 2) ns7
          have hpb := hm8.badM; have hpp := hm8.placeM
          go_wp2
          go_roundw
          case rel => exact ⟨q', bad', a', m', k + 1, _, _, ⟨hm8, rs8, ns8, own8, KB, fun e => absurd e (by omega), HST8.out⟩⟩
          case measure =>
            rw [hbm, hpl, hpb, hpp]
            cases bad'
            · have := hlt8 rfl; simp; omega
            · simp; omega
end Go.Proofs.YtclpcnignheijaaGreatDoor
