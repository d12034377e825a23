import Derived.Test.YtclpcnignheijaaGreatDoorE3
namespace Go.Proofs.YtclpcnignheijaaGreatDoor
open Go.RowKit

theorem Kp.fromDrew {B : Nat} {T : List TypeId} {a w : World} (h : Kp B T a.drew w) : Kp B T a w := ⟨h.os, h.tape, h.output, h.size, h.block⟩
theorem Dc.keptW {B B' db : Nat} {w w' : World} {b : BS} (h : Dc w B db b) (k : Kp B' TW w w') : Dc w' B db b := by
  obtain ⟨ve, avs, a1, a2, a3, a5⟩ := h
  exact ⟨ve, avs, k.at a1 (by decide), a2, k.owns a3 (by decide), fun i x a hx ha => k.owns (a5 i x a hx ha) (by decide)⟩
def tsp : List UInt8 := [38, 60, 62]
def vsp : List UInt8 := [38, 60, 34]
def txtPart (b : BS) (pl q : Nat) : List UInt8 := (b.txt.drop pl).take (q - pl)
theorem wr_cells {w : World} {B wb db : Nat} {out : List UInt8} {pl : Nat} {op : Int} (h : Wr w B wb db out pl op) : w.cell? ⟨wb, 0, none⟩ = some (.pointer (some ⟨db, 0, none⟩)) ∧ w.cell? ⟨wb, 3, none⟩ = some (.int .i64 (pl : Int)) ∧ w.cell? ⟨wb, 4, none⟩ = some (.int .i64 op) ∧ w.frozen? ⟨wb, 3, none⟩ = false ∧ w.frozen? ⟨wb, 4, none⟩ = false := by
  obtain ⟨sa, vb, a1, a2, a3⟩ := h
  obtain ⟨c0, c1, c2, c3, c4⟩ := cell5 a1
  exact ⟨c0, c3, c4, free_of a1, free_of a1⟩
theorem dc_text {w : World} {B db : Nat} {b : BS} (h : Dc w B db b) : w.cell? ⟨db, 1, none⟩ = some (.string ⟨b.txt.toArray⟩) := by
  obtain ⟨ve, avs, a1, a2, a3, a5⟩ := h
  exact cell2_1 a1
theorem wr_place {w : World} {B wb db : Nat} {out : List UInt8} {pl q : Nat} {op : Int} (h : Wr w B wb db out pl op) (hB : B ≤ wb) : Wr (w.setCell ⟨wb, 3, none⟩ (.int .i64 (q : Int))) B wb db out q op ∧ Kp B TW w (w.setCell ⟨wb, 3, none⟩ (.int .i64 (q : Int))) := by
  obtain ⟨sa, vb, a1, a2, a3⟩ := h
  exact ⟨⟨sa, vb, five_set3 a1, a2, owns_set (p := ⟨wb, 3, none⟩) a3 a1 (by decide) _⟩, (Kp.refl _ _ _).setCell (p := ⟨wb, 3, none⟩) a1 (by decide) hB _⟩
theorem wr_open {w : World} {B wb db : Nat} {out : List UInt8} {pl : Nat} {op o' : Int} (h : Wr w B wb db out pl op) (hB : B ≤ wb) : Wr (w.setCell ⟨wb, 4, none⟩ (.int .i64 o')) B wb db out pl o' ∧ Kp B TW w (w.setCell ⟨wb, 4, none⟩ (.int .i64 o')) := by
  obtain ⟨sa, vb, a1, a2, a3⟩ := h
  exact ⟨⟨sa, vb, five_set4 a1, a2, owns_set (p := ⟨wb, 4, none⟩) a3 a1 (by decide) _⟩, (Kp.refl _ _ _).setCell (p := ⟨wb, 4, none⟩) a1 (by decide) hB _⟩

set_option maxRecDepth 100000 in
set_option maxHeartbeats 2000000 in
theorem textUpTo_any (B wb db : Nat) (b : BS) (out : List UInt8) (pl q : Nat) (op : Int) (w : World) (h : Wr w B wb db out pl op) (hd : Dc w B db b) (hB : B ≤ wb) (hg : Gl w) (hB0 : 1 < B) (h1 : pl ≤ q) (h2 : q ≤ b.txt.length) (h3 : b.txt.length ≤ 5000) (hs : out.length + (escL tsp (txtPart b pl q)).length ≤ 1000000) :
    Calls Tryz.prog 75 #[.pointer (some ⟨wb, 0, none⟩), .int .i64 (q : Int)] w fun e w' => e = .returned (.tuple #[]) ∧ Wr w' B wb db (out ++ escL tsp (txtPart b pl q)) q op ∧ Kp B TW w w' := by
  obtain ⟨c0, c3, c4, f3, f4⟩ := wr_cells h
  have d1 := dc_text hd
  have hext : (⟨b.txt.toArray⟩ : ByteArray).extract pl q = ⟨(txtPart b pl q).toArray⟩ := ba_extract _ _ _
  have hlen : (txtPart b pl q).length ≤ 5000 := by unfold txtPart; simp; omega
  have hsl : ∀ wx : World, (Instr.slice 9 (.string ⟨b.txt.toArray⟩) (some (.int .i64 (pl : Int))) (some (.int .i64 (q : Int))) none).run Tryz.prog wx = .ok (.string ⟨(txtPart b pl q).toArray⟩) wx := fun wx => by
    rw [run_slice_string wx 9 _ .i64 .i64 (pl : Int) (q : Int) Tryz.underlying9 (by omega) (by omega) (by show (q : Int) ≤ (b.txt.toArray.size : Int); simp; omega)]
    rw [Int.toNat_natCast, Int.toNat_natCast, hext]
  have HL := hide hlen; have HX := hide hext
  clear hlen hext
  have hi1 : (pl : Int) ≤ (q : Int) := by omega
  have hi2 : (q : Int) ≤ (b.txt.length : Int) := by omega
  go_enter Tryz.func75, Tryz.ntmps75
  go_wp2
  go_region_held3 (fun wx => wx.cell? ⟨wb, 0, none⟩ = some (.pointer (some ⟨db, 0, none⟩)) ∧ wx.cell? ⟨wb, 3, none⟩ = some (.int .i64 (pl : Int)) ∧ wx.cell? ⟨db, 1, none⟩ = some (.string ⟨b.txt.toArray⟩)) (first | exact hS | simp [go_sem, *]) (first | (go_at_call 113; refine (escaped_any B wb db out pl op ⟨(txtPart b pl q).toArray⟩ ⟨#[38, 60, 62]⟩ w.drew h hB hg hB0 rfl ?_ ?_).mono ?_; (have := HL.out; show (txtPart b pl q).toArray.size ≤ _; simp only [List.size_toArray]; omega); (exact hs); rintro e w1 ⟨rfl, hw1, hk1'⟩; have hk1 := hk1'.fromDrew; have g1 := wr_cells hw1; have hS := And.intro g1.1 (And.intro g1.2.1 (dc_text (hd.keptW hk1)))))
  have f3' := g1.2.2.2.1
  have g3 := g1.2.1
  go_wp2
  go_end0
  exact ⟨rfl, (wr_place hw1 hB).1, hk1.trans (wr_place hw1 hB).2⟩

/-! ### The writer, in plain words -/
structure WS where
  out : List UInt8
  pl : Nat
  op : Int
def textUpP (b : BS) (s : WS) (q : Int) : Option WS :=
  if (s.pl : Int) ≤ q ∧ q ≤ b.txt.length then some ⟨s.out ++ escL tsp (txtPart b s.pl q.toNat), q.toNat, s.op⟩ else none
def closeL (n : ByteArray) : List UInt8 := if voidB n = true then [] else [60, 47] ++ n.data.toList ++ [62]
def closeP (b : BS) (around : Int) : Nat → WS → Option WS
  | 0, s => if s.op = around then some s else none
  | f + 1, s =>
    if s.op = around then some s
    else if s.op < 0 then none
    else match b.els[s.op.toNat]? with
      | none => none
      | some x =>
        if x.parent < s.op then
          match textUpP b s x.hi with
          | none => none
          | some s' => closeP b around f ⟨s'.out ++ closeL x.name, s'.pl, x.parent⟩
        else none
theorem textUpP_mono {b : BS} {s s' : WS} {q : Int} (h : textUpP b s q = some s') : s.out.length ≤ s'.out.length ∧ s'.op = s.op := by
  unfold textUpP at h
  split at h
  · cases h; simp
  · cases h
theorem closeP_mono {b : BS} {around : Int} : ∀ (f : Nat) (s s' : WS), closeP b around f s = some s' → s.out.length ≤ s'.out.length
  | 0, s, s', h => by
    rw [closeP] at h
    split at h
    · cases h; exact Nat.le_refl _
    · cases h
  | f + 1, s, s', h => by
    rw [closeP] at h
    split at h
    · cases h; exact Nat.le_refl _
    · split at h
      · cases h
      · split at h
        · cases h
        · split at h
          · split at h
            · cases h
            · rename_i s1 h1
              have m1 := (textUpP_mono h1).1
              have m2 := closeP_mono f _ s' h
              simp only [List.length_append] at m2
              omega
          · cases h

/-- What is open, for the loop's measure. -/
def openOf (w : World) (wb : Nat) : Nat := match w.cell? ⟨wb, 4, none⟩ with | some (.int _ x) => (x + 1).toNat | _ => 0
theorem wr_openOf {w : World} {B wb db : Nat} {out : List UInt8} {pl : Nat} {op : Int} (h : Wr w B wb db out pl op) : openOf w wb = (op + 1).toNat := by
  unfold openOf; rw [(wr_cells h).2.2.1]

/-- An element's cells. -/
theorem dc_el {w : World} {B db : Nat} {b : BS} (h : Dc w B db b) {k : Nat} {x : El} (hx : b.els[k]? = some x) :
    ∃ g cap aoa cpa, w.cell? ⟨db, 0, none⟩ = some (.slice (some ⟨g, 0, none⟩) b.els.length cap) ∧ w.cell? ⟨g, k * 5, none⟩ = some (.string x.name) ∧ w.cell? ⟨g, k * 5 + 1, none⟩ = some (.int .i64 x.parent) ∧ w.cell? ⟨g, k * 5 + 2, none⟩ = some (.slice aoa x.attrs.length cpa) ∧
      w.cell? ⟨g, k * 5 + 3, none⟩ = some (.int .i64 x.lo) ∧ w.cell? ⟨g, k * 5 + 4, none⟩ = some (.int .i64 x.hi) ∧ w.ownsRow B 169 2 (.slice aoa x.attrs.length cpa) x.attrs.length (attrCells x.attrs) ∧ g < w.heap.size ∧ db < w.heap.size := by
  obtain ⟨ve, avs, a1, a2, a3, a5⟩ := h
  have hlt : k < b.els.length := (List.getElem?_eq_some_iff.1 hx).1
  obtain ⟨g, cap, hv, hBg, hgs⟩ := row_form a3 (by omega)
  subst hv
  have hav : avs[k]? = some (avs[k]'(by omega)) := List.getElem?_eq_getElem (by omega)
  generalize avs[k]'(by omega) = av at hav
  obtain ⟨e0, e1, e2, e3, e4⟩ := elCells_at b.els avs k x _ hx hav
  have oa := a5 k x av hx hav
  obtain ⟨aoa, cpa, hav2⟩ := owns_shape oa
  subst hav2
  exact ⟨g, cap, aoa, cpa, cell2_0 a1, by rw [a3.cellAt _ (by omega), e0], by rw [a3.cellAt _ (by omega), e1], by rw [a3.cellAt _ (by omega), e2], by rw [a3.cellAt _ (by omega), e3], by rw [a3.cellAt _ (by omega), e4], oa, hgs, lt_of_block a1⟩
theorem cell5' {w : World} {b : Nat} {x y z u v : Value} {t : TypeId} (h : w.heap[b]? = some (.cells #[x, y, z, u, v] t (0, 0))) :
    w.cell? ⟨b, 0, none⟩ = some x ∧ w.cell? ⟨b, 1, none⟩ = some y ∧ w.cell? ⟨b, 2, none⟩ = some z ∧ w.cell? ⟨b, 3, none⟩ = some u ∧ w.cell? ⟨b, 4, none⟩ = some v := cell5 h

set_option maxRecDepth 100000 in
set_option maxHeartbeats 4000000 in
theorem closeUpTo_any (B wb db : Nat) (b : BS) (around : Int) (F : Nat) (s fin : WS) (w : World) (h : Wr w B wb db s.out s.pl s.op) (hd : Dc w B db b) (hB : B ≤ wb) (hg : Gl w) (hB0 : 1 < B) (h3 : b.txt.length ≤ 5000) (_h4 : b.els.length ≤ 5000) (hn : ∀ (i : Nat) (x : El), b.els[i]? = some x → x.name.size ≤ 16)
    (hf : closeP b around F s = some fin) (hs : fin.out.length ≤ 1000000) :
    Calls Tryz.prog 74 #[.pointer (some ⟨wb, 0, none⟩), .int .i64 around] w fun e w' => e = .returned (.tuple #[]) ∧ Wr w' B wb db fin.out fin.pl fin.op ∧ Kp B TW w w' := by
  go_enter Tryz.func74, Tryz.ntmps74
  go_wp2
  go_loopw [5] (fun _ wr => ∃ (f : Nat) (st : WS), Wr wr B wb db st.out st.pl st.op ∧ Hid (closeP b around f st = some fin) ∧ Kp B TW w wr) (fun _ wr => openOf wr wb)
  case atStart => exact ⟨F, s, h, hf, Kp.refl _ _ _⟩
  case round =>
    clear h hf
    obtain ⟨f, st, hwr, HQ, hk⟩ := hrel
    have hdr := hd.keptW hk
    obtain ⟨c0, c3, c4, f3, f4⟩ := wr_cells hwr
    by_cases he : st.op = around
    · have hfin : st = fin := by
        have := HQ.out
        cases f with
        | zero => rw [closeP, if_pos he] at this; exact Option.some.inj this
        | succ f => rw [closeP, if_pos he] at this; exact Option.some.inj this
      subst hfin
      have he' : (st.op != around) = false := by simp [he]
      clear he
      go_wp2
      go_end0
      exact ⟨rfl, hwr, hk⟩
    · have hex : ∃ (f' k : Nat) (x : El) (s' : WS), st.op = (k : Int) ∧ b.els[k]? = some x ∧ x.parent < st.op ∧ textUpP b st x.hi = some s' ∧ closeP b around f' ⟨s'.out ++ closeL x.name, s'.pl, x.parent⟩ = some fin := by
        have := HQ.out
        cases f with
        | zero => rw [closeP, if_neg he] at this; cases this
        | succ f =>
          rw [closeP, if_neg he] at this
          split at this
          · cases this
          · split at this
            · cases this
            · rename_i hneg _ x hx
              split at this
              · split at this
                · cases this
                · rename_i hp _ s' hs'
                  exact ⟨f, st.op.toNat, x, s', by omega, hx, hp, hs', this⟩
              · cases this
      obtain ⟨f', k, x, s', hk1, hx, hpar, htx, hcl⟩ := hex
      have hlt : k < b.els.length := (List.getElem?_eq_some_iff.1 hx).1
      have hnx := hn k x hx
      obtain ⟨q, hq1, hq2, hq3, hq4⟩ : ∃ q : Nat, x.hi = (q : Int) ∧ st.pl ≤ q ∧ q ≤ b.txt.length ∧ s' = ⟨st.out ++ escL tsp (txtPart b st.pl q), q, st.op⟩ := by
        unfold textUpP at htx
        split at htx
        · rename_i hc
          exact ⟨x.hi.toNat, by omega, by omega, by omega, (Option.some.inj htx).symm⟩
        · cases htx
      subst hq4
      have hmono := closeP_mono f' _ fin hcl
      simp only [List.length_append] at hmono
      have he' : (st.op != around) = true := by simp [he]
      rw [hk1] at hwr c4 he' hpar
      obtain ⟨g, cap, aoa, cpa, d0, e0, e1, e2, e3, e4, eo, hgs, hdbs⟩ := dc_el hdr hx
      rw [hq1] at e4
      have HCL := hide hcl; have HK1 := hide hk1
      clear he hk1 hx htx hcl eo HQ
      have hwbs : wb < wr.heap.size := by obtain ⟨sa, vb, a1, _⟩ := hwr; exact lt_of_block a1
      have hks : (k : Int) < (b.els.length : Int) := by omega
      go_wp2
      go_region_held3 (fun wx => wx.cell? ⟨wb, 0, none⟩ = some (.pointer (some ⟨db, 0, none⟩)) ∧ wx.cell? ⟨wb, 4, none⟩ = some (.int .i64 (k : Int)) ∧ wx.cell? ⟨db, 0, none⟩ = some (.slice (some ⟨g, 0, none⟩) b.els.length cap) ∧ wx.cell? ⟨g, k * 5, none⟩ = some (.string x.name) ∧ wx.cell? ⟨g, k * 5 + 1, none⟩ = some (.int .i64 x.parent) ∧ wx.cell? ⟨g, k * 5 + 1 + 1, none⟩ = some (.slice aoa x.attrs.length cpa) ∧ wx.cell? ⟨g, k * 5 + 1 + 1 + 1, none⟩ = some (.int .i64 x.lo) ∧ wx.cell? ⟨g, k * 5 + 1 + 1 + 1 + 1, none⟩ = some (.int .i64 (q : Int))) (simp [go_sem, World.cell?_alloc_past, *]) (fail)
      go_wp2_with fail
      refine (textUpTo_any B wb db b st.out st.pl q (k : Int) _ ?_ ?_ hB ?_ hB0 hq2 hq3 h3 (by omega)).mono ?_
      · exact hwr.kept ((Kp.refl 0 [] wr).alloc _).drew (by simp) (by simp)
      · exact hdr.keptW ((Kp.refl 0 TW wr).alloc _).drew
      · exact (hg.kept hk hB0).alloc _
      rintro e w1 ⟨rfl, hw1, hk1⟩
      have bx1 := hk1.at (k := wr.heap.size) (t := 139) (alloc_at wr _) (by decide)
      obtain ⟨z0, z1, z2, z3, z4⟩ := cell5 bx1
      have K1 := (hk.alloc _).trans hk1.fromDrew
      have hmono2 : (closeL x.name).length ≤ 1000000 := by omega
      cases hv : voidB x.name
      · have HV := hide hv
        have hcl : closeL x.name = [60, 47] ++ x.name.data.toList ++ [62] := by unfold closeL; rw [hv]; rfl
        have HC2 := hide hcl
        clear hv hcl
        go_wp2_with (go_at_call 111; refine (isVoid_is x.name _ _ HV.out).mono ?_; rintro e w2 ⟨rfl, rfl⟩)
        have hstr : (({ data := #[60, 47] } : ByteArray) ++ x.name ++ { data := #[62] }).data.toList = closeL x.name := by rw [HC2.out]; simp [ByteArray.data_append]
        have HStr := hide hstr
        have hss : (({ data := #[60, 47] } : ByteArray) ++ x.name ++ { data := #[62] }).size = (closeL x.name).length := by rw [Lib.size_eq, hstr]
        have HSS := hide hss
        clear hstr hss
        go_region_with (go_at_call 112; refine (sbWrite_any B wb db _ q (k : Int) _ w2.drew hw1 hB ?_).mono ?_; (rw [HSS.out, List.length_append]; omega); rintro e w3 ⟨rfl, hw3, hk3'⟩; have hk3 := hk3'.fromDrew; have bx3 := hk3.at bx1 (by decide))
        all_goals
          rw [HStr.out] at hw3
          obtain ⟨y0, y1, y2, y3, y4⟩ := cell5 bx3
          obtain ⟨v0, v3, v4, vf3, vf4⟩ := wr_cells hw3
          go_wp2
          go_roundw
          case rel =>
            have o := wr_open (o' := x.parent) hw3 hB
            exact ⟨f', ⟨_, q, x.parent⟩, o.1, HCL, (K1.trans hk3).trans o.2⟩
          case measure =>
            rw [wr_openOf (wr_open (o' := x.parent) hw3 hB).1, wr_openOf hwr]
            omega
      · have HV := hide hv
        have hcl : closeL x.name = [] := by unfold closeL; rw [hv]; rfl
        have HC2 := hide hcl
        clear hv hcl
        obtain ⟨v0, v3, v4, vf3, vf4⟩ := wr_cells hw1
        go_wp2_with (go_at_call 111; refine (isVoid_is x.name _ _ HV.out).mono ?_; rintro e w2 ⟨rfl, rfl⟩)
        go_roundw
        case rel =>
          have o := wr_open (o' := x.parent) hw1 hB
          have hcl2 := HCL.out
          rw [HC2.out, List.append_nil] at hcl2
          exact ⟨f', ⟨_, q, x.parent⟩, o.1, hcl2, K1.trans o.2⟩
        case measure =>
          rw [wr_openOf (wr_open (o' := x.parent) hw1 hB).1, wr_openOf hwr]
          omega
end Go.Proofs.YtclpcnignheijaaGreatDoor
