import Derived.Test.YtclpcnignheijaaGreatDoorD7
import Derived.Lib.Builder
import Derived.Lib.UnsafeStr
namespace Go.Proofs.YtclpcnignheijaaGreatDoor
open Go.RowKit

/-! ### strings.Contains, at one byte -/
set_option maxRecDepth 100000 in
set_option maxHeartbeats 1000000 in
theorem slIndex_one (t o : ByteArray) (c : UInt8) (w : World) (h : o.data.toList = [c]) (hne : (o.toList == t.toList) = false) :
    Calls Tryz.prog 237 #[.string t, .string o] w fun e w' => e = .returned (.int .i64 (Lib.indexByte t.data.toList c)) ∧ w' = w := by
  have hs : o.size = 1 := by
    have : o.data.toList.length = o.size := by simp
    rw [h] at this; exact this.symm
  have hlt : 0 < o.size := by omega
  have h0 : (o[0]'hlt).toNat = c.toNat := by
    have : o.data.toList[0]'(by rw [h]; exact Nat.one_pos) = c := by simp [h]
    rw [← this]; rfl
  have hsz : ((o.size : Int) == 0) = false := by rw [hs]; decide
  have hsz1 : ((o.size : Int) == 1) = true := by rw [hs]; decide
  have H0 := hide h0
  clear h hs h0
  go_enter Tryz.func237, Tryz.ntmps237
  go_wp2_with (go_at_call 242; refine (slIndexByte_any _ _ _).mono ?_; rintro e w' ⟨rfl, rfl⟩)
  go_ret
  refine ⟨?_, rfl⟩
  have e : o[0]'hlt = c := UInt8.toNat_inj.1 H0.out
  rw [← e]
  rfl
set_option maxHeartbeats 400000 in
theorem contains_one (t o : ByteArray) (c : UInt8) (w : World) (v : Bool) (h : o.data.toList = [c]) (hne : (o.toList == t.toList) = false) (hv : inB t.data.toList (c.toNat : Int) = v) :
    Calls Tryz.prog 178 #[.string t, .string o] w fun e w' => e = .returned (.bool v) ∧ w' = w := by
  have hi : (0 ≤ Lib.indexByte t.data.toList c) ↔ v = true := by
    rw [← hv]
    have := inB_index t.data.toList (c.toNat : Int) (by omega) (by have := c.toNat_lt; omega)
    rwa [show ((c.toNat : Int)).toNat.toUInt8 = c from UInt8.toNat_inj.1 (by rw [Int.toNat_natCast, Nat.toUInt8, UInt8.toNat_ofNat']; have := c.toNat_lt; omega)] at this
  have hidx : Calls Tryz.prog 214 #[.string t, .string o] w fun e w' => e = .returned (.int .i64 (Lib.indexByte t.data.toList c)) ∧ w' = w := by
    go_enter Tryz.func214, Tryz.ntmps214
    go_wp2_with (go_at_call 237; refine (slIndex_one t o c _ h hne).mono ?_; rintro e w' ⟨rfl, rfl⟩)
    go_ret
    exact ⟨rfl, rfl⟩
  have HI := hide hi; have HX := hide hidx
  clear hi hidx hv h hne
  go_enter Tryz.func178, Tryz.ntmps178
  go_wp2_with (go_at_call 214; refine HX.out.mono ?_; rintro e w' ⟨rfl, rfl⟩)
  go_ret
  refine ⟨ret_bool ?_, rfl⟩
  rw [Bool.eq_iff_iff, decide_eq_true_iff]
  exact HI.out

/-! ### strings.Builder, within the writer -/
/-- The writer at block wb: its tree, its Builder's own address, what is written, how far, which element is open. -/
def Wr (w : World) (B wb db : Nat) (out : List UInt8) (pl : Nat) (op : Int) : Prop :=
  ∃ sa vb, w.heap[wb]? = some (.cells #[.pointer (some ⟨db, 0, none⟩), sa, vb, .int .i64 (pl : Int), .int .i64 op] 145 (0, 0)) ∧ (sa = .pointer none ∨ sa = .pointer (some ⟨wb, 1, none⟩)) ∧ w.ownsRow B 5 1 vb out.length (u8s out)
def TW : List TypeId := [145, 5]
theorem cell5 {w : World} {b : Nat} {x y z u v : Value} {t : TypeId} (h : w.heap[b]? = some (.cells #[x, y, z, u, v] t (0, 0))) :
    w.cell? ⟨b, 0, none⟩ = some x ∧ w.cell? ⟨b, 1, none⟩ = some y ∧ w.cell? ⟨b, 2, none⟩ = some z ∧ w.cell? ⟨b, 3, none⟩ = some u ∧ w.cell? ⟨b, 4, none⟩ = some v := by simp [World.cell?, h]
theorem five_set1 {w : World} {b : Nat} {x y z u v a : Value} {t : TypeId} (h : w.heap[b]? = some (.cells #[x, y, z, u, v] t (0, 0))) : (w.setCell ⟨b, 1, none⟩ a).heap[b]? = some (.cells #[x, a, z, u, v] t (0, 0)) := set_blk h a
theorem five_set2 {w : World} {b : Nat} {x y z u v a : Value} {t : TypeId} (h : w.heap[b]? = some (.cells #[x, y, z, u, v] t (0, 0))) : (w.setCell ⟨b, 2, none⟩ a).heap[b]? = some (.cells #[x, y, a, u, v] t (0, 0)) := set_blk h a
theorem five_set3 {w : World} {b : Nat} {x y z u v a : Value} {t : TypeId} (h : w.heap[b]? = some (.cells #[x, y, z, u, v] t (0, 0))) : (w.setCell ⟨b, 3, none⟩ a).heap[b]? = some (.cells #[x, y, z, a, v] t (0, 0)) := set_blk h a
theorem five_set4 {w : World} {b : Nat} {x y z u v a : Value} {t : TypeId} (h : w.heap[b]? = some (.cells #[x, y, z, u, v] t (0, 0))) : (w.setCell ⟨b, 4, none⟩ a).heap[b]? = some (.cells #[x, y, z, u, a] t (0, 0)) := set_blk h a
theorem Wr.kept {B B' wb db : Nat} {T : List TypeId} {w w' : World} {out : List UInt8} {pl : Nat} {op : Int} (h : Wr w B wb db out pl op) (k : Kp B' T w w') (h1 : 145 ∉ T) (h2 : 5 ∉ T) : Wr w' B wb db out pl op := by
  obtain ⟨sa, vb, a1, a2, a3⟩ := h
  exact ⟨sa, vb, k.at a1 h1, a2, k.owns a3 h2⟩

theorem Tryz.sizeSB : (Tryz.prog.info? 143).map (·.size) = some 2 := by kernel_rfl
theorem Tryz.liesSB : liesAt Tryz.prog Tryz.prog.depth 145 (5 / Tryz.prog.cellsOf 145) 1 143 1 = true := by kernel_rfl
set_option maxRecDepth 100000 in
set_option maxHeartbeats 1000000 in
theorem copyCheck_any (B wb db : Nat) (out : List UInt8) (pl : Nat) (op : Int) (w : World) (h : Wr w B wb db out pl op) (hB : B ≤ wb) :
    Calls Tryz.prog 138 #[.pointer (some ⟨wb, 1, none⟩)] w fun e w' => e = .returned (.tuple #[]) ∧ Wr w' B wb db out pl op ∧ Kp B TW w w' := by
  have h' := h
  obtain ⟨sa, vb, a1, a2, a3⟩ := h
  obtain ⟨c0, c1, c2, c3, c4⟩ := cell5 a1
  have f1 := free_of (o := 1) a1
  obtain ⟨j, hj, hjs⟩ := Option.map_eq_some_iff.1 Tryz.sizeSB
  have hsh : w.shape? wb = some (145, 5) := by simp [World.shape?, a1]
  rcases a2 with rfl | rfl
  · have A1 := hide a1; have A3 := hide a3
    clear a1 a3
    go_enter Tryz.func138, Tryz.ntmps138
    go_wp2
    rw [Lib.run_to_unsafe w ⟨wb, 1, none⟩ Tryz.underlying141 Tryz.underlying184 hj (by rw [hjs]; decide) hsh (show 1 < 5 by decide)]
    simp only [Result.andThen]
    rw [Oper.upon_value]
    go_wp2
    rw [run_callFunc_extern Tryz.func177 (by kernel_rfl) (by kernel_rfl) (by kernel_rfl) (e := Extern.AbiNoEscape.same) (by kernel_rfl)]
    rw [Lib.run_noEscape]
    simp only [Result.andThen]
    rw [Oper.upon_value]
    go_wp2
    rw [Lib.run_from_unsafe w ⟨wb, 1, none⟩ Tryz.underlying184 Tryz.underlying141 hj hsh Tryz.liesSB]
    simp only [Result.andThen]
    rw [Oper.upon_value]
    go_wp2
    go_end0
    exact ⟨rfl, ⟨_, vb, five_set1 A1.out, .inr rfl, owns_set (p := ⟨wb, 1, none⟩) A3.out A1.out (by decide) _⟩, (Kp.refl _ _ _).setCell (p := ⟨wb, 1, none⟩) A1.out (by decide) hB _⟩
  · go_enter Tryz.func138, Tryz.ntmps138
    go_wp2
    rw [Lib.run_neq_ptr_same w _ Tryz.underlying141 hj]
    go_wp2
    go_end0
    exact ⟨rfl, h', Kp.refl _ _ _⟩

set_option maxRecDepth 100000 in
set_option maxHeartbeats 1000000 in
theorem sbWrite_any (B wb db : Nat) (out : List UInt8) (pl : Nat) (op : Int) (t : ByteArray) (w : World) (h : Wr w B wb db out pl op) (hB : B ≤ wb) (hs : out.length + t.size ≤ 1000000) :
    Calls Tryz.prog 112 #[.pointer (some ⟨wb, 1, none⟩), .string t] w fun e w' => e = .returned (.tuple #[.int .i64 (t.size : Int), .nilIface]) ∧ Wr w' B wb db (out ++ t.data.toList) pl op ∧ Kp B TW w w' := by
  obtain ⟨i0, hi, hz0, hz1, hz2⟩ := info_parts Tryz.infoU8
  go_enter Tryz.func112, Tryz.ntmps112
  go_wp2_with fail
  refine (copyCheck_any B wb db out pl op _ h hB).mono ?_
  rintro e w1 ⟨rfl, h1, hk1⟩
  obtain ⟨sa, vb, a1, a2, a3⟩ := h1
  obtain ⟨c0, c1, c2, c3, c4⟩ := cell5 a1
  have hbs := lt_of_block a1
  have A1 := hide a1; have A2 := hide a2
  clear a1 a2
  go_wp2_with (at_builtin; refine Lib.wpList_append_own_string _ rfl _ _ 50 9 rfl B 5 i0 Tryz.underlying50 Tryz.underlying9 hi hz0 hz1 hz2 _ _ _ rfl a3 t rfl (by unfold maxLen; omega) (by omega) (by omega) ?_; intro v1 w2 own1 grow1 _; have e1 := kept_grown a3 grow1 A1.out (by decide); obtain ⟨d0, d1, d2, d3, d4⟩ := cell5 e1; have f2 := free_of (o := 2) e1; obtain ⟨ao1, cp1, hv1⟩ := owns_shape own1; subst hv1)
  go_ret2
  refine ⟨rfl, ⟨sa, _, five_set2 e1, A2.out, ?_⟩, hk1.trans (((Kp.refl _ _ _).grownRow a3 grow1 (by decide)).setCell (p := ⟨wb, 2, none⟩) e1 (by decide) hB _)⟩
  have o2 := owns_set (p := ⟨wb, 2, none⟩) own1 e1 (by decide) (.slice ao1 (out.length + t.size) cp1)
  rw [strCells_u8s] at o2
  rw [List.length_append, show t.data.toList.length = t.size from by simp, show u8s (out ++ t.data.toList) = u8s out ++ u8s t.data.toList from by simp [u8s]]
  exact o2

/-! ### spelled, escaped -/
def refW (b : UInt8) : List UInt8 := if b = 38 then [38, 97, 109, 112, 59] else if b = 60 then [38, 108, 116, 59] else if b = 62 then [38, 103, 116, 59] else if b = 34 then [38, 113, 117, 111, 116, 59] else [b]
def spellU (sp : List UInt8) (b : UInt8) : List UInt8 := if inB sp (b.toNat : Int) = true then refW b else [b]
def escL (sp l : List UInt8) : List UInt8 := l.flatMap (spellU sp)
theorem spellU_len (sp : List UInt8) (b : UInt8) : (spellU sp b).length ≤ 6 ∧ 1 ≤ (spellU sp b).length := by
  unfold spellU refW
  repeat' split
  all_goals simp
end Go.Proofs.YtclpcnignheijaaGreatDoor
