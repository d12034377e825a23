import Derived.Test.YtclpcnignheijaaGreatDoorE2
namespace Go.Proofs.YtclpcnignheijaaGreatDoor
open Go.RowKit

theorem escL_snoc (sp l : List UInt8) (b : UInt8) : escL sp (l ++ [b]) = escL sp l ++ spellU sp b := by simp [escL]
theorem escL_len (sp : List UInt8) : ∀ l, (escL sp l).length ≤ 6 * l.length ∧ l.length ≤ (escL sp l).length
  | [] => by simp [escL]
  | b :: l => by
    have h1 := spellU_len sp b
    have h2 := escL_len sp l
    simp only [escL, List.flatMap_cons, List.length_append, List.length_cons] at *
    omega
theorem kpW0 {B : Nat} {w w' : World} (h : Kp B [] w w') : Kp B TW w w' := h.mono (Nat.le_refl _) (by simp)
theorem Wr.below {B wb db : Nat} {w w' : World} {out : List UInt8} {pl : Nat} {op : Int} (h : Wr w B wb db out pl op) (k : Below w.heap.size w w') : Wr w' B wb db out pl op := h.kept (Kp.ofBelow (B := 0) (T := []) k) (by simp) (by simp)
theorem Wr.drewN {B wb db : Nat} {w : World} {out : List UInt8} {pl : Nat} {op : Int} (h : Wr w B wb db out pl op) (n : Nat) : Wr (w.drewN n) B wb db out pl op := h
theorem take_snoc (s : ByteArray) (k : Nat) (h : k < s.size) : s.data.toList.take (k + 1) = s.data.toList.take k ++ [s[k]] := by
  rw [List.take_succ_eq_append_getElem (by simpa using h)]; rfl

set_option maxRecDepth 100000 in
set_option maxHeartbeats 2000000 in
theorem escaped_any (B wb db : Nat) (out : List UInt8) (pl : Nat) (op : Int) (t sp : ByteArray) (w : World) (h : Wr w B wb db out pl op) (hB : B ≤ wb) (hg : Gl w) (hB0 : 1 < B) (hsp : sp.size = 3) (ht : t.size ≤ 100000) (hs : out.length + (escL sp.data.toList t.data.toList).length ≤ 1000000) :
    Calls Tryz.prog 113 #[.pointer (some ⟨wb, 0, none⟩), .string t, .string sp] w fun e w' => e = .returned (.tuple #[]) ∧ Wr w' B wb db (out ++ escL sp.data.toList t.data.toList) pl op ∧ Kp B TW w w' := by
  go_enter Tryz.func113, Tryz.ntmps113
  go_wp2
  go_loopw [9] (fun i wr => ∃ k : Nat, i = .int .i64 k ∧ k ≤ t.size ∧ Wr wr B wb db (out ++ escL sp.data.toList (t.data.toList.take k)) pl op ∧ Kp B TW w wr) (fun i _ => t.size - (intOf i).toNat)
  case atStart => exact ⟨0, rfl, Nat.zero_le _, by simpa [escL] using h, Kp.refl _ _ _⟩
  case round =>
    obtain ⟨k, rfl, hkt, hwr, hk⟩ := hrel
    by_cases hlt : k < t.size
    · have hone : (t.extract k (k + 1)).data.toList = [t[k]] := by
        rw [Lib.extract_data, Nat.add_sub_cancel_left, drop_cons hlt]; rfl
      have hbd : (escL sp.data.toList (t.data.toList.take k) ++ spellU sp.data.toList t[k]).length ≤ (escL sp.data.toList t.data.toList).length := by
        rw [← escL_snoc, ← take_snoc t k hlt]
        have : escL sp.data.toList t.data.toList = escL sp.data.toList (t.data.toList.take (k + 1)) ++ escL sp.data.toList (t.data.toList.drop (k + 1)) := by
          simp only [escL, ← List.flatMap_append, List.take_append_drop]
        rw [this, List.length_append]; omega
      have hne : ((t.extract k (k + 1)).toList == sp.toList) = false := by
        rw [beq_eq_false_iff_ne]
        intro e
        have := congrArg List.length e
        rw [Lib.toList_data, Lib.toList_data, hone] at this
        have h3 : sp.data.toList.length = sp.size := by simp
        rw [h3, hsp] at this
        simp at this
      have HOne := hide hone; have HNE := hide hne; have HBD := hide hbd
      clear hone hne hbd
      have hgr := hg.kept hk hB0
      have hw1 : IntKind.i64.wrap ((k : Int) + 1) = (k : Int) + 1 := IntWalk.i64_in _ (by omega)
      have hsl : ∀ wx : World, (Instr.slice 9 (.string t) (some (.int .i64 (k : Int))) (some (.int .i64 ((k : Int) + 1))) none).run Tryz.prog wx = .ok (.string (t.extract k (k + 1))) wx := fun wx => by
        rw [run_slice_string wx 9 t .i64 .i64 (k : Int) ((k : Int) + 1) Tryz.underlying9 (by omega) (by omega) (by omega)]
        rfl
      go_wp2
      go_region_held3 (fun _ => True) (trivial) (first | (go_at_call 139; refine (spelled_any (t.extract k (k + 1)) sp t[k] wr.drew HOne.out HNE.out hgr).mono ?_; rintro e w1 ⟨rfl, hb1⟩; have hb2 : Below wr.heap.size wr w1 := ⟨hb1.os, hb1.tape, hb1.output, hb1.size, hb1.block⟩) | (go_at_call 112; refine (sbWrite_any B wb db _ pl op _ _ (hwr.below hb2) hB ?_).mono ?_; (have := HBD.out; simp only [List.length_append] at this ⊢; show _ + (spellU sp.data.toList t[k]).toArray.size ≤ _; simp only [List.size_toArray]; omega); rintro e w3 ⟨rfl, hwr3, hk3⟩))
      go_wp2
      have hk4 := (hk.belowD hb2 rfl rfl rfl rfl rfl).trans hk3
      go_roundw
      case rel =>
        refine ⟨k + 1, by go_num, by omega, ?_, hk4⟩
        rw [take_snoc t k hlt, escL_snoc, ← List.append_assoc]
        simpa using hwr3
      case measure => simp [intOf]; omega
    · have e : k = t.size := by omega
      have hd : t.data.toList.take k = t.data.toList := List.take_of_length_le (by simp; omega)
      rw [hd] at hwr
      go_wp2
      go_end0
      exact ⟨rfl, hwr, hk⟩
end Go.Proofs.YtclpcnignheijaaGreatDoor
