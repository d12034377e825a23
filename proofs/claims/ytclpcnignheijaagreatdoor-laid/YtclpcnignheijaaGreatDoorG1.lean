import Derived.Test.YtclpcnignheijaaGreatDoorF5
namespace Go.Proofs.YtclpcnignheijaaGreatDoor
open Go.RowKit

theorem Gl.below {w w' : World} (h : Gl w) (k : Below w.heap.size w w') : Gl w' := by
  obtain ⟨t, fr, h⟩ := h
  exact ⟨t, fr, by rw [k.block _ (lt_of_block h)]; exact h⟩
/-- Parse, of a text that is taken. -/
theorem parse_yes (s : ByteArray) (b : BS) (q : Nat) (w : World) (hs : s.size ≤ 2000) (hp : parseP s = (q, b, 0)) (hg : Gl w) :
    Calls Tryz.prog 21 #[.string s] w fun e w' => ∃ db, e = .returned (.tuple #[.pointer (some ⟨db, 0, none⟩), .nilIface]) ∧ Dc w' w.heap.size db b ∧ Below w.heap.size w w' := by
  have hc : codeP s = 0 := by unfold codeP; rw [if_neg (by omega), hp]
  refine (parse_any s w (by omega) hg).mono ?_
  rintro e w' ⟨hb, h | h⟩
  · obtain ⟨_, db, he, _, hd⟩ := h
    rw [hp] at hd
    exact ⟨db, he, hd, hb⟩
  · exact absurd hc h.1
set_option maxRecDepth 100000 in
set_option maxHeartbeats 1000000 in
theorem sure_any (w : World) (hg : Gl w) :
    Calls Tryz.prog 20 #[] w fun e w' => e = .returned (.bool true) ∧ Below w.heap.size w w' := by
  go_enter Tryz.func20, Tryz.ntmps20
  go_wp2_with fail
  refine (parse_yes sureB sureBS 22 _ (by decide) sure_parse hg).mono ?_
  rintro e w1 ⟨db, rfl, hd, hb1⟩
  have hsz := hb1.size
  go_wp2_with fail
  refine (dlen_any w.heap.size db sureBS _ hd).mono ?_
  rintro e w2 ⟨rfl, rfl⟩
  have hl : ((sureBS.els.length : Int) == 2) = true := by decide
  go_wp2_with fail
  refine (dtext_any w.heap.size db sureBS 0 ⟨⟨#[112]⟩, -1, [], 0, 1⟩ 0 1 _ hd rfl (by decide) rfl rfl (by decide) (by decide)).mono ?_
  rintro e w3 ⟨rfl, hb3⟩
  go_wp2
  go_ret
  exact ⟨ret_bool (by decide), hb1.trans (hb3.mono hsz)⟩
end Go.Proofs.YtclpcnignheijaaGreatDoor
