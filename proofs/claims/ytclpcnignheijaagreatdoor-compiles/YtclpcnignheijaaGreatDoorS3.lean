import Derived.Test.YtclpcnignheijaaGreatDoorS2
namespace Go.Proofs.YtclpcnignheijaaGreatDoor
open Go.RowKit

def wordsI (ws : List (List UInt8)) (t : List UInt8) : Int := match ws.findIdx? (· == t) with | some i => (i : Int) | none => -1
theorem bytesOf_eq (x : List UInt8) (t : ByteArray) : ((bytesOf x).toList == t.toList) = (x == t.data.toList) := by
  rw [Lib.toList_data, Lib.toList_data]; rfl
theorem wordsI_some {ws : List (List UInt8)} {t : List UInt8} {k : Nat} {x : List UInt8} (hx : ws[k]? = some x) (he : (x == t) = true) (hq : ∀ j, j < k → ∀ x, ws[j]? = some x → (x == t) = false) : ws.findIdx? (· == t) = some k := by
  obtain ⟨hlt, hxe⟩ := List.getElem?_eq_some_iff.1 hx
  refine List.findIdx?_eq_some_iff_getElem.2 ⟨hlt, by rw [hxe]; exact he, fun j hj => ?_⟩
  have hjl : j < ws.length := by omega
  rw [hq j hj ws[j] (List.getElem?_eq_getElem hjl)]
  exact Bool.false_ne_true
theorem wordsI_none {ws : List (List UInt8)} {t : List UInt8} (hq : ∀ j, j < ws.length → ∀ x, ws[j]? = some x → (x == t) = false) : ws.findIdx? (· == t) = none := by
  refine List.findIdx?_eq_none_iff.2 fun x hx => ?_
  obtain ⟨j, hj, e⟩ := List.getElem_of_mem hx
  exact hq j hj x (by rw [List.getElem?_eq_getElem hj, e])
set_option maxHeartbeats 1000000 in
theorem slicesIndex_any (g cap : Nat) (ws : List (List UInt8)) (t : ByteArray) (w : World) (hb : Ws w g ws) (hl : ws.length ≤ 100) :
    Calls Tryz.prog 247 #[.slice (some ⟨g, 0, none⟩) ws.length cap, .string t] w fun e w' => e = .returned (.int .i64 (wordsI ws t.data.toList)) ∧ ∃ n, w' = w.drewN n := by
  go_enter Tryz.func247, Tryz.ntmps247
  go_wp2
  go_loopw [8] (fun i wr => ∃ k n : Nat, i = .int .i64 k ∧ k ≤ ws.length ∧ wr = w.drewN n ∧ Hid (∀ j, j < k → ∀ x, ws[j]? = some x → (x == t.data.toList) = false)) (fun i _ => ws.length - (intOf i).toNat)
  case atStart => exact ⟨0, 0, rfl, Nat.zero_le _, rfl, fun j hj => absurd hj (by omega)⟩
  case round =>
    obtain ⟨k, n, rfl, hkl, rfl, HQ⟩ := hrel
    by_cases hlt : k < ws.length
    · obtain ⟨x, hx⟩ : ∃ x, ws[k]? = some x := ⟨ws[k], List.getElem?_eq_getElem hlt⟩
      have c1 := (hb.drewN n).cell hx
      have hbe := bytesOf_eq x t
      have HX := hide hx
      clear hx
      cases he : x == t.data.toList
      · rw [he] at hbe
        have hbe' : (t.toList == (bytesOf x).toList) = false := by rw [BEq.comm]; exact hbe
        have HE := hide he
        clear he hbe
        go_wp2
        go_roundw
        case rel =>
          refine ⟨k + 1, n, by go_num, by omega, rfl, fun j hj y hy => ?_⟩
          by_cases hjk : j < k
          · exact HQ.out j hjk y hy
          · have : j = k := by omega
            subst this
            have e : x = y := Option.some.inj (HX.out.symm.trans hy)
            rw [← e]; exact HE.out
        case measure => simp [intOf]; omega
      · rw [he] at hbe
        have hbe' : (t.toList == (bytesOf x).toList) = true := by rw [BEq.comm]; exact hbe
        have HE := hide he
        clear he hbe
        go_wp2
        go_ret
        exact ⟨ret_int (by unfold wordsI; rw [wordsI_some HX.out HE.out HQ.out]), n, rfl⟩
    · have hk : k = ws.length := by omega
      have HK := hide hk
      clear hk
      go_wp2
      go_ret
      exact ⟨ret_int (by unfold wordsI; rw [wordsI_none (fun j hj => HQ.out j (by have := HK.out; omega))]), n, rfl⟩

/-- The closure of OneOf, at a word that is not the text itself. -/
theorem goes_one {x : List UInt8} {t : List UInt8} (hp : t.isPrefixOf x = true) (hne : x ≠ t) : t.length < x.length := by
  rw [List.isPrefixOf_iff_prefix] at hp
  rcases Nat.lt_or_ge t.length x.length with h | h
  · exact h
  · exact absurd (hp.eq_of_length_le h).symm hne
def goesW (x t : List UInt8) (b : Int) : Bool := t.isPrefixOf x && (match x[t.length]? with | some c => (c.toNat : Int) == b | none => false)
set_option maxHeartbeats 1000000 in
theorem oneOf1_any (rb tb xb : Nat) (s t : ByteArray) (q : Nat) (x : List UInt8) (w : World) (h : Rd w rb s q) (ht : w.heap[tb]? = some (.cells #[.string t] 9 (0, 0))) (hx : w.heap[xb]? = some (.cells #[.pointer (some ⟨rb, 0, none⟩)] 158 (0, 0))) (hne : x ≠ t.data.toList) :
    Calls Tryz.prog 252 #[.string (bytesOf x), .pointer (some ⟨tb, 0, none⟩), .pointer (some ⟨xb, 0, none⟩)] w fun e w' => e = .returned (.bool (goesW x t.data.toList (peekI s q))) ∧ ∃ n, w' = w.drewN n := by
  have c0 := cell_of_one ht
  have c1 := cell_of_one hx
  cases hp : t.data.toList.isPrefixOf x
  · have HP := hide hp
    have HE : Hid (goesW x t.data.toList (peekI s q) = false) := by unfold goesW; rw [hp]; rfl
    clear hp
    rw [HE.out]
    go_enter Tryz.func252, Tryz.ntmps252
    go_wp2
    go_quiet ((go_at_call 229; exact Calls.quiet_of_same (hasPrefix_is _ _ _ false HP.out)))
    go_wp2
    go_ret
    exact ⟨rfl, _, rfl⟩
  · have hlt := goes_one hp hne
    have hlt' : t.size < (bytesOf x).size := by
      have e : (bytesOf x).size = x.length := by show x.toArray.size = _; simp
      have e2 : t.data.toList.length = t.size := by simp
      omega
    have HP := hide hp
    have HE : Hid (goesW x t.data.toList (peekI s q) = (((bytesOf x)[t.size].toNat : Int) == peekI s q)) := by
      unfold goesW; rw [hp, List.getElem?_eq_getElem hlt]; rfl
    clear hp
    rw [HE.out]
    go_enter Tryz.func252, Tryz.ntmps252
    go_wp2
    go_quiet ((first | (go_at_call 229; exact Calls.quiet_of_same (hasPrefix_is _ _ _ true HP.out)) | (go_at_call 144; exact Calls.quiet_of (peek_any rb s q _ (h.drewN _)))))
    go_wp2
    go_ret
    exact ⟨rfl, _, rfl⟩
theorem oneOf1_is (rb tb xb : Nat) (s t : ByteArray) (q : Nat) (x : List UInt8) (w : World) (v : Bool) (h : Rd w rb s q) (ht : w.heap[tb]? = some (.cells #[.string t] 9 (0, 0))) (hx : w.heap[xb]? = some (.cells #[.pointer (some ⟨rb, 0, none⟩)] 158 (0, 0))) (hne : x ≠ t.data.toList) (hv : goesW x t.data.toList (peekI s q) = v) :
    Calls Tryz.prog 252 #[.string (bytesOf x), .pointer (some ⟨tb, 0, none⟩), .pointer (some ⟨xb, 0, none⟩)] w fun e w' => e = .returned (.bool v) ∧ ∃ n, w' = w.drewN n := by
  subst hv; exact oneOf1_any rb tb xb s t q x w h ht hx hne
theorem goesOn_yes {ws : List (List UInt8)} {t : List UInt8} {b : Int} {k : Nat} {x : List UInt8} (hx : ws[k]? = some x) (he : goesW x t b = true) : goesOn ws t b = true := by
  unfold goesOn
  rw [List.any_eq_true]
  exact ⟨x, List.mem_of_getElem? hx, he⟩
theorem goesOn_no {ws : List (List UInt8)} {t : List UInt8} {b : Int} (hq : ∀ j, j < ws.length → ∀ x, ws[j]? = some x → goesW x t b = false) : goesOn ws t b = false := by
  unfold goesOn
  rw [List.any_eq_false]
  intro x hx
  obtain ⟨j, hj, e⟩ := List.getElem_of_mem hx
  have := hq j hj x (by rw [List.getElem?_eq_getElem hj, e])
  exact fun hc => Bool.false_ne_true (this.symm.trans hc)
set_option maxHeartbeats 1000000 in
theorem indexFunc_any (rb tb xb g cap : Nat) (ws : List (List UInt8)) (s t : ByteArray) (q : Nat) (w : World) (h : Rd w rb s q) (hb : Ws w g ws) (hl : ws.length ≤ 100) (ht : w.heap[tb]? = some (.cells #[.string t] 9 (0, 0))) (hx : w.heap[xb]? = some (.cells #[.pointer (some ⟨rb, 0, none⟩)] 158 (0, 0))) (hne : ∀ x ∈ ws, x ≠ t.data.toList) :
    Calls Tryz.prog 266 #[.slice (some ⟨g, 0, none⟩) ws.length cap, .func (Fn.func 252) #[] #[.pointer (some ⟨tb, 0, none⟩), .pointer (some ⟨xb, 0, none⟩)]] w fun e w' => ∃ i, e = .returned (.int .i64 i) ∧ decide (0 ≤ i) = goesOn ws t.data.toList (peekI s q) ∧ ∃ n, w' = w.drewN n := by
  go_enter Tryz.func266, Tryz.ntmps266
  go_wp2
  go_loopw [8] (fun i wr => ∃ k n : Nat, i = .int .i64 k ∧ k ≤ ws.length ∧ wr = w.drewN n ∧ Hid (∀ j, j < k → ∀ x, ws[j]? = some x → goesW x t.data.toList (peekI s q) = false)) (fun i _ => ws.length - (intOf i).toNat)
  case atStart => exact ⟨0, 0, rfl, Nat.zero_le _, rfl, fun j hj => absurd hj (by omega)⟩
  case round =>
    obtain ⟨k, n, rfl, hkl, rfl, HQ⟩ := hrel
    by_cases hlt : k < ws.length
    · obtain ⟨x, hx1⟩ : ∃ x, ws[k]? = some x := ⟨ws[k], List.getElem?_eq_getElem hlt⟩
      have c1 := (hb.drewN n).cell hx1
      have hxn := hne x (List.mem_of_getElem? hx1)
      have HX := hide hx1
      clear hx1
      cases he : goesW x t.data.toList (peekI s q)
      · have HE := hide he
        clear he
        go_wp2_with (go_at_call 252; refine (oneOf1_is rb tb xb s t q x _ false (h.drewN _) ht hx hxn HE.out).mono ?_; rintro e w' ⟨rfl, nq, rfl⟩)
        go_roundw
        case rel =>
          refine ⟨k + 1, n + nq, by go_num, by omega, rfl, fun j hj y hy => ?_⟩
          by_cases hjk : j < k
          · exact HQ.out j hjk y hy
          · have : j = k := by omega
            subst this
            have e : x = y := Option.some.inj (HX.out.symm.trans hy)
            rw [← e]; exact HE.out
        case measure => simp [intOf]; omega
      · have HE := hide he
        clear he
        go_wp2_with (go_at_call 252; refine (oneOf1_is rb tb xb s t q x _ true (h.drewN _) ht hx hxn HE.out).mono ?_; rintro e w' ⟨rfl, nq, rfl⟩)
        go_ret
        exact ⟨_, rfl, by rw [goesOn_yes HX.out HE.out]; simp, _, rfl⟩
    · have hk : k = ws.length := by omega
      have HK := hide hk
      clear hk
      go_wp2
      go_ret
      exact ⟨_, rfl, by rw [goesOn_no (fun j hj => HQ.out j (by have := HK.out; omega))]; decide, n, rfl⟩
set_option maxHeartbeats 1000000 in
theorem containsFunc_is (rb tb xb g cap : Nat) (ws : List (List UInt8)) (s t : ByteArray) (q : Nat) (w : World) (v : Bool) (h : Rd w rb s q) (hb : Ws w g ws) (hl : ws.length ≤ 100) (ht : w.heap[tb]? = some (.cells #[.string t] 9 (0, 0))) (hx : w.heap[xb]? = some (.cells #[.pointer (some ⟨rb, 0, none⟩)] 158 (0, 0))) (hne : ∀ x ∈ ws, x ≠ t.data.toList) (hv : goesOn ws t.data.toList (peekI s q) = v) :
    Calls Tryz.prog 253 #[.slice (some ⟨g, 0, none⟩) ws.length cap, .func (Fn.func 252) #[] #[.pointer (some ⟨tb, 0, none⟩), .pointer (some ⟨xb, 0, none⟩)]] w fun e w' => e = .returned (.bool v) ∧ ∃ n, w' = w.drewN n := by
  have HV := hide hv
  have HN := hide hne
  clear hv hne
  go_enter Tryz.func253, Tryz.ntmps253
  go_wp2_with (go_at_call 266; refine (indexFunc_any rb tb xb g cap ws s t q _ h hb hl ht hx HN.out).mono ?_; rintro e w' ⟨i, rfl, hi, nq, rfl⟩)
  go_ret
  exact ⟨ret_bool HV.out, nq, rfl⟩
end Go.Proofs.YtclpcnignheijaaGreatDoor
