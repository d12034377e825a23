/-
  PARTS OF THE PROOF OF THE LAW 'Nearest', joined into one text: R1, R2, R3.
-/
import Derived.Test.YtclpcnignheijaaGreatDoorQ6
import Derived.Deep.RegionWith
/-
  The document's own answer, as Go text: how it goes through a selector. 'Mk': its reader at block mb: text, place, did it go wrong, simples, the deepest list.
-/
namespace Go.Proofs.YtclpcnignheijaaGreatDoor
open Go.RowKit

structure Mk (w : World) (mb : Nat) (s : ByteArray) (p : Nat) (bad : Bool) (a m : Nat) : Prop where
  blk : w.heap[mb]? = some (.cells #[.string s, .int .i64 p, .bool bad, .int .i64 a, .int .i64 m] 153 (0, 0))
  le : p ≤ s.size
  max : s.size ≤ 2000
section
variable {w w' : World} {mb : Nat} {s : ByteArray} {p q : Nat} {bad : Bool} {a m B : Nat} {T : List TypeId}
theorem Mk.c0 (h : Mk w mb s p bad a m) : w.cell? ⟨mb, 0, none⟩ = some (.string s) := by simp [World.cell?, h.blk]
theorem Mk.c1 (h : Mk w mb s p bad a m) : w.cell? ⟨mb, 1, none⟩ = some (.int .i64 p) := by simp [World.cell?, h.blk]
theorem Mk.c2 (h : Mk w mb s p bad a m) : w.cell? ⟨mb, 2, none⟩ = some (.bool bad) := by simp [World.cell?, h.blk]
theorem Mk.c3 (h : Mk w mb s p bad a m) : w.cell? ⟨mb, 3, none⟩ = some (.int .i64 a) := by simp [World.cell?, h.blk]
theorem Mk.c4 (h : Mk w mb s p bad a m) : w.cell? ⟨mb, 4, none⟩ = some (.int .i64 m) := by simp [World.cell?, h.blk]
theorem Mk.free (h : Mk w mb s p bad a m) {o : Nat} : w.frozen? ⟨mb, o, none⟩ = false := free_of h.blk
theorem Mk.kept (h : Mk w mb s p bad a m) (k : Kp B T w w') (ht : 153 ∉ T) : Mk w' mb s p bad a m := ⟨k.at h.blk ht, h.le, h.max⟩
theorem Mk.drewN (h : Mk w mb s p bad a m) (n : Nat) : Mk (w.drewN n) mb s p bad a m := ⟨h.blk, h.le, h.max⟩
theorem Mk.alloc (h : Mk w mb s p bad a m) (o : Obj) : Mk (w.alloc o) mb s p bad a m := ⟨alloc_old h.blk o, h.le, h.max⟩
theorem Mk.set1 (h : Mk w mb s p bad a m) (hq : q ≤ s.size) {v : Int} (hv : v = (q : Int)) : Mk (w.setCell ⟨mb, 1, none⟩ (.int .i64 v)) mb s q bad a m := by subst hv; exact ⟨set_blk (o := 1) h.blk _, hq, h.max⟩
theorem Mk.set2 (h : Mk w mb s p bad a m) (b' : Bool) : Mk (w.setCell ⟨mb, 2, none⟩ (.bool b')) mb s p b' a m := ⟨set_blk (o := 2) h.blk _, h.le, h.max⟩
theorem Mk.set3 (h : Mk w mb s p bad a m) {a' : Nat} {v : Int} (hv : v = (a' : Int)) : Mk (w.setCell ⟨mb, 3, none⟩ (.int .i64 v)) mb s p bad a' m := by subst hv; exact ⟨set_blk (o := 3) h.blk _, h.le, h.max⟩
theorem Mk.set4 (h : Mk w mb s p bad a m) {m' : Nat} {v : Int} (hv : v = (m' : Int)) : Mk (w.setCell ⟨mb, 4, none⟩ (.int .i64 v)) mb s p bad a m' := by subst hv; exact ⟨set_blk (o := 4) h.blk _, h.le, h.max⟩
theorem Mk.kp {w0 : World} (h : Mk w mb s p bad a m) (k : Kp B [153] w0 w) (hB : B ≤ mb) (o : Nat) (v : Value) : Kp B [153] w0 (w.setCell ⟨mb, o, none⟩ v) := k.setCell (p := ⟨mb, o, none⟩) h.blk (by simp) hB v
end
def placeM (w : World) (mb : Nat) : Nat := match w.cell? ⟨mb, 1, none⟩ with | some (.int _ x) => x.toNat | _ => 0
theorem Mk.placeM {w : World} {mb : Nat} {s : ByteArray} {p : Nat} {bad : Bool} {a m : Nat} (h : Mk w mb s p bad a m) : placeM w mb = p := by
  unfold Proofs.YtclpcnignheijaaGreatDoor.placeM; rw [h.c1]; simp
def nextI (s : ByteArray) (p : Nat) (bad : Bool) : Int := if bad = true then 0 else peekI s p

set_option maxHeartbeats 1000000 in
theorem rspace_any (b : Int) (w : World) :
    Calls Tryz.prog 140 #[.int .u8 b] w fun e w' => e = .returned (.bool (spaceB b)) ∧ w' = w := by
  go_enter Tryz.func140, Tryz.ntmps140
  go_wp2
  all_goals (go_ret; exact ⟨ret_bool (by rw [Bool.eq_iff_iff]; simp [spaceB]; try omega), rfl⟩)
set_option maxHeartbeats 1000000 in
theorem rletter_any (b : Int) (w : World) :
    Calls Tryz.prog 134 #[.int .u8 b] w fun e w' => e = .returned (.bool (letterB b)) ∧ w' = w := by
  go_enter Tryz.func134, Tryz.ntmps134
  go_wp2
  all_goals (go_ret; exact ⟨ret_bool (by simp [letterB, *]; try omega), rfl⟩)
set_option maxHeartbeats 1000000 in
theorem rdigit_any (b : Int) (w : World) :
    Calls Tryz.prog 176 #[.int .u8 b] w fun e w' => e = .returned (.bool (digitB b)) ∧ w' = w := by
  go_enter Tryz.func176, Tryz.ntmps176
  go_wp2
  all_goals (go_ret; exact ⟨ret_bool (by simp [digitB, *]; try omega), rfl⟩)
theorem allowedB_iff (b : Int) : allowedB b = true ↔ (b = 9 ∨ b = 10 ∨ (32 ≤ b ∧ b ≤ 126)) := by
  simp [allowedB, or_assoc]
set_option maxRecDepth 100000 in
set_option maxHeartbeats 1000000 in
theorem next_any (mb : Nat) (s : ByteArray) (p : Nat) (bad : Bool) (a m : Nat) (w : World) (h : Mk w mb s p bad a m) :
    Calls Tryz.prog 131 #[.pointer (some ⟨mb, 0, none⟩)] w fun e w' => e = .returned (.int .u8 (nextI s p bad)) ∧ ∃ n, w' = w.drewN n := by
  have h' := h
  have d0 := h.c0; have d1 := h.c1; have d2 := h.c2; have h4 := h.le; have h5 := h.max
  clear h
  cases bad
  · by_cases hp : p = s.size
    · have HP : Hid (p = s.size) := hp
      have hle : (s.size : Int) ≤ (p : Int) := by omega
      clear hp
      go_enter Tryz.func131, Tryz.ntmps131
      go_wp2
      go_quiet (fail)
      go_wp2
      go_ret
      exact ⟨ret_int (by unfold nextI peekI; rw [if_neg (by simp), if_neg (by have := HP.out; omega)]), _, rfl⟩
    · have hlt : p < s.size := by omega
      have hle : ¬ (s.size : Int) ≤ (p : Int) := by omega
      have hb := byteI_get s p hlt
      have HB : Hid (byteI s p = (s[p].toNat : Int)) := hb
      have hbd := byteI_lt s p
      rw [hb] at hbd
      clear hb hp
      have HN : Hid (nextI s p false = if allowedB (s[p].toNat : Int) = true then (s[p].toNat : Int) else 0) := by
        unfold nextI peekI
        rw [if_neg (by simp), HB.out]
        by_cases ha : allowedB (s[p].toNat : Int) = true
        · rw [if_pos ⟨hlt, ha⟩, if_pos ha]; rfl
        · rw [if_neg (fun hh => ha hh.2), if_neg ha]; rfl
      generalize nextI s p false = R at *
      go_enter Tryz.func131, Tryz.ntmps131
      go_wp2
      go_quiet (fail)
      go_wp2
      go_quiet (fail)
      go_wp2
      all_goals
        go_ret
        refine ⟨ret_int ?_, _, rfl⟩
        have hR := HN.out
        clear HN HB
        try simp only [bne_iff_ne, ne_eq, bne_eq_false_iff_eq] at *
        rw [hR]
        split
        · rename_i hh
          have hh2 := (allowedB_iff _).1 hh
          first | rfl | omega
        · rename_i hh
          have hh2 := mt (allowedB_iff _).2 hh
          first | rfl | omega
  · go_enter Tryz.func131, Tryz.ntmps131
    go_wp2
    go_quiet (fail)
    go_wp2
    go_ret
    exact ⟨rfl, _, rfl⟩
theorem next_is (mb : Nat) (s : ByteArray) (p : Nat) (bad : Bool) (a m : Nat) (w : World) (v : Int) (h : Mk w mb s p bad a m) (hv : nextI s p bad = v) :
    Calls Tryz.prog 131 #[.pointer (some ⟨mb, 0, none⟩)] w fun e w' => e = .returned (.int .u8 v) ∧ ∃ n, w' = w.drewN n := by
  subst hv; exact next_any mb s p bad a m w h
theorem nextI_lt {s : ByteArray} {p : Nat} {bad : Bool} (h : nextI s p bad ≠ 0) : bad = false ∧ p < s.size := by
  unfold nextI at h
  split at h
  · exact absurd rfl h
  · rename_i hb
    exact ⟨by simpa using hb, peekI_lt h⟩
set_option maxHeartbeats 1000000 in
theorem is_no (B mb : Nat) (s : ByteArray) (p : Nat) (bad : Bool) (a m : Nat) (c : Int) (w : World) (h : Mk w mb s p bad a m) (hc : nextI s p bad ≠ c) :
    Calls Tryz.prog 98 #[.pointer (some ⟨mb, 0, none⟩), .int .u8 c] w fun e w' => e = .returned (.bool false) ∧ Mk w' mb s p bad a m ∧ Kp B [153] w w' := by
  have e1 : (nextI s p bad == c) = false := by simp [hc]
  clear hc
  go_enter Tryz.func98, Tryz.ntmps98
  go_wp2_with (go_at_call 131; refine (next_any mb s p bad a m _ h).mono ?_; rintro e w' ⟨rfl, nq, rfl⟩)
  go_ret
  exact ⟨rfl, h.drewN _, (Kp.refl _ _ _).drewN _⟩
set_option maxHeartbeats 1000000 in
theorem is_yes (B mb : Nat) (s : ByteArray) (p a m : Nat) (c : Int) (w : World) (h : Mk w mb s p false a m) (hB : B ≤ mb) (hc : peekI s p = c) (h0 : c ≠ 0) :
    Calls Tryz.prog 98 #[.pointer (some ⟨mb, 0, none⟩), .int .u8 c] w fun e w' => e = .returned (.bool true) ∧ Mk w' mb s (p + 1) false a m ∧ Kp B [153] w w' := by
  have hlt := peek_in hc h0
  have hn : nextI s p false = c := by unfold nextI; rw [if_neg (by simp)]; exact hc
  have HN := hide hn
  have e2 : (c != 0) = true := by simp [h0]
  have d1 := h.c1; have df := h.free (o := 1); have h5 := h.max
  clear hc h0 hn
  go_enter Tryz.func98, Tryz.ntmps98
  go_wp2_with (go_at_call 131; refine (next_is mb s p false a m _ c h HN.out).mono ?_; rintro e w' ⟨rfl, nq, rfl⟩)
  go_ret
  exact ⟨rfl, (h.drewN _).set1 (by omega) (by simp), (h.drewN _).kp ((Kp.refl _ _ _).drewN _) hB _ _⟩

/-- What 'must' leaves: the place, whether it has gone wrong. -/
def mustP (s : ByteArray) (t : List UInt8) (p : Nat) (bad : Bool) : Nat × Bool := if bad = true then (p, true) else ((expP s t p).1, !(expP s t p).2)
theorem mustP_bad (s : ByteArray) (t : List UInt8) (p : Nat) : mustP s t p true = (p, true) := rfl
theorem mustP_nil (s : ByteArray) (p : Nat) (bad : Bool) : mustP s [] p bad = (p, bad) := by cases bad <;> rfl
theorem mustP_yes {s : ByteArray} {c : UInt8} {t : List UInt8} {p : Nat} (h0 : (c.toNat : Int) ≠ 0) (h : peekI s p = (c.toNat : Int)) : mustP s (c :: t) p false = mustP s t (p + 1) false := by
  have e : expP s (c :: t) p = expP s t (p + 1) := by rw [expP, if_pos ⟨h0, h⟩]
  unfold mustP; rw [e]; rfl
theorem mustP_no {s : ByteArray} {c : UInt8} {t : List UInt8} {p : Nat} (h : peekI s p ≠ (c.toNat : Int)) : mustP s (c :: t) p false = (p, true) := by
  have e : expP s (c :: t) p = (p, false) := by rw [expP, if_neg fun hh => h hh.2]
  unfold mustP; rw [e]; rfl
set_option maxHeartbeats 1000000 in
theorem must_any (B mb : Nat) (s t : ByteArray) (p : Nat) (bad : Bool) (a m : Nat) (w : World) (h : Mk w mb s p bad a m) (hB : B ≤ mb) (ht : t.size ≤ 2000) (h0 : ∀ c ∈ t.data.toList, (c.toNat : Int) ≠ 0) :
    Calls Tryz.prog 102 #[.pointer (some ⟨mb, 0, none⟩), .string t] w fun e w' => e = .returned (.tuple #[]) ∧ Mk w' mb s (mustP s t.data.toList p bad).1 (mustP s t.data.toList p bad).2 a m ∧ Kp B [153] w w' := by
  have H0 := hide h0
  clear h0
  go_enter Tryz.func102, Tryz.ntmps102
  go_wp2
  go_loopw [4] (fun i wr => ∃ (k q : Nat) (bd : Bool), i = .int .i64 k ∧ k ≤ t.size ∧ Mk wr mb s q bd a m ∧ Hid (mustP s (t.data.toList.drop k) q bd = mustP s t.data.toList p bad) ∧ Kp B [153] w wr) (fun i _ => t.size - (intOf i).toNat)
  case atStart => exact ⟨0, p, bad, rfl, Nat.zero_le _, h, rfl, Kp.refl _ _ _⟩
  case round =>
    obtain ⟨k, q, bd, rfl, hkt, hm, HQ, hk⟩ := hrel
    by_cases hlt : k < t.size
    · have hc := drop_cons hlt
      have hmem : t[k] ∈ t.data.toList.drop k := by rw [hc]; simp
      have hc0 : (t[k].toNat : Int) ≠ 0 := H0.out _ (List.mem_of_mem_drop hmem)
      clear hmem
      have HC := hide hc; have HC0 := hide hc0
      clear hc hc0
      by_cases hy : bd = false ∧ peekI s q = (t[k].toNat : Int)
      · obtain ⟨rfl, y2⟩ := hy
        have Y2 := hide y2
        clear y2
        go_wp2_with (go_at_call 98; refine (is_yes B mb s q a m _ _ hm hB Y2.out HC0.out).mono ?_; rintro e w' ⟨rfl, hm', hk'⟩)
        go_roundw
        case rel =>
          refine ⟨k + 1, q + 1, false, by go_num, by omega, hm', hide ?_, hk.trans hk'⟩
          rw [← HQ.out, HC.out, mustP_yes HC0.out Y2.out]
        case measure => simp [intOf]; omega
      · have hn : nextI s q bd ≠ (t[k].toNat : Int) := by
          unfold nextI
          cases bd
          · rw [if_neg (by simp)]; exact fun e => hy ⟨rfl, e⟩
          · rw [if_pos rfl]; exact fun e => HC0.out e.symm
        have HN := hide hn
        have HY := hide hy
        clear hn hy
        go_wp2_with (go_at_call 98; refine (is_no B mb s q bd a m _ _ hm HN.out).mono ?_; rintro e w' ⟨rfl, hm', hk'⟩; have d2 := hm'.c2; have df := hm'.free (o := 2))
        go_roundw
        case rel =>
          refine ⟨k + 1, q, true, by go_num, by omega, hm'.set2 true, hide ?_, hm'.kp (hk.trans hk') hB _ _⟩
          rw [← HQ.out, HC.out, mustP_bad]
          cases bd
          · rw [mustP_no (fun e => HY.out ⟨rfl, e⟩)]
          · rw [mustP_bad]
        case measure => simp [intOf]; omega
    · have e : mustP s t.data.toList p bad = (q, bd) := by rw [← HQ.out, drop_end hlt, mustP_nil]
      have HE := hide e
      clear e
      go_wp2
      go_end0
      rw [HE.out]
      exact ⟨rfl, hm, hk⟩
def spR (s : ByteArray) (p : Nat) (bad : Bool) : Nat := if bad = true then p else spP s p
theorem spR_no {s : ByteArray} {p : Nat} {bad : Bool} (h : spaceB (nextI s p bad) = false) : spR s p bad = p := by
  unfold spR; unfold nextI at h
  cases bad
  · simp only [Bool.false_eq_true, if_false] at h ⊢; exact runTo_no h
  · rfl
theorem spR_yes {s : ByteArray} {p : Nat} {bad : Bool} (h : spaceB (nextI s p bad) = true) : bad = false ∧ p < s.size ∧ spR s p false = spR s (p + 1) false := by
  have hn : nextI s p bad ≠ 0 := fun e => by rw [e] at h; revert h; decide
  obtain ⟨rfl, hlt⟩ := nextI_lt hn
  refine ⟨rfl, hlt, ?_⟩
  unfold nextI at h
  simp only [Bool.false_eq_true, if_false] at h
  exact runTo_yes (by decide) h
theorem rspace_is (b : Int) (w : World) (v : Bool) (h : spaceB b = v) :
    Calls Tryz.prog 140 #[.int .u8 b] w fun e w' => e = .returned (.bool v) ∧ w' = w := by
  subst h; exact rspace_any b w
set_option maxHeartbeats 1000000 in
theorem rspaces_any (B mb : Nat) (s : ByteArray) (p : Nat) (bad : Bool) (a m : Nat) (w : World) (h : Mk w mb s p bad a m) (hB : B ≤ mb) :
    Calls Tryz.prog 116 #[.pointer (some ⟨mb, 0, none⟩)] w fun e w' => e = .returned (.int .i64 ((spR s p bad - p : Nat) : Int)) ∧ Mk w' mb s (spR s p bad) bad a m ∧ Kp B [153] w w' := by
  have h5 := h.max
  go_enter Tryz.func116, Tryz.ntmps116
  go_wp2
  go_loopw [3] (fun i wr => ∃ q : Nat, i = .int .i64 ((q - p : Nat) : Int) ∧ p ≤ q ∧ Mk wr mb s q bad a m ∧ Hid (spR s q bad = spR s p bad) ∧ Kp B [153] w wr) (fun _ wr => s.size - placeM wr mb)
  case atStart => exact ⟨p, by simp, Nat.le_refl _, h, rfl, Kp.refl _ _ _⟩
  case round =>
    obtain ⟨q, rfl, hpq, hm, HQ, hk⟩ := hrel
    have h4 := hm.le
    cases hs : spaceB (nextI s q bad)
    · have HS := hide hs
      clear hs
      go_wp2_with (first | (go_at_call 131; refine (next_any mb s q bad a m _ hm).mono ?_; rintro e w' ⟨rfl, nq, rfl⟩) | (go_at_call 140; refine (rspace_is _ _ _ HS.out).mono ?_; rintro e w' ⟨rfl, rfl⟩))
      go_ret
      have e : spR s p bad = q := HQ.out.symm.trans (spR_no HS.out)
      rw [e]
      exact ⟨rfl, hm.drewN _, hk.drewN _⟩
    · obtain ⟨rfl, hlt, hsp⟩ := spR_yes hs
      have HS := hide hs
      have HSp := hide hsp
      clear hs hsp
      have d1 := hm.c1; have df := hm.free (o := 1)
      go_wp2_with (first | (go_at_call 131; refine (next_any mb s q false a m _ hm).mono ?_; rintro e w' ⟨rfl, nq, rfl⟩) | (go_at_call 140; refine (rspace_is _ _ _ HS.out).mono ?_; rintro e w' ⟨rfl, rfl⟩))
      go_roundw
      case rel => exact ⟨q + 1, by go_num, by omega, (hm.drewN _).set1 (by omega) (by simp), hide (HSp.out.symm.trans HQ.out), (hm.drewN _).kp (hk.drewN _) hB _ _⟩
      case measure => rw [((hm.drewN _).set1 (q := q + 1) (by omega) (by simp)).placeM, hm.placeM]; omega
end Go.Proofs.YtclpcnignheijaaGreatDoor
namespace Go.Proofs.YtclpcnignheijaaGreatDoor
open Go.RowKit

theorem smallI_up {b : Int} (h1 : 65 ≤ b) (h2 : b ≤ 90) : smallI b = b + 32 := by unfold smallI; rw [if_pos ⟨h1, h2⟩]
theorem smallI_id {b : Int} (h : ¬ (65 ≤ b ∧ b ≤ 90)) : smallI b = b := by unfold smallI; rw [if_neg h]
set_option maxHeartbeats 1000000 in
theorem rsmall_any (t : ByteArray) (w : World) (ht : t.size ≤ 100000) :
    Calls Tryz.prog 79 #[.string t] w fun e w' => e = .returned (.string ⟨(smallL t.data.toList).toArray⟩) ∧ Below w.heap.size w w' := by
  have hcv := fun w s => run_bytes_of_string (P := Tryz.prog) w 9 50 5 s Tryz.underlying9 Tryz.underlying50 Tryz.underlying5
  go_enter Tryz.func79, Tryz.ntmps79
  go_wp2
  clear hcv
  go_loopw [4] (fun i wr => ∃ k : Nat, i = .int .i64 k ∧ k ≤ t.size ∧ Below w.heap.size w wr ∧ w.heap.size < wr.heap.size ∧
      (∀ j, j < t.size → wr.cell? ⟨w.heap.size, j, none⟩ = some (.int .u8 (((part t.data.toList k)[j]?.getD 0).toNat : Int)) ∧ wr.frozen? ⟨w.heap.size, j, none⟩ = false)) (fun i _ => t.size - (intOf i).toNat)
  case atStart =>
    refine ⟨0, rfl, Nat.zero_le _, ?_, by simp, fun j hj => ?_⟩
    · exact ((Below.refl _ _).alloc (Nat.le_refl _) _).drew
    · exact bytesRow_cell (alloc_at _ _) hj
  case round =>
    obtain ⟨k, rfl, hkt, hbl, hsz, hcells⟩ := hrel
    by_cases hlt : k < t.size
    · have hc := (hcells k hlt).1
      have hf := (hcells k hlt).2
      have hl : k < t.data.toList.length := by simpa using hlt
      rw [part_at hl] at hc
      have HC := hide hcells
      have hbd := (t.data.toList[k]?.getD 0).toNat_lt
      clear hcells
      generalize hbb : (t.data.toList[k]?.getD 0) = bb at *
      have HBB := hide hbb
      clear hbb
      by_cases hy : (65 : Int) ≤ (bb.toNat : Int) ∧ (bb.toNat : Int) ≤ 90
      · obtain ⟨y1, y2⟩ := hy
        have hsm := smallI_up y1 y2
        rw [smallU_int] at hsm
        have HSM := hide hsm
        clear hsm
        go_wp2
        go_roundw
        case rel =>
          refine ⟨k + 1, by go_num, by omega, hbl.setCell (Nat.le_refl _) _, by simp [World.setCell]; exact hsz, fun j hj => ?_⟩
          obtain ⟨c1, c2⟩ := HC.out j hj
          rw [part_succ hl, HBB.out]
          by_cases e : j = k
          · subst e
            rw [if_pos rfl]
            refine ⟨?_, by simpa using c2⟩
            rw [cell_set c1, HSM.out]
          · rw [if_neg e]
            refine ⟨?_, by simpa using c2⟩
            rw [cell_set_ne (by intro h; injection h with _ h2 _; exact e h2.symm)]
            exact c1
        case measure => simp [intOf]; omega
      · have hsm := smallI_id hy
        rw [smallU_int] at hsm
        have HSM := hide hsm
        clear hsm
        have hor : ¬ (65 : Int) ≤ (bb.toNat : Int) ∨ ((65 : Int) ≤ (bb.toNat : Int) ∧ ¬ (bb.toNat : Int) ≤ 90) := by omega
        clear hy
        rcases hor with hy | ⟨hy1, hy2⟩
        all_goals
          go_wp2
          go_roundw
          case rel =>
            refine ⟨k + 1, by go_num, by omega, hbl, hsz, fun j hj => ?_⟩
            obtain ⟨c1, c2⟩ := HC.out j hj
            rw [part_succ hl, HBB.out]
            by_cases e : j = k
            · subst e
              rw [if_pos rfl]
              refine ⟨?_, c2⟩
              rw [hc, HSM.out]
            · rw [if_neg e]
              exact ⟨c1, c2⟩
          case measure => simp [intOf]; omega
    · have e : k = t.size := by omega
      subst e
      have hl : t.data.toList.length = t.size := by simp
      have hcv := run_convert_bytes_back (P := Tryz.prog) wr 50 9 5 ⟨w.heap.size, 0, none⟩ (grownCap w t.size 0 5) (smallL t.data.toList) Tryz.underlying50 Tryz.underlying5 Tryz.underlying9 (fun j hj => by
        have hj' : j < t.size := by simpa [smallL] using hj
        have := (hcells j hj').1
        rw [← hl, part_all, List.getElem?_eq_getElem hj] at this
        rw [addr_add, Nat.zero_add]; simpa using this)
      rw [show (smallL t.data.toList).length = t.size from by simp [smallL]] at hcv
      clear hcells
      go_wp2
      go_ret
      exact ⟨rfl, hbl⟩
theorem rletter_is (b : Int) (w : World) (v : Bool) (h : letterB b = v) :
    Calls Tryz.prog 134 #[.int .u8 b] w fun e w' => e = .returned (.bool v) ∧ w' = w := by
  subst h; exact rletter_any b w
theorem rdigit_is (b : Int) (w : World) (v : Bool) (h : digitB b = v) :
    Calls Tryz.prog 176 #[.int .u8 b] w fun e w' => e = .returned (.bool v) ∧ w' = w := by
  subst h; exact rdigit_any b w
theorem nextI_ok (s : ByteArray) (p : Nat) : nextI s p false = peekI s p := by unfold nextI; rw [if_neg (by simp)]
end Go.Proofs.YtclpcnignheijaaGreatDoor
namespace Go.Proofs.YtclpcnignheijaaGreatDoor
open Go.RowKit

set_option maxRecDepth 100000 in
set_option maxHeartbeats 4000000 in
theorem rword_word (B mb : Nat) (s : ByteArray) (p a m : Nat) (w : World) (h : Mk w mb s p false a m) (hB : B ≤ mb) :
    Calls Tryz.prog 133 #[.pointer (some ⟨mb, 0, none⟩), .bool false] w fun e w' => ∃ x, e = .returned (.string x) ∧ Kp B [153] w w' ∧
      (((wordP s p).2 = some x ∧ Mk w' mb s (wordP s p).1 false a m) ∨ ((wordP s p).2 = none ∧ Mk w' mb s (wordP s p).1 true a m)) := by
  have h4 := h.le; have h5 := h.max
  have d1 := h.c1
  go_enter Tryz.func133, Tryz.ntmps133
  go_wp2_with (first | (go_at_call 131; refine (next_any mb s p false a m _ h).mono ?_; rintro e w' ⟨rfl, nq, rfl⟩) | (go_at_call 134; refine (rletter_any _ _).mono ?_; rintro e w' ⟨rfl, rfl⟩))
  clear d1
  go_loopw [25] (fun _ wr => ∃ q : Nat, Mk wr mb s q false a m ∧ p ≤ q ∧ q ≤ p + 16 ∧ Hid (runP wordB s (16 - (q - p)) q = runP wordB s 16 p) ∧ Kp B [153] w wr) (fun _ wr => s.size - placeM wr mb)
  case atStart => exact ⟨p, h.drewN _, Nat.le_refl _, by omega, by rw [Nat.sub_self]; rfl, (Kp.refl _ _ _).drewN _⟩
  case round =>
    obtain ⟨q, hm, hpq, hq16, HQ, hk⟩ := hrel
    have h6 := hm.le
    cases hw : wordB (peekI s q)
    · have hend : runP wordB s 16 p = q := by rw [← HQ.out]; exact runP_no hw
      have HEnd := hide hend
      have hw' := hw
      unfold wordB nameB at hw'
      simp only [Bool.or_eq_false_iff, beq_eq_false_iff_ne] at hw'
      obtain ⟨⟨⟨l1, l2⟩, l3⟩, l4⟩ := hw'
      obtain ⟨cc, hcc⟩ : ∃ cc, peekI s q = cc := ⟨_, rfl⟩
      have HCC := hide hcc
      rw [hcc] at l1 l2 l3 l4
      have L1 := hide l1; have L2 := hide l2
      have e3 : (cc != 45) = true := by simp [l3]
      have e4 : (cc != 95) = true := by simp [l4]
      have HW := hide hw
      clear hw hend l1 l2 l3 l4 hcc
      have d0 := hm.c0; have d1 := hm.c1; have d2 := hm.c2; have df := hm.free (o := 2)
      by_cases hqp : q = p
      · have HE : Hid ((wordP s p) = (q, none)) := by unfold wordP; rw [HEnd.out, if_pos (.inl hqp)]; rfl
        have hqp' : ((q : Int) == (p : Int)) = true := by simp; omega
        clear hqp
        go_wp2_with (first | (go_at_call 131; refine (next_is mb s q false a m _ cc hm ((nextI_ok s q).trans HCC.out)).mono ?_; rintro e w' ⟨rfl, nq, rfl⟩) | (go_at_call 134; refine (rletter_is _ _ _ L1.out).mono ?_; rintro e w' ⟨rfl, rfl⟩) | (go_at_call 176; refine (rdigit_is _ _ _ L2.out).mono ?_; rintro e w' ⟨rfl, rfl⟩))
        go_ret
        rw [HE.out]
        exact ⟨_, rfl, (hm.drewN _).kp (hk.drewN _) hB _ _, .inr ⟨rfl, (hm.drewN _).set2 true⟩⟩
      · have hqp' : ((q : Int) == (p : Int)) = false := by simp; omega
        have HE : Hid ((wordP s p) = (q, some (subB s p q))) := by unfold wordP; rw [HEnd.out, if_neg (by rw [HW.out]; simp [hqp])]; rfl
        have hsz := subB_size h6 hpq
        have hs5 : (s.extract p q).size ≤ 100000 := by rw [subB_eq, hsz]; omega
        clear hqp
        go_wp2_with (first | (go_at_call 131; refine (next_is mb s q false a m _ cc hm ((nextI_ok s q).trans HCC.out)).mono ?_; rintro e w' ⟨rfl, nq, rfl⟩) | (go_at_call 134; refine (rletter_is _ _ _ L1.out).mono ?_; rintro e w' ⟨rfl, rfl⟩) | (go_at_call 176; refine (rdigit_is _ _ _ L2.out).mono ?_; rintro e w' ⟨rfl, rfl⟩))
        go_quiet (fail)
        go_wp2
        go_ret
        rw [HE.out]
        exact ⟨_, rfl, (hk.drewN _).drewN _, .inl ⟨congrArg some (subB_eq s p q).symm, (hm.drewN _).drewN _⟩⟩
    · obtain ⟨cc, hcc⟩ : ∃ cc, peekI s q = cc := ⟨_, rfl⟩
      have HCC := hide hcc
      have hor : letterB cc = true ∨ (letterB cc = false ∧ digitB cc = true) ∨ (letterB cc = false ∧ digitB cc = false ∧ (cc != 45) = false) ∨ (letterB cc = false ∧ digitB cc = false ∧ (cc != 45) = true ∧ (cc != 95) = false) := by
        have hw' := hw
        rw [hcc] at hw'
        unfold wordB nameB at hw'
        cases h1 : letterB cc
        · cases h2 : digitB cc
          · rw [h1, h2] at hw'; simp at hw'; rcases hw' with h | h
            · exact .inr (.inr (.inl ⟨rfl, rfl, by simp [h]⟩))
            · exact .inr (.inr (.inr ⟨rfl, rfl, by simp [h], by simp [h]⟩))
          · exact .inr (.inl ⟨rfl, rfl⟩)
        · exact .inl rfl
      clear hcc
      have HW := hide hw
      have hlt : q < s.size := peekI_lt (fun e => by rw [e] at hw; revert hw; decide)
      clear hw
      have d1 := hm.c1; have df := hm.free (o := 2); have df1 := hm.free (o := 1); have d2 := hm.c2
      by_cases hq : q - p = 16
      · have hend : runP wordB s 16 p = q := by rw [← HQ.out, hq]; rfl
        have HE : Hid ((wordP s p) = (q, none)) := by unfold wordP; rw [hend, if_pos (.inr HW.out)]; rfl
        have e16 : ((q : Int) - (p : Int) == 16) = true := by simp; omega
        clear hend hq
        rcases hor with l1 | ⟨l1, l2⟩ | ⟨l1, l2, l3⟩ | ⟨l1, l2, l3, l4⟩
        all_goals
          have L1 := hide l1
          clear l1
          go_wp2_with (first | (go_at_call 131; refine (next_is mb s q false a m _ cc hm ((nextI_ok s q).trans HCC.out)).mono ?_; rintro e w' ⟨rfl, nq, rfl⟩) | (go_at_call 134; refine (rletter_is _ _ _ L1.out).mono ?_; rintro e w' ⟨rfl, rfl⟩) | (go_at_call 176; refine (rdigit_any _ _).mono ?_; rintro e w' ⟨rfl, rfl⟩) )
          all_goals
            go_ret
            rw [HE.out]
            exact ⟨_, rfl, (hm.drewN _).kp (hk.drewN _) hB _ _, .inr ⟨rfl, (hm.drewN _).set2 true⟩⟩
      · have e16 : ((q : Int) - (p : Int) == 16) = false := by simp; omega
        rcases hor with l1 | ⟨l1, l2⟩ | ⟨l1, l2, l3⟩ | ⟨l1, l2, l3, l4⟩
        all_goals
          have L1 := hide l1
          clear l1
          go_wp2_with (first | (go_at_call 131; refine (next_is mb s q false a m _ cc hm ((nextI_ok s q).trans HCC.out)).mono ?_; rintro e w' ⟨rfl, nq, rfl⟩) | (go_at_call 134; refine (rletter_is _ _ _ L1.out).mono ?_; rintro e w' ⟨rfl, rfl⟩) | (go_at_call 176; refine (rdigit_any _ _).mono ?_; rintro e w' ⟨rfl, rfl⟩) )
          all_goals
            go_roundw
            case rel =>
              refine ⟨q + 1, (hm.drewN _).set1 (by omega) (by simp), by omega, by omega, hide ?_, (hm.drewN _).kp (hk.drewN _) hB _ _⟩
              rw [← HQ.out, show 16 - (q - p) = (16 - (q + 1 - p)) + 1 from by omega, runP_yes HW.out]
            case measure => rw [((hm.drewN _).set1 (q := q + 1) (by omega) (by simp)).placeM, hm.placeM]; omega
set_option maxRecDepth 100000 in
set_option maxHeartbeats 4000000 in
theorem rword_name (B mb : Nat) (s : ByteArray) (p a m : Nat) (w : World) (h : Mk w mb s p false a m) (hB : B ≤ mb) :
    Calls Tryz.prog 133 #[.pointer (some ⟨mb, 0, none⟩), .bool true] w fun e w' => ∃ x, e = .returned (.string x) ∧ Kp B [153] w w' ∧
      (((newP s p noneTaken).2 = some x ∧ Mk w' mb s (newP s p noneTaken).1 false a m) ∨ ((newP s p noneTaken).2 = none ∧ Mk w' mb s (newP s p noneTaken).1 true a m)) := by
  have h4 := h.le; have h5 := h.max
  have d1 := h.c1
  cases hl : letterB (peekI s p)
  · have HE : Hid ((newP s p noneTaken) = (p, none)) := by unfold newP; rw [if_pos hl]; rfl
    have HL := hide hl
    clear hl
    have df := h.free (o := 2); have d2 := h.c2
    go_enter Tryz.func133, Tryz.ntmps133
    go_wp2_with (first | (go_at_call 131; refine (next_is mb s p false a m _ (peekI s p) h (nextI_ok s p)).mono ?_; rintro e w' ⟨rfl, nq, rfl⟩) | (go_at_call 134; refine (rletter_is _ _ _ HL.out).mono ?_; rintro e w' ⟨rfl, rfl⟩))
    have hb := (h.drewN nq).set2 true
    have hkb := (h.drewN nq).kp ((Kp.refl B [153] w).drewN nq) hB 2 (.bool true)
    clear d1 d2 df
    generalize (w.drewN nq).setCell ⟨mb, 2, none⟩ (.bool true) = w1 at *
    refine wp_loop_rounds 1 ?_
    rw [rounds_succ]
    have d1 := hb.c1; have d2 := hb.c2; have df := hb.free (o := 2)
    go_wp2_with (first | (go_at_call 131; refine (next_is mb s p true a m _ 0 hb rfl).mono ?_; rintro e w' ⟨rfl, nq2, rfl⟩) | (go_at_call 134; refine (rletter_is _ _ false rfl).mono ?_; rintro e w' ⟨rfl, rfl⟩) | (go_at_call 176; refine (rdigit_is _ _ false rfl).mono ?_; rintro e w' ⟨rfl, rfl⟩))
    go_ret
    rw [HE.out]
    exact ⟨_, rfl, (hb.drewN _).kp (hkb.drewN _) hB _ _, .inr ⟨rfl, (hb.drewN _).set2 true⟩⟩
  have HL := hide hl
  have hnm : nameB (peekI s p) = true := by unfold nameB; rw [hl]; rfl
  have HNM := hide hnm
  clear hl hnm
  go_enter Tryz.func133, Tryz.ntmps133
  go_wp2_with (first | (go_at_call 131; refine (next_is mb s p false a m _ (peekI s p) h (nextI_ok s p)).mono ?_; rintro e w' ⟨rfl, nq, rfl⟩) | (go_at_call 134; refine (rletter_is _ _ _ HL.out).mono ?_; rintro e w' ⟨rfl, rfl⟩))
  clear d1
  go_loopw [25] (fun _ wr => ∃ q : Nat, Mk wr mb s q false a m ∧ p ≤ q ∧ q ≤ p + 16 ∧ Hid (runP nameB s (16 - (q - p)) q = runP nameB s 16 p) ∧ Kp B [153] w wr) (fun _ wr => s.size - placeM wr mb)
  case atStart => exact ⟨p, h.drewN _, Nat.le_refl _, by omega, by rw [Nat.sub_self]; rfl, (Kp.refl _ _ _).drewN _⟩
  case round =>
    obtain ⟨q, hm, hpq, hq16, HQ, hk⟩ := hrel
    have h6 := hm.le
    cases hw : nameB (peekI s q)
    · have hend : runP nameB s 16 p = q := by rw [← HQ.out]; exact runP_no hw
      have HEnd := hide hend
      have hw' := hw
      unfold nameB at hw'
      simp only [Bool.or_eq_false_iff, beq_eq_false_iff_ne] at hw'
      obtain ⟨⟨l1, l2⟩, l3⟩ := hw'
      obtain ⟨cc, hcc⟩ : ∃ cc, peekI s q = cc := ⟨_, rfl⟩
      have HCC := hide hcc
      rw [hcc] at l1 l2 l3
      have L1 := hide l1; have L2 := hide l2
      have e3 : (cc != 45) = true := by simp [l3]
      have HW := hide hw
      clear hw hend l1 l2 l3 hcc
      have d0 := hm.c0; have d1 := hm.c1; have d2 := hm.c2; have df := hm.free (o := 2)
      by_cases hqp : q = p
      · exact absurd (hqp ▸ HW.out) (by rw [HNM.out]; simp)
      · have hqp' : ((q : Int) == (p : Int)) = false := by simp; omega
        have HE : Hid ((newP s p noneTaken) = (q, some (nameAt s p))) := by have hx := newP_free (taken := noneTaken) HL.out rfl (show nameEnd s p = q from HEnd.out) rfl; rw [hx, if_neg (by rw [HW.out]; simp)]; rfl
        have hsz := subB_size h6 hpq
        have hs5 : (s.extract p q).size ≤ 100000 := by rw [subB_eq, hsz]; omega
        clear hqp
        go_wp2_with (first | (go_at_call 131; refine (next_is mb s q false a m _ cc hm ((nextI_ok s q).trans HCC.out)).mono ?_; rintro e w' ⟨rfl, nq, rfl⟩) | (go_at_call 134; refine (rletter_is _ _ _ L1.out).mono ?_; rintro e w' ⟨rfl, rfl⟩) | (go_at_call 176; refine (rdigit_is _ _ _ L2.out).mono ?_; rintro e w' ⟨rfl, rfl⟩))
        go_region_with (go_at_call 79; refine (rsmall_any _ _ hs5).mono ?_; rintro e w' ⟨rfl, hbl⟩)
        all_goals
          go_wp2
          go_ret
          rw [HE.out]
          have hkz : Kp B [153] wr _ := Kp.belowD (Kp.refl B [153] wr) hbl rfl rfl rfl rfl rfl
          refine ⟨_, rfl, hk.trans hkz, .inl ⟨?_, ⟨?_, h6, h5⟩⟩⟩
          · have hend := HEnd.out
            show some (nameAt s p) = some _
            unfold nameAt nameEnd
            rw [hend]
          · rw [hbl.block mb (lt_of_block hm.blk)]; exact hm.blk
    · obtain ⟨cc, hcc⟩ : ∃ cc, peekI s q = cc := ⟨_, rfl⟩
      have HCC := hide hcc
      have hor : letterB cc = true ∨ (letterB cc = false ∧ digitB cc = true) ∨ (letterB cc = false ∧ digitB cc = false ∧ (cc != 45) = false) := by
        have hw' := hw
        rw [hcc] at hw'
        unfold nameB at hw'
        cases h1 : letterB cc
        · cases h2 : digitB cc
          · rw [h1, h2] at hw'; simp at hw'; exact .inr (.inr ⟨rfl, rfl, by simp [hw']⟩)
          · exact .inr (.inl ⟨rfl, rfl⟩)
        · exact .inl rfl
      clear hcc
      have HW := hide hw
      have hlt : q < s.size := peekI_lt (fun e => by rw [e] at hw; revert hw; decide)
      clear hw
      have d1 := hm.c1; have df := hm.free (o := 2); have df1 := hm.free (o := 1); have d2 := hm.c2
      by_cases hq : q - p = 16
      · have hend : runP nameB s 16 p = q := by rw [← HQ.out, hq]; rfl
        have HE : Hid ((newP s p noneTaken) = (q, none)) := by have hx := newP_free (taken := noneTaken) HL.out rfl (show nameEnd s p = q from hend) rfl; rw [hx, if_pos HW.out]; rfl
        have e16 : ((q : Int) - (p : Int) == 16) = true := by simp; omega
        clear hend hq
        rcases hor with l1 | ⟨l1, l2⟩ | ⟨l1, l2, l3⟩
        all_goals
          have L1 := hide l1
          clear l1
          go_wp2_with (first | (go_at_call 131; refine (next_is mb s q false a m _ cc hm ((nextI_ok s q).trans HCC.out)).mono ?_; rintro e w' ⟨rfl, nq, rfl⟩) | (go_at_call 134; refine (rletter_is _ _ _ L1.out).mono ?_; rintro e w' ⟨rfl, rfl⟩) | (go_at_call 176; refine (rdigit_any _ _).mono ?_; rintro e w' ⟨rfl, rfl⟩) )
          all_goals
            go_ret
            rw [HE.out]
            exact ⟨_, rfl, (hm.drewN _).kp (hk.drewN _) hB _ _, .inr ⟨rfl, (hm.drewN _).set2 true⟩⟩
      · have e16 : ((q : Int) - (p : Int) == 16) = false := by simp; omega
        rcases hor with l1 | ⟨l1, l2⟩ | ⟨l1, l2, l3⟩
        all_goals
          have L1 := hide l1
          clear l1
          go_wp2_with (first | (go_at_call 131; refine (next_is mb s q false a m _ cc hm ((nextI_ok s q).trans HCC.out)).mono ?_; rintro e w' ⟨rfl, nq, rfl⟩) | (go_at_call 134; refine (rletter_is _ _ _ L1.out).mono ?_; rintro e w' ⟨rfl, rfl⟩) | (go_at_call 176; refine (rdigit_any _ _).mono ?_; rintro e w' ⟨rfl, rfl⟩) )
          all_goals
            go_roundw
            case rel =>
              refine ⟨q + 1, (hm.drewN _).set1 (by omega) (by simp), by omega, by omega, hide ?_, (hm.drewN _).kp (hk.drewN _) hB _ _⟩
              rw [← HQ.out, show 16 - (q - p) = (16 - (q + 1 - p)) + 1 from by omega, runP_yes HW.out]
            case measure => rw [((hm.drewN _).set1 (q := q + 1) (by omega) (by simp)).placeM, hm.placeM]; omega
end Go.Proofs.YtclpcnignheijaaGreatDoor
