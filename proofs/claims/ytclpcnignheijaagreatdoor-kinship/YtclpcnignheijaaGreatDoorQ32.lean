/-
  Parts of the proof: JR, JS.
-/
import Derived.Test.YtclpcnignheijaaGreatDoorQ5
import Derived.Test.YtclpcnignheijaaGreatDoorQ13
import Derived.Test.YtclpcnignheijaaGreatDoorQ24
namespace Go.Proofs.YtclpcnignheijaaGreatDoor.Num
open Go.RowKit Go.Proofs.YtclpcnignheijaaGreatDoor
def Tx (s : ByteArray) (p : Nat) (l : List UInt8) : Prop := s.data.toList.drop p = l ∧ p + l.length = s.size
section
variable {B s : ByteArray} {p : Nat} {l r : List UInt8}
theorem Tx.all (B : ByteArray) : Tx B 0 B.data.toList := ⟨rfl, by simp⟩
theorem Tx.skip (h : Tx B p (l ++ r)) : Tx B (p + l.length) r := by
 obtain ⟨h1, h2⟩ := h
 refine ⟨?_, by simp at h2; omega⟩
 rw [← List.drop_drop, h1, List.drop_left]
theorem Tx.step {c : UInt8} (h : Tx B p (c :: r)) : Tx B (p + 1) r := Tx.skip (l := [c]) h
theorem Tx.peek {c : UInt8} (h : Tx B p (c :: r)) (hc : allowedB (c.toNat : Int) = true) : peekI B p = (c.toNat : Int) := by
 obtain ⟨h1, h2⟩ := h
 have hlt : p < B.size := by simp at h2; omega
 have hb : byteI B p = (c.toNat : Int) := by
  have hl : p < B.data.toList.length := by simpa using hlt
  have h3 : B.data.toList[p]? = some c := by
   have := congrArg (fun l => l[0]?) h1
   simpa using this
  rw [byteI_get B p hlt]
  have h4 : B[p] = c := by
   have h5 : B.data.toList[p]? = some B[p] := by
    rw [List.getElem?_eq_getElem hl]; rfl
   rw [h5] at h3
   exact Option.some.inj h3
  rw [h4]
 unfold peekI
 rw [hb, if_pos ⟨hlt, hc⟩]
theorem Tx.endPeek (h : Tx B p []) : peekI B p = 0 := by
 have := h.2
 simp at this
 rw [this]; exact peek_end B
theorem Tx.ins {e : Int} (h : Tx B p (s.data.toList ++ r)) (he : (r = [] ∧ e = 0) ∨ (∃ t, r = 41 :: t ∧ e = 41) ∨ (∃ t, r = 44 :: t ∧ e = 44)) : Ins s B p e := by
 obtain ⟨h1, h2⟩ := id h
 have hl : p + s.size ≤ B.size := by simp at h2; omega
 have hbytes : ∀ i n, i + n ≤ s.size → (B.data.toList.drop (p + i)).take n = (s.data.toList.drop i).take n := by
  intro i n hi
  rw [← List.drop_drop, h1, List.drop_append_of_le_length (by simp; omega), List.take_append_of_le_length (by simp; omega)]
 refine ⟨?_, hl, fun i hi => ?_, hbytes, ?_⟩
 ·rcases he with ⟨-, rfl⟩ | ⟨t, -, rfl⟩ | ⟨t, -, rfl⟩ <;> simp
 ·have h3 := hbytes i 1 (by omega)
  have hb : byteI B (p + i) = byteI s i := by
   rw [byteI_get B _ (by omega), byteI_get s _ hi]
   have e1 : B.data.toList.drop (p + i) = B[p + i] :: B.data.toList.drop (p + i + 1) := drop_cons (by omega)
   have e2 : s.data.toList.drop i = s[i] :: s.data.toList.drop (i + 1) := drop_cons hi
   rw [e1, e2] at h3
   simp only [List.take_succ_cons, List.take_zero, List.cons.injEq, and_true] at h3
   rw [h3]
  unfold peekI
  rw [hb]
  have e3 : (p + i < B.size ∧ allowedB (byteI s i) = true) = (i < s.size ∧ allowedB (byteI s i) = true) := by
   simp [hi, show p + i < B.size by omega]
  simp only [e3]
 ·have h4 := Tx.skip h
  rw [show s.data.toList.length = s.size by simp] at h4
  rcases he with ⟨rfl, rfl⟩ | ⟨t, rfl, rfl⟩ | ⟨t, rfl, rfl⟩
  ·exact h4.endPeek
  ·exact h4.peek (by decide)
  ·exact h4.peek (by decide)
end
theorem Ins.listEnd {s B : ByteArray} {o : Nat} {e : Int} (h : Ins s B o e) (he : e ≠ 44) {n n' p q : Nat} {x : SLst × Nat × Nat} (hn : n ≤ n') (hp : p ≤ s.size) (hx : listP s n p = (q, some x)) : listP B n' (o + p) = (o + q, some x) := by
 cases n with
 | zero => simp [listP] at hx
 | succ n =>
  cases n' with
  | zero => omega
  | succ n' =>
   rw [listP] at hx ⊢
   exact h.parts (listP_gd s n) (h.list n n' (by omega)) (s.size + 1) (B.size + 1) [] 0 0 p q x (by have := h.size; omega) hp (.inr he) hx
theorem list_two {a b B : ByteArray} {p na nb m : Nat} {r : List UInt8} {xa xb : SLst × Nat × Nat} (h : Tx B p (a.data.toList ++ 44 :: (b.data.toList ++ r))) (hr : r = [] ∨ ∃ t, r = 41 :: t) (ha : listP a na 0 = (a.size, some xa)) (hb : listP b nb 0 = (b.size, some xb)) (hna : na ≤ m) (hnb : nb ≤ m) :
  ∃ c d, listP B m p = (p + a.size + 1 + b.size, some (xa.1 ++ xb.1, c, d)) := by
 have i1 : Ins a B p 44 := h.ins (.inr (.inr ⟨_, rfl, rfl⟩))
 have h2 := Tx.skip h
 rw [show a.data.toList.length = a.size by simp] at h2
 have h3 := Tx.step h2
 obtain ⟨e, i2, he⟩ : ∃ e, Ins b B (p + a.size + 1) e ∧ e ≠ 44 := by
  rcases hr with rfl | ⟨t, rfl⟩
  ·exact ⟨0, h3.ins (.inl ⟨rfl, rfl⟩), by decide⟩
  ·exact ⟨41, h3.ins (.inr (.inl ⟨_, rfl, rfl⟩)), by decide⟩
 have hz : p + a.size + 1 + b.size ≤ B.size := i2.size
 cases na with
 | zero => simp [listP] at ha
 | succ na =>
 cases nb with
 | zero => simp [listP] at hb
 | succ nb =>
  cases m with
  | zero => omega
  | succ m =>
   rw [listP] at ha hb ⊢
   obtain ⟨f2, g1, g2⟩ := i1.partsOn (listP_gd a na) (i1.list na m (by omega)) (a.size + 1) (B.size + 1) [] 0 0 0 xa (by omega) (Nat.zero_le _) ha
   simp only [Nat.add_zero] at g2
   rw [g2]
   have k1 := i2.parts (listP_gd b nb) (i2.list nb m (by omega)) (b.size + 1) f2 [] 0 0 0 _ xb (by omega) (Nat.zero_le _) (.inr he) hb
   obtain ⟨l1, e1, e2⟩ := partsP_acc _ _ _ _ _ _ _ k1
   obtain ⟨c2, d2, e3⟩ := e2 xa.1 xa.2.1 xa.2.2
   refine ⟨c2, d2, ?_⟩
   simp only [Nat.add_zero] at e3
   rw [e3, e1]
   rfl
theorem one_word {B : ByteArray} {words : List (List UInt8)} {w : List UInt8} {i : Nat} (hi : words.findIdx? (· == w) = some i) (hok : ∀ c ∈ w, allowedB (c.toNat : Int) = true ∧ UInt8.ofNat (c.toNat : Int).toNat = c) : ∀ (v t : List UInt8) (n p : Nat) (r : List UInt8), t ++ v = w → v.length < n → (∀ k, k < v.length → words.findIdx? (· == t ++ v.take k) = none ∧ goesOn words (t ++ v.take k) (((v.getD k 0).toNat : Int)) = true) → Tx B p (v ++ r) → oneP B words n t p = (p + v.length, some i)
 | [], t, 0, p, r, ht, hn, _, _ => by simp at hn
 | [], t, n + 1, p, r, ht, hn, _, _ => by
  rw [oneP, show t = w by simpa using ht, hi]
  rfl
 | c :: v, t, 0, p, r, ht, hn, _, _ => by simp at hn
 | c :: v, t, n + 1, p, r, ht, hn, hk, hx => by
  have h0 := hk 0 (by simp)
  simp only [List.take_zero, List.append_nil, List.getD_cons_zero] at h0
  have hc := hok c (by rw [← ht]; simp)
  have hpk : peekI B p = (c.toNat : Int) := Tx.peek hx hc.1
  rw [oneP, h0.1]
  dsimp only
  rw [hpk, if_pos h0.2, hc.2]
  have := one_word hi hok v (t ++ [c]) n (p + 1) r (by rw [← ht]; simp) (by simp at hn; omega) (fun k hkv => by
   have := hk (k + 1) (by simp; omega)
   simpa using this) (Tx.step hx)
  rw [this, List.length_cons]
  congr 1
  omega
def isW : List UInt8 := [58, 105, 115, 40]
def notW : List UInt8 := [58, 110, 111, 116, 40]
theorem one_is {B : ByteArray} {p : Nat} {r : List UInt8} (h : Tx B p (isW ++ r)) : oneP B openW 13 [] p = (p + 4, some 10) :=
 one_word (words := openW) (w := isW) (i := 10) (by decide) (by decide) isW [] 13 p r rfl (by decide) (by decide) h
theorem one_not {B : ByteArray} {p : Nat} {r : List UInt8} (h : Tx B p (notW ++ r)) : oneP B openW 13 [] p = (p + 5, some 9) :=
 one_word (words := openW) (w := notW) (i := 9) (by decide) (by decide) notW [] 13 p r rfl (by decide) (by decide) h
section
variable {B : ByteArray} {lg : Nat → Nat × Option (SLst × Nat × Nat)}
theorem simple_k {p q1 q k : Nat} {x : SLst × Nat × Nat} (h1 : oneP B openW 13 [] p = (q1, some k)) (hk : 9 ≤ k) (h2 : lg q1 = (q, some x)) (h3 : peekI B q = 41) : ∃ c d, simpleP lg B p = (q + 1, some (.mk k noB noAttr noNth x.1, c, d)) := by
 refine ⟨x.2.1 + 1, x.2.2 + 1, ?_⟩
 unfold simpleP
 rw [h1]
 dsimp only
 have ha : askedP lg B k q1 = (q, some (.mk k noB noAttr noNth x.1, x.2.1, x.2.2 + 1)) := by
  unfold askedP
  rw [if_neg (by omega), if_neg (by omega), if_neg (by omega), if_pos hk, h2]
  rfl
 rw [ha]
 dsimp only
 have hc : closeW k = [41] := by unfold closeW; rw [if_neg (by omega), if_pos (by omega)]
 have he : expP B (closeW k) q = (q + 1, true) := by
  rw [hc, expP, if_pos ⟨by decide, by rw [h3]; rfl⟩]
  rfl
 rw [he]
 rfl
theorem cpd_one {p q c d : Nat} {x : Sim} (h1 : peekI B p = 58) (h2 : simpleP lg B p = (q, some (x, c, d))) (h3 : atB (peekI B q) = false) (hz : 0 < B.size) : ∃ c d, compoundP lg B p = (q, some ((noB, [x]), c, d)) := by
 refine ⟨0 + c, max 0 d, ?_⟩
 unfold compoundP headP
 rw [if_neg (by rw [h1]; decide), if_pos (by rw [h1]; rfl)]
 dsimp only
 obtain ⟨z, hz⟩ : ∃ z, B.size = z + 1 := ⟨B.size - 1, by omega⟩
 rw [hz, simplesP, if_pos (by rw [h1]; rfl), h2]
 dsimp only
 rw [simplesP, if_neg (by rw [h3]; decide)]
 rfl
theorem cpd_two {p q q2 c d c' d' : Nat} {x y : Sim} (h1 : peekI B p = 58) (h2 : simpleP lg B p = (q, some (x, c, d))) (h3 : peekI B q = 58) (h4 : simpleP lg B q = (q2, some (y, c', d'))) (h5 : atB (peekI B q2) = false) (hz : 1 < B.size) : ∃ c d, compoundP lg B p = (q2, some ((noB, [x, y]), c, d)) := by
 refine ⟨0 + c + c', max (max 0 d) d', ?_⟩
 unfold compoundP headP
 rw [if_neg (by rw [h1]; decide), if_pos (by rw [h1]; rfl)]
 dsimp only
 obtain ⟨z, hz⟩ : ∃ z, B.size = z + 1 + 1 := ⟨B.size - 2, by omega⟩
 rw [hz, simplesP, if_pos (by rw [h1]; rfl), h2]
 dsimp only
 rw [simplesP, if_pos (by rw [h3]; rfl), h4]
 dsimp only
 rw [simplesP, if_neg (by rw [h5]; decide)]
 rfl
theorem sp_no {p : Nat} (h : spaceB (peekI B p) = false) : spP B p = p := runTo_no h
theorem comb_end {p : Nat} (h : peekI B p = 0) : combP B p = (p, none) := by
 unfold combP
 rw [sp_no (by rw [h]; rfl), h]
 rfl
theorem list_cpx {m q : Nat} {c : Cpx} {n d : Nat} (h0 : peekI B 0 = 58) (h : complexP (listP B m) B (B.size + 1) [] 0 0 0 0 = (q, some (c, n, d))) (hq : peekI B q = 0) : ∃ n d, listP B (m + 1) 0 = (q, some ([c], n, d)) := by
 refine ⟨0 + n, max 0 d, ?_⟩
 rw [listP, partsP, sp_no (by rw [h0]; rfl), h]
 dsimp only
 rw [if_neg (by rw [hq]; decide)]
 rfl
end
theorem comp_read {s : ByteArray} {l : SLst} (h : compP s = (0, 0, some l)) : ∃ c d, listP s (s.size + 1) 0 = (s.size, some (l, c, d)) := by
 unfold compP at h
 split at h
 ·cases h
 ·split at h
  ·cases h
  ·rename_i q l0 cn d hx
   split at h
   ·cases h
   ·rename_i hq
    split at h
    ·cases h
    ·simp only [Prod.mk.injEq, Option.some.injEq, true_and] at h
     exact ⟨cn, d, by rw [hx, ← h]; congr 1; simpa using hq⟩
theorem comp_of {s : ByteArray} {l l' : SLst} {q c d : Nat} (h : compP s = (0, 0, some l)) (h' : listP s (s.size + 1) 0 = (q, some (l', c, d))) : l = l' := by
 obtain ⟨c', d', h1⟩ := comp_read h
 rw [h'] at h1
 simp only [Prod.mk.injEq, Option.some.injEq] at h1
 exact h1.2.1.symm
section
variable {b : BS}
theorem mean_app (l l' : SLst) (m : Nat) : mean b (l ++ l') m = (mean b l m || mean b l' m) := by
 rw [mean_eq, mean_eq, mean_eq, List.any_append]
theorem mean_cpx (c : Cpx) (m : Nat) : mean b [c] m = cMean b c m := by rw [mean_eq]; simp
theorem sim_is (l : SLst) (m : Nat) : simM b (mean b) (.mk 10 noB noAttr noNth l) m = mean b l m := by
 unfold simM
 simp
theorem sim_not (l : SLst) (m : Nat) : simM b (mean b) (.mk 9 noB noAttr noNth l) m = !mean b l m := by
 unfold simM
 simp
theorem name_no (m : Nat) : nameM b noB m = true := by
 unfold nameM
 rw [show noB.toList.isEmpty = true by kernel_rfl]
 rfl
theorem cMean_one (ss : List Sim) (m : Nat) : cMean b [(0, noB, ss)] m = ss.all fun s => simM b (mean b) s m := by
 have := cMean_snoc (b := b) [] (0, noB, ss) m
 rw [List.nil_append] at this
 rw [this]
 unfold compM
 rw [name_no, Bool.true_and]
 have hs : standsM b (cMean b []) 0 m = true := by
  unfold standsM
  rw [if_neg (by decide), if_neg (by decide), if_neg (by decide), if_neg (by decide)]
 show (_ && standsM b (cMean b []) 0 m) = _
 rw [hs, Bool.and_true]
theorem cMean_two (ss ss' : List Sim) (cb : Int) (m : Nat) : cMean b [(0, noB, ss), (cb, noB, ss')] m = ((ss'.all fun s => simM b (mean b) s m) && standsM b (fun k => ss.all fun s => simM b (mean b) s k) cb m) := by
 have := cMean_snoc (b := b) [(0, noB, ss)] (cb, noB, ss') m
 rw [List.singleton_append] at this
 rw [this]
 unfold compM
 rw [name_no, Bool.true_and]
 congr 2
 funext k
 exact cMean_one ss k
end
section
variable {B x y : ByteArray} {lx ly l : SLst} {b : BS} {m : Nat}
theorem mean_or (hx : compP x = (0, 0, some lx)) (hy : compP y = (0, 0, some ly)) (hB : B.data.toList = x.data.toList ++ 44 :: y.data.toList) (h : compP B = (0, 0, some l)) : mean b l m = (mean b lx m || mean b ly m) := by
 obtain ⟨c1, d1, r1⟩ := comp_read hx
 obtain ⟨c2, d2, r2⟩ := comp_read hy
 have ht : Tx B 0 (x.data.toList ++ 44 :: (y.data.toList ++ [])) := by rw [List.append_nil, ← hB]; exact Tx.all B
 have hz : x.size + 1 + y.size = B.size := by
  have := ht.2
  simp at this
  omega
 obtain ⟨c, d, r⟩ := list_two (m := B.size + 1) ht (.inl rfl) r1 r2 (by omega) (by omega)
 rw [comp_of h r, mean_app]
theorem simple_is {p n k : Nat} {r : List UInt8} {z : SLst × Nat × Nat} (ht : Tx B p (isW ++ (x.data.toList ++ 41 :: r))) (h1 : listP x n 0 = (x.size, some z)) (hn : n ≤ k) : ∃ c d q, simpleP (listP B k) B p = (q, some (.mk 10 noB noAttr noNth z.1, c, d)) ∧ Tx B q r := by
 have t1 : Tx B (p + 4) (x.data.toList ++ 41 :: r) := Tx.skip (l := isW) ht
 have i : Ins x B (p + 4) 41 := t1.ins (.inr (.inl ⟨_, rfl, rfl⟩))
 have t2 := Tx.skip t1
 rw [show x.data.toList.length = x.size by simp] at t2
 obtain ⟨c, d, e⟩ := simple_k (lg := listP B k) (one_is ht) (by omega) (Ins.listEnd i (by decide) hn (Nat.zero_le _) h1) i.end_
 exact ⟨c, d, _, e, t2.step⟩
theorem simple_not {p n k : Nat} {r : List UInt8} {z : SLst × Nat × Nat} (ht : Tx B p (notW ++ (x.data.toList ++ 41 :: r))) (h1 : listP x n 0 = (x.size, some z)) (hn : n ≤ k) : ∃ c d q, simpleP (listP B k) B p = (q, some (.mk 9 noB noAttr noNth z.1, c, d)) ∧ Tx B q r := by
 have t1 : Tx B (p + 5) (x.data.toList ++ 41 :: r) := Tx.skip (l := notW) ht
 have i : Ins x B (p + 5) 41 := t1.ins (.inr (.inl ⟨_, rfl, rfl⟩))
 have t2 := Tx.skip t1
 rw [show x.data.toList.length = x.size by simp] at t2
 obtain ⟨c, d, e⟩ := simple_k (lg := listP B k) (one_not ht) (by omega) (Ins.listEnd i (by decide) hn (Nat.zero_le _) h1) i.end_
 exact ⟨c, d, _, e, t2.step⟩
theorem simple_neither {p n n' k : Nat} {r : List UInt8} {z z' : SLst × Nat × Nat} (ht : Tx B p (notW ++ (x.data.toList ++ 44 :: (y.data.toList ++ 41 :: r)))) (h1 : listP x n 0 = (x.size, some z)) (h2 : listP y n' 0 = (y.size, some z')) (hn : n ≤ k) (hn' : n' ≤ k) : ∃ c d q, simpleP (listP B k) B p = (q, some (.mk 9 noB noAttr noNth (z.1 ++ z'.1), c, d)) ∧ Tx B q r := by
 have t1 : Tx B (p + 5) (x.data.toList ++ 44 :: (y.data.toList ++ 41 :: r)) := Tx.skip (l := notW) ht
 have t2 := Tx.skip t1
 rw [show x.data.toList.length = x.size by simp] at t2
 have t3 := Tx.skip t2.step
 rw [show y.data.toList.length = y.size by simp] at t3
 obtain ⟨c0, d0, e0⟩ := list_two (m := k) t1 (.inr ⟨_, rfl⟩) h1 h2 hn hn'
 obtain ⟨c, d, e⟩ := simple_k (lg := listP B k) (one_not ht) (by omega) e0 (t3.peek (by decide))
 exact ⟨c, d, _, e, t3.step⟩
theorem peek_colon {p : Nat} {r : List UInt8} (h : Tx B p (58 :: r)) : peekI B p = 58 := h.peek (by decide)
theorem text_one {q c d : Nat} {s : Sim} {r : List UInt8} (t0 : Tx B 0 (58 :: r)) (h : simpleP (listP B B.size) B 0 = (q, some (s, c, d))) (t : Tx B q []) : ∃ c d, listP B (B.size + 1) 0 = (q, some ([[(0, noB, [s])]], c, d)) := by
 have hz : 0 < B.size := by have := t0.2; simp at this; omega
 obtain ⟨c1, d1, e1⟩ := cpd_one (peek_colon t0) h (by rw [t.endPeek]; rfl) hz
 exact list_cpx (peek_colon t0) (cpx_S e1 (comb_end t.endPeek)) t.endPeek
theorem text_two {q q2 c d c' d' : Nat} {s s' : Sim} {r r' : List UInt8} (t0 : Tx B 0 (58 :: r)) (h : simpleP (listP B B.size) B 0 = (q, some (s, c, d))) (t1 : Tx B q (58 :: r')) (h' : simpleP (listP B B.size) B q = (q2, some (s', c', d'))) (t : Tx B q2 []) (hz : 1 < B.size) : ∃ c d, listP B (B.size + 1) 0 = (q2, some ([[(0, noB, [s, s'])]], c, d)) := by
 obtain ⟨c1, d1, e1⟩ := cpd_two (peek_colon t0) h (peek_colon t1) h' (by rw [t.endPeek]; rfl) hz
 exact list_cpx (peek_colon t0) (cpx_S e1 (comb_end t.endPeek)) t.endPeek
theorem mean_is (hx : compP x = (0, 0, some lx)) (hB : B.data.toList = isW ++ (x.data.toList ++ [41])) (h : compP B = (0, 0, some l)) : mean b l m = mean b lx m := by
 obtain ⟨c1, d1, r1⟩ := comp_read hx
 have ht : Tx B 0 (isW ++ (x.data.toList ++ 41 :: [])) := by rw [← hB]; exact Tx.all B
 have hz : 4 + x.size + 1 = B.size := by have := ht.2; simp [isW] at this; omega
 obtain ⟨c, d, q, e, t⟩ := simple_is (k := B.size) ht r1 (by omega)
 obtain ⟨c', d', e'⟩ := text_one ht e t
 rw [comp_of h e', mean_cpx, cMean_one]
 simp [sim_is]
theorem mean_not (hx : compP x = (0, 0, some lx)) (hB : B.data.toList = notW ++ (x.data.toList ++ [41])) (h : compP B = (0, 0, some l)) : mean b l m = !mean b lx m := by
 obtain ⟨c1, d1, r1⟩ := comp_read hx
 have ht : Tx B 0 (notW ++ (x.data.toList ++ 41 :: [])) := by rw [← hB]; exact Tx.all B
 have hz : 5 + x.size + 1 = B.size := by have := ht.2; simp [notW] at this; omega
 obtain ⟨c, d, q, e, t⟩ := simple_not (k := B.size) ht r1 (by omega)
 obtain ⟨c', d', e'⟩ := text_one ht e t
 rw [comp_of h e', mean_cpx, cMean_one]
 simp [sim_not]
theorem mean_neither (hx : compP x = (0, 0, some lx)) (hy : compP y = (0, 0, some ly)) (hB : B.data.toList = notW ++ (x.data.toList ++ 44 :: (y.data.toList ++ [41]))) (h : compP B = (0, 0, some l)) : mean b l m = (!mean b lx m && !mean b ly m) := by
 obtain ⟨c1, d1, r1⟩ := comp_read hx
 obtain ⟨c2, d2, r2⟩ := comp_read hy
 have ht : Tx B 0 (notW ++ (x.data.toList ++ 44 :: (y.data.toList ++ 41 :: []))) := by rw [← hB]; exact Tx.all B
 have hz : 5 + x.size + 1 + y.size + 1 = B.size := by have := ht.2; simp [notW] at this; omega
 obtain ⟨c, d, q, e, t⟩ := simple_neither (k := B.size) ht r1 r2 (by omega) (by omega)
 obtain ⟨c', d', e'⟩ := text_one ht e t
 rw [comp_of h e', mean_cpx, cMean_one]
 simp [sim_not, mean_app]
theorem mean_and (hx : compP x = (0, 0, some lx)) (hy : compP y = (0, 0, some ly)) (hB : B.data.toList = isW ++ (x.data.toList ++ 41 :: (isW ++ (y.data.toList ++ [41])))) (h : compP B = (0, 0, some l)) : mean b l m = (mean b lx m && mean b ly m) := by
 obtain ⟨c1, d1, r1⟩ := comp_read hx
 obtain ⟨c2, d2, r2⟩ := comp_read hy
 have ht : Tx B 0 (isW ++ (x.data.toList ++ 41 :: (isW ++ (y.data.toList ++ 41 :: [])))) := by rw [← hB]; exact Tx.all B
 have hz : 4 + x.size + 1 + 4 + y.size + 1 = B.size := by have := ht.2; simp [isW] at this; omega
 obtain ⟨c, d, q, e, t⟩ := simple_is (k := B.size) ht r1 (by omega)
 obtain ⟨c', d', q', e', t'⟩ := simple_is (k := B.size) t r2 (by omega)
 obtain ⟨c3, d3, e3⟩ := text_two ht e t e' t' (by omega)
 rw [comp_of h e3, mean_cpx, cMean_one]
 simp [sim_is]
theorem comb_at {q : Nat} {cb : UInt8} {r : List UInt8} (t : Tx B q (cb :: 58 :: r)) (hc : cb = 32 ∨ cb = 62 ∨ cb = 43 ∨ cb = 126) : combP B q = (q + 1, some (cb.toNat : Int)) ∧ atB (peekI B q) = false := by
 have p0 : peekI B q = (cb.toNat : Int) := t.peek (by rcases hc with rfl | rfl | rfl | rfl <;> decide)
 have p1 : peekI B (q + 1) = 58 := peek_colon t.step
 have s1 : spP B (q + 1) = q + 1 := sp_no (by rw [p1]; rfl)
 refine ⟨?_, by rw [p0]; rcases hc with rfl | rfl | rfl | rfl <;> rfl⟩
 unfold combP
 rcases hc with rfl | hc
 ·have s0 : spP B q = q + 1 := by
   unfold spP at s1 ⊢
   rw [runTo_yes (by rfl) (by rw [p0]; rfl), s1]
  rw [s0, p1, if_neg (by decide), if_neg (by decide), if_pos (by omega)]
  rfl
 ·have s0 : spP B q = q := sp_no (by rw [p0]; rcases hc with rfl | rfl | rfl <;> rfl)
  rw [s0, p0, if_pos (by rcases hc with rfl | rfl | rfl <;> rfl), s1]
theorem mean_comb (cb : UInt8) (hc : cb = 32 ∨ cb = 62 ∨ cb = 43 ∨ cb = 126) (hx : compP x = (0, 0, some lx)) (hy : compP y = (0, 0, some ly)) (hB : B.data.toList = isW ++ (x.data.toList ++ 41 :: cb :: (isW ++ (y.data.toList ++ [41])))) (h : compP B = (0, 0, some l)) : mean b l m = (mean b ly m && standsM b (mean b lx) (cb.toNat : Int) m) := by
 obtain ⟨c1, d1, r1⟩ := comp_read hx
 obtain ⟨c2, d2, r2⟩ := comp_read hy
 have ht : Tx B 0 (isW ++ (x.data.toList ++ 41 :: (cb :: (isW ++ (y.data.toList ++ 41 :: []))))) := by rw [← hB]; exact Tx.all B
 have hz : 4 + x.size + 1 + 1 + 4 + y.size + 1 = B.size := by have := ht.2; simp [isW] at this; omega
 obtain ⟨c, d, q, e, t⟩ := simple_is (k := B.size) ht r1 (by omega)
 obtain ⟨c', d', q', e', t'⟩ := simple_is (k := B.size) t.step r2 (by omega)
 have t1 : Tx B q (cb :: 58 :: ([105, 115, 40] ++ (y.data.toList ++ [41]))) := t
 obtain ⟨g1, g2⟩ := comb_at t1 hc
 obtain ⟨c3, d3, e3⟩ := cpd_one (peek_colon ht) e g2 (by omega)
 obtain ⟨c4, d4, e4⟩ := cpd_one (peek_colon t.step) e' (by rw [t'.endPeek]; rfl) (by omega)
 obtain ⟨z, hz'⟩ : ∃ z, B.size + 1 = z + 1 + 1 := ⟨B.size - 1, by omega⟩
 obtain ⟨c5, d5, e5⟩ : ∃ c5 d5, complexP (listP B B.size) B (B.size + 1) [] 0 0 0 0 = (q', some ([(0, noB, [.mk 10 noB noAttr noNth lx]), ((cb.toNat : Int), noB, [.mk 10 noB noAttr noNth ly])], c5, d5)) := by
  rw [hz', cpx_G e3 g1, cpx_S e4 (comb_end t'.endPeek)]
  exact ⟨_, _, rfl⟩
 obtain ⟨c6, d6, e6⟩ := list_cpx (peek_colon ht) e5 t'.endPeek
 rw [comp_of h e6, mean_cpx, cMean_two]
 simp [sim_is]
end
end Go.Proofs.YtclpcnignheijaaGreatDoor.Num
