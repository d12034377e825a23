/-
  PARTS OF THE PROOF OF THE LAW 'Compiles', joined into one text: Y1, Y2, Y3.
-/
import Derived.Test.YtclpcnignheijaaGreatDoorQ1
import Derived.LaidEql
import Derived.Stop.Asserts
import Derived.RowKitTokens
/-
  errors.As, at an error that was refused and at a variable of the type *api.Fault: the fault is found, whatever stands around it. Go's own text of errors.As and errors.as is walked.
-/
namespace Go.Proofs.YtclpcnignheijaaGreatDoor
open Go.RowKit Go.Extern.Stop Go.Stop Go.Extern

/-! ### Closed facts on the model's entries for internal/reflectlite, at this program's types -/
theorem Tryz.asValueOf (t : Addr) (w : World) : (ReflectliteValue.unpack (.iface 130 (.pointer (some t)))).run Tryz.prog w
    = .ok (.agg #[.pointer (some ⟨9, 130, none⟩), .pointer (some ⟨w.heap.size, 0, none⟩), .int .u64 150]) (w.alloc (.cells #[.pointer (some t)] 130)) := by kernel_rfl
theorem Tryz.asType (a : Addr) (w : World) : (ReflectliteValue.methodAny (ReflectliteValue.valueError "reflectlite.Value.Type" 0) (fun t _ _ _ => ReflectliteType.toType t) #[.agg #[.pointer (some ⟨9, 130, none⟩), .pointer (some a), .int .u64 150]]).run Tryz.prog w
    = .ok (.iface 236 (.agg #[.pointer (some ⟨9, 130, none⟩)])) w := by kernel_rfl
theorem Tryz.asMethodKind (h : Value) (w : World) : (Go.method 506 236 (.agg #[h]) "Kind").run Tryz.prog w = .ok (305, h) w := by kernel_rfl
theorem Tryz.asKindPP (w : World) : ((ReflectliteType.abiMethod fun t => (fun a : Nat => Value.int IntKind.u8 (a : Int)) <$> Rtype.kind t) #[.pointer (some ⟨9, 130, none⟩)]).run Tryz.prog w = .ok (.int .u8 22) w := by kernel_rfl
theorem Tryz.asKindP (w : World) : ((ReflectliteType.abiMethod fun t => (fun a : Nat => Value.int IntKind.u8 (a : Int)) <$> Rtype.kind t) #[.pointer (some ⟨9, 128, none⟩)]).run Tryz.prog w = .ok (.int .u8 22) w := by kernel_rfl
theorem Tryz.asPartsPP (a : Addr) (w : World) : (ReflectliteValue.parts (.agg #[.pointer (some ⟨9, 130, none⟩), .pointer (some a), .int .u64 150])).run Tryz.prog w = .ok (some (130, a, 150)) w := by kernel_rfl
theorem Tryz.asIsNil (a p : Addr) (W : World) (ha : W.cell? a = some (.pointer (some p))) :
    (ReflectliteValue.method (ReflectliteValue.valueError "reflectlite.Value.IsNil" 0) ReflectliteValue.isNil #[.agg #[.pointer (some ⟨9, 130, none⟩), .pointer (some a), .int .u64 150]]).run Tryz.prog W = .ok (.bool false) W := by
  rw [show ∀ (z : Sem Value) (f : TypeId → Addr → Nat → Nat → Sem Value) (v : Value), ReflectliteValue.method z f #[v] = (ReflectliteValue.parts v >>= _) from fun _ _ _ => rfl]
  simp only [Sem.run_bind, Tryz.asPartsPP, Result.andThen]
  simp [ReflectliteValue.isNil, loadVar, isAgg, underlying, Tryz.underlying130, ha, Result.andThen]
theorem Tryz.asMethodElem (h : Value) (w : World) : (Go.method 506 236 (.agg #[h]) "Elem").run Tryz.prog w = .ok (322, .agg #[h]) w := by kernel_rfl
theorem Tryz.asMethodImpl (h : Value) (w : World) : (Go.method 506 236 (.agg #[h]) "Implements").run Tryz.prog w = .ok (323, .agg #[h]) w := by kernel_rfl
theorem Tryz.asMethodAssign (h : Value) (w : World) : (Go.method 506 236 (.agg #[h]) "AssignableTo").run Tryz.prog w = .ok (320, .agg #[h]) w := by kernel_rfl
theorem Tryz.asElem (w : World) : (ReflectliteType.method ReflectliteType.elem #[.agg #[.pointer (some ⟨9, 130, none⟩)]]).run Tryz.prog w = .ok (.iface 236 (.agg #[.pointer (some ⟨9, 128, none⟩)])) w := by kernel_rfl
theorem Tryz.asImpl (w : World) : (ReflectliteType.relation "Implements" ReflectliteType.implements_ #[.agg #[.pointer (some ⟨9, 128, none⟩)], .iface 236 (.agg #[.pointer (some ⟨9, 52, none⟩)])]).run Tryz.prog w = .ok (.bool true) w := by kernel_rfl
theorem Tryz.asTypeFa (v : Value) (w : World) : (ReflectliteType.typeOf #[.iface 128 v]).run Tryz.prog w = .ok (.iface 236 (.agg #[.pointer (some ⟨9, 128, none⟩)])) w := by kernel_rfl
theorem Tryz.asTypeTr (v : Value) (w : World) : (ReflectliteType.typeOf #[.iface 166 v]).run Tryz.prog w = .ok (.iface 236 (.agg #[.pointer (some ⟨9, 166, none⟩)])) w := by kernel_rfl
theorem Tryz.asTypeRe (v : Value) (w : World) : (ReflectliteType.typeOf #[.iface 107 v]).run Tryz.prog w = .ok (.iface 236 (.agg #[.pointer (some ⟨9, 107, none⟩)])) w := by kernel_rfl
theorem Tryz.asAssFa (w : World) : (ReflectliteType.relation "AssignableTo" ReflectliteType.assignableTo #[.agg #[.pointer (some ⟨9, 128, none⟩)], .iface 236 (.agg #[.pointer (some ⟨9, 128, none⟩)])]).run Tryz.prog w = .ok (.bool true) w := by kernel_rfl
theorem Tryz.asAssTr (w : World) : (ReflectliteType.relation "AssignableTo" ReflectliteType.assignableTo #[.agg #[.pointer (some ⟨9, 166, none⟩)], .iface 236 (.agg #[.pointer (some ⟨9, 128, none⟩)])]).run Tryz.prog w = .ok (.bool false) w := by kernel_rfl
theorem Tryz.asAssRe (w : World) : (ReflectliteType.relation "AssignableTo" ReflectliteType.assignableTo #[.agg #[.pointer (some ⟨9, 107, none⟩)], .iface 236 (.agg #[.pointer (some ⟨9, 128, none⟩)])]).run Tryz.prog w = .ok (.bool false) w := by kernel_rfl
theorem Tryz.asValueFa (e : Addr) (w : World) : (ReflectliteValue.unpack (.iface 128 (.pointer (some e)))).run Tryz.prog w
    = .ok (.agg #[.pointer (some ⟨9, 128, none⟩), .pointer (some ⟨w.heap.size, 0, none⟩), .int .u64 150]) (w.alloc (.cells #[.pointer (some e)] 128)) := by kernel_rfl
theorem Tryz.asElemOf (w : World) : (Rtype.elem? 130).run Tryz.prog w = .ok (some 128) w := by kernel_rfl
theorem Tryz.asMk (p : Addr) (w : World) : (ReflectliteValue.mk 128 p ReflectliteValue.flagAddr).run Tryz.prog w = .ok (.agg #[.pointer (some ⟨9, 128, none⟩), .pointer (some p), .int .u64 406]) w := by kernel_rfl
theorem Tryz.asElemV (a p : Addr) (W : World) (ha : W.cell? a = some (.pointer (some p))) :
    (ReflectliteValue.method (ReflectliteValue.valueError "reflectlite.Value.Elem" 0) ReflectliteValue.elem #[.agg #[.pointer (some ⟨9, 130, none⟩), .pointer (some a), .int .u64 150]]).run Tryz.prog W
      = .ok (.agg #[.pointer (some ⟨9, 128, none⟩), .pointer (some p), .int .u64 406]) W := by
  rw [show ∀ (z : Sem Value) (f : TypeId → Addr → Nat → Nat → Sem Value) (v : Value), ReflectliteValue.method z f #[v] = (ReflectliteValue.parts v >>= _) from fun _ _ _ => rfl]
  simp only [Sem.run_bind, Tryz.asPartsPP, Result.andThen]
  simp [ReflectliteValue.elem, loadVar, isAgg, underlying, Tryz.underlying130, ha, Result.andThen, Tryz.asElemOf, Tryz.asMk]
theorem Tryz.asPartsA (a : Addr) (w : World) : (ReflectliteValue.parts (.agg #[.pointer (some ⟨9, 128, none⟩), .pointer (some a), .int .u64 406])).run Tryz.prog w = .ok (some (128, a, 406)) w := by kernel_rfl
theorem Tryz.asPartsB (a : Addr) (w : World) : (ReflectliteValue.parts (.agg #[.pointer (some ⟨9, 128, none⟩), .pointer (some a), .int .u64 150])).run Tryz.prog w = .ok (some (128, a, 150)) w := by kernel_rfl
theorem Tryz.asDirect (w : World) : (Rtype.directlyAssignable 128 128).run Tryz.prog w = .ok true w := by kernel_rfl
theorem Tryz.asSet (ta b e : Addr) (old : Value) (W : World) (hb : W.cell? b = some (.pointer (some e))) (ht : W.cell? ta = some old) (hf : W.frozen? ta = false) :
    (ReflectliteValue.set #[.agg #[.pointer (some ⟨9, 128, none⟩), .pointer (some ta), .int .u64 406], .agg #[.pointer (some ⟨9, 128, none⟩), .pointer (some b), .int .u64 150]]).run Tryz.prog W
      = .ok (.tuple #[]) (W.setCell ta (.pointer (some e))) := by
  rw [show ReflectliteValue.set #[.agg #[.pointer (some ⟨9, 128, none⟩), .pointer (some ta), .int .u64 406], .agg #[.pointer (some ⟨9, 128, none⟩), .pointer (some b), .int .u64 150]] = (ReflectliteValue.parts (.agg #[.pointer (some ⟨9, 128, none⟩), .pointer (some ta), .int .u64 406]) >>= fun p => ReflectliteValue.parts (.agg #[.pointer (some ⟨9, 128, none⟩), .pointer (some b), .int .u64 150]) >>= fun q => _) from rfl]
  simp only [Sem.run_bind, Tryz.asPartsA, Tryz.asPartsB, Result.andThen]
  simp [ReflectliteValue.flagAddr, loadVar, isAgg, underlying, Tryz.underlying128, hb, Result.andThen, Tryz.asDirect, storeVar, Value.cells, storeCells, Addr.add]
  rw [run_store Tryz.prog W ta _ _ (by rfl)]
  simp [ht, hf]
theorem Tryz.noAsTr (v : Value) (xT : TypeId) (w : World) : (Instr.typeAssert (.iface 166 v) xT 240 true).run Tryz.prog w = .ok (.tuple #[.nilIface, .bool false]) w := run_typeAssert_lacksB Tryz.underlying240 (by kernel_rfl) (by kernel_rfl) v xT w
theorem Tryz.noAsRe (v : Value) (xT : TypeId) (w : World) : (Instr.typeAssert (.iface 107 v) xT 240 true).run Tryz.prog w = .ok (.tuple #[.nilIface, .bool false]) w := run_typeAssert_lacksB Tryz.underlying240 (by kernel_rfl) (by kernel_rfl) v xT w
theorem Tryz.unRe (v : Value) (xT : TypeId) (w : World) : (Instr.typeAssert (.iface 107 v) xT 243 true).run Tryz.prog w = .ok (.tuple #[.iface 107 v, .bool true]) w := run_typeAssert_hasB Tryz.underlying243 (by kernel_rfl) v xT w
theorem Tryz.mRe (v : Value) (w : World) : (Go.method 506 107 v "Unwrap").run Tryz.prog w = .ok (309, v) w := by kernel_rfl
end Go.Proofs.YtclpcnignheijaaGreatDoor
/-
  errors.As and errors.Is at an error that was refused.
-/
namespace Go.Proofs.YtclpcnignheijaaGreatDoor
open Go.RowKit Go.Extern.Stop Go.Stop Go.Extern

set_option maxHeartbeats 400000 in
theorem refusalUnwrap_it (kk : Nat) (u : Value) (w : World) (h : w.heap[kk]? = some (.cells #[u] 110 (0, 0))) :
    Calls Tryz.prog 309 #[.pointer (some ⟨kk, 0, none⟩)] w fun e w' => e = .returned u ∧ w' = w := by
  have c0 : w.cell? ⟨kk, 0, none⟩ = some u := by simp [World.cell?, h]
  go_enter Tryz.func309, Tryz.ntmps309
  go_wp2
  go_ret
  exact ⟨rfl, rfl⟩
def depthR (w : World) (n : Nat) (u : Value) : Nat := match u with
  | .iface t (.pointer (some _)) => if t = 107 then n + 5 else depthOf w (n + 2) u
  | _ => 0
theorem depthR_ref (w : World) (n k : Nat) : depthR w n (.iface 107 (.pointer (some ⟨k, 0, none⟩))) = n + 5 := rfl
theorem depthR_chain {w : World} {c pl : Int} {m n : Nat} {v : Value} (h : Chain w c pl m v) (hm : m ≤ n) : depthR w n v = m + 1 := by
  have h1 := depth_chain m (n + 2) v h (by omega)
  obtain ⟨ty, kk, hv⟩ := h.shape
  have hne : ty ≠ 107 := by
    cases m with
    | zero => obtain ⟨k, e, _⟩ := h; rw [hv] at e; cases e; decide
    | succ m => obtain ⟨k, t, u, e, _⟩ := h; rw [hv] at e; cases e; decide
  subst hv
  show (if ty = 107 then n + 5 else depthOf w (n + 2) (.iface ty (.pointer (some ⟨kk, 0, none⟩)))) = _
  rw [if_neg hne]; exact h1
/-- What errors.As leaves at its target: the fault. -/
structure AsPost (w w' : World) (fb : Nat) (c pl : Int) : Prop where
  kp : Kp 0 [128] w w'
  low : ∀ k, k < w.heap.size → k ≠ fb → w'.heap[k]? = w.heap[k]?
  at_ : ∃ kk, w'.heap[fb]? = some (.cells #[.pointer (some ⟨kk, 0, none⟩)] 128 (0, 0)) ∧ w'.heap[kk]? = some (.cells #[.int .i64 c, .int .i64 pl] 134 (0, 0))
set_option maxRecDepth 100000 in
set_option maxHeartbeats 4000000 in
theorem as_in (n vb fb : Nat) (c pl : Int) (v : Value) (old : Value) (w : World) (h : (∃ m, m ≤ n ∧ Chain w c pl m v) ∨ ∃ k u, v = .iface 107 (.pointer (some ⟨k, 0, none⟩)) ∧ w.heap[k]? = some (.cells #[u] 110 (0, 0)) ∧ Chain w c pl n u)
    (hv : w.heap[vb]? = some (.cells #[.pointer (some ⟨fb, 0, none⟩)] 130 (0, 0))) (hf : w.heap[fb]? = some (.cells #[old] 128 (0, 0))) (tv : Value) :
    Calls Tryz.prog 108 #[v, tv, .agg #[.pointer (some ⟨9, 130, none⟩), .pointer (some ⟨vb, 0, none⟩), .int .u64 150], .iface 236 (.agg #[.pointer (some ⟨9, 128, none⟩)])] w fun e w' => e = .returned (.bool true) ∧ AsPost w w' fb c pl := by
  have h109 := @run_callFunc_extern Tryz.prog 109 _ ReflectliteType.typeOf Tryz.func109 (by kernel_rfl) (by kernel_rfl) (by kernel_rfl) (by kernel_rfl)
  have h35 := @run_callFunc_extern Tryz.prog 320 _ (ReflectliteType.relation "AssignableTo" ReflectliteType.assignableTo) Tryz.func320 (by kernel_rfl) (by kernel_rfl) (by kernel_rfl) (by kernel_rfl)
  have h6 := @run_callFunc_extern Tryz.prog 105 _ (fun args => ReflectliteValue.unpack (args.getD 0 (.tuple #[]))) Tryz.func105 (by kernel_rfl) (by kernel_rfl) (by kernel_rfl) (by kernel_rfl)
  have h11 := @run_callFunc_extern Tryz.prog 136 _ (ReflectliteValue.method (ReflectliteValue.valueError "reflectlite.Value.Elem" 0) ReflectliteValue.elem) Tryz.func136 (by kernel_rfl) (by kernel_rfl) (by kernel_rfl) (by kernel_rfl)
  have h12 := @run_callFunc_extern Tryz.prog 137 _ ReflectliteValue.set Tryz.func137 (by kernel_rfl) (by kernel_rfl) (by kernel_rfl) (by kernel_rfl)
  have mA := Tryz.asMethodAssign
  have vs0 := alloc_at w (.cells #[.pointer (some ⟨9, 130, none⟩), .pointer (some ⟨vb, 0, none⟩), .int .u64 150] 187)
  have hv0 := alloc_old hv (.cells #[.pointer (some ⟨9, 130, none⟩), .pointer (some ⟨vb, 0, none⟩), .int .u64 150] 187)
  have hf0 := alloc_old hf (.cells #[.pointer (some ⟨9, 130, none⟩), .pointer (some ⟨vb, 0, none⟩), .int .u64 150] 187)
  have k0 := (Kp.refl 0 [128] w).alloc (.cells #[.pointer (some ⟨9, 130, none⟩), .pointer (some ⟨vb, 0, none⟩), .int .u64 150] 187)
  have hfl := lt_of_block hf
  have h0 : (∃ m, m ≤ n ∧ Chain (w.alloc (.cells #[.pointer (some ⟨9, 130, none⟩), .pointer (some ⟨vb, 0, none⟩), .int .u64 150] 187)) c pl m v) ∨ ∃ k u, v = .iface 107 (.pointer (some ⟨k, 0, none⟩)) ∧ (w.alloc (.cells #[.pointer (some ⟨9, 130, none⟩), .pointer (some ⟨vb, 0, none⟩), .int .u64 150] 187)).heap[k]? = some (.cells #[u] 110 (0, 0)) ∧ Chain (w.alloc (.cells #[.pointer (some ⟨9, 130, none⟩), .pointer (some ⟨vb, 0, none⟩), .int .u64 150] 187)) c pl n u := by
    rcases h with ⟨m, hm, hc⟩ | ⟨k, u, e, hb, hc⟩
    · exact .inl ⟨m, hm, hc.alloc _⟩
    · exact .inr ⟨k, u, e, alloc_old hb _, hc.alloc _⟩
  clear h
  have hlow : ∀ k, k < w.heap.size → (w.alloc (.cells #[.pointer (some ⟨9, 130, none⟩), .pointer (some ⟨vb, 0, none⟩), .int .u64 150] 187)).heap[k]? = w.heap[k]? := fun k hk => Below.heap_alloc _ _ _ (by omega)
  go_enter Tryz.func108, Tryz.ntmps108
  go_wp2
  generalize hW : w.alloc (.cells #[.pointer (some ⟨9, 130, none⟩), .pointer (some ⟨vb, 0, none⟩), .int .u64 150] 187) = W at *
  have hWs : w.heap.size < W.heap.size := by rw [← hW]; simp
  clear hW
  go_loop [0] (fun u => (∃ m, m ≤ n ∧ Chain W c pl m u) ∨ ∃ k u', u = .iface 107 (.pointer (some ⟨k, 0, none⟩)) ∧ W.heap[k]? = some (.cells #[u'] 110 (0, 0)) ∧ Chain W c pl n u') (fun u => depthR W n u)
  case atStart => exact h0
  case round =>
    clear h0
    have hu1 := Tryz.unTr; have hm1 := Tryz.mTr; have hu2 := Tryz.unRe; have hm2 := Tryz.mRe
    have hn1 := Tryz.noAsTr; have hn2 := Tryz.noAsRe
    rcases hrel with ⟨m, hmn, hc⟩ | ⟨k, u', rfl, hb, hc⟩
    · cases m with
      | zero =>
        have tF := Tryz.asTypeFa; have aF := Tryz.asAssFa; have vF := Tryz.asValueFa
        obtain ⟨kk, rfl, hbk⟩ := hc
        have el := Tryz.asElemV ⟨vb, 0, none⟩ ⟨fb, 0, none⟩ W (by simp [World.cell?, hv0])
        have hv1 := alloc_old hf0 (.cells #[.pointer (some ⟨kk, 0, none⟩)] 128)
        have nw := alloc_at W (.cells #[.pointer (some ⟨kk, 0, none⟩)] 128)
        have st := Tryz.asSet ⟨fb, 0, none⟩ ⟨W.heap.size, 0, none⟩ ⟨kk, 0, none⟩ old (W.alloc (.cells #[.pointer (some ⟨kk, 0, none⟩)] 128)) (by show (match (W.alloc _).heap[W.heap.size]? with | some (.cells c _ _) => c[0]? | _ => none) = _; rw [nw]; rfl) (by show (match (W.alloc _).heap[fb]? with | some (.cells c _ _) => c[0]? | _ => none) = _; rw [hv1]; rfl) (free_of hv1)
        obtain ⟨z0, z1, z2⟩ : W.cell? ⟨w.heap.size, 0, none⟩ = some (.pointer (some ⟨9, 130, none⟩)) ∧ W.cell? ⟨w.heap.size, 1, none⟩ = some (.pointer (some ⟨vb, 0, none⟩)) ∧ W.cell? ⟨w.heap.size, 2, none⟩ = some (.int .u64 150) := by simp [World.cell?, vs0]
        go_wp2
        go_ret
        have hbk1 := alloc_old hbk (.cells #[.pointer (some ⟨kk, 0, none⟩)] 128)
        exact ⟨rfl, (k0.alloc _).setCell (p := ⟨fb, 0, none⟩) hv1 (by simp) (Nat.zero_le _) _, fun k hk hne => by rw [Below.heap_setCell _ _ _ _ hne, Below.heap_alloc _ _ _ (by omega)]; exact hlow k hk, kk, set_blk (o := 0) hv1 _, setCell_other hbk1 (block_ne hbk1 hv1 (by decide)) _⟩
      | succ m =>
        have tT := Tryz.asTypeTr; have aT := Tryz.asAssTr
        have hd := hide (depthR_chain hc hmn)
        obtain ⟨kk, t, u, rfl, hb, hc⟩ := hc
        have hd2 := hide (depthR_chain (n := n) hc (by omega))
        obtain ⟨ty, k2, rfl⟩ := hc.shape
        go_wp2_with (go_at_call 315; refine (troubleUnwrap_any kk t ty _ _ hb).mono ?_; rintro e w' ⟨rfl, rfl⟩)
        go_round
        case rel => exact .inl ⟨m, by omega, hc⟩
        case measure => rw [hd.out, hd2.out]; omega
    · have tR := Tryz.asTypeRe; have aR := Tryz.asAssRe
      have hd2 := hide (depthR_chain hc (Nat.le_refl n))
      obtain ⟨ty, k2, rfl⟩ := hc.shape
      go_wp2_with (go_at_call 309; refine (refusalUnwrap_it k _ _ hb).mono ?_; rintro e w' ⟨rfl, rfl⟩)
      go_round
      case rel => exact .inl ⟨n, Nat.le_refl _, hc⟩
      case measure => rw [hd2.out, depthR_ref]; omega

/-- errors.As. -/
def Et (w : World) : Prop := w.cell? ⟨0, 0, none⟩ = some (.iface 236 (.agg #[.pointer (some ⟨9, 52, none⟩)]))
theorem Et.lt {w : World} (h : Et w) : 0 < w.heap.size := by
  rcases Nat.lt_or_ge 0 w.heap.size with hl | hl
  · exact hl
  · simp [Et, World.cell?, Array.getElem?_eq_none hl] at h
theorem Et.kept {w w' : World} {B : Nat} {T : List TypeId} (h : Et w) (k : Kp B T w w') (hB : 0 < B) : Et w' := by
  have hl := h.lt
  unfold Et World.cell? at *
  rw [k.low hl hB]; exact h
end Go.Proofs.YtclpcnignheijaaGreatDoor
/-
  errors.As and errors.Is at an error that was refused; told.
-/
namespace Go.Proofs.YtclpcnignheijaaGreatDoor
open Go.RowKit Go.Extern.Stop Go.Stop Go.Extern

theorem cellOne {w : World} {b : Nat} {x : Value} {t : TypeId} (h : w.heap[b]? = some (.cells #[x] t (0, 0))) : w.cell? ⟨b, 0, none⟩ = some x := by simp [World.cell?, h]
set_option maxRecDepth 100000 in
set_option maxHeartbeats 4000000 in
theorem as_any (fb : Nat) (c pl : Int) (v : Value) (w : World) (h : Refused w c pl v) (he : Et w) (hf : w.heap[fb]? = some (.cells #[.pointer none] 128 (0, 0))) :
    Calls Tryz.prog 70 #[v, .iface 130 (.pointer (some ⟨fb, 0, none⟩))] w fun e w' => e = .returned (.bool true) ∧ AsPost w w' fb c pl := by
  obtain ⟨k, u, n, rfl, hbk, hc⟩ := h
  have h6 := @run_callFunc_extern Tryz.prog 105 _ (fun args => ReflectliteValue.unpack (args.getD 0 (.tuple #[]))) Tryz.func105 (by kernel_rfl) (by kernel_rfl) (by kernel_rfl) (by kernel_rfl)
  have h7 := @run_callFunc_extern Tryz.prog 106 _ (ReflectliteValue.methodAny (ReflectliteValue.valueError "reflectlite.Value.Type" 0) (fun t _ _ _ => ReflectliteType.toType t)) Tryz.func106 (by kernel_rfl) (by kernel_rfl) (by kernel_rfl) (by kernel_rfl)
  have h8 := @run_callFunc_extern Tryz.prog 107 _ (ReflectliteValue.method (ReflectliteValue.valueError "reflectlite.Value.IsNil" 0) ReflectliteValue.isNil) Tryz.func107 (by kernel_rfl) (by kernel_rfl) (by kernel_rfl) (by kernel_rfl)
  have h27 := @run_callFunc_extern Tryz.prog 305 _ (ReflectliteType.abiMethod fun t => do pure (.int .u8 (← Rtype.kind t))) Tryz.func305 (by kernel_rfl) (by kernel_rfl) (by kernel_rfl) (by kernel_rfl)
  have h37 := @run_callFunc_extern Tryz.prog 322 _ (ReflectliteType.method ReflectliteType.elem) Tryz.func322 (by kernel_rfl) (by kernel_rfl) (by kernel_rfl) (by kernel_rfl)
  have h38 := @run_callFunc_extern Tryz.prog 323 _ (ReflectliteType.relation "Implements" ReflectliteType.implements_) Tryz.func323 (by kernel_rfl) (by kernel_rfl) (by kernel_rfl) (by kernel_rfl)
  have f6 := Tryz.asValueOf
  have f7 := Tryz.asType
  have mK := Tryz.asMethodKind
  have mE := Tryz.asMethodElem
  have mI := Tryz.asMethodImpl
  have k27 := Tryz.asKindPP
  have k25 := Tryz.asKindP
  have e27 := Tryz.asElem
  have i25 := Tryz.asImpl
  have vb := alloc_old (alloc_at w (.cells #[.pointer (some ⟨fb, 0, none⟩)] 130)) (.cells #[.pointer (some ⟨9, 130, none⟩), .pointer (some ⟨w.heap.size, 0, none⟩), .int .u64 150] 187)
  have fbW := alloc_old (alloc_old hf (.cells #[.pointer (some ⟨fb, 0, none⟩)] 130)) (.cells #[.pointer (some ⟨9, 130, none⟩), .pointer (some ⟨w.heap.size, 0, none⟩), .int .u64 150] 187)
  have kW := ((Kp.refl 0 [128] w).alloc (.cells #[.pointer (some ⟨fb, 0, none⟩)] 130)).alloc (.cells #[.pointer (some ⟨9, 130, none⟩), .pointer (some ⟨w.heap.size, 0, none⟩), .int .u64 150] 187)
  have cW := (hc.alloc (.cells #[.pointer (some ⟨fb, 0, none⟩)] 130)).alloc (.cells #[.pointer (some ⟨9, 130, none⟩), .pointer (some ⟨w.heap.size, 0, none⟩), .int .u64 150] 187)
  have bW := alloc_old (alloc_old hbk (.cells #[.pointer (some ⟨fb, 0, none⟩)] 130)) (.cells #[.pointer (some ⟨9, 130, none⟩), .pointer (some ⟨w.heap.size, 0, none⟩), .int .u64 150] 187)
  have eW : Et ((w.alloc (.cells #[.pointer (some ⟨fb, 0, none⟩)] 130)).alloc (.cells #[.pointer (some ⟨9, 130, none⟩), .pointer (some ⟨w.heap.size, 0, none⟩), .int .u64 150] 187)) := he.kept (((Kp.refl (0 + 1) [] w).alloc _).alloc _) (by omega)
  have hg2 : ((w.alloc (.cells #[.pointer (some ⟨fb, 0, none⟩)] 130)).alloc (.cells #[.pointer (some ⟨9, 130, none⟩), .pointer (some ⟨w.heap.size, 0, none⟩), .int .u64 150] 187)).cell? ⟨0, 0, none⟩ = some (.iface 236 (.agg #[.pointer (some ⟨9, 52, none⟩)])) := eW
  have n8 := Tryz.asIsNil ⟨w.heap.size, 0, none⟩ ⟨fb, 0, none⟩ ((w.alloc (.cells #[.pointer (some ⟨fb, 0, none⟩)] 130)).alloc (.cells #[.pointer (some ⟨9, 130, none⟩), .pointer (some ⟨w.heap.size, 0, none⟩), .int .u64 150] 187)) (cellOne vb)
  have hl : ∀ j, j < w.heap.size → ((w.alloc (.cells #[.pointer (some ⟨fb, 0, none⟩)] 130)).alloc (.cells #[.pointer (some ⟨9, 130, none⟩), .pointer (some ⟨w.heap.size, 0, none⟩), .int .u64 150] 187)).heap[j]? = w.heap[j]? := fun j hj => by
    rw [Below.heap_alloc _ _ _ (by simp; omega)]
    exact Below.heap_alloc _ _ _ hj
  have hws : w.heap.size ≤ ((w.alloc (.cells #[.pointer (some ⟨fb, 0, none⟩)] 130)).alloc (.cells #[.pointer (some ⟨9, 130, none⟩), .pointer (some ⟨w.heap.size, 0, none⟩), .int .u64 150] 187)).heap.size := by simp; omega
  go_enter Tryz.func70, Tryz.ntmps70
  go_wp2_with (go_at_call 108; refine (as_in n w.heap.size fb c pl _ (.pointer none) _ (.inr ⟨k, u, rfl, bW, cW⟩) vb fbW _).mono ?_; rintro e w1 ⟨rfl, kp, low, at_⟩)
  go_ret
  exact ⟨rfl, kW.trans kp, fun j hj hne => (low j (by omega) hne).trans (hl j hj), at_⟩
theorem Tryz.noIsRe (v : Value) (xT : TypeId) (w : World) : (Instr.typeAssert (.iface 107 v) xT 247 true).run Tryz.prog w = .ok (.tuple #[.nilIface, .bool false]) w := run_typeAssert_lacksB Tryz.underlying247 (by kernel_rfl) (by kernel_rfl) v xT w
set_option maxRecDepth 100000 in
set_option maxHeartbeats 2000000 in
theorem isr_in (n : Nat) (c pl k : Int) (kr : Nat) (ur : Value) (w : World) (hb : w.heap[kr]? = some (.cells #[ur] 110 (0, 0))) (h : Chain w c pl n ur) :
    Calls Tryz.prog 110 #[.iface 107 (.pointer (some ⟨kr, 0, none⟩)), .iface 132 (.int .i64 k), .bool true] w fun e w' => e = .returned (.bool (c == k)) ∧ w' = w := by
  obtain ⟨i, hi, hcmp⟩ := Option.map_eq_some_iff.1 Tryz.isComp
  go_enter Tryz.func110, Tryz.ntmps110
  go_wp2
  go_loop [0] (fun u => (∃ m, m ≤ n ∧ Chain w c pl m u) ∨ u = .iface 132 (.int .i64 c) ∨ u = .iface 107 (.pointer (some ⟨kr, 0, none⟩))) (fun u => depthR w n u)
  case atStart => exact .inr (.inr rfl)
  case round =>
    have heq := run_eql_iface_int (P := Tryz.prog) w c k Tryz.underlying52 Tryz.underlying132 hi hcmp
    have hn1 := Tryz.noIsTr; have hn2 := Tryz.noIsFa; have hn3 := Tryz.noIsEr; have hu1 := Tryz.unTr; have hu2 := Tryz.unFa; have hu3 := Tryz.unEr; have hu4 := Tryz.unsEr
    have hm1 := Tryz.mTr; have hm2 := Tryz.mFa
    have hn5 := Tryz.noIsRe; have hu5 := Tryz.unRe; have hm5 := Tryz.mRe
    rcases hrel with ⟨m, hmn, hc⟩ | rfl | rfl
    · cases m with
      | zero =>
        have hd := hide (depthR_chain hc hmn)
        obtain ⟨kk, rfl, hbf⟩ := hc
        have hty := run_eql_iface_types (P := Tryz.prog) 128 132 (.pointer (some ⟨kk, 0, none⟩)) (.int .i64 k) Tryz.underlying52 (by decide) w
        go_wp2_with (go_at_call 311; refine (faultUnwrap_any kk c pl _ hbf).mono ?_; rintro e w' ⟨rfl, rfl⟩)
        go_round
        case rel => exact .inr (.inl rfl)
        case measure =>
          refine Nat.lt_of_lt_of_le (Nat.succ_pos 0) ?_
          rw [hd.out]; exact Nat.le_refl _
      | succ m =>
        have hd := hide (depthR_chain hc hmn)
        obtain ⟨kk, t, u, rfl, hbt, hc⟩ := hc
        have hd2 := hide (depthR_chain (n := n) hc (by omega))
        obtain ⟨ty, k2, rfl⟩ := hc.shape
        have hty := run_eql_iface_types (P := Tryz.prog) 166 132 (.pointer (some ⟨kk, 0, none⟩)) (.int .i64 k) Tryz.underlying52 (by decide) w
        go_wp2_with (go_at_call 315; refine (troubleUnwrap_any kk t ty _ _ hbt).mono ?_; rintro e w' ⟨rfl, rfl⟩)
        go_round
        case rel => exact .inl ⟨m, by omega, hc⟩
        case measure => rw [hd.out, hd2.out]; omega
    · cases hk : (c == k)
      · go_wp2
        go_ret
        exact ⟨rfl, rfl⟩
      · go_wp2
        go_ret
        exact ⟨rfl, rfl⟩
    · have hd2 := hide (depthR_chain h (Nat.le_refl n))
      have hc := h
      obtain ⟨ty, k2, rfl⟩ := h.shape
      have hty := run_eql_iface_types (P := Tryz.prog) 107 132 (.pointer (some ⟨kr, 0, none⟩)) (.int .i64 k) Tryz.underlying52 (by decide) w
      go_wp2_with (go_at_call 309; refine (refusalUnwrap_it kr _ _ hb).mono ?_; rintro e w' ⟨rfl, rfl⟩)
      go_round
      case rel => exact .inl ⟨n, Nat.le_refl _, hc⟩
      case measure => rw [hd2.out, depthR_ref]; omega
set_option maxRecDepth 100000 in
set_option maxHeartbeats 1000000 in
theorem is_refused (c pl k : Int) (v : Value) (w : World) (h : Refused w c pl v) :
    Calls Tryz.prog 72 #[v, .iface 132 (.int .i64 k)] w fun e w' => e = .returned (.bool (c == k)) ∧ w' = w := by
  obtain ⟨kr, ur, n, rfl, hb, hc⟩ := h
  have h8 := @run_callFunc_extern Tryz.prog 109 _ Extern.ReflectliteType.typeOf Tryz.func109 (by kernel_rfl) (by kernel_rfl) (by kernel_rfl) (by kernel_rfl)
  have h32 := @run_callFunc_extern Tryz.prog 321 _ compOf Tryz.func321 (by kernel_rfl) (by kernel_rfl) (by kernel_rfl) (by kernel_rfl)
  have tT := Tryz.isTypeOf
  have cT := Tryz.isComparable
  have mR := Tryz.mCo
  go_enter Tryz.func72, Tryz.ntmps72
  go_wp2_with (go_at_call 110; refine (isr_in n c pl k kr ur _ hb hc).mono ?_; rintro e w' ⟨rfl, rfl⟩)
  go_ret
  exact ⟨rfl, rfl⟩
theorem Refused.kept {B : Nat} {T : List TypeId} {w w' : World} {c pl : Int} {v : Value} (h : Refused w c pl v) (k : Kp B T w w') (h1 : 134 ∉ T) (h2 : 168 ∉ T) (h3 : 110 ∉ T) : Refused w' c pl v := by
  obtain ⟨kr, ur, n, e, hb, hc⟩ := h
  exact ⟨kr, ur, n, e, k.at hb h3, hc.kept k h1 h2⟩
set_option maxHeartbeats 1000000 in
theorem num_any (c : Int) (w : World) : Calls Tryz.prog 71 #[.int .i64 c] w fun e w' => e = .returned (.int .i64 c) ∧ w' = w := by
  go_enter Tryz.func71, Tryz.ntmps71
  go_wp2
  go_ret
  exact ⟨rfl, rfl⟩
set_option maxHeartbeats 1000000 in
theorem told_ok (w : World) : Calls Tryz.prog 42 #[.nilIface, .int .i64 0, .int .i64 0] w fun e w' => e = .returned (.bool true) ∧ w' = w := by
  go_enter Tryz.func42, Tryz.ntmps42
  go_wp2
  go_ret
  exact ⟨rfl, rfl⟩
set_option maxRecDepth 100000 in
set_option maxHeartbeats 2000000 in
theorem told_bad (c pl : Int) (v : Value) (w : World) (h : Refused w c pl v) (hc : c ≠ 0) (he : Et w) :
    Calls Tryz.prog 42 #[v, .int .i64 c, .int .i64 pl] w fun e w' => e = .returned (.bool true) ∧ Below w.heap.size w w' := by
  have b0 : (c == 0) = false := by simpa using hc
  have fb := alloc_at w (.cells #[.pointer none] 128)
  have k0 := (Kp.refl 0 [] w).alloc (.cells #[.pointer none] 128)
  have h0 := h.kept k0 (by simp) (by simp) (by simp)
  have he0 : Et (w.alloc (.cells #[.pointer none] 128)) := he.kept ((Kp.refl (0 + 1) [] w).alloc _) (by omega)
  obtain ⟨kr, ur, nn, hv, _⟩ := id h
  subst hv
  clear hc
  go_enter Tryz.func42, Tryz.ntmps42
  go_wp2_with fail
  refine (as_any w.heap.size c pl _ _ h0 he0 fb).mono ?_
  rintro e w1 ⟨rfl, kp, low, kk, fb1, hk1⟩
  have h1 := h0.kept kp (by decide) (by decide) (by decide)
  have c0 : w1.cell? ⟨w.heap.size, 0, none⟩ = some (.pointer (some ⟨kk, 0, none⟩)) := by simp [World.cell?, fb1]
  have d0 := cell2_0 hk1; have d1 := cell2_1 hk1
  have hbl : Below w.heap.size w w1 := ⟨kp.os, kp.tape, kp.output, by have := kp.size; simp at this; omega, fun k hk => (low k (by simp; omega) (by omega)).trans (Below.heap_alloc _ _ _ hk)⟩
  have bc : (c == c) = true := by simp
  have bp : (pl == pl) = true := by simp
  go_wp2_with (first | (go_at_call 71; refine (num_any _ _).mono ?_; rintro e w' ⟨rfl, rfl⟩) | (go_at_call 72; refine (is_refused c pl c _ _ h1).mono ?_; rintro e w' ⟨rfl, rfl⟩))
  go_ret
  exact ⟨by simp, hbl⟩
end Go.Proofs.YtclpcnignheijaaGreatDoor
