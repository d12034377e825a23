import Derived.Test.YtgfgeblegkopkaaDoorD3
import Derived.LaidEql
import Derived.Stop.Asserts
namespace Go
section
variable {P : Program} (w : World)
theorem run_equalIn_iface_int (d : Nat) {ti tn : TypeId} {ms : Array (String × TypeId)} {i : TypeInfo} {k : IntKind} (a b : Int)
    (hi : P.underlying ti = some (.interface ms)) (hn : P.underlying tn = some (.int k)) (hinfo : P.info? tn = some i) (hcomp : i.comparable = true) :
    (Op.equalIn (d + 2) ti (.iface tn (.int k a)) (.iface tn (.int k b))).run P w = .ok (a == b) w := by
  simp [Op.equalIn, run_underlying hi, run_underlying hn, typeInfo, hinfo, hcomp]
theorem run_eql_iface_int {ti tn : TypeId} {ms : Array (String × TypeId)} {i : TypeInfo} {k : IntKind} (a b : Int)
    (hi : P.underlying ti = some (.interface ms)) (hn : P.underlying tn = some (.int k)) (hinfo : P.info? tn = some i) (hcomp : i.comparable = true) :
    (binOp .eql ti (.iface tn (.int k a)) (.iface tn (.int k b))).run P w = .ok (.bool (a == b)) w := by
  simp only [binOp]
  simp [Op.equal, Op.maxDepth, run_equalIn_iface_int w 9998 a b hi hn hinfo hcomp]
end
end Go
namespace Go.Proofs.YtgfgeblegkopkaaDoor
open Go.RowKit Go.Extern

theorem is_nil (n : Int) (w : World) :
    Calls Tryd.prog 28 #[.nilIface, .iface 50 (.int .i64 n)] w fun e w' => e = .returned (.bool false) ∧ w' = w := by
  have hn := run_eql_iface_nil_left (P := Tryd.prog) w 50 (.int .i64 n) Tryd.underlying26
  go_enter Tryd.func28, Tryd.ntmps28
  go_wp2
  go_ret
  exact ⟨rfl, rfl⟩

theorem Tryd.isTypeOf (v : Value) (w : World) : (Extern.ReflectliteType.typeOf #[.iface 50 v]).run Tryd.prog w = .ok (.iface 102 (.agg #[.pointer (some ⟨2, 50, none⟩)])) w := by kernel_rfl
/-- What the model does at (rtype).Comparable: the third of its rows. -/
def compOf : Array Value → Sem Value := match Extern.ReflectliteType.rows with
  | _ :: _ :: r :: _ => r.2
  | _ => fun _ => pure .nilIface
theorem Tryd.isComparable (w : World) : (compOf #[.agg #[.pointer (some ⟨2, 50, none⟩)]]).run Tryd.prog w = .ok (.bool true) w := by kernel_rfl
theorem Tryd.isComp : (Tryd.prog.info? 50).map (·.comparable) = some true := by kernel_rfl
theorem Tryd.noIsTr (v : Value) (xT : TypeId) (w : World) : (Instr.typeAssert (.iface 61 v) xT 104 true).run Tryd.prog w = .ok (.tuple #[.nilIface, .bool false]) w := run_typeAssert_lacksB Tryd.underlying104 (by kernel_rfl) (by kernel_rfl) v xT w
theorem Tryd.noIsFa (v : Value) (xT : TypeId) (w : World) : (Instr.typeAssert (.iface 49 v) xT 104 true).run Tryd.prog w = .ok (.tuple #[.nilIface, .bool false]) w := run_typeAssert_lacksB Tryd.underlying104 (by kernel_rfl) (by kernel_rfl) v xT w
theorem Tryd.noIsEr (v : Value) (xT : TypeId) (w : World) : (Instr.typeAssert (.iface 50 v) xT 104 true).run Tryd.prog w = .ok (.tuple #[.nilIface, .bool false]) w := run_typeAssert_lacksB Tryd.underlying104 (by kernel_rfl) (by kernel_rfl) v xT w
theorem Tryd.unTr (v : Value) (xT : TypeId) (w : World) : (Instr.typeAssert (.iface 61 v) xT 107 true).run Tryd.prog w = .ok (.tuple #[.iface 61 v, .bool true]) w := run_typeAssert_hasB Tryd.underlying107 (by kernel_rfl) v xT w
theorem Tryd.unFa (v : Value) (xT : TypeId) (w : World) : (Instr.typeAssert (.iface 49 v) xT 107 true).run Tryd.prog w = .ok (.tuple #[.iface 49 v, .bool true]) w := run_typeAssert_hasB Tryd.underlying107 (by kernel_rfl) v xT w
theorem Tryd.unEr (v : Value) (xT : TypeId) (w : World) : (Instr.typeAssert (.iface 50 v) xT 107 true).run Tryd.prog w = .ok (.tuple #[.nilIface, .bool false]) w := run_typeAssert_lacksB Tryd.underlying107 (by kernel_rfl) (by kernel_rfl) v xT w
theorem Tryd.unsEr (v : Value) (xT : TypeId) (w : World) : (Instr.typeAssert (.iface 50 v) xT 108 true).run Tryd.prog w = .ok (.tuple #[.nilIface, .bool false]) w := run_typeAssert_lacksB Tryd.underlying108 (by kernel_rfl) (by kernel_rfl) v xT w

theorem Tryd.mTr (v : Value) (w : World) : (Go.method 266 61 v "Unwrap").run Tryd.prog w = .ok (102, v) w := by kernel_rfl
theorem Tryd.mFa (v : Value) (w : World) : (Go.method 266 49 v "Unwrap").run Tryd.prog w = .ok (99, v) w := by kernel_rfl
theorem Tryd.mCo (v : Value) (w : World) : (Go.method 266 102 v "Comparable").run Tryd.prog w = .ok (107, v) w := by kernel_rfl
/-- How deep a fault lies, for the loop's measure. -/
def depthOf (w : World) : Nat → Value → Nat
  | 0, _ => 0
  | f + 1, .iface t (.pointer (some a)) => if t = 61 then (match w.cell? ⟨a.block, 1, none⟩ with | some u => depthOf w f u + 1 | none => 0) else 1
  | _, _ => 0
theorem depth_chain {w : World} {c pl : Int} : ∀ (m f : Nat) (v : Value), Chain w c pl m v → m < f → depthOf w f v = m + 1
  | 0, f + 1, v, ⟨k, hv, _⟩, _ => by rw [hv]; rfl
  | m + 1, f + 1, v, ⟨k, t, u, hv, hb, hc⟩, h => by
    rw [hv]
    show (match w.cell? ⟨k, 1, none⟩ with | some u => depthOf w f u + 1 | none => 0) = _
    rw [cell2_1 hb]
    show depthOf w f u + 1 = _
    rw [depth_chain m f u hc (by omega)]

set_option maxHeartbeats 400000 in
theorem faultUnwrap_any (kk : Nat) (c pl : Int) (w : World) (h : w.heap[kk]? = some (.cells #[.int .i64 c, .int .i64 pl] 52 (0, 0))) :
    Calls Tryd.prog 99 #[.pointer (some ⟨kk, 0, none⟩)] w fun e w' => e = .returned (.iface 50 (.int .i64 c)) ∧ w' = w := by
  have c0 := cell2_0 h
  go_enter Tryd.func99, Tryd.ntmps99
  go_wp2
  go_ret
  exact ⟨rfl, rfl⟩
set_option maxHeartbeats 400000 in
theorem troubleUnwrap_any (kk : Nat) (t : ByteArray) (ty : TypeId) (x : Value) (w : World) (h : w.heap[kk]? = some (.cells #[.string t, .iface ty x] 63 (0, 0))) :
    Calls Tryd.prog 102 #[.pointer (some ⟨kk, 0, none⟩)] w fun e w' => e = .returned (.iface ty x) ∧ w' = w := by
  have c0 := cell2_1 h
  go_enter Tryd.func102, Tryd.ntmps102
  go_wp2
  go_ret
  exact ⟨rfl, rfl⟩
set_option maxRecDepth 100000 in
set_option maxHeartbeats 1000000 in
theorem is_in (n : Nat) (c pl k : Int) (v : Value) (w : World) (h : Chain w c pl n v) :
    Calls Tryd.prog 41 #[v, .iface 50 (.int .i64 k), .bool true] w fun e w' => e = .returned (.bool (c == k)) ∧ w' = w := by
  obtain ⟨i, hi, hcmp⟩ := Option.map_eq_some_iff.1 Tryd.isComp
  go_enter Tryd.func41, Tryd.ntmps41
  go_wp2
  go_loop [0] (fun u => (∃ m, m ≤ n ∧ Chain w c pl m u) ∨ u = .iface 50 (.int .i64 c)) (fun u => depthOf w (n + 2) u)
  case atStart => exact .inl ⟨n, Nat.le_refl _, h⟩
  case round =>
    have heq := run_eql_iface_int (P := Tryd.prog) w c k Tryd.underlying26 Tryd.underlying50 hi hcmp
    have hn1 := Tryd.noIsTr; have hn2 := Tryd.noIsFa; have hn3 := Tryd.noIsEr; have hu1 := Tryd.unTr; have hu2 := Tryd.unFa; have hu3 := Tryd.unEr; have hu4 := Tryd.unsEr
    have hm1 := Tryd.mTr; have hm2 := Tryd.mFa
    rcases hrel with ⟨m, hmn, hc⟩ | rfl
    · cases m with
      | zero =>
        have hd := hide (depth_chain 0 (n + 2) _ hc (by omega))
        obtain ⟨kk, rfl, hb⟩ := hc
        have hty := run_eql_iface_types (P := Tryd.prog) 49 50 (.pointer (some ⟨kk, 0, none⟩)) (.int .i64 k) Tryd.underlying26 (by decide) w
        go_wp2_with (go_at_call 99; refine (faultUnwrap_any kk c pl _ hb).mono ?_; rintro e w' ⟨rfl, rfl⟩)
        go_round
        case rel => exact .inr rfl
        case measure => rw [hd.out]; exact Nat.succ_pos _
      | succ m =>
        have hd := hide (depth_chain (m + 1) (n + 2) _ hc (by omega))
        obtain ⟨kk, t, u, rfl, hb, hc⟩ := hc
        have hd2 := hide (depth_chain m (n + 2) _ hc (by omega))
        obtain ⟨ty, k2, rfl⟩ := hc.shape
        have hty := run_eql_iface_types (P := Tryd.prog) 61 50 (.pointer (some ⟨kk, 0, none⟩)) (.int .i64 k) Tryd.underlying26 (by decide) w
        go_wp2_with (go_at_call 102; refine (troubleUnwrap_any kk t ty _ _ hb).mono ?_; rintro e w' ⟨rfl, rfl⟩)
        go_round
        case rel => exact .inl ⟨m, by omega, hc⟩
        case measure => rw [hd.out, hd2.out]; omega
    · cases hk : (c == k)
      · go_wp2
        go_ret
        exact ⟨rfl, rfl⟩
      · go_wp2
        go_ret
        exact ⟨rfl, rfl⟩
set_option maxRecDepth 100000 in
set_option maxHeartbeats 1000000 in
theorem is_chain (n : Nat) (c pl k : Int) (v : Value) (w : World) (h : Chain w c pl n v) :
    Calls Tryd.prog 28 #[v, .iface 50 (.int .i64 k)] w fun e w' => e = .returned (.bool (c == k)) ∧ w' = w := by
  obtain ⟨ty, kk, rfl⟩ := h.shape
  have h8 := @run_callFunc_extern Tryd.prog 40 _ Extern.ReflectliteType.typeOf Tryd.func40 (by kernel_rfl) (by kernel_rfl) (by kernel_rfl) (by kernel_rfl)
  have h32 := @run_callFunc_extern Tryd.prog 107 _ compOf Tryd.func107 (by kernel_rfl) (by kernel_rfl) (by kernel_rfl) (by kernel_rfl)
  have tT := Tryd.isTypeOf
  have cT := Tryd.isComparable
  have mR := Tryd.mCo
  go_enter Tryd.func28, Tryd.ntmps28
  go_wp2_with (go_at_call 41; refine (is_in n c pl k _ _ h).mono ?_; rintro e w' ⟨rfl, rfl⟩)
  go_ret
  exact ⟨rfl, rfl⟩
end Go.Proofs.YtgfgeblegkopkaaDoor
