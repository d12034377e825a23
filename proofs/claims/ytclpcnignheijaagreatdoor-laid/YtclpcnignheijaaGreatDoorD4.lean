import Derived.Test.YtclpcnignheijaaGreatDoorD3
import Derived.LaidEql
import Derived.Stop.Asserts
namespace Go
section
variable {P : Program} (w : World)
theorem run_equalIn_iface_int (d : Nat) {ti tn : TypeId} {ms : Array (String × TypeId)} {i : TypeInfo} {k : IntKind} (a b : Int)
    (hi : P.underlying ti = some (.interface ms)) (hn : P.underlying tn = some (.int k)) (hinfo : P.info? tn = some i) (hcomp : i.comparable = true) :
    (Op.equalIn (d + 2) ti (.iface tn (.int k a)) (.iface tn (.int k b))).run P w = .ok (a == b) w := by
  simp [Op.equalIn, run_underlying hi, run_underlying hn, typeInfo, hinfo, hcomp]
theorem run_eql_iface_int {ti tn : TypeId} {ms : Array (String × TypeId)} {i : TypeInfo} {k : IntKind} (a b : Int)
    (hi : P.underlying ti = some (.interface ms)) (hn : P.underlying tn = some (.int k)) (hinfo : P.info? tn = some i) (hcomp : i.comparable = true) :
    (binOp .eql ti (.iface tn (.int k a)) (.iface tn (.int k b))).run P w = .ok (.bool (a == b)) w := by
  simp only [binOp]
  simp [Op.equal, Op.maxDepth, run_equalIn_iface_int w 9998 a b hi hn hinfo hcomp]
end
end Go
namespace Go.Proofs.YtclpcnignheijaaGreatDoor
open Go.RowKit Go.Extern

theorem is_nil (n : Int) (w : World) :
    Calls Tryz.prog 72 #[.nilIface, .iface 132 (.int .i64 n)] w fun e w' => e = .returned (.bool false) ∧ w' = w := by
  have hn := run_eql_iface_nil_left (P := Tryz.prog) w 132 (.int .i64 n) Tryz.underlying52
  go_enter Tryz.func72, Tryz.ntmps72
  go_wp2
  go_ret
  exact ⟨rfl, rfl⟩

theorem Tryz.isTypeOf (v : Value) (w : World) : (Extern.ReflectliteType.typeOf #[.iface 132 v]).run Tryz.prog w = .ok (.iface 236 (.agg #[.pointer (some ⟨9, 132, none⟩)])) w := by kernel_rfl
/-- What the model does at (rtype).Comparable: the third of its rows. -/
def compOf : Array Value → Sem Value := match Extern.ReflectliteType.rows with
  | _ :: _ :: r :: _ => r.2
  | _ => fun _ => pure .nilIface
theorem Tryz.isComparable (w : World) : (compOf #[.agg #[.pointer (some ⟨9, 132, none⟩)]]).run Tryz.prog w = .ok (.bool true) w := by kernel_rfl
theorem Tryz.isComp : (Tryz.prog.info? 132).map (·.comparable) = some true := by kernel_rfl
theorem Tryz.noIsTr (v : Value) (xT : TypeId) (w : World) : (Instr.typeAssert (.iface 166 v) xT 247 true).run Tryz.prog w = .ok (.tuple #[.nilIface, .bool false]) w := run_typeAssert_lacksB Tryz.underlying247 (by kernel_rfl) (by kernel_rfl) v xT w
theorem Tryz.noIsFa (v : Value) (xT : TypeId) (w : World) : (Instr.typeAssert (.iface 128 v) xT 247 true).run Tryz.prog w = .ok (.tuple #[.nilIface, .bool false]) w := run_typeAssert_lacksB Tryz.underlying247 (by kernel_rfl) (by kernel_rfl) v xT w
theorem Tryz.noIsEr (v : Value) (xT : TypeId) (w : World) : (Instr.typeAssert (.iface 132 v) xT 247 true).run Tryz.prog w = .ok (.tuple #[.nilIface, .bool false]) w := run_typeAssert_lacksB Tryz.underlying247 (by kernel_rfl) (by kernel_rfl) v xT w
theorem Tryz.unTr (v : Value) (xT : TypeId) (w : World) : (Instr.typeAssert (.iface 166 v) xT 243 true).run Tryz.prog w = .ok (.tuple #[.iface 166 v, .bool true]) w := run_typeAssert_hasB Tryz.underlying243 (by kernel_rfl) v xT w
theorem Tryz.unFa (v : Value) (xT : TypeId) (w : World) : (Instr.typeAssert (.iface 128 v) xT 243 true).run Tryz.prog w = .ok (.tuple #[.iface 128 v, .bool true]) w := run_typeAssert_hasB Tryz.underlying243 (by kernel_rfl) v xT w
theorem Tryz.unEr (v : Value) (xT : TypeId) (w : World) : (Instr.typeAssert (.iface 132 v) xT 243 true).run Tryz.prog w = .ok (.tuple #[.nilIface, .bool false]) w := run_typeAssert_lacksB Tryz.underlying243 (by kernel_rfl) (by kernel_rfl) v xT w
theorem Tryz.unsEr (v : Value) (xT : TypeId) (w : World) : (Instr.typeAssert (.iface 132 v) xT 244 true).run Tryz.prog w = .ok (.tuple #[.nilIface, .bool false]) w := run_typeAssert_lacksB Tryz.underlying244 (by kernel_rfl) (by kernel_rfl) v xT w

theorem Tryz.mTr (v : Value) (w : World) : (Go.method 506 166 v "Unwrap").run Tryz.prog w = .ok (315, v) w := by kernel_rfl
theorem Tryz.mFa (v : Value) (w : World) : (Go.method 506 128 v "Unwrap").run Tryz.prog w = .ok (311, v) w := by kernel_rfl
theorem Tryz.mCo (v : Value) (w : World) : (Go.method 506 236 v "Comparable").run Tryz.prog w = .ok (321, v) w := by kernel_rfl
/-- How deep a fault lies, for the loop's measure. -/
def depthOf (w : World) : Nat → Value → Nat
  | 0, _ => 0
  | f + 1, .iface t (.pointer (some a)) => if t = 166 then (match w.cell? ⟨a.block, 1, none⟩ with | some u => depthOf w f u + 1 | none => 0) else 1
  | _, _ => 0
theorem depth_chain {w : World} {c pl : Int} : ∀ (m f : Nat) (v : Value), Chain w c pl m v → m < f → depthOf w f v = m + 1
  | 0, f + 1, v, ⟨k, hv, _⟩, _ => by rw [hv]; rfl
  | m + 1, f + 1, v, ⟨k, t, u, hv, hb, hc⟩, h => by
    rw [hv]
    show (match w.cell? ⟨k, 1, none⟩ with | some u => depthOf w f u + 1 | none => 0) = _
    rw [cell2_1 hb]
    show depthOf w f u + 1 = _
    rw [depth_chain m f u hc (by omega)]

set_option maxHeartbeats 400000 in
theorem faultUnwrap_any (kk : Nat) (c pl : Int) (w : World) (h : w.heap[kk]? = some (.cells #[.int .i64 c, .int .i64 pl] 134 (0, 0))) :
    Calls Tryz.prog 311 #[.pointer (some ⟨kk, 0, none⟩)] w fun e w' => e = .returned (.iface 132 (.int .i64 c)) ∧ w' = w := by
  have c0 := cell2_0 h
  go_enter Tryz.func311, Tryz.ntmps311
  go_wp2
  go_ret
  exact ⟨rfl, rfl⟩
set_option maxHeartbeats 400000 in
theorem troubleUnwrap_any (kk : Nat) (t : ByteArray) (ty : TypeId) (x : Value) (w : World) (h : w.heap[kk]? = some (.cells #[.string t, .iface ty x] 168 (0, 0))) :
    Calls Tryz.prog 315 #[.pointer (some ⟨kk, 0, none⟩)] w fun e w' => e = .returned (.iface ty x) ∧ w' = w := by
  have c0 := cell2_1 h
  go_enter Tryz.func315, Tryz.ntmps315
  go_wp2
  go_ret
  exact ⟨rfl, rfl⟩
set_option maxRecDepth 100000 in
set_option maxHeartbeats 1000000 in
theorem is_in (n : Nat) (c pl k : Int) (v : Value) (w : World) (h : Chain w c pl n v) :
    Calls Tryz.prog 110 #[v, .iface 132 (.int .i64 k), .bool true] w fun e w' => e = .returned (.bool (c == k)) ∧ w' = w := by
  obtain ⟨i, hi, hcmp⟩ := Option.map_eq_some_iff.1 Tryz.isComp
  go_enter Tryz.func110, Tryz.ntmps110
  go_wp2
  go_loop [0] (fun u => (∃ m, m ≤ n ∧ Chain w c pl m u) ∨ u = .iface 132 (.int .i64 c)) (fun u => depthOf w (n + 2) u)
  case atStart => exact .inl ⟨n, Nat.le_refl _, h⟩
  case round =>
    have heq := run_eql_iface_int (P := Tryz.prog) w c k Tryz.underlying52 Tryz.underlying132 hi hcmp
    have hn1 := Tryz.noIsTr; have hn2 := Tryz.noIsFa; have hn3 := Tryz.noIsEr; have hu1 := Tryz.unTr; have hu2 := Tryz.unFa; have hu3 := Tryz.unEr; have hu4 := Tryz.unsEr
    have hm1 := Tryz.mTr; have hm2 := Tryz.mFa
    rcases hrel with ⟨m, hmn, hc⟩ | rfl
    · cases m with
      | zero =>
        have hd := hide (depth_chain 0 (n + 2) _ hc (by omega))
        obtain ⟨kk, rfl, hb⟩ := hc
        have hty := run_eql_iface_types (P := Tryz.prog) 128 132 (.pointer (some ⟨kk, 0, none⟩)) (.int .i64 k) Tryz.underlying52 (by decide) w
        go_wp2_with (go_at_call 311; refine (faultUnwrap_any kk c pl _ hb).mono ?_; rintro e w' ⟨rfl, rfl⟩)
        go_round
        case rel => exact .inr rfl
        case measure => rw [hd.out]; exact Nat.succ_pos _
      | succ m =>
        have hd := hide (depth_chain (m + 1) (n + 2) _ hc (by omega))
        obtain ⟨kk, t, u, rfl, hb, hc⟩ := hc
        have hd2 := hide (depth_chain m (n + 2) _ hc (by omega))
        obtain ⟨ty, k2, rfl⟩ := hc.shape
        have hty := run_eql_iface_types (P := Tryz.prog) 166 132 (.pointer (some ⟨kk, 0, none⟩)) (.int .i64 k) Tryz.underlying52 (by decide) w
        go_wp2_with (go_at_call 315; refine (troubleUnwrap_any kk t ty _ _ hb).mono ?_; rintro e w' ⟨rfl, rfl⟩)
        go_round
        case rel => exact .inl ⟨m, by omega, hc⟩
        case measure => rw [hd.out, hd2.out]; omega
    · cases hk : (c == k)
      · go_wp2
        go_ret
        exact ⟨rfl, rfl⟩
      · go_wp2
        go_ret
        exact ⟨rfl, rfl⟩
set_option maxRecDepth 100000 in
set_option maxHeartbeats 1000000 in
theorem is_chain (n : Nat) (c pl k : Int) (v : Value) (w : World) (h : Chain w c pl n v) :
    Calls Tryz.prog 72 #[v, .iface 132 (.int .i64 k)] w fun e w' => e = .returned (.bool (c == k)) ∧ w' = w := by
  obtain ⟨ty, kk, rfl⟩ := h.shape
  have h8 := @run_callFunc_extern Tryz.prog 109 _ Extern.ReflectliteType.typeOf Tryz.func109 (by kernel_rfl) (by kernel_rfl) (by kernel_rfl) (by kernel_rfl)
  have h32 := @run_callFunc_extern Tryz.prog 321 _ compOf Tryz.func321 (by kernel_rfl) (by kernel_rfl) (by kernel_rfl) (by kernel_rfl)
  have tT := Tryz.isTypeOf
  have cT := Tryz.isComparable
  have mR := Tryz.mCo
  go_enter Tryz.func72, Tryz.ntmps72
  go_wp2_with (go_at_call 110; refine (is_in n c pl k _ _ h).mono ?_; rintro e w' ⟨rfl, rfl⟩)
  go_ret
  exact ⟨rfl, rfl⟩
end Go.Proofs.YtclpcnignheijaaGreatDoor
