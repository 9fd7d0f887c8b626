/-
  Layer 24 (reply): errors.Is of what reading gives up with.
-/
import Derived.Test.YtkpepfeiimphpaaDoorCmp
namespace Go.Proofs.YtkpepfeiimphpaaDoor.Oct
open Go.RowKit Go.Extern.Stop Go.Stop Go.Extern
set_option linter.unusedSimpArgs false
set_option linter.unusedVariables false

theorem isTypeOf25 (v : Value) (w : World) : (Extern.ReflectliteType.typeOf #[.iface 25 v]).run Tryd.prog w = .ok (.iface 67 (.agg #[.pointer (some ⟨6, 25, none⟩)])) w := by kernel_rfl
theorem isComparable25 (w : World) : ((Extern.ReflectliteType.method fun t => do Extern.Rtype.noPackHeld "Comparable" t; pure (.bool (← typeInfo t).comparable)) #[.agg #[.pointer (some ⟨6, 25, none⟩)]]).run Tryd.prog w = .ok (.bool true) w := by kernel_rfl
theorem callComparable25 (w : World) : (callFunc 92 #[.agg #[.pointer (some ⟨6, 25, none⟩)]]).run Tryd.prog w = .ok (.value (.bool true)) w := by
  rw [@run_callFunc_extern Tryd.prog 92 _ (Extern.ReflectliteType.method fun t => do Extern.Rtype.noPackHeld "Comparable" t; pure (.bool (← typeInfo t).comparable)) Tryd.func92 (by kernel_rfl) (by kernel_rfl) (by kernel_rfl) (by kernel_rfl), isComparable25]
  rfl
theorem methodComparable (v : Value) (w : World) : (Go.method 250 67 v "Comparable").run Tryd.prog w = .ok (92, v) w := by kernel_rfl
theorem methodUnwrap78 (v : Value) (w : World) : (Go.method 250 78 v "Unwrap").run Tryd.prog w = .ok (102, v) w := by kernel_rfl
theorem noIs78 (v : Value) (xT : TypeId) (w : World) : (Instr.typeAssert (.iface 78 v) xT 69 true).run Tryd.prog w = .ok (.tuple #[.nilIface, .bool false]) w := run_typeAssert_lacksB Tryd.underlying69 (by kernel_rfl) (by kernel_rfl) v xT w
theorem hasUnwrap78 (v : Value) (xT : TypeId) (w : World) : (Instr.typeAssert (.iface 78 v) xT 72 true).run Tryd.prog w = .ok (.tuple #[.iface 78 v, .bool true]) w := run_typeAssert_hasB Tryd.underlying72 (by kernel_rfl) v xT w
theorem comp25 : (Tryd.prog.info? 25).map (·.comparable) = some true := by kernel_rfl
set_option maxRecDepth 100000 in
theorem unwrap_is (a : Int) (w : World) : Calls Tryd.prog 102 #[.agg #[iv a, .iface 25 (iv 240)]] w fun e w' => e = .returned (.iface 25 (iv 240)) ∧ Below w.heap.size w w' := by
  have hb : Below w.heap.size w (w.alloc (.cells #[iv a, .iface 25 (iv 240)] 78)) := below_al _ _
  obtain ⟨A, hA⟩ : ∃ A, w.alloc (.cells #[iv a, .iface 25 (iv 240)] 78) = A := ⟨_, rfl⟩
  obtain ⟨g, hg⟩ : ∃ g, w.heap.size = g := ⟨_, rfl⟩
  have HB : Hid (Below w.heap.size w A) := by show Below _ _ _; rw [← hA]; exact hb
  have HK : Blk A g 78 [iv a, .iface 25 (iv 240)] := by rw [← hA, ← hg]; exact Blk.new w _ _
  have c1 : A.cell? ⟨g, 1, none⟩ = some (.iface 25 (iv 240)) := HK.cell rfl
  clear HK hb
  go_enter Tryd.func102, Tryd.ntmps102
  go_wp2
  go_ret
  exact ⟨rfl, HB.out⟩
set_option maxRecDepth 1000000 in
theorem is_gv (a : Int) (w : World) : Calls Tryd.prog 19 #[gvE a, .iface 25 (iv 240)] w fun e w' => e = .returned (.bool true) ∧ Below w.heap.size w w' := by
  have h8 := @run_callFunc_extern Tryd.prog 30 _ Extern.ReflectliteType.typeOf Tryd.func30 (by kernel_rfl) (by kernel_rfl) (by kernel_rfl) (by kernel_rfl)
  have h32 := callComparable25
  have mR := methodComparable
  have mU := methodUnwrap78
  have tT := isTypeOf25
  have nE := noIs78
  have uW := hasUnwrap78
  have heq := Lib.run_eql_iface_int (P := Tryd.prog) w (k := .i64) 240 240 Tryd.underlying46 comp25 Tryd.underlying25
  have hty := run_eql_iface_types (P := Tryd.prog) 78 25 (.agg #[iv a, .iface 25 (iv 240)]) (iv 240) Tryd.underlying46 (by decide) w
  go_enter Tryd.func19, Tryd.ntmps19
  go_wp2
  refine wp_loop_rounds 2 ?_
  rw [rounds_succ]
  go_wp2_with fail
  refine (unwrap_is a w).mono ?_
  rintro e W ⟨rfl, hb⟩
  have HB : Hid (Below w.heap.size w W) := hb
  clear hb heq hty
  have heq := Lib.run_eql_iface_int (P := Tryd.prog) W (k := .i64) 240 240 Tryd.underlying46 comp25 Tryd.underlying25
  go_wp2
  rw [rounds_succ]
  go_wp2
  go_ret
  exact ⟨rfl, HB.out⟩
set_option maxRecDepth 1000000 in
theorem is_nil (w : World) : Calls Tryd.prog 19 #[.nilIface, .iface 25 (iv 240)] w fun e w' => e = .returned (.bool false) ∧ w = w' := by
  have hn := run_eql_iface_nil_left (P := Tryd.prog) w 25 (iv 240) Tryd.underlying46
  go_enter Tryd.func19, Tryd.ntmps19
  go_wp2
  go_ret
  exact ⟨rfl, rfl⟩
#print axioms is_gv
#print axioms is_nil
end Go.Proofs.YtkpepfeiimphpaaDoor.Oct
