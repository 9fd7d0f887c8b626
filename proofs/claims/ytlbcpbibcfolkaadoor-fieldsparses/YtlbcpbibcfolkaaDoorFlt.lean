/-
  Layer 22 (fields): errors.Is, the law's fault.
-/
import Derived.Test.YtlbcpbibcfolkaaDoorPri
import Derived.Lib.IfaceEq
namespace Go.Proofs.YtlbcpbibcfolkaaDoor.Oct
open Go.RowKit Go.Extern.Stop Go.Stop Go.Extern
set_option linter.unusedSimpArgs false
set_option linter.unusedVariables false

theorem isTypeOf42 (v : Value) (w : World) : (Extern.ReflectliteType.typeOf #[.iface 42 v]).run Tryd.prog w = .ok (.iface 78 (.agg #[.pointer (some ⟨2, 42, none⟩)])) w := by kernel_rfl
theorem isComparable42 (w : World) : ((Extern.ReflectliteType.method fun t => do Extern.Rtype.noPackHeld "Comparable" t; pure (.bool (← typeInfo t).comparable)) #[.agg #[.pointer (some ⟨2, 42, none⟩)]]).run Tryd.prog w = .ok (.bool true) w := by kernel_rfl
theorem callComparable42 (w : World) : (callFunc 78 #[.agg #[.pointer (some ⟨2, 42, none⟩)]]).run Tryd.prog w = .ok (.value (.bool true)) w := by
  rw [@run_callFunc_extern Tryd.prog 78 _ (Extern.ReflectliteType.method fun t => do Extern.Rtype.noPackHeld "Comparable" t; pure (.bool (← typeInfo t).comparable)) Tryd.func78 (by kernel_rfl) (by kernel_rfl) (by kernel_rfl) (by kernel_rfl), isComparable42]
  rfl
theorem methodComparable (v : Value) (w : World) : (Go.method 239 78 v "Comparable").run Tryd.prog w = .ok (78, v) w := by kernel_rfl
theorem methodUnwrap58 (v : Value) (w : World) : (Go.method 239 58 v "Unwrap").run Tryd.prog w = .ok (75, v) w := by kernel_rfl
theorem noIs58 (v : Value) (xT : TypeId) (w : World) : (Instr.typeAssert (.iface 58 v) xT 80 true).run Tryd.prog w = .ok (.tuple #[.nilIface, .bool false]) w := run_typeAssert_lacksB Tryd.underlying80 (by kernel_rfl) (by kernel_rfl) v xT w
theorem hasUnwrap58 (v : Value) (xT : TypeId) (w : World) : (Instr.typeAssert (.iface 58 v) xT 83 true).run Tryd.prog w = .ok (.tuple #[.iface 58 v, .bool true]) w := run_typeAssert_hasB Tryd.underlying83 (by kernel_rfl) v xT w
theorem comp42 : (Tryd.prog.info? 42).map (·.comparable) = some true := by kernel_rfl
set_option maxRecDepth 100000 in
theorem unwrap58_is (p : Nat) (er : Int) (w : World) : Calls Tryd.prog 75 #[fl p er] w fun e w' => e = .returned (.iface 42 (iv er)) ∧ Below w.heap.size w w' := by
  have hb : Below w.heap.size w (w.alloc (.cells #[iv (p : Int), iv er] 58)) := below_al _ _
  obtain ⟨A, hA⟩ : ∃ A, w.alloc (.cells #[iv (p : Int), iv er] 58) = A := ⟨_, rfl⟩
  obtain ⟨g, hg⟩ : ∃ g, w.heap.size = g := ⟨_, rfl⟩
  have HB : Hid (Below w.heap.size w A) := by show Below _ _ _; rw [← hA]; exact hb
  have HK : Blk A g 58 [iv (p : Int), iv er] := by rw [← hA, ← hg]; exact Blk.new w _ _
  have c1 : A.cell? ⟨g, 1, none⟩ = some (iv er) := HK.cell rfl
  clear HK hb
  go_enter Tryd.func75, Tryd.ntmps75
  go_wp2
  go_ret
  exact ⟨rfl, HB.out⟩
set_option maxRecDepth 1000000 in
set_option maxHeartbeats 1000000 in
theorem is_gv (p : Nat) (er : Int) (w : World) : Calls Tryd.prog 21 #[.iface 58 (fl p er), .iface 42 (iv er)] w fun e w' => e = .returned (.bool true) ∧ Below w.heap.size w w' := by
  have h8 := @run_callFunc_extern Tryd.prog 34 _ Extern.ReflectliteType.typeOf Tryd.func34 (by kernel_rfl) (by kernel_rfl) (by kernel_rfl) (by kernel_rfl)
  have h32 := callComparable42
  have mR := methodComparable
  have mU := methodUnwrap58
  have tT := isTypeOf42
  have nE := noIs58
  have uW := hasUnwrap58
  have hty := run_eql_iface_types (P := Tryd.prog) 58 42 (fl p er) (iv er) Tryd.underlying26 (by decide) w
  go_enter Tryd.func21, Tryd.ntmps21
  go_wp2
  refine wp_loop_rounds 2 ?_
  rw [rounds_succ]
  go_wp2_with fail
  refine (unwrap58_is p er w).mono ?_
  rintro e W ⟨rfl, hb⟩
  have HB : Hid (Below w.heap.size w W) := hb
  clear hb hty
  have heq := Lib.run_eql_iface_int (P := Tryd.prog) W (k := .i64) er er Tryd.underlying26 comp42 Tryd.underlying42
  go_wp2
  rw [rounds_succ]
  go_wp2
  go_ret
  exact ⟨rfl, HB.out⟩
#print axioms is_gv
theorem isFault58 (v : Value) (w : World) : (Instr.typeAssert (.iface 58 v) 26 58 true).run Tryd.prog w = .ok (.tuple #[v, .bool true]) w := by kernel_rfl
set_option maxRecDepth 100000 in
set_option maxHeartbeats 1000000 in
theorem fault_yes (p : Nat) (er : Int) (h : er ≠ 0) (w : World) : Calls Tryd.prog 14 #[.iface 58 (fl p er), iv (p : Int), iv er] w fun e w' => e = .returned (.bool true) ∧ Below w.heap.size w w' := by
  have hz := zero58
  have tA := isFault58
  have n1 : (er != 0) = true := by simpa using h
  have n0 : (er == 0) = false := by simpa using h
  obtain ⟨g, hg⟩ : ∃ g, w.heap.size = g := ⟨_, rfl⟩
  obtain ⟨A, hA⟩ : ∃ A, w.alloc (.cells #[iv (p : Int), iv er] 58) = A := ⟨_, rfl⟩
  have HG : Hid (w.heap.size = g) := hg
  clear h
  go_enter Tryd.func14, Tryd.ntmps14
  go_wp2_with (with_reducible change wpList _ _ _ ({ dst := none, op := Op.store 58 _ _, type := _, pos := _, after := _, guard := _ } :: _) _ _; refine Hid.out ?_)
  show wpList _ _ _ _ _ _
  refine wpList_store_blk rfl 58 (.tmp 7) (.tmp 16) rfl g 0 58 [iv 0, iv 0] [iv (p : Int), iv er] rfl rfl (by rw [← HG.out]; exact Blk.new w _ _) (by simp) size58 (by intro v hv; simp only [List.mem_cons, List.not_mem_nil, or_false] at hv; rcases hv with rfl | rfl <;> rfl) ?_
  intro W1 hx1 hg1
  have hk : Blk W1 g 58 [iv (p : Int), iv er] := blk_all hx1.out rfl
  have H1 : Hid (Below w.heap.size w W1) := below_gr (below_al w _) hg1.out (by omega)
  have c0 : W1.cell? ⟨g, 0, none⟩ = some (iv (p : Int)) := hk.cell rfl
  have c1 : W1.cell? ⟨g, 1, none⟩ = some (iv er) := hk.cell rfl
  clear hx1 hg1 hk hA hg
  go_wp2_with fail
  refine (is_gv p er W1).mono ?_
  rintro e W2 ⟨rfl, hb2⟩
  have H2 : Hid (Below w.heap.size w W2) := below_tr H1.out hb2
  clear hb2
  go_wp2
  go_ret
  exact ⟨rfl, H2.out⟩
#print axioms fault_yes
set_option maxRecDepth 100000 in
theorem fault_nil (x : Int) (w : World) : Calls Tryd.prog 14 #[.nilIface, iv x, iv 0] w fun e w' => e = .returned (.bool true) ∧ w = w' := by
  go_enter Tryd.func14, Tryd.ntmps14
  go_wp2
  go_ret
  exact ⟨rfl, rfl⟩
#print axioms fault_nil
end Go.Proofs.YtlbcpbibcfolkaaDoor.Oct
