/-
  Layer 22 (fields): errors.As, walked.
-/
import Derived.Test.YtlbcpbibcfolkaaDoorAsf
namespace Go.Proofs.YtlbcpbibcfolkaaDoor.Oct
open Go.RowKit Go.Extern.Stop Go.Stop Go.Extern
set_option linter.unusedSimpArgs false
set_option linter.unusedVariables false

theorem rls (v x : Value) : ReflectliteValue.set #[v, x] = (do
    let (some (dst, a, fl), some (src, b, _)) := (← ReflectliteValue.parts v, ← ReflectliteValue.parts x)
      | unsupported (.noEntry "extern/(internal/reflectlite.Value).Set.zeroValue")
    if fl / ReflectliteValue.flagAddr % 2 == 0 then unsupported (.noEntry "extern/(internal/reflectlite.Value).Set.unaddressable")
    let val ← loadVar src b
    if ← Rtype.directlyAssignable dst src then storeVar dst a val
    else if ← Rtype.implements dst src then
      if (← Rtype.kind src) == 20 then
        match val with
        | .nilIface => unsupported (.noEntry "extern/reflectlite: a nil value of one interface type handed on as a value of another")
        | _ => storeVar dst a val
      else storeVar dst a (.iface src val)
    else panicString ("reflectlite.Set: value of type " ++ (← Rtype.spelt src) ++ " is not assignable to type " ++ (← Rtype.spelt dst))
    pure (.tuple #[])) := rfl
theorem size58 : (Tryd.prog.info? 58).map (·.size) = some 2 := by kernel_rfl
theorem set58 (t b p : Nat) (er : Int) (old : List Value) (W : World) (hb : Blk W b 58 [iv (p : Int), iv er]) (ht : Blk W t 58 old) (hl : old.length = 2) :
    (ReflectliteValue.set #[.agg #[.pointer (some ⟨2, 58, none⟩), .pointer (some ⟨t, 0, none⟩), .int .u64 409], .agg #[.pointer (some ⟨2, 58, none⟩), .pointer (some ⟨b, 0, none⟩), .int .u64 153]]).run Tryd.prog W
      = .ok (.tuple #[]) (W.setCells t 0 [iv (p : Int), iv er]) := by
  have h1 := run_loadVar_mid (P := Tryd.prog) W b 0 58 [iv (p : Int), iv er] _ (hb.range 0 2) Tryd.underlying58 rfl size58
  have h2 := run_storeVar_mid (P := Tryd.prog) W t 0 58 #[iv (p : Int), iv er] (ht.there 0 2 (by omega)) size58 (all_oneCell_toArray (by intro v hv; simp only [List.mem_cons, List.not_mem_nil, or_false] at hv; rcases hv with rfl | rfl <;> rfl))
  rw [rls]
  simp only [Sem.run_bind, parts58a, parts58, Result.andThen]
  simp [ReflectliteValue.flagAddr, h1, Result.andThen, direct58, h2]
#print axioms set58
set_option maxRecDepth 100000 in
theorem unwrap_is (p : Nat) (er : Int) (w : World) : Calls Tryd.prog 91 #[fl p er] w fun e w' => e = .returned (.iface 58 (fl p er)) ∧ Below w.heap.size w w' := by
  have hb : Below w.heap.size w (w.alloc (.cells #[iv (p : Int), iv er] 101)) := below_al _ _
  obtain ⟨A, hA⟩ : ∃ A, w.alloc (.cells #[iv (p : Int), iv er] 101) = A := ⟨_, rfl⟩
  obtain ⟨g, hg⟩ : ∃ g, w.heap.size = g := ⟨_, rfl⟩
  have HB : Hid (Below w.heap.size w A) := by show Below _ _ _; rw [← hA]; exact hb
  have HK : Blk A g 101 [iv (p : Int), iv er] := by rw [← hA, ← hg]; exact Blk.new w _ _
  have c0 : A.cell? ⟨g, 0, none⟩ = some (iv (p : Int)) := HK.cell rfl
  have c1 : A.cell? ⟨g, 1, none⟩ = some (iv er) := HK.cell rfl
  clear HK hb
  go_enter Tryd.func91, Tryd.ntmps91
  go_wp2
  go_ret
  exact ⟨rfl, HB.out⟩
#print axioms unwrap_is
def rt (k : TypeId) : Value := .iface 78 (.agg #[.pointer (some ⟨2, k, none⟩)])
theorem blk_gr {w w' : World} {b t : Nat} {T : TypeId} {L : List Value} (h : Blk w b T L) (k : w.grownBy w' (some t)) (hne : b ≠ t) : Blk w' b T L := h.kept k (by simpa using hne)
set_option maxRecDepth 1000000 in
set_option maxHeartbeats 2000000 in
theorem as48 {w : World} {t c p : Nat} {er : Int} {old : List Value} (ht : Blk w t 58 old) (hl : old.length = 2) (hc : Blk w c 71 [.pointer (some ⟨t, 0, none⟩)]) (x1 : Value) :
    Calls Tryd.prog 48 #[.iface 101 (fl p er), x1, .agg #[.pointer (some ⟨2, 71, none⟩), .pointer (some ⟨c, 0, none⟩), .int .u64 150], .iface 78 (.agg #[.pointer (some ⟨2, 58, none⟩)])] w fun e w' => e = .returned (.bool true) ∧ Blk w' t 58 [iv (p : Int), iv er] ∧ w.grownBy w' (some t) := by
  have h34 := @run_callFunc_extern Tryd.prog 34 _ ReflectliteType.typeOf Tryd.func34 (by kernel_rfl) (by kernel_rfl) (by kernel_rfl) (by kernel_rfl)
  have h77 := @run_callFunc_extern Tryd.prog 77 _ (ReflectliteType.relation "AssignableTo" ReflectliteType.assignableTo) Tryd.func77 (by kernel_rfl) (by kernel_rfl) (by kernel_rfl) (by kernel_rfl)
  have h51 := @run_callFunc_extern Tryd.prog 51 _ (ReflectliteValue.method (ReflectliteValue.valueError "reflectlite.Value.Elem" 0) ReflectliteValue.elem) Tryd.func51 (by kernel_rfl) (by kernel_rfl) (by kernel_rfl) (by kernel_rfl)
  have h52 := @run_callFunc_extern Tryd.prog 52 _ ReflectliteValue.set Tryd.func52 (by kernel_rfl) (by kernel_rfl) (by kernel_rfl) (by kernel_rfl)
  have h45 := @run_callFunc_extern Tryd.prog 45 _ (fun args => ReflectliteValue.unpack (args.getD 0 (.tuple #[]))) Tryd.func45 (by kernel_rfl) (by kernel_rfl) (by kernel_rfl) (by kernel_rfl)
  have t1 := typeOf101
  have t2 := typeOf58
  have a1 := assignable101
  have a2 := assignable58
  have mA := methodAssignableTo
  have nA := noAs101
  have uW := hasUnwrap101
  have mU := methodUnwrap101
  have v58 := valueOf58
  obtain ⟨A, hA⟩ : ∃ A, w.alloc (.cells #[.pointer (some ⟨2, 71, none⟩), .pointer (some ⟨c, 0, none⟩), .int .u64 150] 91) = A := ⟨_, rfl⟩
  obtain ⟨g, hg⟩ : ∃ g, w.heap.size = g := ⟨_, rfl⟩
  have hbA : Below w.heap.size w A := by rw [← hA]; exact below_al _ _
  have HA : Hid (Below w.heap.size w A ∧ Blk A g 91 [.pointer (some ⟨2, 71, none⟩), .pointer (some ⟨c, 0, none⟩), .int .u64 150] ∧ Blk A t 58 old ∧ Blk A c 71 [.pointer (some ⟨t, 0, none⟩)] ∧ old.length = 2) := ⟨hbA, by rw [← hA, ← hg]; exact Blk.new w _ _, ht.below hbA ht.lt, hc.below hbA hc.lt, hl⟩
  clear hbA ht hc hl
  go_enter Tryd.func48, Tryd.ntmps48
  go_wp2
  clear hA
  refine wp_loop_rounds 2 ?_
  rw [rounds_succ]
  go_wp2_with fail
  refine (unwrap_is p er A).mono ?_
  rintro e W1 ⟨rfl, hb1⟩
  have H1 : Hid (Below w.heap.size w W1 ∧ Blk W1 g 91 [.pointer (some ⟨2, 71, none⟩), .pointer (some ⟨c, 0, none⟩), .int .u64 150] ∧ Blk W1 t 58 old ∧ Blk W1 c 71 [.pointer (some ⟨t, 0, none⟩)]) := ⟨below_tr HA.out.1 hb1, HA.out.2.1.below hb1 HA.out.2.1.lt, HA.out.2.2.1.below hb1 HA.out.2.2.1.lt, HA.out.2.2.2.1.below hb1 HA.out.2.2.2.1.lt⟩
  have g0 : W1.cell? ⟨g, 0, none⟩ = some (.pointer (some ⟨2, 71, none⟩)) := H1.out.2.1.cell rfl
  have g1 : W1.cell? ⟨g, 1, none⟩ = some (.pointer (some ⟨c, 0, none⟩)) := H1.out.2.1.cell rfl
  have g2 : W1.cell? ⟨g, 2, none⟩ = some (.int .u64 150) := H1.out.2.1.cell rfl
  have el := elemV71 ⟨c, 0, none⟩ ⟨t, 0, none⟩ W1 (H1.out.2.2.2.cell rfl)
  obtain ⟨W2, hW2⟩ : ∃ W2, W1.alloc (.cells #[iv (p : Int), iv er] 58) = W2 := ⟨_, rfl⟩
  have hb2 : Below W1.heap.size W1 W2 := by rw [← hW2]; exact below_al _ _
  have hn2 : Blk W2 W1.heap.size 58 [iv (p : Int), iv er] := by rw [← hW2]; exact Blk.new W1 _ _
  have ht2 : Blk W2 t 58 old := H1.out.2.2.1.below hb2 H1.out.2.2.1.lt
  have st := set58 t W1.heap.size p er old W2 hn2 ht2 HA.out.2.2.2.2
  have e := Blk.setCells [iv (p : Int), iv er] 0 W2 old ht2 (by rw [HA.out.2.2.2.2]; simp)
  obtain ⟨W3, hW3⟩ : ∃ W3, W2.setCells t 0 [iv (p : Int), iv er] = W3 := ⟨_, rfl⟩
  rw [hW3] at st e
  have H3 : Hid (Blk W3 t 58 [iv (p : Int), iv er] ∧ w.grownBy W3 (some t)) := ⟨blk_all e.1 HA.out.2.2.2.2, (gr_of (below_tr H1.out.1 hb2)).trans e.2⟩
  clear hb1 hb2 hn2 ht2 e hW3
  go_wp2
  rw [rounds_succ]
  go_wp2
  go_ret
  exact ⟨rfl, H3.out⟩
#print axioms as48
end Go.Proofs.YtlbcpbibcfolkaaDoor.Oct
