/-
  Layer 22 (fields): errors.As, faultOf.
-/
import Derived.Test.YtlbcpbibcfolkaaDoorAs
import Derived.Defers
import Derived.Recover
namespace Go.Proofs.YtlbcpbibcfolkaaDoor.Oct
open Go.RowKit Go.Extern.Stop Go.Stop Go.Extern
set_option linter.unusedSimpArgs false
set_option linter.unusedVariables false

set_option maxRecDepth 1000000 in
set_option maxHeartbeats 2000000 in
theorem as38 {w : World} {t p : Nat} {er : Int} {old : List Value} (hE : ET w) (ht : Blk w t 58 old) (hl : old.length = 2) :
    Calls Tryd.prog 38 #[.iface 101 (fl p er), .iface 71 (.pointer (some ⟨t, 0, none⟩))] w fun e w' => e = .returned (.bool true) ∧ Blk w' t 58 [iv (p : Int), iv er] ∧ w.grownBy w' (some t) := by
  have h45 := @run_callFunc_extern Tryd.prog 45 _ (fun args => ReflectliteValue.unpack (args.getD 0 (.tuple #[]))) Tryd.func45 (by kernel_rfl) (by kernel_rfl) (by kernel_rfl) (by kernel_rfl)
  have h46 := @run_callFunc_extern Tryd.prog 46 _ (ReflectliteValue.methodAny (ReflectliteValue.valueError "reflectlite.Value.Type" 0) (fun t _ _ _ => ReflectliteType.toType t)) Tryd.func46 (by kernel_rfl) (by kernel_rfl) (by kernel_rfl) (by kernel_rfl)
  have h47 := @run_callFunc_extern Tryd.prog 47 _ (ReflectliteValue.method (ReflectliteValue.valueError "reflectlite.Value.IsNil" 0) ReflectliteValue.isNil) Tryd.func47 (by kernel_rfl) (by kernel_rfl) (by kernel_rfl) (by kernel_rfl)
  have h70 := @run_callFunc_extern Tryd.prog 70 _ (ReflectliteType.abiMethod fun t => do pure (.int .u8 (← Rtype.kind t))) Tryd.func70 (by kernel_rfl) (by kernel_rfl) (by kernel_rfl) (by kernel_rfl)
  have h79 := @run_callFunc_extern Tryd.prog 79 _ (ReflectliteType.method ReflectliteType.elem) Tryd.func79 (by kernel_rfl) (by kernel_rfl) (by kernel_rfl) (by kernel_rfl)
  have h80 := @run_callFunc_extern Tryd.prog 80 _ (ReflectliteType.relation "Implements" ReflectliteType.implements_) Tryd.func80 (by kernel_rfl) (by kernel_rfl) (by kernel_rfl) (by kernel_rfl)
  have f45 := valueOf71
  have f46 := type71
  have mK := methodKind
  have mE := methodElem
  have mI := methodImplements
  have k71 := kind71
  have k58 := kind58
  have e71 := elem71
  have i58 := implements58
  obtain ⟨c, hc⟩ : ∃ c, w.heap.size = c := ⟨_, rfl⟩
  obtain ⟨A1, hA1⟩ : ∃ A, w.alloc (.cells #[.pointer (some ⟨t, 0, none⟩)] 71) = A := ⟨_, rfl⟩
  have hb1 : Below w.heap.size w A1 := by rw [← hA1]; exact below_al _ _
  have hc1 : Blk A1 c 71 [.pointer (some ⟨t, 0, none⟩)] := by rw [← hA1, ← hc]; exact Blk.new w _ _
  obtain ⟨A2, hA2⟩ : ∃ A, A1.alloc (.cells #[.pointer (some ⟨2, 71, none⟩), .pointer (some ⟨c, 0, none⟩), .int .u64 150] 91) = A := ⟨_, rfl⟩
  have hb2 : Below A1.heap.size A1 A2 := by rw [← hA2]; exact below_al _ _
  have hc2 : Blk A2 c 71 [.pointer (some ⟨t, 0, none⟩)] := hc1.below hb2 hc1.lt
  obtain ⟨d, hd⟩ : ∃ d, A1.heap.size = d := ⟨_, rfl⟩
  have hd2 : Blk A2 d 91 [.pointer (some ⟨2, 71, none⟩), .pointer (some ⟨c, 0, none⟩), .int .u64 150] := by rw [← hA2, ← hd]; exact Blk.new A1 _ _
  have g0 : A2.cell? ⟨d, 0, none⟩ = some (.pointer (some ⟨2, 71, none⟩)) := hd2.cell rfl
  have g1 : A2.cell? ⟨d, 1, none⟩ = some (.pointer (some ⟨c, 0, none⟩)) := hd2.cell rfl
  have g2 : A2.cell? ⟨d, 2, none⟩ = some (.int .u64 150) := hd2.cell rfl
  have n47 := isNil71 ⟨c, 0, none⟩ ⟨t, 0, none⟩ A2 (hc2.cell rfl)
  have hg2 : A2.cell? ⟨0, 0, none⟩ = some (.iface 78 (.agg #[.pointer (some ⟨2, 26, none⟩)])) := hE.below (below_tr hb1 hb2)
  have HA : Hid (Below w.heap.size w A2 ∧ Blk A2 t 58 old ∧ old.length = 2 ∧ Blk A2 c 71 [.pointer (some ⟨t, 0, none⟩)]) := ⟨below_tr hb1 hb2, ht.below (below_tr hb1 hb2) ht.lt, hl, hc2⟩
  clear hE ht hl hb1 hb2 hc1 hc2 hd2
  go_enter Tryd.func38, Tryd.ntmps38
  go_wp2_with fail
  refine (as48 HA.out.2.1 HA.out.2.2.1 HA.out.2.2.2 _).mono ?_
  rintro e W ⟨rfl, hb, hgr⟩
  have HF : Hid (Blk W t 58 [iv (p : Int), iv er] ∧ w.grownBy W (some t)) := ⟨hb, (gr_of HA.out.1).trans hgr⟩
  clear hb hgr
  go_wp2
  go_ret
  exact ⟨rfl, HF.out⟩
#print axioms as38
theorem zero58 (W : World) : (zeroValue 58).run Tryd.prog W = .ok (.agg #[iv 0, iv 0]) W := by kernel_rfl
set_option maxRecDepth 1000000 in
set_option maxHeartbeats 2000000 in
theorem faultOf_is {w : World} {p : Nat} {er : Int} (hE : ET w) : Calls Tryd.prog 27 #[.iface 101 (fl p er)] w fun e w' => e = .returned (.iface 58 (fl p er)) ∧ Below w.heap.size w w' := by
  have hz := zero58
  have iE := isError101
  obtain ⟨t, ht⟩ : ∃ t, w.heap.size = t := ⟨_, rfl⟩
  obtain ⟨A, hA⟩ : ∃ A, w.alloc (.cells #[iv 0, iv 0] 58) = A := ⟨_, rfl⟩
  have hb : Below w.heap.size w A := by rw [← hA]; exact below_al _ _
  have HA : Hid (Below w.heap.size w A ∧ ET A ∧ Blk A t 58 [iv 0, iv 0] ∧ w.heap.size ≤ t) := ⟨hb, hE.below hb, by rw [← hA, ← ht]; exact Blk.new w _ _, by omega⟩
  clear hE hb
  go_enter Tryd.func27, Tryd.ntmps27
  go_wp2_with fail
  refine (as38 HA.out.2.1 HA.out.2.2.1 rfl).mono ?_
  rintro e W ⟨rfl, hk, hgr⟩
  have HF : Hid (Below w.heap.size w W ∧ Blk W t 58 [iv (p : Int), iv er]) := ⟨below_gr HA.out.1 hgr HA.out.2.2.2, hk⟩
  have c0 : W.cell? ⟨t, 0, none⟩ = some (iv (p : Int)) := hk.cell rfl
  have c1 : W.cell? ⟨t, 1, none⟩ = some (iv er) := hk.cell rfl
  clear hk hgr
  go_wp2
  go_ret
  exact ⟨rfl, HF.out.1⟩
#print axioms faultOf_is
set_option maxRecDepth 100000 in
theorem faultOf_nil (w : World) : Calls Tryd.prog 27 #[.nilIface] w fun e w' => e = .returned .nilIface ∧ w = w' := by
  have iN : ∀ W, (Instr.typeAssert .nilIface 20 26 true).run Tryd.prog W = .ok (.tuple #[.nilIface, .bool false]) W := fun W => by kernel_rfl
  go_enter Tryd.func27, Tryd.ntmps27
  go_wp2
  go_ret
  exact ⟨rfl, rfl⟩
#print axioms faultOf_nil
set_option maxRecDepth 100000 in
theorem catch26_p {w : World} {b p : Nat} {er : Int} {old : Value} (hE : ET w) (hb : Blk w b 26 [old]) (older : List PanicEntry) :
    CallsD Tryd.prog 26 #[.pointer (some ⟨b, 0, none⟩)] (.panicking ({ v := .iface 101 (fl p er), recovered := false } :: older)) w fun e u' w' =>
      e = .returned (.tuple #[]) ∧ u' = .panicking ({ v := .iface 101 (fl p er), recovered := true } :: older) ∧ Blk w' b 26 [.iface 58 (fl p er)] ∧ w.grownBy w' (some b) := by
  refine callsD_of_wpS Tryd.func26 rfl fun c₀ cs hu => ?_
  apply wpS_region
  simp [wpOpsS, go_sem, recoverD, hu, Tryd.ntmps26, Exit.thenS]
  refine (faultOf_is hE).mono ?_
  rintro e W ⟨rfl, hw⟩
  have hk : Blk W b 26 [old] := hb.below hw hb.lt
  have hc : W.cell? ⟨b, 0, none⟩ = some old := hk.cell rfl
  have hz : W.frozen? ⟨b, 0, none⟩ = false := hk.free 0
  have H1 : Blk (W.setCell ⟨b, 0, none⟩ (.iface 58 (fl p er))) b 26 [.iface 58 (fl p er)] := hk.set 0 _
  have H2 : w.grownBy (W.setCell ⟨b, 0, none⟩ (.iface 58 (fl p er))) (some b) := (gr_of hw).trans (grown_setCell _ _ _ _)
  simp [wpOpsS, go_sem, storeCells, hc, hz, bodyPostS, results, Tryd.results26, H1, H2]
#print axioms catch26_p
set_option maxRecDepth 100000 in
theorem catch26_r {w : World} {b : Nat} {old : Value} (hb : Blk w b 26 [old]) :
    CallsD Tryd.prog 26 #[.pointer (some ⟨b, 0, none⟩)] .returning w fun e u' w' => e = .returned (.tuple #[]) ∧ u' = .returning ∧ Blk w' b 26 [.nilIface] ∧ w.grownBy w' (some b) := by
  refine callsD_of_wpS Tryd.func26 rfl fun c₀ cs hu => ?_
  apply wpS_region
  simp [wpOpsS, go_sem, recoverD, hu, Tryd.ntmps26, Exit.thenS]
  refine (faultOf_nil w).mono ?_
  rintro e W ⟨rfl, rfl⟩
  have hc : w.cell? ⟨b, 0, none⟩ = some old := hb.cell rfl
  have hz : w.frozen? ⟨b, 0, none⟩ = false := hb.free 0
  have H1 : Blk (w.setCell ⟨b, 0, none⟩ .nilIface) b 26 [.nilIface] := hb.set 0 _
  have H2 : w.grownBy (w.setCell ⟨b, 0, none⟩ .nilIface) (some b) := grown_setCell _ _ _ _
  cases c₀
  simp_all [wpOpsS, go_sem, storeCells, bodyPostS, results, Tryd.results26]
#print axioms catch26_r
set_option maxRecDepth 100000 in
theorem catch32_p {w : World} {b p : Nat} {er : Int} {old : Value} (hE : ET w) (hb : Blk w b 26 [old]) (older : List PanicEntry) :
    CallsD Tryd.prog 32 #[.pointer (some ⟨b, 0, none⟩)] (.panicking ({ v := .iface 101 (fl p er), recovered := false } :: older)) w fun e u' w' =>
      e = .returned (.tuple #[]) ∧ u' = .panicking ({ v := .iface 101 (fl p er), recovered := true } :: older) ∧ Blk w' b 26 [.iface 58 (fl p er)] ∧ w.grownBy w' (some b) := by
  refine callsD_of_wpS Tryd.func32 rfl fun c₀ cs hu => ?_
  apply wpS_region
  simp [wpOpsS, go_sem, recoverD, hu, Tryd.ntmps32, Exit.thenS]
  refine (faultOf_is hE).mono ?_
  rintro e W ⟨rfl, hw⟩
  have hk : Blk W b 26 [old] := hb.below hw hb.lt
  have hc : W.cell? ⟨b, 0, none⟩ = some old := hk.cell rfl
  have hz : W.frozen? ⟨b, 0, none⟩ = false := hk.free 0
  have H1 : Blk (W.setCell ⟨b, 0, none⟩ (.iface 58 (fl p er))) b 26 [.iface 58 (fl p er)] := hk.set 0 _
  have H2 : w.grownBy (W.setCell ⟨b, 0, none⟩ (.iface 58 (fl p er))) (some b) := (gr_of hw).trans (grown_setCell _ _ _ _)
  simp [wpOpsS, go_sem, storeCells, hc, hz, bodyPostS, results, Tryd.results32, H1, H2]
#print axioms catch32_p
set_option maxRecDepth 100000 in
theorem catch32_r {w : World} {b : Nat} {old : Value} (hb : Blk w b 26 [old]) :
    CallsD Tryd.prog 32 #[.pointer (some ⟨b, 0, none⟩)] .returning w fun e u' w' => e = .returned (.tuple #[]) ∧ u' = .returning ∧ Blk w' b 26 [.nilIface] ∧ w.grownBy w' (some b) := by
  refine callsD_of_wpS Tryd.func32 rfl fun c₀ cs hu => ?_
  apply wpS_region
  simp [wpOpsS, go_sem, recoverD, hu, Tryd.ntmps32, Exit.thenS]
  refine (faultOf_nil w).mono ?_
  rintro e W ⟨rfl, rfl⟩
  have hc : w.cell? ⟨b, 0, none⟩ = some old := hb.cell rfl
  have hz : w.frozen? ⟨b, 0, none⟩ = false := hb.free 0
  have H1 : Blk (w.setCell ⟨b, 0, none⟩ .nilIface) b 26 [.nilIface] := hb.set 0 _
  have H2 : w.grownBy (w.setCell ⟨b, 0, none⟩ .nilIface) (some b) := grown_setCell _ _ _ _
  cases c₀
  simp_all [wpOpsS, go_sem, storeCells, bodyPostS, results, Tryd.results32]
#print axioms catch32_r
end Go.Proofs.YtlbcpbibcfolkaaDoor.Oct
