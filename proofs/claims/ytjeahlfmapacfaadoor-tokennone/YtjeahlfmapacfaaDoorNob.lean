/-
  Layer 16 (token): TokenNobody: a book that no call made gives nothing out.
-/
import Derived.Test.YtjeahlfmapacfaaDoorVew
namespace Go.Proofs.YtjeahlfmapacfaaDoor.Oct
open Go.RowKit Sha
set_option linter.unusedSimpArgs false
set_option linter.unusedVariables false

theorem ne_map0 (W : World) : (binOp .neq 55 (.map none) (.map none)).run Tryd.prog W = .ok (.bool false) W := by kernel_rfl
set_option maxRecDepth 100000 in
theorem made_nil (w : World) : Calls Tryd.prog 21 #[.pointer none] w fun e w' => e = .returned (.bool false) ∧ w = w' := by
  go_enter Tryd.func21, Tryd.ntmps21
  go_wp2
  go_ret
  exact ⟨rfl, rfl⟩
set_option maxRecDepth 100000 in
theorem made_zero {w : World} {b : Nat} (h : w.cell? ⟨b, 1, none⟩ = some (.map none)) : Calls Tryd.prog 21 #[.pointer (some ⟨b, 0, none⟩)] w fun e w' => e = .returned (.bool false) ∧ w = w' := by
  have hn := ne_map0
  go_enter Tryd.func21, Tryd.ntmps21
  go_wp2
  go_ret
  exact ⟨rfl, rfl⟩
set_option maxRecDepth 100000 in
theorem un_issue (p : Value) (u : BA) (now til : Int) (w : World) (hM : Calls Tryd.prog 21 #[p] w fun e w' => e = .returned (.bool false) ∧ w = w') : Calls Tryd.prog 11 #[p, .string u, iv now, iv til] w fun e w' => e = .returned (.tuple #[.string e0, iv 1]) ∧ w = w' := by
  have CM : Hid (Calls Tryd.prog 21 #[p] w fun e w' => e = .returned (.bool false) ∧ w = w') := hM
  clear hM
  go_enter Tryd.func11, Tryd.ntmps11
  go_wp2_with fail
  refine CM.out.mono ?_
  rintro e W ⟨rfl, rfl⟩
  go_wp2
  go_ret2
  exact ⟨rfl, rfl⟩
set_option maxRecDepth 100000 in
theorem un_check (p : Value) (u : BA) (now : Int) (w : World) (hM : Calls Tryd.prog 21 #[p] w fun e w' => e = .returned (.bool false) ∧ w = w') : Calls Tryd.prog 13 #[p, .string u, iv now] w fun e w' => e = .returned (.tuple #[.string e0, iv 1]) ∧ w = w' := by
  have CM : Hid (Calls Tryd.prog 21 #[p] w fun e w' => e = .returned (.bool false) ∧ w = w') := hM
  clear hM
  go_enter Tryd.func13, Tryd.ntmps13
  go_wp2_with fail
  refine CM.out.mono ?_
  rintro e W ⟨rfl, rfl⟩
  go_wp2
  go_ret2
  exact ⟨rfl, rfl⟩
set_option maxRecDepth 100000 in
theorem un_revoke (p : Value) (u : BA) (w : World) (hM : Calls Tryd.prog 21 #[p] w fun e w' => e = .returned (.bool false) ∧ w = w') : Calls Tryd.prog 16 #[p, .string u] w fun e w' => e = .returned (iv 1) ∧ w = w' := by
  have CM : Hid (Calls Tryd.prog 21 #[p] w fun e w' => e = .returned (.bool false) ∧ w = w') := hM
  clear hM
  go_enter Tryd.func16, Tryd.ntmps16
  go_wp2_with fail
  refine CM.out.mono ?_
  rintro e W ⟨rfl, rfl⟩
  go_wp2
  go_ret
  exact ⟨rfl, rfl⟩
set_option maxRecDepth 100000 in
theorem un_len (p : Value)  (w : World) (hM : Calls Tryd.prog 21 #[p] w fun e w' => e = .returned (.bool false) ∧ w = w') : Calls Tryd.prog 18 #[p] w fun e w' => e = .returned (iv 0) ∧ w = w' := by
  have CM : Hid (Calls Tryd.prog 21 #[p] w fun e w' => e = .returned (.bool false) ∧ w = w') := hM
  clear hM
  go_enter Tryd.func18, Tryd.ntmps18
  go_wp2_with fail
  refine CM.out.mono ?_
  rintro e W ⟨rfl, rfl⟩
  go_wp2
  go_ret
  exact ⟨rfl, rfl⟩
theorem build57z (W : World) : (Instr.build 57 #[]).run Tryd.prog W = .ok (.agg #[.slice none 0 0, .map none]) W := by kernel_rfl
theorem bs58 (b : Nat) (W : World) : (Instr.buildSlice 58 2 #[(0, .pointer none), (1, .pointer (some ⟨b, 0, none⟩))]).run Tryd.prog W = .ok (.slice (some ⟨W.heap.size, 0, none⟩) 2 2) (W.alloc (.cells #[.pointer none, .pointer (some ⟨b, 0, none⟩)] 26)) := by kernel_rfl
theorem wpList_b57 {ops : Array Oper} {rest : List Oper} {o : Oper} {a : Act} {w : World} {Q : Exit → Act → World → Prop} (hgd : o.guard = none) (hop : o.op = .build 57 #[]) (hk : wpList Tryd.prog ops Q rest (a.put o.dst (.agg #[.slice none 0 0, .map none])) w) : wpList Tryd.prog ops Q (o :: rest) a w := by
  refine wpList_plain hgd fun K hK => ?_
  have h := build57z w
  unfold Oper.wp execOp
  simp only [hop, Sem.run_bind, Sem.run_pure, Result.andThen_ok, List.map_toArray, List.map_cons, List.map_nil, h]
  exact hK _ _ hk
set_option maxRecDepth 100000 in
set_option maxHeartbeats 1000000 in
theorem nobody_law (q : ActV) (w : World) (hV : VT w) : Calls Tryd.prog 7 #[.agg q.cells.toArray] w fun e w' => e = .returned (.bool true) ∧ Below w.heap.size w w' := by
  obtain ⟨kd, u, x, now, til, n, od⟩ := q
  show Calls Tryd.prog 7 #[.agg #[iv kd, .string u, .string x, iv now, iv til, iv n, .bool od]] w _
  obtain ⟨d, hd⟩ : ∃ d, w.heap.size = d := ⟨_, rfl⟩
  obtain ⟨A, hA⟩ : ∃ A, w.alloc (.cells #[iv kd, .string u, .string x, iv now, iv til, iv n, .bool od] 32) = A := ⟨_, rfl⟩
  obtain ⟨d2, hd2⟩ : ∃ d, A.heap.size = d := ⟨_, rfl⟩
  obtain ⟨B, hB⟩ : ∃ B, A.alloc (.cells #[.slice none 0 0, .map none] 57) = B := ⟨_, rfl⟩
  obtain ⟨d3, hd3⟩ : ∃ d, B.heap.size = d := ⟨_, rfl⟩
  obtain ⟨C, hC⟩ : ∃ C, B.alloc (.cells #[.pointer none, .pointer (some ⟨d2, 0, none⟩)] 26) = C := ⟨_, rfl⟩
  have HC : Hid (Blk C d 32 [iv kd, .string u, .string x, iv now, iv til, iv n, .bool od] ∧ Blk C d2 57 [.slice none 0 0, .map none] ∧ Blk C d3 26 [.pointer none, .pointer (some ⟨d2, 0, none⟩)] ∧ Below w.heap.size w C) := by
    have b1 : Below w.heap.size w A := by rw [← hA]; exact below_al _ _
    have b2 : Below A.heap.size A B := by rw [← hB]; exact below_al _ _
    have b3 : Below B.heap.size B C := by rw [← hC]; exact below_al _ _
    have k1 : Blk A d 32 [iv kd, .string u, .string x, iv now, iv til, iv n, .bool od] := by rw [← hA, ← hd]; exact Blk.new w _ _
    have k2 : Blk B d2 57 [.slice none 0 0, .map none] := by rw [← hB, ← hd2]; exact Blk.new A _ _
    have k3 : Blk C d3 26 [.pointer none, .pointer (some ⟨d2, 0, none⟩)] := by rw [← hC, ← hd3]; exact Blk.new B _ _
    exact ⟨(k1.below b2 k1.lt).below b3 (k1.below b2 k1.lt).lt, k2.below b3 k2.lt, k3, below_tr (below_tr b1 b2) b3⟩
  have HV : Hid (VT w) := hV
  have hbs := bs58 d2
  clear hV
  go_enter Tryd.func7, Tryd.ntmps7
  go_wp2_with (with_reducible change wpList _ _ _ ({ dst := some 9, op := _, type := _, pos := _, after := _, guard := _ } :: _) _ _; refine Hid.out ?_)
  show wpList _ _ _ _ _ _
  refine wpList_b57 rfl rfl ?_
  go_wp2_with fail
  clear hbs
  go_loopw [13] (fun i wr => ∃ k : Nat, i = iv (k : Int) ∧ k ≤ 2 ∧ Hid (C = wr)) (fun i _ => 2 - (intOf i).toNat)
  case atStart => exact ⟨0, rfl, by omega, rfl⟩
  case round =>
    obtain ⟨k, rfl, hk, HW⟩ := hrel
    obtain rfl := HW.out
    have c1 : C.cell? ⟨d, 1, none⟩ = some (.string u) := HC.out.1.cell rfl
    have c2 : C.cell? ⟨d, 2, none⟩ = some (.string x) := HC.out.1.cell rfl
    have c3 : C.cell? ⟨d, 3, none⟩ = some (iv now) := HC.out.1.cell rfl
    have c4 : C.cell? ⟨d, 4, none⟩ = some (iv til) := HC.out.1.cell rfl
    have p0 : C.cell? ⟨d3, 0, none⟩ = some (.pointer none) := HC.out.2.2.1.cell rfl
    have p1 : C.cell? ⟨d3, 1, none⟩ = some (.pointer (some ⟨d2, 0, none⟩)) := HC.out.2.2.1.cell rfl
    have hkk : k = 0 ∨ k = 1 ∨ k = 2 := by omega
    rcases hkk with rfl | rfl | rfl
    · have CM : Hid (Calls Tryd.prog 21 #[.pointer none] C fun e w' => e = .returned (.bool false) ∧ C = w') := made_nil C
      go_wp2_with fail
      refine (un_issue _ u now til C CM.out).mono ?_
      rintro e W ⟨rfl, rfl⟩
      go_wp2_with fail
      refine (un_check _ x now C CM.out).mono ?_
      rintro e W ⟨rfl, rfl⟩
      go_wp2_with fail
      refine (un_revoke _ x C CM.out).mono ?_
      rintro e W ⟨rfl, rfl⟩
      go_wp2_with fail
      refine (un_len _ C CM.out).mono ?_
      rintro e W ⟨rfl, rfl⟩
      go_wp2
      go_roundw
      case rel => exact ⟨1, rfl, by omega, by first | exact rfl | exact trivial⟩
      case measure => show 2 - 1 < 2 - 0; omega
    · have CM : Hid (Calls Tryd.prog 21 #[.pointer (some ⟨d2, 0, none⟩)] C fun e w' => e = .returned (.bool false) ∧ C = w') := made_zero (HC.out.2.1.cell rfl)
      go_wp2_with fail
      refine (un_issue _ u now til C CM.out).mono ?_
      rintro e W ⟨rfl, rfl⟩
      go_wp2_with fail
      refine (un_check _ x now C CM.out).mono ?_
      rintro e W ⟨rfl, rfl⟩
      go_wp2_with fail
      refine (un_revoke _ x C CM.out).mono ?_
      rintro e W ⟨rfl, rfl⟩
      go_wp2_with fail
      refine (un_len _ C CM.out).mono ?_
      rintro e W ⟨rfl, rfl⟩
      go_wp2
      go_roundw
      case rel => exact ⟨2, rfl, by omega, by first | exact rfl | exact trivial⟩
      case measure => show 2 - 2 < 2 - 1; omega
    · go_wp2_with fail
      refine (lives_is C (HV.out.below HC.out.2.2.2)).mono ?_
      rintro e W ⟨rfl, hb⟩
      have HF : Hid (Below w.heap.size w W) := below_tr HC.out.2.2.2 hb
      clear hb
      go_wp2
      go_ret
      exact ⟨rfl, HF.out⟩
#print axioms nobody_law
end Go.Proofs.YtjeahlfmapacfaaDoor.Oct
