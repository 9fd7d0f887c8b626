/-
  Layer 15 (people): people that no call made.
-/
import Derived.Test.YtfickhhfhdhcbaaLives
namespace Go.Proofs.Ytfickhhfhdhcbaa.Oct
open Go.RowKit

/-- people that no call made -/
def Unmade (w : World) (v : Value) : Prop := v = .pointer none ∨ ∃ z, v = .pointer (some ⟨z, 0, none⟩) ∧ Blk w z 51 [.map none, .map none]
theorem Unmade.below {w w' : World} {v : Value} (h : Unmade w v) (hb : Below w.heap.size w w') : Unmade w' v :=
  h.imp id (fun ⟨z, e, hz⟩ => ⟨z, e, hz.below hb hz.lt⟩)
theorem made_un {w : World} {v : Value} (h : Unmade w v) : Calls Try.prog 38 #[v] w fun e w' => e = .returned (.bool false) ∧ w = w' := by
  rcases h with rfl | ⟨z, rfl, hz⟩
  · exact made_nil w
  · exact made_zero hz
theorem find_un {w : World} {v : Value} (h : Unmade w v) (s : Value) : Calls Try.prog 41 #[v, s] w fun e w' => e = .returned (.tuple #[.pointer none, .int .i64 1]) ∧ w = w' := find_unmade (made_un h) s
set_option maxRecDepth 100000 in
theorem un_24 {w : World} {v : Value} (h : Unmade w v) (s1 : Value) : Calls Try.prog 24 #[v, s1] w fun e w' => e = .returned (.int .i64 1) ∧ w = w' := by
  have H : Hid (Unmade w v) := h
  clear h
  go_enter Try.func24, Try.ntmps24
  go_wp2_with fail
  refine (made_un H.out).mono ?_
  rintro e w2 ⟨rfl, rfl⟩
  go_wp2
  go_ret
  exact ⟨rfl, rfl⟩
set_option maxRecDepth 100000 in
theorem un_25 {w : World} {v : Value} (h : Unmade w v) (s1 s2 : Value) : Calls Try.prog 25 #[v, s1, s2] w fun e w' => e = .returned (.int .i64 1) ∧ w = w' := by
  have H : Hid (Unmade w v) := h
  clear h
  go_enter Try.func25, Try.ntmps25
  go_wp2_with fail
  refine (made_un H.out).mono ?_
  rintro e w2 ⟨rfl, rfl⟩
  go_wp2
  go_ret
  exact ⟨rfl, rfl⟩
set_option maxRecDepth 100000 in
theorem un_26 {w : World} {v : Value} (h : Unmade w v) (s1 s2 : Value) : Calls Try.prog 26 #[v, s1, s2] w fun e w' => e = .returned (.int .i64 1) ∧ w = w' := by
  have H : Hid (Unmade w v) := h
  clear h
  go_enter Try.func26, Try.ntmps26
  go_wp2_with fail
  refine (find_un H.out s1).mono ?_
  rintro e w2 ⟨rfl, rfl⟩
  go_wp2
  go_ret
  exact ⟨rfl, rfl⟩
set_option maxRecDepth 100000 in
theorem un_27 {w : World} {v : Value} (h : Unmade w v) (s1 s2 s3 : Value) : Calls Try.prog 27 #[v, s1, s2, s3] w fun e w' => e = .returned (.int .i64 1) ∧ w = w' := by
  have H : Hid (Unmade w v) := h
  clear h
  go_enter Try.func27, Try.ntmps27
  go_wp2_with fail
  refine (find_un H.out s1).mono ?_
  rintro e w2 ⟨rfl, rfl⟩
  go_wp2
  go_ret
  exact ⟨rfl, rfl⟩
set_option maxRecDepth 100000 in
theorem un_28 {w : World} {v : Value} (h : Unmade w v) (s1 s2 : Value) : Calls Try.prog 28 #[v, s1, s2] w fun e w' => e = .returned (.int .i64 1) ∧ w = w' := by
  have H : Hid (Unmade w v) := h
  clear h
  go_enter Try.func28, Try.ntmps28
  go_wp2_with fail
  refine (find_un H.out s1).mono ?_
  rintro e w2 ⟨rfl, rfl⟩
  go_wp2
  go_ret
  exact ⟨rfl, rfl⟩
set_option maxRecDepth 100000 in
theorem un_29 {w : World} {v : Value} (h : Unmade w v) (s1 s2 s3 : Value) : Calls Try.prog 29 #[v, s1, s2, s3] w fun e w' => e = .returned (.int .i64 1) ∧ w = w' := by
  have H : Hid (Unmade w v) := h
  clear h
  go_enter Try.func29, Try.ntmps29
  go_wp2_with fail
  refine (find_un H.out s1).mono ?_
  rintro e w2 ⟨rfl, rfl⟩
  go_wp2
  go_ret
  exact ⟨rfl, rfl⟩
set_option maxRecDepth 100000 in
theorem un_30 {w : World} {v : Value} (h : Unmade w v) (s1 s2 s3 : Value) : Calls Try.prog 30 #[v, s1, s2, s3] w fun e w' => e = .returned (.int .i64 1) ∧ w = w' := by
  have H : Hid (Unmade w v) := h
  clear h
  go_enter Try.func30, Try.ntmps30
  go_wp2_with fail
  refine (find_un H.out s1).mono ?_
  rintro e w2 ⟨rfl, rfl⟩
  go_wp2
  go_ret
  exact ⟨rfl, rfl⟩
set_option maxRecDepth 100000 in
theorem un_14 {w : World} {v : Value} (h : Unmade w v) : Calls Try.prog 14 #[v] w fun e w' => e = .returned (.slice none 0 0) ∧ w = w' := by
  have H : Hid (Unmade w v) := h
  clear h
  go_enter Try.func14, Try.ntmps14
  go_wp2_with fail
  refine (made_un H.out).mono ?_
  rintro e w2 ⟨rfl, rfl⟩
  go_wp2
  go_ret
  exact ⟨rfl, rfl⟩
set_option maxRecDepth 100000 in
theorem un_15 {w : World} {v : Value} (h : Unmade w v) : Calls Try.prog 15 #[v] w fun e w' => e = .returned (.slice none 0 0) ∧ w = w' := by
  have H : Hid (Unmade w v) := h
  clear h
  go_enter Try.func15, Try.ntmps15
  go_wp2_with fail
  refine (made_un H.out).mono ?_
  rintro e w2 ⟨rfl, rfl⟩
  go_wp2
  go_ret
  exact ⟨rfl, rfl⟩
set_option maxRecDepth 100000 in
theorem un_16 {w : World} {v : Value} (h : Unmade w v) (s1 : Value) : Calls Try.prog 16 #[v, s1] w fun e w' => e = .returned (.slice none 0 0) ∧ w = w' := by
  have H : Hid (Unmade w v) := h
  clear h
  go_enter Try.func16, Try.ntmps16
  go_wp2_with fail
  refine (find_un H.out s1).mono ?_
  rintro e w2 ⟨rfl, rfl⟩
  go_wp2
  go_ret
  exact ⟨rfl, rfl⟩
set_option maxRecDepth 100000 in
theorem un_18 {w : World} {v : Value} (h : Unmade w v) (s1 : Value) : Calls Try.prog 18 #[v, s1] w fun e w' => e = .returned (.slice none 0 0) ∧ w = w' := by
  have H : Hid (Unmade w v) := h
  clear h
  go_enter Try.func18, Try.ntmps18
  go_wp2_with fail
  refine (find_un H.out s1).mono ?_
  rintro e w2 ⟨rfl, rfl⟩
  go_wp2
  go_ret
  exact ⟨rfl, rfl⟩
#print axioms un_30
set_option maxRecDepth 100000 in
theorem un_21 {w : World} {v : Value} (h : Unmade w v) (s : Value) (u : ByteArray) : Calls Try.prog 21 #[v, s, .string u] w fun e w' => e = .returned (.agg #[.string u, .slice none 0 0, .int .i64 0]) ∧ Below w.heap.size w w' := by
  obtain ⟨W, hW⟩ : ∃ W, w.alloc (.cells #[.string ⟨#[]⟩, .slice none 0 0, .int .i64 0] 42) = W := ⟨_, rfl⟩
  have hb : Below w.heap.size w W := by rw [← hW]; exact (Below.refl _ w).alloc (Nat.le_refl _) _
  have H : Hid (Unmade W v ∧ Below w.heap.size w W ∧ Blk W w.heap.size 42 [.string ⟨#[]⟩, .slice none 0 0, .int .i64 0]) := ⟨h.below hb, hb, by rw [← hW]; simpa using Blk.new w #[.string ⟨#[]⟩, .slice none 0 0, .int .i64 0] 42⟩
  have HW : Hid (w.alloc (.cells #[.string ⟨#[]⟩, .slice none 0 0, .int .i64 0] 42) = W) := hW
  have hz42 : ∀ W, (zeroValue 42).run Try.prog W = .ok (.agg #[.string ⟨#[]⟩, .slice none 0 0, .int .i64 0]) W := fun W => by kernel_rfl
  clear h hW hb
  go_enter Try.func21, Try.ntmps21
  go_wp2_with fail
  rw [HW.out]
  refine (find_un H.out.1 s).mono ?_
  rintro e w2 ⟨rfl, rfl⟩
  go_wp2_with (first
    | (with_reducible change wpList _ _ _ ({ dst := none, op := Op.store 42 _ _, type := _, pos := _, after := _, guard := _ } :: _) _ _
       refine Hid.out ?_)
    | fail)
  show wpList _ _ _ _ _ _
  refine wpList_store_blk rfl 42 (.tmp 6) (.tmp 18) rfl w.heap.size 0 42 _ [.string u, .slice none 0 0, .int .i64 0] rfl rfl H.out.2.2 (by simp) (by kernel_rfl) (by simp [Value.oneCell']) ?_
  intro V9 R1 R2
  have HV : Hid (Blk V9 w.heap.size 42 [.string u, .slice none 0 0, .int .i64 0] ∧ Below w.heap.size w V9) := ⟨R1.out, H.out.2.1.grown R2.out H.out.2.1.size (fun j hj => by cases hj; omega)⟩
  clear R1 R2
  go_wp2
  refine bodyPost_ret (results_cell_row (P := Try.prog) (p := 6) rfl _ V9 w.heap.size 42 _ (0, 0) _ rfl HV.out.1 Try.underlying42 rfl (by kernel_rfl)) rfl ?_
  exact ⟨rfl, HV.out.2⟩
#print axioms un_21
set_option maxRecDepth 100000 in
set_option maxHeartbeats 1000000 in
theorem un_do {w : World} {v : Value} (h : Unmade w v) (K : Int) (hK : 0 ≤ K ∧ K < 7) (a b c : ByteArray) (r : Int) : Calls Try.prog 11 #[v, .agg #[.int .i64 K, .string a, .string b, .string c, .int .i64 r]] w fun e w' => e = .returned (.int .i64 1) ∧ Below w.heap.size w w' := by
  obtain ⟨W, hW⟩ : ∃ W, w.alloc (.cells #[.int .i64 K, .string a, .string b, .string c, .int .i64 r] 32) = W := ⟨_, rfl⟩
  have hb : Below w.heap.size w W := by rw [← hW]; exact (Below.refl _ w).alloc (Nat.le_refl _) _
  have H : Hid (Unmade W v ∧ Below w.heap.size w W) := ⟨h.below hb, hb⟩
  have HW : Hid (w.alloc (.cells #[.int .i64 K, .string a, .string b, .string c, .int .i64 r] 32) = W) := hW
  clear h hW hb
  have : K = 0 ∨ K = 1 ∨ K = 2 ∨ K = 3 ∨ K = 4 ∨ K = 5 ∨ K = 6 := by omega
  clear hK
  rcases this with rfl | rfl | rfl | rfl | rfl | rfl | rfl
  · go_enter Try.func11, Try.ntmps11
    go_wp2_with fail
    rw [HW.out]
    refine (un_24 H.out.1 _).mono ?_
    rintro e w2 ⟨rfl, rfl⟩
    go_wp2
    go_ret
    exact ⟨rfl, H.out.2⟩
  · go_enter Try.func11, Try.ntmps11
    go_wp2_with fail
    rw [HW.out]
    refine (un_25 H.out.1 _ _).mono ?_
    rintro e w2 ⟨rfl, rfl⟩
    go_wp2
    go_ret
    exact ⟨rfl, H.out.2⟩
  · go_enter Try.func11, Try.ntmps11
    go_wp2_with fail
    rw [HW.out]
    refine (un_27 H.out.1 _ _ _).mono ?_
    rintro e w2 ⟨rfl, rfl⟩
    go_wp2
    go_ret
    exact ⟨rfl, H.out.2⟩
  · go_enter Try.func11, Try.ntmps11
    go_wp2_with fail
    rw [HW.out]
    refine (un_26 H.out.1 _ _).mono ?_
    rintro e w2 ⟨rfl, rfl⟩
    go_wp2
    go_ret
    exact ⟨rfl, H.out.2⟩
  · go_enter Try.func11, Try.ntmps11
    go_wp2_with fail
    rw [HW.out]
    refine (un_28 H.out.1 _ _).mono ?_
    rintro e w2 ⟨rfl, rfl⟩
    go_wp2
    go_ret
    exact ⟨rfl, H.out.2⟩
  · go_enter Try.func11, Try.ntmps11
    go_wp2_with fail
    rw [HW.out]
    refine (un_29 H.out.1 _ _ _).mono ?_
    rintro e w2 ⟨rfl, rfl⟩
    go_wp2
    go_ret
    exact ⟨rfl, H.out.2⟩
  · go_enter Try.func11, Try.ntmps11
    go_wp2_with fail
    rw [HW.out]
    refine (un_30 H.out.1 _ _ _).mono ?_
    rintro e w2 ⟨rfl, rfl⟩
    go_wp2
    go_ret
    exact ⟨rfl, H.out.2⟩
#print axioms un_do
end Go.Proofs.Ytfickhhfhdhcbaa.Oct
