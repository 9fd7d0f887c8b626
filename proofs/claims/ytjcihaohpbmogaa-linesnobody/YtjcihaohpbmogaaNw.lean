/-
  Layer 11 (lines): New; id; Texts.
-/
import Derived.Test.YtjcihaohpbmogaaCf2
namespace Go.Proofs.Ytjcihaohpbmogaa.Oct
open Go.RowKit
set_option maxRecDepth 100000
set_option linter.unusedSimpArgs false
set_option linter.unusedVariables false
set_option linter.unusedSectionVars false

theorem info67 : ∃ i, Try.prog.info? 67 = some i ∧ i.size = 1 := by
  obtain ⟨i, hi, hs⟩ := Option.map_eq_some_iff.1 (show (Try.prog.info? 67).map (·.size) = some 1 by kernel_rfl)
  exact ⟨i, hi, hs⟩
theorem new_is (w : World) : Calls Try.prog 11 #[] w fun e w' => ∃ p G, e = .returned (.pointer (some ⟨p, 0, none⟩)) ∧ Hid (GAt w' p G ∧ G.ps = [] ∧ ∀ k ∈ G.bl p, w.heap.size ≤ k) ∧ Hid (Below w.heap.size w w') := by
  have HQ : Hid (∀ V, Below (w.alloc (.map #[] 0)).heap.size (w.alloc (.map #[] 0)) V → V.heap[w.heap.size + 1]? = some (.cells #[.map (some w.heap.size)] 67 (0, 0)) → GAt V (w.heap.size + 1) ⟨w.heap.size, []⟩) := by
    intro V hb hc
    refine ⟨⟨?_, ?_⟩, by simp, by show 0 ≤ 512; omega⟩
    · intro x hx
      simp only [Gm.hp, List.flatMap_nil, List.mem_cons, List.not_mem_nil, or_false] at hx
      rcases hx with rfl | rfl
      · exact hc
      · show MP V w.heap.size (linesKv [])
        exact (MP.made (K := Vx) w).same (hb.block _ (MP.made (K := Vx) w).lt)
    · show [w.heap.size + 1, w.heap.size].Nodup
      simp
  go_enter Try.func11, Try.ntmps11
  go_wp2_with (first
    | (with_reducible change wpList _ _ _ ({ dst := some 1, op := _, type := _, pos := _, after := _, guard := _ } :: _) _ _
       refine wpList_makeMap rfl 65 rfl ?_)
    | fail)
  go_ret
  refine ⟨w.heap.size + 1, ⟨w.heap.size, []⟩, rfl, ?_, ?_⟩
  · refine ⟨HQ.out _ (below_al _ _) ?_, rfl, ?_⟩
    · have := Blk.new (w.alloc (.map #[] 0)) #[Value.map (some w.heap.size)] 67
      simpa [Blk] using this
    · intro k hk
      simp only [Gm.bl, Gm.hp, List.flatMap_nil, List.map_cons, List.map_nil, List.mem_cons, List.not_mem_nil, or_false] at hk
      omega
  · exact below_tr (below_al _ _) (below_al _ _)
#print axioms new_is
def idv (n : Int) : Vx := ⟨1 :: List.replicate 31 0, n⟩
theorem idv_k (n : Int) (h : (Lit.int .i64 n).wf = true) : Vk (idv n) := ⟨by rfl, h⟩
theorem built32 : Try.prog.built 32 [(0, .int .u8 1)] = some (U (idv 0).h).toArray := by kernel_rfl
theorem built34i (n : Int) : Try.prog.built 34 [(0, .agg (U (idv 0).h).toArray), (1, iv n)] = some (idv n).cells.toArray := by kernel_rfl
theorem id_gen (w : World) (n : Int) (H : Array Value) (C : List Value) (hb1 : Try.prog.built 32 [(0, .int .u8 1)] = some H) (hb2 : Try.prog.built 34 [(0, .agg H), (1, iv n)] = some C.toArray) (hl : C.length = 33) (ho : ∀ v ∈ C, v.oneCell' = true) (hi' : (Try.prog.info? 34).map (·.size) = some C.length) : Calls Try.prog 29 #[iv n] w fun e w' => e = .returned (.agg C.toArray) ∧ Below w.heap.size w w' := by
  obtain ⟨Z, hZ, HZ⟩ := zval34
  go_enter Try.func29, Try.ntmps29
  go_wp2_with (first
    | (with_reducible change wpList _ _ _ ({ dst := some 3, op := _, type := _, pos := _, after := _, guard := _ } :: _) _ _
       refine wpList_built rfl 32 _ rfl H (by rw [← hb1]; first | (simp; done) | (simp; rfl)) ?_)
    | (with_reducible change wpList _ _ _ ({ dst := some 5, op := _, type := _, pos := _, after := _, guard := _ } :: _) _ _
       refine wpList_built rfl 34 _ rfl C.toArray (by rw [← hb2]; first | (simp; done) | (simp; rfl)) ?_)
    | (with_reducible change wpList _ _ _ ({ dst := none, op := Op.store 34 _ _, type := _, pos := _, after := _, guard := _ } :: _) _ _
       refine Hid.out ?_)
    | fail)
  show wpList _ _ _ _ _ _
  refine wpList_store_fresh rfl 34 (.tmp 2) (.tmp 5) rfl Z C 34 rfl rfl (by rw [hl, HZ.out]) hi' ho ?_
  go_wp2_with fail
  exact ret_c rfl rfl rfl (Blk.new w C.toArray 34) Try.underlying34 rfl hi' ⟨rfl, below_al _ _⟩
theorem id_is (w : World) (n : Int) (X : List Value) (hX : (idv n).cells = X) : Calls Try.prog 29 #[iv n] w fun e w' => e = .returned (.agg X.toArray) ∧ Below w.heap.size w w' := by
  have hv : (idv n).ok := by unfold Vx.ok idv; rfl
  exact id_gen w n _ X built32 (by rw [← hX]; exact built34i n) (by rw [← hX]; exact Vx.len hv) (by rw [← hX]; exact Vx.one _) (by rw [← hX]; exact info34 hv)
#print axioms id_is
theorem neq9 (s t : BA) (W : World) : (binOp .neq 9 (.string s) (.string t)).run Try.prog W = .ok (.bool (!decide (s = t))) W := by
  have h : (ByteArray.toList s == ByteArray.toList t) = decide (s = t) := by
    rw [Bool.eq_iff_iff, beq_iff_eq, decide_eq_true_eq]
    exact ⟨fun e => ba_ext (by rw [← toList_d, ← toList_d, e]), fun e => by rw [e]⟩
  simp [go_sem, h]
end Go.Proofs.Ytjcihaohpbmogaa.Oct
