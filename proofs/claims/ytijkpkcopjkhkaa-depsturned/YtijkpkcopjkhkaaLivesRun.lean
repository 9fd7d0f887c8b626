/-
  Layer 12 (deps): the chapter's example in memory.
-/
import Derived.Test.YtijkpkcopjkhkaaStepPure
namespace Go.Proofs.Ytijkpkcopjkhkaa.Oct
open Go.RowKit

/-- the example's hashes -/
def hx (k : UInt8) : Hs := k :: List.replicate 31 0
theorem hx_len (k : UInt8) : (hx k).length = 32 := by simp [hx]
theorem run_b34_1 (W : World) : (Instr.build 34 #[(0, .int .u8 1)]).run Try.prog W = .ok (.agg (U (hx 1)).toArray) W := by kernel_rfl
theorem run_b34_2 (W : World) : (Instr.build 34 #[(0, .int .u8 2)]).run Try.prog W = .ok (.agg (U (hx 2)).toArray) W := by kernel_rfl
theorem run_b34_3 (W : World) : (Instr.build 34 #[(0, .int .u8 3)]).run Try.prog W = .ok (.agg (U (hx 3)).toArray) W := by kernel_rfl
theorem lt12 : LtH (hx 1) (hx 2) := by unfold LtH; decide
theorem lt23 : LtH (hx 2) (hx 3) := by unfold LtH; decide
theorem run_bs1 (W : World) : (Instr.buildSlice 26 1 #[(0, .agg (U (hx 1)).toArray)]).run Try.prog W = .ok (.slice (some ⟨W.heap.size, 0, none⟩) 1 1) (W.alloc (.cells (UU [hx 1]).toArray 34)) := by kernel_rfl
theorem run_bs12 (W : World) : (Instr.buildSlice 26 2 #[(0, .agg (U (hx 1)).toArray), (1, .agg (U (hx 2)).toArray)]).run Try.prog W = .ok (.slice (some ⟨W.heap.size, 0, none⟩) 2 2) (W.alloc (.cells (UU [hx 1, hx 2]).toArray 34)) := by kernel_rfl
theorem run_bs23 (W : World) : (Instr.buildSlice 26 2 #[(0, .agg (U (hx 2)).toArray), (1, .agg (U (hx 3)).toArray)]).run Try.prog W = .ok (.slice (some ⟨W.heap.size, 0, none⟩) 2 2) (W.alloc (.cells (UU [hx 2, hx 3]).toArray 34)) := by kernel_rfl
theorem run_bs123 (W : World) : (Instr.buildSlice 26 3 #[(0, .agg (U (hx 1)).toArray), (1, .agg (U (hx 2)).toArray), (2, .agg (U (hx 3)).toArray)]).run Try.prog W = .ok (.slice (some ⟨W.heap.size, 0, none⟩) 3 3) (W.alloc (.cells (UU [hx 1, hx 2, hx 3]).toArray 34)) := by kernel_rfl
/-- the example's items -/
def i3 (p : Option Addr) : It := ⟨hx 3, [hx 1, hx 2], p, 2, 2⟩
def i1 : It := ⟨hx 1, [], none, 0, 0⟩
def i2 (p : Option Addr) : It := ⟨hx 2, [hx 1], p, 1, 1⟩
theorem run_it3 (W : World) (p : Option Addr) : (Instr.build 36 #[(0, .agg (U (hx 3)).toArray), (1, .slice p 2 2)]).run Try.prog W = .ok (.agg (i3 p).cells.toArray) W := by kernel_rfl
theorem run_it2 (W : World) (p : Option Addr) : (Instr.build 36 #[(0, .agg (U (hx 2)).toArray), (1, .slice p 1 1)]).run Try.prog W = .ok (.agg (i2 p).cells.toArray) W := by kernel_rfl
theorem run_it1 (W : World) : (Instr.build 36 #[(0, .agg (U (hx 1)).toArray)]).run Try.prog W = .ok (.agg i1.cells.toArray) W := by kernel_rfl
theorem run_its (W : World) (p p' : Option Addr) : (Instr.buildSlice 22 3 #[(0, .agg (i3 p).cells.toArray), (1, .agg i1.cells.toArray), (2, .agg (i2 p').cells.toArray)]).run Try.prog W = .ok (.slice (some ⟨W.heap.size, 0, none⟩) 3 3) (W.alloc (.cells ((i3 p).cells ++ i1.cells ++ (i2 p').cells).toArray 36)) := by kernel_rfl
#print axioms run_its
theorem exam_is (p p' : Option Addr) : Exam (i3 p) i1 (i2 p') (hx 1) (hx 2) (hx 3) := ⟨rfl, rfl, rfl, rfl, rfl, rfl, lt12, lt23⟩
theorem HsR.new (w : World) (hs : List Hs) (hl : ∀ h ∈ hs, h.length = 32) : HsR (w.alloc (.cells (UU hs).toArray 34)) (some ⟨w.heap.size, 0, none⟩) hs.length hs := by
  refine ⟨rfl, hl, fun _ => ⟨_, _, rfl, by simp, ?_⟩⟩
  refine (rangeAt_UU hs 0 hl).2 ?_
  intro j v hj
  have := (Blk.new w (UU hs).toArray 34).cell (i := 0 + j) (v := v) (by simpa using hj)
  exact this

end Go.Proofs.Ytijkpkcopjkhkaa.Oct
