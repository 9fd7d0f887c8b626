/-
  Layer 2 (hash): 'Sum', the digest a letter; small laws on it.
-/
import Derived.Test.YtjeahlfmapacfaaDoorSum
import Derived.Test.YtjeahlfmapacfaaDoorArgs
import Derived.Lib.SlBytesConst
namespace Go.Proofs.YtjeahlfmapacfaaDoor.Oct
open Go.RowKit Sha

theorem in_const (w : World) (e : TypeId) (l : List UInt8) (fr : Nat × Nat) (hl : l.length ≤ 140737488355328) : In (w.alloc (.cells (U l).toArray e fr)) (some ⟨w.heap.size, 0, none⟩) l.length l.length l := by
  refine ⟨rfl, Nat.le_refl _, hl, by simp, fun _ => ⟨w.heap.size, 0, rfl, by simp, fun i c hc => ?_⟩⟩
  rw [Nat.zero_add, cell_of_row _ w.heap.size i _ e fr (heap_alloc_new _ _), List.getElem?_toArray]
  simp [U, hc]

theorem sum_get (l : List UInt8) (i : Nat) (x : UInt8) (h : (sum l)[i]? = some x) : (U (sum l))[i]? = some (.int .u8 (x.toNat : Int)) := by simp [U, h]

theorem stored {w : World} {b : Nat} {cells : List Value} (hl : cells.length = 32) (h : Blk w b 67 ((zb 32).take 0 ++ cells ++ (zb 32).drop (0 + cells.length))) : Blk w b 67 cells := by
  rw [List.drop_eq_nil_of_le (by rw [zb_length]; omega)] at h
  simpa using h

/-- a digest as a letter -/
theorem sum_is' (l D : List UInt8) (hD : sum l = D) (a : Option Addr) (len cap : Nat) (w : World) (hk : KT w) (hs : ST w) (hin : In w a len cap l) (hl : len < 900000000000) :
    Calls Tryd.prog 60 #[.slice a len cap] w fun e w' => e = .returned (.agg (U D).toArray) ∧ Hid (Below w.heap.size w w') := by
  subst hD
  exact (sum_is l a len cap w hk hs hin hl).mono fun _ _ h => h
theorem built25 : Tryd.prog.built 67 [] = some (zb 32).toArray := by kernel_rfl
theorem zb_one (n : Nat) : ∀ v ∈ zb n, v.oneCell' = true := by intro v hv; rw [List.eq_of_mem_replicate hv]; rfl
#print axioms sum_is'
end Go.Proofs.YtjeahlfmapacfaaDoor.Oct
