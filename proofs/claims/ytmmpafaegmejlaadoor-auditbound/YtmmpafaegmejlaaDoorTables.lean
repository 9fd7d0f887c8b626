/-
  Layer 2 (hash): what the row's list gives: the package variables start and k.
-/
import Derived.Test.YtmmpafaegmejlaaDoorRows
import Derived.Test.YtmmpafaegmejlaaDoorSum
import Derived.Lib.LaidTab
import Derived.Stop.LaidErr
import Derived.Below
namespace Go.Proofs.YtmmpafaegmejlaaDoor.Oct
open Go.RowKit Sha

theorem own : ownKnob Tryd.prog.godebug = none := by kernel_rfl
theorem laidOut : laidOutB Tryd.prog = true := by kernel_rfl
theorem gS : Tryd.prog.globalNamed "ingot/hash.start" = some 0 := by kernel_rfl
theorem gK : Tryd.prog.globalNamed "ingot/hash.k" = some 1 := by kernel_rfl
theorem gSType : (Tryd.prog.globals[0]?).map (·.type) = some 77 := by kernel_rfl
theorem gKType : (Tryd.prog.globals[1]?).map (·.type) = some 74 := by kernel_rfl
def zS : List Int := Sha.start.words.map fun x => (x.toNat : Int)
def zK : List Int := kTab.map fun x => (x.toNat : Int)
theorem laidS : (Rows.laid_ingot_hash_start : DataW Unit) = Lib.tabData .u32 zS := by kernel_rfl
theorem laidK : (Rows.laid_ingot_hash_k : DataW Unit) = Lib.tabData .u32 zK := by kernel_rfl
theorem u52 : Tryd.prog.underlying 74 = some (.array 64 72) := by kernel_rfl
theorem u45 : Tryd.prog.underlying 77 = some (.array 8 72) := by kernel_rfl
theorem u44 : Tryd.prog.underlying 72 = some (.int .u32) := by kernel_rfl

theorem lt_of_cell {w : World} {b i : Nat} {v : Value} (h : w.cell? ⟨b, i, none⟩ = some v) : b < w.heap.size := by
  rcases Nat.lt_or_ge b w.heap.size with h1 | h1
  · exact h1
  · exfalso
    unfold World.cell? at h
    simp [h1] at h

theorem st_of_laid {W : World} (h : laidMetH Tryd.prog [("ingot/hash.start", Rows.laid_ingot_hash_start), ("ingot/hash.k", Rows.laid_ingot_hash_k)] W) : ST W := by
  have h' : laidMet Tryd.prog [("ingot/hash.start", Lib.tabData .u32 zS), ("ingot/hash.k", Rows.laid_ingot_hash_k)] W := by rw [← laidS]; exact h
  have ht := Lib.tabIs_of_head gS gSType u45 u44 (by kernel_rfl) (by kernel_rfl) h'
  have hc : ∀ j, j < 8 → W.cell? ⟨0, j, none⟩ = some (.int .u32 (zS.getD j 0)) := fun j hj => ht.cell gS j hj
  refine ⟨lt_of_cell (hc 0 (by omega)), fun j v hj => ?_⟩
  have hlt : j < 8 := by have := (List.getElem?_eq_some_iff.1 hj).1; exact this
  rw [Nat.zero_add, hc j hlt]
  rw [← hj]
  simp [V, zS, show j < Sha.start.words.length from hlt]
theorem kt_of_laid {W : World} (h : laidMetH Tryd.prog [("ingot/hash.start", Rows.laid_ingot_hash_start), ("ingot/hash.k", Rows.laid_ingot_hash_k)] W) : KT W := by
  have h1 : laidMet Tryd.prog [("ingot/hash.k", Rows.laid_ingot_hash_k)] W := laidMet.tail h
  have h' : laidMet Tryd.prog [("ingot/hash.k", Lib.tabData .u32 zK)] W := by rw [← laidK]; exact h1
  have ht := Lib.tabIs_of_head gK gKType u52 u44 (by kernel_rfl) (by kernel_rfl) h'
  have hl : kTab.length = 64 := rfl
  have hc : ∀ j, j < 64 → W.cell? ⟨1, j, none⟩ = some (.int .u32 (zK.getD j 0)) := fun j hj => ht.cell gK j (by simp [zK]; omega)
  refine ⟨lt_of_cell (hc 0 (by omega)), fun t ht => ?_⟩
  rw [hc t ht]
  simp [zK, show t < kTab.length by omega]
#print axioms kt_of_laid
end Go.Proofs.YtmmpafaegmejlaaDoor.Oct
