/-
  Layer 24 (reply): the variables that the rows of Read list.
-/
import Derived.Test.YtkpepfeiimphpaaDoorTbl
import Derived.Test.YtkpepfeiimphpaaDoorRlw
import Derived.Shelf.Vars
namespace Go.Proofs.YtkpepfeiimphpaaDoor.Oct
open Go.RowKit
set_option linter.unusedSimpArgs false
set_option linter.unusedVariables false

theorem pt_of_laid5 {W : World} (h : laidMetH Tryd.prog [("math/bits.deBruijn32tab", Rows.laid_math_bits_deBruijn32tab), ("math/bits.deBruijn64tab", Rows.laid_math_bits_deBruijn64tab), ("internal/strconv.uint64pow10", Rows.laid_internal_strconv_uint64pow10), ("strconv.ErrRange", Rows.laid_strconv_ErrRange), ("strconv.ErrSyntax", Rows.laid_strconv_ErrSyntax)] W) : PT W := by
  have h1 : laidMet Tryd.prog [("internal/strconv.uint64pow10", Rows.laid_internal_strconv_uint64pow10), ("strconv.ErrRange", Rows.laid_strconv_ErrRange), ("strconv.ErrSyntax", Rows.laid_strconv_ErrSyntax)] W := laidMet.tail (laidMet.tail h)
  have h' : laidMet Tryd.prog [("internal/strconv.uint64pow10", Lib.tabData .u64 Lib.pow10Tab), ("strconv.ErrRange", Rows.laid_strconv_ErrRange), ("strconv.ErrSyntax", Rows.laid_strconv_ErrSyntax)] W := by rw [← laidP]; exact h1
  exact Lib.tabIs_of_head gP gPType u90 uE (by kernel_rfl) (by kernel_rfl) h'
theorem gS : Tryd.prog.globalNamed "strconv.ErrSyntax" = some 2 := by kernel_rfl
theorem gR : Tryd.prog.globalNamed "strconv.ErrRange" = some 3 := by kernel_rfl
theorem gST : (Tryd.prog.globals[2]?).map (·.type) = some 46 := by kernel_rfl
theorem gRT : (Tryd.prog.globals[3]?).map (·.type) = some 46 := by kernel_rfl
theorem cells117 : Tryd.prog.cellsOf 117 = 1 := by kernel_rfl
theorem cells9 : Tryd.prog.cellsOf 9 = 1 := by kernel_rfl
theorem starE : "*" ++ "errors.errorString" = "*errors.errorString" := by decide
theorem row115 (u : TypeId) (h : Tryd.prog.typeName? 3 u = some "*errors.errorString") : u = 115 :=
  typeName_ptr_named (nm := "errors.errorString") (by rw [starE]; kernel_rfl) (by kernel_rfl) (by decide) u (by rw [starE]; exact h)
theorem lt_of_cell {W : World} {b : Nat} {v : Value} (h : W.cell? ⟨b, 0, none⟩ = some v) : b < W.heap.size := by
  rcases Nat.lt_or_ge b W.heap.size with k | k
  · exact k
  · simp [World.cell?, Array.getElem?_eq_none k] at h
theorem sx_of_laid5 {W : World} (h : laidMetH Tryd.prog [("math/bits.deBruijn32tab", Rows.laid_math_bits_deBruijn32tab), ("math/bits.deBruijn64tab", Rows.laid_math_bits_deBruijn64tab), ("internal/strconv.uint64pow10", Rows.laid_internal_strconv_uint64pow10), ("strconv.ErrRange", Rows.laid_strconv_ErrRange), ("strconv.ErrSyntax", Rows.laid_strconv_ErrSyntax)] W) : SX W := by
  have h1 : laidMet Tryd.prog [("strconv.ErrRange", Rows.laid_strconv_ErrRange), ("strconv.ErrSyntax", Rows.laid_strconv_ErrSyntax)] W := laidMet.tail (laidMet.tail (laidMet.tail h))
  obtain ⟨a1, s1, hv1, _⟩ := laid_sentinel h1 gR gRT Tryd.underlying46 row115 Tryd.underlying115 Tryd.underlying117 rfl rfl Tryd.underlying9 cells117 cells9
  obtain ⟨a2, s2, hv2, _⟩ := laid_sentinel (laidMet.tail h1) gS gST Tryd.underlying46 row115 Tryd.underlying115 Tryd.underlying117 rfl rfl Tryd.underlying9 cells117 cells9
  have c1 : W.cell? ⟨3, 0, none⟩ = some (.iface 115 (.pointer (some a1))) := by simpa using World.var?_cell gR hv1 0
  have c2 : W.cell? ⟨2, 0, none⟩ = some (.iface 115 (.pointer (some a2))) := by simpa using World.var?_cell gS hv2 0
  exact ⟨lt_of_cell c2, lt_of_cell c1, ⟨_, c2, .inr ⟨_, _, rfl⟩⟩, ⟨_, c1, .inr ⟨_, _, rfl⟩⟩⟩
theorem mx_of_shaped {W : World} (h : W.ShapedOpen Tryd.prog) : MX W := by
  obtain ⟨m, hm⟩ := cell_of_shapedOpen_int (g := 1) (t := 3) (zero := #[.int .i64 0]) (k := .i64) h (of_decide_eq_true (by kernel_rfl)) (by kernel_rfl) rfl (by kernel_rfl) (by kernel_rfl) Tryd.underlying3
  exact ⟨lt_of_cell hm, m, hm⟩
#print axioms sx_of_laid5
#print axioms mx_of_shaped
end Go.Proofs.YtkpepfeiimphpaaDoor.Oct
