/-
  Layer 19 (audit): a digest among the arguments.
-/
import Derived.Test.YtmmpafaegmejlaaDoorVlw
import Derived.WideKeyArr2
namespace Go.Proofs.YtmmpafaegmejlaaDoor.Oct
open Go.RowKit Sha
set_option linter.unusedSimpArgs false
set_option linter.unusedVariables false

theorem arr35 : Go.WideMaps.ArrKey Tryd.prog 35 5 32 := ⟨Tryd.underlying35, by kernel_rfl, by kernel_rfl, by kernel_rfl⟩
end Go.Proofs.YtmmpafaegmejlaaDoor.Oct
