/-
  Layer 10 (patch): the reference's 'Name' and 'part'.
-/
import Derived.Test.YtgdecjacbkicmaaGreatDoorRefWord
namespace Go.Proofs.YtgdecjacbkicmaaGreatDoor.Oct
open Go.RowKit
set_option maxRecDepth 100000

end Go.Proofs.YtgdecjacbkicmaaGreatDoor.Oct
