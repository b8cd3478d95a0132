import Derived.Test.YtlopcjhipajdcaaGreatDoorJ05
/-! Jobs: whether one is valid, by the program. -/
namespace Go.Proofs.YtlopcjhipajdcaaGreatDoor.J
open Go.RowKit
set_option maxRecDepth 20000
end Go.Proofs.YtlopcjhipajdcaaGreatDoor.J
