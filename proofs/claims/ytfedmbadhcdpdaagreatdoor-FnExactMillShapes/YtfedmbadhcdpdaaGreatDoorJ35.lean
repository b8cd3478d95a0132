import Derived.Test.YtfedmbadhcdpdaaGreatDoorJ34
import Derived.Test.YtfedmbadhcdpdaaGreatDoorJ32
/-! What is wrong with a code, in the program. -/
namespace Go.Proofs.YtfedmbadhcdpdaaGreatDoor.C
open Go.RowKit
set_option maxRecDepth 20000
end Go.Proofs.YtfedmbadhcdpdaaGreatDoor.C
/-! errors.As, for what the program hands it. -/
namespace Go.Proofs.YtfedmbadhcdpdaaGreatDoor.C
open Go.RowKit
set_option maxRecDepth 20000
end Go.Proofs.YtfedmbadhcdpdaaGreatDoor.C
