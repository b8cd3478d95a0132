import Derived.LaidEql
import Derived.Stop.Asserts
import Derived.Test.YtfedmbadhcdpdaaGreatDoorJ35
/-! What errors.As asks of the types that the program hands it. -/
namespace Go.Proofs.YtfedmbadhcdpdaaGreatDoor.C
open Go.RowKit Go.Extern.Stop Go.Stop Go.Extern
set_option maxRecDepth 20000
end Go.Proofs.YtfedmbadhcdpdaaGreatDoor.C
