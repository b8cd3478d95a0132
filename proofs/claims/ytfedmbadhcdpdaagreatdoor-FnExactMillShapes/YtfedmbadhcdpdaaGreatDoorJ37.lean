import Derived.Test.YtfedmbadhcdpdaaGreatDoorJ36
/-! errors.As, where the error is a flaw. -/
namespace Go.Proofs.YtfedmbadhcdpdaaGreatDoor.C
open Go.RowKit Go.Extern.Stop Go.Stop Go.Extern
set_option maxRecDepth 20000
end Go.Proofs.YtfedmbadhcdpdaaGreatDoor.C
