import Derived.Test.YtamdjbpgkiekcaaGreatDoorAllenB
import Derived.OwnWalk
import Derived.Deep.DeepMust
namespace Go.Proofs.YtamdjbpgkiekcaaGreatDoor
open Go.RowKit
set_option linter.unusedVariables false
end Go.Proofs.YtamdjbpgkiekcaaGreatDoor
