/-
  A bitwise 'and' of an int with a mask of low bits is a remainder.
-/
import Derived.Test.YtjdnejglapnbbaaGreatDoorGBa
import Derived.Laws.Bits128
namespace Go.Proofs.YtjdnejglapnbbaaGreatDoor
end Go.Proofs.YtjdnejglapnbbaaGreatDoor
