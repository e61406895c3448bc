/-
  What is stored where: the contracts of spotAt and of ahead. Condition: the rack reads as lists of things that are stored.
-/
import Derived.Test.YtlfamfdgphhbcaaDoorRk
import Derived.WalkSmall
import Derived.Deep.RegionHeld3
namespace Go.Proofs.YtlfamfdgphhbcaaDoor
open Go.ChangeShapes Go.WideShapes Go.ChangeAt Go.RowKit Go.Deep

/-- A spot: a bottle, day, lane and index, and the lane's list. -/
def spC (k y d l i : Int) (a : Option Addr) (n c : Nat) : Array Value := #[.int .u8 k, .int .i16 y, .int .i64 d, .int .i64 l, .int .i64 i, .slice a n c]
end Go.Proofs.YtlfamfdgphhbcaaDoor
