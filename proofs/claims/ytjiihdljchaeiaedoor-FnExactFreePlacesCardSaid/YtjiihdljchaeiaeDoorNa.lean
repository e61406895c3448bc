/-
  Lists of numbers of places, as cells. No condition.
-/
import Derived.Test.YtjiihdljchaeiaeDoorV
import Derived.OwnWalk
import Derived.Laws.AppendOwn
import Derived.Laws.MakeOwn
import Derived.Maps.AppendAt
namespace Go.Proofs.YtjiihdljchaeiaeDoor
open Go.ChangeShapes Go.WideShapes Go.ChangeAt Go.RowKit

theorem Tryd.info64 : (Tryd.prog.info? 2).map (fun i => (i.zero, i.size, i.bytes)) = some (some (.int .i64 0), 1, 8) := by kernel_rfl
def nats (xs : List Nat) : List Value := xs.map fun (j : Nat) => .int .i64 (j : Int)
theorem nats_snoc (xs : List Nat) (k : Nat) : nats (xs ++ [k]) = nats xs ++ [.int .i64 (k : Int)] := by simp [nats]

end Go.Proofs.YtjiihdljchaeiaeDoor
