/-
  strconv.Itoa over the library's table. Condition: the table lies as the row lists it.
-/
import Derived.Test.YtjjdehnpnfdjcabDoorDc9
import Derived.Test.YtjjdehnpnfdjcabDoorShelf
namespace Go.Proofs.YtjjdehnpnfdjcabDoor
open Go.ChangeShapes Go.WideShapes Go.ChangeAt Go.RowKit Go.Deep Go.Joins

abbrev Tab (w : World) : Prop := Lib.TabIs Tryd.prog w "internal/strconv.uint64pow10" .u64 Lib.pow10Tab
theorem below_grow (w : World) (k : Nat) (os : Array Obj) : Below w.heap.size w (Sort.grow (w.drewN k) os) :=
  ⟨rfl, rfl, rfl, by simp [Sort.grow], fun j hj => by simp [Sort.grow, Array.getElem?_append_left hj]⟩
theorem Tab.on {w w' : World} (h : Tab w) {B : Nat} (hb : Below B w w') (hB : w.heap.size ≤ B) : Tab w' := tab_stays (g := 1) (by kernel_rfl) h hb hB
/-- The numeral of a number. -/
def itW (n : Int) : ByteArray := ⟨(Lib.itoa n).toArray⟩
theorem itW_nat (n : Nat) : itW n = decS n := by
  rw [itW, Lib.itoa, if_neg (by omega), decS]; rfl
theorem itW_neg (n : Nat) (h : 0 < n) : itW (-(n : Int)) = ⟨#[45]⟩ ++ decS n := by
  rw [itW, Lib.itoa, if_pos (by omega), Int.natAbs_neg, Int.natAbs_natCast, decS]
  apply ByteArray.ext
  apply Array.toList_inj.1
  simp [ByteArray.data_append]
theorem itoaI (n : Int) (hn : -1000000 ≤ n ∧ n ≤ 1000000) (w : World) (ht : Tab w) : Calls Tryd.prog 26 #[.int .i64 n] w fun e w' => e = .returned (.string (itW n)) ∧ Below w.heap.size w w' :=
  (Tryd.strconv_Itoa n (by omega) (by omega) w ht).mono fun e w' ⟨he, k, os, hw⟩ => by
    refine ⟨he, by rw [hw]; exact below_grow w k os⟩
end Go.Proofs.YtjjdehnpnfdjcabDoor
