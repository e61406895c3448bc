/-
  What is turned in one block alone; what is kept then. No condition of its own.
-/
import Derived.Test.YtmfdgpinohbckaaDoorRv
import Derived.WalkSmall
import Derived.Deep.RegionHeld3
import Derived.Test.YtmfdgpinohbckaaDoorRk
import Derived.Test.YtmfdgpinohbckaaDoorMg4
namespace Go.Proofs.YtmfdgpinohbckaaDoor
open Go.ChangeShapes Go.WideShapes Go.ChangeAt Go.RowKit Go.Deep

/-- The code of a function of a rack alone; a number that it tells. -/
def rkC (xss : List (List Wnt)) : Int := if rkOk xss = true then 0 else 1
def rkN (xss : List (List Wnt)) (n : Int) : Int := if rkOk xss = true then n else 0
theorem rkC_yes {xss : List (List Wnt)} (h : rkOk xss = true) : rkC xss = 0 := by rw [rkC, if_pos h]
theorem rkC_no {xss : List (List Wnt)} (h : rkOk xss = false) : rkC xss = 1 := by simp [rkC, h]
theorem rkN_yes {xss : List (List Wnt)} (h : rkOk xss = true) (n : Int) : rkN xss n = n := by rw [rkN, if_pos h]
theorem rkN_no {xss : List (List Wnt)} (h : rkOk xss = false) (n : Int) : rkN xss n = 0 := by simp [rkN, h]

set_option maxHeartbeats 1000000 in
theorem checkRack_any (xss : List (List Wnt)) (A : Option Addr) (c : Nat) (ad : Nat → Addr) (w : World) (hl : xss.length ≤ 1048576) (hx : ∀ xs ∈ xss, xs.length ≤ 1048576) (hr : RdN w w.heap.size wcells A xss) (hE : EW 7 w ad) :
    Calls Tryd.prog 40 #[.slice A xss.length c] w fun e w' => e = .returned (erV ad 5 (rkOk xss)) ∧ Below w.heap.size w w' := by
  have HR := Lib.hid hr
  have HX := Lib.hid hx
  have HE := Lib.hid hE
  clear hr hx hE
  go_enter Tryd.func40, Tryd.ntmps40
  go_wp2_with fail
  refine (validRack_any xss A c ad w hl HX.out HR.out HE.out.i5).mono ?_
  rintro e w1 ⟨rfl, hb⟩
  have HB := Lib.hid hb
  have c0 : w1.cell? ⟨1, 0, none⟩ = some (.iface 165 (.pointer (some (ad 5)))) := ((HE.out).below HB.out (Nat.le_refl _)).cell 5 (by omega)
  clear hb
  cases hv : rkOk xss
  · have HV := Lib.hid hv
    clear hv
    go_wp2
    go_ret
    exact ⟨by (rw [HV.out]; first | done | rfl), HB.out⟩
  · have HV := Lib.hid hv
    clear hv
    go_wp2
    go_ret
    exact ⟨by (rw [HV.out]; first | done | rfl), HB.out⟩
theorem erV5_no (ad : Nat → Addr) : erV ad 5 false = .iface 165 (.pointer (some (ad 5))) := rfl
theorem erV_yes (ad : Nat → Addr) (k : Nat) : erV ad k true = .nilIface := rfl

end Go.Proofs.YtmfdgpinohbckaaDoor

namespace Go.Proofs.YtmfdgpinohbckaaDoor
open Go.ChangeShapes Go.WideShapes Go.ChangeAt Go.RowKit Go.Deep

/-- How many of the first p are older than d; the pairs of a lane's first k; of the first i lanes. -/
def cntB (xs : List Wnt) (d : Int) (p : Nat) : Nat := (xs.take p).countP (fun y => decide (y.2 < d))
def rowB (xs : List Wnt) : Nat → Nat
  | 0 => 0
  | k + 1 => rowB xs k + cntB xs (xs.getD k ((0, 0), 0)).2 k
def totB (xss : List (List Wnt)) : Nat → Nat
  | 0 => 0
  | i + 1 => totB xss i + rowB (xss.getD i []) (xss.getD i []).length
theorem cntB_le (xs : List Wnt) (d : Int) (p : Nat) : cntB xs d p ≤ p := Nat.le_trans (List.countP_le_length) (by simp; omega)
theorem cntB_succ {xs : List Wnt} {d : Int} {p : Nat} {y : Wnt} (h : xs[p]? = some y) : cntB xs d (p + 1) = cntB xs d p + if y.2 < d then 1 else 0 := by
  unfold cntB
  rw [List.take_add_one, h, List.countP_append]
  by_cases hy : y.2 < d <;> simp [hy]
theorem rowB_le (xs : List Wnt) : ∀ k, rowB xs k ≤ k * k
  | 0 => by simp [rowB]
  | k + 1 => by
    have h1 := rowB_le xs k
    have h2 := cntB_le xs (xs.getD k ((0, 0), 0)).2 k
    have h3 : (k + 1) * (k + 1) = k * k + k + k + 1 := by rw [Nat.add_mul, Nat.mul_add]; omega
    rw [rowB]; omega
theorem rowB_six (xs : List Wnt) {k : Nat} (h : k ≤ 6) : rowB xs k ≤ 36 := Nat.le_trans (rowB_le xs k) (Nat.mul_le_mul h h)
theorem totB_le {xss : List (List Wnt)} (h : ∀ xs ∈ xss, xs.length ≤ 6) : ∀ i, totB xss i ≤ 36 * i
  | 0 => by simp [totB]
  | i + 1 => by
    have h1 := totB_le h i
    have h2 : rowB (xss.getD i []) (xss.getD i []).length ≤ 36 := rowB_six _ (by
      rw [List.getD_eq_getElem?_getD]
      cases hi : xss[i]? with
      | none => simp
      | some xs => simpa using h xs (List.mem_of_getElem? hi))
    rw [totB]; omega
theorem rowB_succ {xs : List Wnt} {k : Nat} {x : Wnt} (h : xs[k]? = some x) : rowB xs (k + 1) = rowB xs k + cntB xs x.2 k := by rw [rowB]; simp [h]
theorem totB_succ {xss : List (List Wnt)} {i : Nat} {xs : List Wnt} (h : xss[i]? = some xs) : totB xss (i + 1) = totB xss i + rowB xs xs.length := by rw [totB]; simp [h]

end Go.Proofs.YtmfdgpinohbckaaDoor

namespace Go.Proofs.YtmfdgpinohbckaaDoor
open Go.ChangeShapes Go.WideShapes Go.ChangeAt Go.RowKit Go.Deep

/-- A spot: a bottle, day, lane and index, and the lane's list. -/
def spC (k y d l i : Int) (a : Option Addr) (n c : Nat) : Array Value := #[.int .u8 k, .int .i16 y, .int .i64 d, .int .i64 l, .int .i64 i, .slice a n c]
set_option maxHeartbeats 1000000 in
theorem spotAt_any (A : Option Addr) (n c : Nat) (l : Nat) (i : Int) (k y d : Int) (a : Option Addr) (m c' : Nat) (w : World) (hd : -32768 ≤ d ∧ d ≤ 32767) (hl : l < n) (hn : n ≤ 1048576) (b o : Nat) (hA : A = some ⟨b, o, none⟩) (hb : b < w.heap.size) (hc : w.cell? ⟨b, o + l, none⟩ = some (.slice a m c')) :
    Calls Tryd.prog 103 #[.slice A n c, .int .i64 (l : Int), .int .i64 i, .agg #[.int .u8 k, .int .i16 y, .int .i16 d]] w fun e w' => e = .returned (.agg (spC k y d l i a m c')) ∧ Below w.heap.size w w' := by
  subst hA
  have hl0 : (0 : Int) ≤ (l : Int) := Int.natCast_nonneg _
  have hl1 : (l : Int) < n := by omega
  have hne : b ≠ w.heap.size := by omega
  have hw1 : IntKind.i64.wrap d = d := IntWalk.i64_in _ ⟨by omega, by omega⟩
  have hw2 : wrap64 d = d := IntWalk.wrap64_in _ ⟨by omega, by omega⟩
  go_enter Tryd.func103, Tryd.ntmps103
  go_wp2_with fail
  go_region
  go_wp2
  refine bodyPost_ret (v := .agg (spC k y d l i a m c')) (by simp [spC, results, Tryd.results103, go_sem]) rfl ⟨rfl, (by repeat (first | exact Below.refl _ _ | refine Below.drew ?_ | refine Below.alloc ?_ (by simp <;> omega) _ | refine Below.setCell ?_ (by simp <;> omega) _))⟩
theorem ahead_any (k y d l i : Int) (a : Option Addr) (m c' : Nat) (w : World) (hi : 0 ≤ i ∧ i ≤ 1048576) (hm : m ≤ 1048576) :
    Calls Tryd.prog 97 #[.agg (spC k y d l i a m c')] w fun e w' => e = .returned (.int .i64 ((m : Int) - 1 - i)) ∧ Below w.heap.size w w' := by
  have hm0 : (0 : Int) ≤ (m : Int) := Int.natCast_nonneg _
  have hw1 : IntKind.i64.wrap ((m : Int) - 1) = (m : Int) - 1 := IntWalk.i64_in _ ⟨by omega, by omega⟩
  have hw2 : wrap64 ((m : Int) - 1) = (m : Int) - 1 := IntWalk.wrap64_in _ ⟨by omega, by omega⟩
  have hw3 : IntKind.i64.wrap ((m : Int) - 1 - i) = (m : Int) - 1 - i := IntWalk.i64_in _ ⟨by omega, by omega⟩
  have hw4 : wrap64 ((m : Int) - 1 - i) = (m : Int) - 1 - i := IntWalk.wrap64_in _ ⟨by omega, by omega⟩
  unfold spC
  go_enter Tryd.func97, Tryd.ntmps97
  go_wp2
  go_ret
  exact ⟨rfl, (by repeat (first | exact Below.refl _ _ | refine Below.drew ?_ | refine Below.alloc ?_ (by simp <;> omega) _ | refine Below.setCell ?_ (by simp <;> omega) _))⟩
end Go.Proofs.YtmfdgpinohbckaaDoor

namespace Go.Proofs.YtmfdgpinohbckaaDoor
open Go.ChangeShapes Go.WideShapes Go.ChangeAt Go.RowKit Go.Deep

theorem gk_refl (w : World) (row : Option Nat) : w.grownBy w row := ⟨rfl, rfl, rfl, Nat.le_refl _, fun _ _ _ => rfl⟩
theorem gk_set {w w1 : World} {B j : Nat} (h : w.grownBy w1 (some B)) (u : Value) : w.grownBy (w1.setCell ⟨B, j, none⟩ u) (some B) :=
  ⟨h.os, h.tape, h.output, by simpa [World.setCell] using h.size, fun k hk hr => (Below.heap_setCell _ _ _ _ (by rintro rfl; exact hr rfl)).trans (h.block k hk hr)⟩
theorem gk_below {w w1 : World} {row : Option Nat} {b : Nat} (h : w.grownBy w1 row) (hb : b ≤ w.heap.size) (hr : ∀ k, row = some k → b ≤ k) : Below b w w1 := (Below.refl b w).grown h hb hr
/-- A block other than the one that is turned. -/
theorem gk_blk {w w1 : World} {row : Option Nat} {B : Nat} {t : TypeId} {cs : Array Value} (h : Blk w B t cs) (hg : w.grownBy w1 row) (hne : row ≠ some B) : Blk w1 B t cs :=
  (hg.block B h.lt (fun e => hne e.symm)).trans h
/-- Rows of the call's own, kept where another block is turned. -/
theorem gk_own {w w1 : World} {row : Option Nat} {b size n : Nat} {e : TypeId} {v : Value} {xs : List Value} (h : w.ownsRow b e size v n xs) (hg : w.grownBy w1 row) (hne : ∀ k, row = some k → k < b) : w1.ownsRow b e size v n xs := by
  refine ⟨h.1, ?_⟩
  rcases h.2 with h0 | ⟨g, cap, cur, h1, h2, h3, h4⟩
  · exact .inl h0
  · exact .inr ⟨g, cap, cur, h1, h2, (hg.block g (Array.getElem?_eq_some_iff.1 h3).1 (fun e => by have := hne g e.symm; omega)).trans h3, h4⟩
/-- A row of the call's own lies in one block, or is empty. -/
theorem gk_src {w : World} {b size : Nat} {e : TypeId} {A : Option Addr} {n c : Nat} {xs : List Value} (h : w.ownsRow b e size (.slice A n c) n xs) : n = 0 ∨ ∃ g cur, A = some ⟨g, 0, none⟩ ∧ Blk w g e cur ∧ n * size ≤ cur.size := by
  rcases h.2 with ⟨-, h0⟩ | ⟨g, cap, cur, hv, hbg, hg, hnc, hcap, hsz, -⟩
  · exact .inl h0
  · refine .inr ⟨g, cur, (by simpa using hv : A = some ⟨g, 0, none⟩ ∧ c = cap).1, hg, ?_⟩
    rw [hsz]
    exact Nat.mul_le_mul_right _ hnc
/-- The same of rows that have just been made. -/
theorem gk_rs {T : Type} {w : World} {B size : Nat} {t : TypeId} {cells : T → List Value} {xs : List T} (hs : ∀ x, (cells x).length = size) (h : Rs w B t cells xs) : xs.length = 0 ∨ ∃ g cur, (some ⟨B, 0, none⟩ : Option Addr) = some ⟨g, 0, none⟩ ∧ Blk w g t cur ∧ xs.length * size ≤ cur.size :=
  .inr ⟨B, _, rfl, h, by rw [List.size_toArray, rows_length hs]; exact Nat.le_refl _⟩
theorem gk_ge {w : World} {b size : Nat} {e : TypeId} {A : Option Addr} {n c : Nat} {xs : List Value} (h : w.ownsRow b e size (.slice A n c) n xs) : ∀ k, A.map (·.block) = some k → b ≤ k := by
  rcases h.2 with ⟨h0, -⟩ | ⟨g, cap, cur, hv, hbg, -⟩
  · obtain rfl : A = none := by simpa using (Value.slice.inj h0).1
    intro k e; cases e
  · obtain rfl : A = some ⟨g, 0, none⟩ := (Value.slice.inj hv).1
    intro k e
    obtain rfl : g = k := by simpa using e
    exact hbg
theorem own_rd2 {T : Type} {w : World} {b size : Nat} {e : TypeId} {A : Option Addr} {c : Nat} {xs : List T} {cells : T → List Value} (hs : ∀ x, (cells x).length = size) (h : w.ownsRow b e size (.slice A xs.length c) xs.length (xs.flatMap cells)) : Rd w w.heap.size cells A xs := by
  obtain ⟨A', c', e, -, hr⟩ := own_rd hs h
  obtain rfl : A = A' := (Value.slice.inj e).1
  exact hr
end Go.Proofs.YtmfdgpinohbckaaDoor
