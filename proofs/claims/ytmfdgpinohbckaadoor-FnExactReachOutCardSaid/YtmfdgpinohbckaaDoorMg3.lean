/-
  BlockedIn: what is counted; the model's contract. Condition: the rack reads as lists of things that are stored, whose numbers fit their kinds, not more than 1048576.
-/
import Derived.Test.YtmfdgpinohbckaaDoorRv
import Derived.WalkSmall
import Derived.Deep.RegionHeld3
namespace Go.Proofs.YtmfdgpinohbckaaDoor
open Go.ChangeShapes Go.WideShapes Go.ChangeAt Go.RowKit Go.Deep

/-- The code of a function of a rack alone; a number that it tells. -/
def rkC (xss : List (List Wnt)) : Int := if rkOk xss = true then 0 else 1
def rkN (xss : List (List Wnt)) (n : Int) : Int := if rkOk xss = true then n else 0
theorem rkC_yes {xss : List (List Wnt)} (h : rkOk xss = true) : rkC xss = 0 := by rw [rkC, if_pos h]
theorem rkC_no {xss : List (List Wnt)} (h : rkOk xss = false) : rkC xss = 1 := by simp [rkC, h]
theorem rkN_yes {xss : List (List Wnt)} (h : rkOk xss = true) (n : Int) : rkN xss n = n := by rw [rkN, if_pos h]
theorem rkN_no {xss : List (List Wnt)} (h : rkOk xss = false) (n : Int) : rkN xss n = 0 := by simp [rkN, h]

set_option maxHeartbeats 1000000 in
theorem checkRack_any (xss : List (List Wnt)) (A : Option Addr) (c : Nat) (ad : Nat → Addr) (w : World) (hl : xss.length ≤ 1048576) (hx : ∀ xs ∈ xss, xs.length ≤ 1048576) (hr : RdN w w.heap.size wcells A xss) (hE : EW 7 w ad) :
    Calls Tryd.prog 40 #[.slice A xss.length c] w fun e w' => e = .returned (erV ad 5 (rkOk xss)) ∧ Below w.heap.size w w' := by
  have HR := Lib.hid hr
  have HX := Lib.hid hx
  have HE := Lib.hid hE
  clear hr hx hE
  go_enter Tryd.func40, Tryd.ntmps40
  go_wp2_with fail
  refine (validRack_any xss A c ad w hl HX.out HR.out HE.out.i5).mono ?_
  rintro e w1 ⟨rfl, hb⟩
  have HB := Lib.hid hb
  have c0 : w1.cell? ⟨1, 0, none⟩ = some (.iface 165 (.pointer (some (ad 5)))) := ((HE.out).below HB.out (Nat.le_refl _)).cell 5 (by omega)
  clear hb
  cases hv : rkOk xss
  · have HV := Lib.hid hv
    clear hv
    go_wp2
    go_ret
    exact ⟨by (rw [HV.out]; first | done | rfl), HB.out⟩
  · have HV := Lib.hid hv
    clear hv
    go_wp2
    go_ret
    exact ⟨by (rw [HV.out]; first | done | rfl), HB.out⟩
theorem erV5_no (ad : Nat → Addr) : erV ad 5 false = .iface 165 (.pointer (some (ad 5))) := rfl
theorem erV_yes (ad : Nat → Addr) (k : Nat) : erV ad k true = .nilIface := rfl

end Go.Proofs.YtmfdgpinohbckaaDoor

namespace Go.Proofs.YtmfdgpinohbckaaDoor
open Go.ChangeShapes Go.WideShapes Go.ChangeAt Go.RowKit Go.Deep

/-- How many of the first p are older than d; the pairs of a lane's first k; of the first i lanes. -/
def cntB (xs : List Wnt) (d : Int) (p : Nat) : Nat := (xs.take p).countP (fun y => decide (y.2 < d))
def rowB (xs : List Wnt) : Nat → Nat
  | 0 => 0
  | k + 1 => rowB xs k + cntB xs (xs.getD k ((0, 0), 0)).2 k
def totB (xss : List (List Wnt)) : Nat → Nat
  | 0 => 0
  | i + 1 => totB xss i + rowB (xss.getD i []) (xss.getD i []).length
theorem cntB_le (xs : List Wnt) (d : Int) (p : Nat) : cntB xs d p ≤ p := Nat.le_trans (List.countP_le_length) (by simp; omega)
theorem cntB_succ {xs : List Wnt} {d : Int} {p : Nat} {y : Wnt} (h : xs[p]? = some y) : cntB xs d (p + 1) = cntB xs d p + if y.2 < d then 1 else 0 := by
  unfold cntB
  rw [List.take_add_one, h, List.countP_append]
  by_cases hy : y.2 < d <;> simp [hy]
theorem rowB_le (xs : List Wnt) : ∀ k, rowB xs k ≤ k * k
  | 0 => by simp [rowB]
  | k + 1 => by
    have h1 := rowB_le xs k
    have h2 := cntB_le xs (xs.getD k ((0, 0), 0)).2 k
    have h3 : (k + 1) * (k + 1) = k * k + k + k + 1 := by rw [Nat.add_mul, Nat.mul_add]; omega
    rw [rowB]; omega
theorem rowB_six (xs : List Wnt) {k : Nat} (h : k ≤ 6) : rowB xs k ≤ 36 := Nat.le_trans (rowB_le xs k) (Nat.mul_le_mul h h)
theorem totB_le {xss : List (List Wnt)} (h : ∀ xs ∈ xss, xs.length ≤ 6) : ∀ i, totB xss i ≤ 36 * i
  | 0 => by simp [totB]
  | i + 1 => by
    have h1 := totB_le h i
    have h2 : rowB (xss.getD i []) (xss.getD i []).length ≤ 36 := rowB_six _ (by
      rw [List.getD_eq_getElem?_getD]
      cases hi : xss[i]? with
      | none => simp
      | some xs => simpa using h xs (List.mem_of_getElem? hi))
    rw [totB]; omega
theorem rowB_succ {xs : List Wnt} {k : Nat} {x : Wnt} (h : xs[k]? = some x) : rowB xs (k + 1) = rowB xs k + cntB xs x.2 k := by rw [rowB]; simp [h]
theorem totB_succ {xss : List (List Wnt)} {i : Nat} {xs : List Wnt} (h : xss[i]? = some xs) : totB xss (i + 1) = totB xss i + rowB xs xs.length := by rw [totB]; simp [h]

end Go.Proofs.YtmfdgpinohbckaaDoor
