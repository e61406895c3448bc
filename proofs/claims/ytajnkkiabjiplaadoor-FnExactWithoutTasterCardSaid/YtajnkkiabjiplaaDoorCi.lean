/-
  Numbers that are all within: the contract of checkIndices. Condition: the list reads as told; the sentinel errors lie as the row lists them.
-/
import Derived.Test.YtajnkkiabjiplaaDoorHm
import Derived.Test.YtajnkkiabjiplaaDoorLi
import Derived.Test.YtajnkkiabjiplaaDoorEo
namespace Go.Proofs.YtajnkkiabjiplaaDoor
open Go.ChangeShapes Go.WideShapes Go.ChangeAt Go.RowKit Go.Deep

/-- Are all numbers those of parties? -/
def inRI (n : Int) (cr : List Int) : Bool := cr.all fun i => wi 0 (n - 1) i
theorem inRI_no {n : Int} {cr : List Int} {k : Nat} {i : Int} (h : cr[k]? = some i) (hi : ¬ (0 ≤ i ∧ i < n)) : inRI n cr = false := by
  rw [inRI, List.all_eq_false]
  exact ⟨i, List.mem_of_getElem? h, by rw [Bool.not_eq_true, wi_no]; omega⟩
theorem inRI_all {n : Int} {cr : List Int} (h : ∀ j i, j < cr.length → cr[j]? = some i → 0 ≤ i ∧ i < n) : inRI n cr = true := by
  rw [inRI, List.all_eq_true]
  intro i hi
  obtain ⟨j, hj, rfl⟩ := List.mem_iff_getElem.1 hi
  have := h j _ hj (List.getElem?_eq_getElem hj)
  rw [wi_iff]; omega
set_option maxHeartbeats 1000000 in
theorem checkIndicesI_any (cr : List Int) (n : Int) (A : Option Addr) (c : Nat) (ad : Nat → Addr) (w : World) (hl : cr.length ≤ 1048576) (hr : Rd w w.heap.size icells A cr) (hE : EW 7 w ad) :
    Calls Tryd.prog 35 #[.slice A cr.length c, .int .i64 n] w fun e w' => e = .returned (erO ad (chk 0 (inRI n cr))) ∧ w = w' := by
  have HR := Lib.hid hr
  have c0 : w.cell? ⟨1, 0, none⟩ = some (.iface 68 (.pointer (some (ad 0)))) := hE.cell 0 (by omega)
  have C0 := Lib.hid c0
  clear hr hE c0
  go_enter Tryd.func35, Tryd.ntmps35
  go_wp2_with fail
  go_loop [9] (fun i => ∃ k : Nat, k ≤ cr.length ∧ i = .int .i64 k ∧ ∀ j i, j < k → cr[j]? = some i → 0 ≤ i ∧ i < (n : Int)) (fun i => cr.length - (intOf i).toNat)
  case atStart => exact ⟨0, by omega, rfl, fun j i h => by omega⟩
  case round =>
    obtain ⟨k, hk, rfl, hT⟩ := hrel
    have HT := Lib.hid hT
    clear hT
    by_cases hlt : k < cr.length
    · obtain ⟨i, hi⟩ : ∃ x, cr[k]? = some x := ⟨_, List.getElem?_eq_getElem hlt⟩
      obtain ⟨g, o, rfl, hg, hc⟩ := HR.out.at_ icells_length hi
      have e1 := rowI hc
      have HX := Lib.hid hi
      have hk0 : (0 : Int) ≤ (k : Int) := Int.natCast_nonneg _
      have hk8 : (k : Int) < cr.length := by omega
      have c0 := C0.out
      clear hi hc
      by_cases h0 : i < 0
      · go_wp2
        go_ret
        exact ⟨by rw [inRI_no HX.out (by omega)]; rfl, rfl⟩
      · have h0d : decide (i < 0) = false := decide_eq_false h0
        by_cases h1 : n ≤ i
        · go_wp2
          go_ret
          exact ⟨by rw [inRI_no HX.out (by omega)]; rfl, rfl⟩
        · have h1d : decide (n ≤ i) = false := decide_eq_false h1
          go_wp2
          go_round
          case rel =>
            refine ⟨k + 1, by omega, by go_num, fun j i' hj hi' => ?_⟩
            by_cases e : j = k
            · subst e
              rw [HX.out] at hi'
              simp only [Option.some.injEq] at hi'
              subst hi'
              omega
            · exact HT.out j i' (by omega) hi'
          case measure => simp [intOf]; omega
    · obtain rfl : k = cr.length := by omega
      go_wp2
      go_ret
      exact ⟨by rw [inRI_all HT.out]; rfl, rfl⟩
end Go.Proofs.YtajnkkiabjiplaaDoor
