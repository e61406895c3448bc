/-
  OrderText: mathematics. No condition.
-/
import Derived.Test.YtjjdehnpnfdjcabDoorOeq
import Derived.Test.YtjjdehnpnfdjcabDoorBxq
import Derived.Test.YtjjdehnpnfdjcabDoorJn1
namespace Go.Proofs.YtjjdehnpnfdjcabDoor
open Go.ChangeShapes Go.WideShapes Go.ChangeAt Go.RowKit Go.Deep

/-- The word of a want. -/
def otW (x : Wnt) : ByteArray := btS x.1.1.toNat x.1.2.toNat ++ ⟨#[120]⟩ ++ decS x.2.toNat
theorem otW_nat (k y n : Nat) : otW (((k : Int), (y : Int)), (n : Int)) = btS k y ++ ⟨#[120]⟩ ++ decS n := rfl
theorem vW_nat {x : Wnt} (h : vW x = true) : ∃ k y n : Nat, x = (((k : Int), (y : Int)), (n : Int)) ∧ k ≤ 20 ∧ y ≤ 2099 ∧ n ≤ 144 ∧ vB ((k : Int), (y : Int)) = true := by
  obtain ⟨⟨k, y⟩, n⟩ := x
  have h0 := h
  simp only [vW, vB, Bool.and_eq_true, decide_eq_true_eq] at h
  refine ⟨k.toNat, y.toNat, n.toNat, by rw [Int.toNat_of_nonneg (by omega), Int.toNat_of_nonneg (by omega), Int.toNat_of_nonneg (by omega)], by omega, by omega, by omega, ?_⟩
  rw [Int.toNat_of_nonneg (by omega), Int.toNat_of_nonneg (by omega)]
  simp only [vB, Bool.and_eq_true, decide_eq_true_eq]; omega
theorem btS_size {k y : Nat} (hk : k ≤ 20) (hy : y ≤ 2099) : (btS k y).size ≤ 2130 := by
  have h1 := decS_size k
  have h2 := decS_size y
  have h3 : (⟨#[58]⟩ : ByteArray).size = 1 := rfl
  rw [btS, ByteArray.size_append, ByteArray.size_append]; omega
theorem otW_size {x : Wnt} (h : vW x = true) : (otW x).size ≤ 2300 := by
  obtain ⟨k, y, n, rfl, hk, hy, hn, -⟩ := vW_nat h
  have h1 := btS_size hk hy
  have h2 := decS_size n
  have h3 : (⟨#[120]⟩ : ByteArray).size = 1 := rfl
  rw [otW_nat, ByteArray.size_append, ByteArray.size_append]; omega
theorem ordOk_len {xs : List Wnt} (h : ordOk xs = true) : xs.length ≤ 8 := by
  simp only [ordOk, Bool.and_eq_true, decide_eq_true_eq] at h; exact h.2
theorem ordOk_at {xs : List Wnt} (h : ordOk xs = true) {k : Nat} {x : Wnt} (hx : xs[k]? = some x) : vW x = true := by
  simp only [ordOk, Bool.and_eq_true, List.all_eq_true] at h
  have := h.1 k (by have := (List.getElem?_eq_some_iff.1 hx).1; simpa using this)
  simp only [okAt, hx, Bool.and_eq_true] at this
  exact this.1
theorem ordOk_mem {xs : List Wnt} (h : ordOk xs = true) : ∀ x ∈ xs, vW x = true := fun x hx => by
  obtain ⟨k, hk⟩ := List.getElem?_of_mem hx
  exact ordOk_at h hk
def otA (xs : List Wnt) : ByteArray := if ordOk xs = true then jnS ⟨#[32]⟩ (xs.map otW) else ⟨#[]⟩
theorem otA_no {xs : List Wnt} (h : ordOk xs = false) : otA xs = ⟨#[]⟩ := by simp [otA, h]
theorem otA_yes {xs : List Wnt} (h : ordOk xs = true) : otA xs = jnS ⟨#[32]⟩ (xs.map otW) := if_pos h
theorem otW_at {xs : List Wnt} {k : Nat} {x : Wnt} (h : xs[k]? = some x) : (xs.map otW)[k]? = some (otW x) := by rw [List.getElem?_map, h]; rfl
def otT (xs : List Wnt) (k : Nat) : List ByteArray := (xs.take k).map otW
theorem otT_succ {xs : List Wnt} {k : Nat} {x : Wnt} (h : xs[k]? = some x) : otT xs (k + 1) = otT xs k ++ [otW x] := by
  obtain ⟨h1, e⟩ := List.getElem?_eq_some_iff.1 h
  rw [otT, List.take_succ_eq_append_getElem h1, List.map_append, e]; rfl
theorem otT_all (xs : List Wnt) : otT xs xs.length = xs.map otW := by rw [otT, List.take_length]
theorem otS_size {xs : List Wnt} (h : ordOk xs = true) : (jnS ⟨#[32]⟩ (xs.map otW)).size ≤ 2301 * xs.length := by
  have := jnS_size (sp := ⟨#[32]⟩) (ws := xs.map otW) (b := 2300) rfl (fun d hd => by
    obtain ⟨x, hx, rfl⟩ := List.mem_map.1 hd
    exact otW_size (ordOk_mem h x hx))
  rwa [List.length_map] at this
theorem otK_size {xs : List Wnt} (h : ordOk xs = true) {k : Nat} (hk : k ≤ xs.length) : (jnK ⟨#[]⟩ ⟨#[32]⟩ (xs.map otW) k).size ≤ 2301 * k := by
  have := jnK_size ⟨#[]⟩ (sp := ⟨#[32]⟩) (ws := xs.map otW) (b := 2300) rfl (fun d hd => by
    obtain ⟨x, hx, rfl⟩ := List.mem_map.1 hd
    exact otW_size (ordOk_mem h x hx)) k (by rw [List.length_map]; exact hk)
  have h0 : (⟨#[]⟩ : ByteArray).size = 0 := rfl
  omega
end Go.Proofs.YtjjdehnpnfdjcabDoor
