/-
  SwapsText: mathematics. No condition.
-/
import Derived.Test.YtjjdehnpnfdjcaaDoorSmq
import Derived.Test.YtjjdehnpnfdjcaaDoorJn1
namespace Go.Proofs.YtjjdehnpnfdjcaaDoor
open Go.ChangeShapes Go.WideShapes Go.ChangeAt Go.RowKit Go.Deep

/-- The word of a swap. -/
def stW (x : Swp) : ByteArray := decS x.1.toNat ++ ⟨#[45]⟩ ++ decS x.2.toNat
theorem stW_nat (i j : Nat) : stW ((i : Int), (j : Int)) = decS i ++ ⟨#[45]⟩ ++ decS j := rfl
theorem stW_size {x : Swp} (h : canS x = true) : (stW x).size ≤ 25 := by
  obtain ⟨i, j, rfl, hi, hj⟩ := canS_nat h
  have h1 := decS_size i
  have h2 := decS_size j
  have h3 : (⟨#[45]⟩ : ByteArray).size = 1 := rfl
  rw [stW_nat, ByteArray.size_append, ByteArray.size_append]; omega
def stA (xs : List Swp) : ByteArray := if xs.all canS = true ∧ xs.length ≤ 60 then jnS ⟨#[32]⟩ (xs.map stW) else ⟨#[]⟩
theorem stA_no {xs : List Swp} (h : xs.all canS = false) : stA xs = ⟨#[]⟩ := by simp [stA, h]
theorem stA_long {xs : List Swp} (h : ¬ xs.length ≤ 60) : stA xs = ⟨#[]⟩ := by simp [stA, h]
theorem stA_yes {xs : List Swp} (h : xs.all canS = true) (hl : xs.length ≤ 60) : stA xs = jnS ⟨#[32]⟩ (xs.map stW) := if_pos ⟨h, hl⟩
theorem stW_at {xs : List Swp} {k : Nat} {x : Swp} (h : xs[k]? = some x) : (xs.map stW)[k]? = some (stW x) := by rw [List.getElem?_map, h]; rfl
def stT (xs : List Swp) (k : Nat) : List ByteArray := (xs.take k).map stW
theorem stT_succ {xs : List Swp} {k : Nat} {x : Swp} (h : xs[k]? = some x) : stT xs (k + 1) = stT xs k ++ [stW x] := by
  obtain ⟨h1, e⟩ := List.getElem?_eq_some_iff.1 h
  rw [stT, List.take_succ_eq_append_getElem h1, List.map_append, e]; rfl
theorem stT_all (xs : List Swp) : stT xs xs.length = xs.map stW := by rw [stT, List.take_length]
theorem stS_size {xs : List Swp} (h : xs.all canS = true) : (jnS ⟨#[32]⟩ (xs.map stW)).size ≤ 26 * xs.length := by
  have := jnS_size (sp := ⟨#[32]⟩) (ws := xs.map stW) (b := 25) rfl (fun d hd => by
    obtain ⟨x, hx, rfl⟩ := List.mem_map.1 hd
    exact stW_size (List.all_eq_true.1 h x hx))
  rwa [List.length_map] at this
theorem stK_size {xs : List Swp} (h : xs.all canS = true) {k : Nat} (hk : k ≤ xs.length) : (jnK ⟨#[]⟩ ⟨#[32]⟩ (xs.map stW) k).size ≤ 26 * k := by
  have := jnK_size ⟨#[]⟩ (sp := ⟨#[32]⟩) (ws := xs.map stW) (b := 25) rfl (fun d hd => by
    obtain ⟨x, hx, rfl⟩ := List.mem_map.1 hd
    exact stW_size (List.all_eq_true.1 h x hx)) k (by rw [List.length_map]; exact hk)
  have h0 : (⟨#[]⟩ : ByteArray).size = 0 := rfl
  omega
end Go.Proofs.YtjjdehnpnfdjcaaDoor
