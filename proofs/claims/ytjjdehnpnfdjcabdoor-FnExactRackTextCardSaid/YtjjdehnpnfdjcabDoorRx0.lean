/-
  RackText: mathematics. No condition.
-/
import Derived.Test.YtjjdehnpnfdjcabDoorRv1
import Derived.Test.YtjjdehnpnfdjcabDoorBxq
import Derived.Test.YtjjdehnpnfdjcabDoorJn1
namespace Go.Proofs.YtjjdehnpnfdjcabDoor
open Go.ChangeShapes Go.WideShapes Go.ChangeAt Go.RowKit Go.Deep

/-- The word of a stored bottle. -/
def rxW (x : Wnt) : ByteArray := btS x.1.1.toNat x.1.2.toNat ++ ⟨#[64]⟩ ++ decS x.2.toNat
theorem rxW_nat (k y n : Nat) : rxW (((k : Int), (y : Int)), (n : Int)) = btS k y ++ ⟨#[64]⟩ ++ decS n := rfl
theorem sV_nat {x : Wnt} (h : sV x = true) : ∃ k y n : Nat, x = (((k : Int), (y : Int)), (n : Int)) ∧ k ≤ 20 ∧ y ≤ 2099 ∧ n ≤ 2000 ∧ vB ((k : Int), (y : Int)) = true := by
  obtain ⟨⟨k, y⟩, n⟩ := x
  simp only [sV, vB, Bool.and_eq_true, decide_eq_true_eq] at h
  refine ⟨k.toNat, y.toNat, n.toNat, by rw [Int.toNat_of_nonneg (by omega), Int.toNat_of_nonneg (by omega), Int.toNat_of_nonneg (by omega)], by omega, by omega, by omega, ?_⟩
  rw [Int.toNat_of_nonneg (by omega), Int.toNat_of_nonneg (by omega)]
  simp only [vB, Bool.and_eq_true, decide_eq_true_eq]; omega
theorem btS_size {k y : Nat} (hk : k ≤ 20) (hy : y ≤ 2099) : (btS k y).size ≤ 2130 := by
  have h1 := decS_size k
  have h2 := decS_size y
  have h3 : (⟨#[58]⟩ : ByteArray).size = 1 := rfl
  rw [btS, ByteArray.size_append, ByteArray.size_append]; omega
theorem rxW_size {x : Wnt} (h : sV x = true) : (rxW x).size ≤ 4140 := by
  obtain ⟨k, y, n, rfl, hk, hy, hn, -⟩ := sV_nat h
  have h1 := btS_size hk hy
  have h2 := decS_size n
  have h3 : (⟨#[64]⟩ : ByteArray).size = 1 := rfl
  rw [rxW_nat, ByteArray.size_append, ByteArray.size_append]; omega
/-- The text of the first lanes. -/
def rxT (m : List (List Wnt)) : Nat → ByteArray
  | 0 => ⟨#[]⟩
  | t + 1 => rxT m t ++ jnS ⟨#[32]⟩ ((m.getD t []).map rxW) ++ ⟨#[10]⟩
theorem rxT_succ {m : List (List Wnt)} {t : Nat} {xs : List Wnt} (h : m[t]? = some xs) : rxT m (t + 1) = rxT m t ++ jnS ⟨#[32]⟩ (xs.map rxW) ++ ⟨#[10]⟩ := by
  have e : m.getD t [] = xs := by rw [List.getD_eq_getElem?_getD, h]; rfl
  rw [rxT, e]
theorem rxS_size {xs : List Wnt} (h : ∀ x ∈ xs, sV x = true) : (jnS ⟨#[32]⟩ (xs.map rxW)).size ≤ 4141 * xs.length := by
  have := jnS_size (sp := ⟨#[32]⟩) (ws := xs.map rxW) (b := 4140) rfl (fun d hd => by
    obtain ⟨x, hx, rfl⟩ := List.mem_map.1 hd
    exact rxW_size (h x hx))
  rwa [List.length_map] at this
theorem rxK_size (o : ByteArray) {xs : List Wnt} (h : ∀ x ∈ xs, sV x = true) {k : Nat} (hk : k ≤ xs.length) : (jnK o ⟨#[32]⟩ (xs.map rxW) k).size ≤ o.size + 4141 * k :=
  jnK_size o (sp := ⟨#[32]⟩) (ws := xs.map rxW) (b := 4140) rfl (fun d hd => by
    obtain ⟨x, hx, rfl⟩ := List.mem_map.1 hd
    exact rxW_size (h x hx)) k (by rw [List.length_map]; exact hk)
theorem rxK_all (o : ByteArray) (xs : List Wnt) : jnK o ⟨#[32]⟩ (xs.map rxW) xs.length = o ++ jnS ⟨#[32]⟩ (xs.map rxW) := by
  have := jnK_all o ⟨#[32]⟩ (xs.map rxW)
  rwa [List.length_map] at this
theorem rxT_size {m : List (List Wnt)} (h : rkOk m = true) : ∀ t, t ≤ m.length → (rxT m t).size ≤ 25000 * t
  | 0, _ => Nat.le_refl 0
  | t + 1, ht => by
    have ih := rxT_size h t (by omega)
    obtain ⟨xs, hx⟩ : ∃ xs, m[t]? = some xs := ⟨_, List.getElem?_eq_getElem (by omega)⟩
    have hb := rkOk_lane h (List.mem_of_getElem? hx)
    have h2 := rxS_size hb.2
    have h1 : (⟨#[10]⟩ : ByteArray).size = 1 := rfl
    rw [rxT_succ hx, ByteArray.size_append, ByteArray.size_append]; omega
def rxA (m : List (List Wnt)) : ByteArray := if rkOk m = true then rxT m m.length else ⟨#[]⟩
theorem rxA_no {m : List (List Wnt)} (h : rkOk m = false) : rxA m = ⟨#[]⟩ := by simp [rxA, h]
theorem rxA_yes {m : List (List Wnt)} (h : rkOk m = true) : rxA m = rxT m m.length := if_pos h
theorem rxW_at {xs : List Wnt} {k : Nat} {x : Wnt} (h : xs[k]? = some x) : (xs.map rxW)[k]? = some (rxW x) := by rw [List.getElem?_map, h]; rfl
def rxL (xs : List Wnt) (k : Nat) : List ByteArray := (xs.take k).map rxW
theorem rxL_succ {xs : List Wnt} {k : Nat} {x : Wnt} (h : xs[k]? = some x) : rxL xs (k + 1) = rxL xs k ++ [rxW x] := by
  obtain ⟨h1, e⟩ := List.getElem?_eq_some_iff.1 h
  rw [rxL, List.take_succ_eq_append_getElem h1, List.map_append, e]; rfl
theorem rxL_all (xs : List Wnt) : rxL xs xs.length = xs.map rxW := by rw [rxL, List.take_length]
theorem rx_cells {m : List (List Wnt)} {t : Nat} {xs : List Wnt} (hx : m[t]? = some xs) :
    Lib.byteCells (rxT m t).data.toList ++ Lib.strCells (jnS ⟨#[32]⟩ (xs.map rxW) ++ ⟨#[10]⟩) = Lib.byteCells (rxT m (t + 1)).data.toList := by
  rw [rxT_succ hx]
  simp [Lib.byteCells, Lib.strCells, ByteArray.data_append]
end Go.Proofs.YtjjdehnpnfdjcabDoor
