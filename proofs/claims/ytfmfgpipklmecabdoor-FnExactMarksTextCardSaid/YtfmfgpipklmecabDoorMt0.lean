/-
  MarksText: the text of marks; mathematics. No condition.
-/
import Derived.Test.YtfmfgpipklmecabDoorTq
import Derived.Test.YtfmfgpipklmecabDoorDc9
namespace Go.Proofs.YtfmfgpipklmecabDoor
open Go.RowKit

/-- A line, behind what is there, up to k marks. -/
def mtI (o : ByteArray) (xs : List Int) : Nat → ByteArray
  | 0 => o
  | k + 1 => (if 0 < k then mtI o xs k ++ ⟨#[32]⟩ else mtI o xs k) ++ decS (xs.getD k 0).toNat
def mtT (m : List (List Int)) : Nat → ByteArray
  | 0 => ⟨#[]⟩
  | t + 1 => mtI (mtT m t) (m.getD t []) (m.getD t []).length ++ ⟨#[10]⟩
theorem mtT_succ {m : List (List Int)} {t : Nat} {xs : List Int} (h : m[t]? = some xs) : mtT m (t + 1) = mtI (mtT m t) xs xs.length ++ ⟨#[10]⟩ := by
  have e : m.getD t [] = xs := by rw [List.getD_eq_getElem?_getD, h]; rfl
  rw [mtT, e]
theorem mtI_first {o : ByteArray} {xs : List Int} {k : Nat} {q : Nat} (h : xs[k]? = some (q : Int)) (hk : ¬ 0 < k) : mtI o xs (k + 1) = mtI o xs k ++ decS q := by
  rw [mtI, if_neg hk, List.getD_eq_getElem?_getD, h]; rfl
theorem mtI_next {o : ByteArray} {xs : List Int} {k : Nat} {q : Nat} (h : xs[k]? = some (q : Int)) (hk : 0 < k) : mtI o xs (k + 1) = mtI o xs k ++ ⟨#[32]⟩ ++ decS q := by
  rw [mtI, if_pos hk, List.getD_eq_getElem?_getD, h]; rfl
theorem mtI_size (o : ByteArray) {xs : List Int} (h : ∀ x ∈ xs, 0 ≤ x ∧ x ≤ 20) : ∀ k, k ≤ xs.length → (mtI o xs k).size ≤ o.size + 22 * k
  | 0, _ => by simp [mtI]
  | k + 1, hk => by
    have ih := mtI_size o h k (by omega)
    have hx : xs[k]? = some (xs[k]'(by omega)) := List.getElem?_eq_getElem (by omega)
    have hb := h _ (List.getElem_mem (show k < xs.length by omega))
    have hd := decS_size (xs.getD k 0).toNat
    have hq : (xs.getD k 0).toNat ≤ 20 := by rw [List.getD_eq_getElem?_getD, hx]; simp only [Option.getD_some]; omega
    have h1 : (⟨#[32]⟩ : ByteArray).size = 1 := rfl
    rw [mtI, ByteArray.size_append]
    split
    · rw [ByteArray.size_append]; omega
    · omega
theorem mtT_size {m : List (List Int)} (h : ∀ xs ∈ m, xs.length ≤ 8 ∧ ∀ x ∈ xs, 0 ≤ x ∧ x ≤ 20) : ∀ t, t ≤ m.length → (mtT m t).size ≤ 200 * t
  | 0, _ => Nat.le_refl 0
  | t + 1, ht => by
    have ih := mtT_size h t (by omega)
    obtain ⟨xs, hx⟩ : ∃ xs, m[t]? = some xs := ⟨_, List.getElem?_eq_getElem (by omega)⟩
    have hb := h xs (List.mem_of_getElem? hx)
    have h2 := mtI_size (mtT m t) hb.2 xs.length (Nat.le_refl _)
    have h1 : (⟨#[10]⟩ : ByteArray).size = 1 := rfl
    rw [mtT_succ hx, ByteArray.size_append]; omega
def mtA (n : Int) (m : List (List Int)) : ByteArray := if mkOk n m = true then mtT m m.length else ⟨#[]⟩
theorem mtA_no {n : Int} {m : List (List Int)} (h : mkOk n m = false) : mtA n m = ⟨#[]⟩ := by simp [mtA, h]
theorem mtA_yes {n : Int} {m : List (List Int)} (h : mkOk n m = true) : mtA n m = mtT m m.length := by simp [mtA, h]
/-- The words of a line. -/
def wrd (xs : List Int) (k : Nat) : List ByteArray := (xs.take k).map fun x => decS x.toNat
theorem wrd_succ {xs : List Int} {k q : Nat} (h : xs[k]? = some (q : Int)) : wrd xs (k + 1) = wrd xs k ++ [decS q] := by
  obtain ⟨h1, e⟩ := List.getElem?_eq_some_iff.1 h
  rw [wrd, List.take_succ_eq_append_getElem h1, List.map_append, e]; rfl
theorem wrd_len {xs : List Int} {k : Nat} (h : k ≤ xs.length) : (wrd xs k).length = k := by simp [wrd]; omega
end Go.Proofs.YtfmfgpipklmecabDoor
