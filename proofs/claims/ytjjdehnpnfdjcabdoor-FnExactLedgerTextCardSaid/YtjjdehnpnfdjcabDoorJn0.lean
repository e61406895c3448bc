/-
  Words with something between them: how a text grows, and what the library's join makes; mathematics. No condition.
-/
import Derived.Lib.Join
import Derived.Test.YtjjdehnpnfdjcabDoorDc9
namespace Go.Proofs.YtjjdehnpnfdjcabDoor
open Go.RowKit

def jnK (o sp : ByteArray) (ws : List ByteArray) : Nat → ByteArray
  | 0 => o
  | k + 1 => (if 0 < k then jnK o sp ws k ++ sp else jnK o sp ws k) ++ ws.getD k ⟨#[]⟩
theorem jnK_first {o sp : ByteArray} {ws : List ByteArray} {k : Nat} {d : ByteArray} (h : ws[k]? = some d) (hk : ¬ 0 < k) : jnK o sp ws (k + 1) = jnK o sp ws k ++ d := by
  rw [jnK, if_neg hk, List.getD_eq_getElem?_getD, h]; rfl
theorem jnK_next {o sp : ByteArray} {ws : List ByteArray} {k : Nat} {d : ByteArray} (h : ws[k]? = some d) (hk : 0 < k) : jnK o sp ws (k + 1) = jnK o sp ws k ++ sp ++ d := by
  rw [jnK, if_pos hk, List.getD_eq_getElem?_getD, h]; rfl
theorem jnK_size (o : ByteArray) {sp : ByteArray} {ws : List ByteArray} {b : Nat} (hsp : sp.size = 1) (h : ∀ d ∈ ws, d.size ≤ b) : ∀ k, k ≤ ws.length → (jnK o sp ws k).size ≤ o.size + (b + 1) * k
  | 0, _ => Nat.le_refl _
  | k + 1, hk => by
    have ih := jnK_size o hsp h k (by omega)
    obtain ⟨d, hd⟩ : ∃ d, ws[k]? = some d := ⟨_, List.getElem?_eq_getElem (by omega)⟩
    have hb := h d (List.mem_of_getElem? hd)
    rw [Nat.mul_succ]
    by_cases hz : 0 < k
    · rw [jnK_next hd hz, ByteArray.size_append, ByteArray.size_append]; omega
    · rw [jnK_first hd hz, ByteArray.size_append]; omega
theorem joinTail_snoc (sep : List UInt8) (r : List (List UInt8)) (y : List UInt8) : Lib.joinTail sep (r ++ [y]) = Lib.joinTail sep r ++ (sep ++ y) := by simp [Lib.joinTail]
theorem join_snoc (x : List UInt8) (r : List (List UInt8)) (y sep : List UInt8) : Lib.join ((x :: r) ++ [y]) sep = Lib.join (x :: r) sep ++ (sep ++ y) := by
  rw [List.cons_append, Lib.join_cons, Lib.join_cons, joinTail_snoc, List.append_assoc]
def jnL (sp : ByteArray) (ws : List ByteArray) : List UInt8 := Lib.join (ws.map (·.data.toList)) sp.data.toList
theorem jnK_data (o sp : ByteArray) (ws : List ByteArray) : ∀ k, k ≤ ws.length → (jnK o sp ws k).data.toList = o.data.toList ++ jnL sp (ws.take k)
  | 0, _ => by simp [jnK, jnL, Lib.join_nil]
  | k + 1, hk => by
    have ih := jnK_data o sp ws k (by omega)
    obtain ⟨d, hd⟩ : ∃ d, ws[k]? = some d := ⟨_, List.getElem?_eq_getElem (by omega)⟩
    have hs : ws.take (k + 1) = ws.take k ++ [d] := by
      obtain ⟨h1, e⟩ := List.getElem?_eq_some_iff.1 hd
      rw [List.take_succ_eq_append_getElem h1, e]
    by_cases hz : k = 0
    · subst hz
      rw [jnK_first hd (by omega), jnL, hs]
      simp [jnK, Lib.join_one]
    · obtain ⟨z, r, hzr⟩ : ∃ z r, ws.take k = z :: r := by
        cases hw : ws.take k with
        | nil =>
          have h1 : (ws.take k).length = 0 := by rw [hw]; rfl
          rw [List.length_take] at h1
          omega
        | cons z r => exact ⟨z, r, rfl⟩
      rw [jnK_next hd (by omega), jnL, hs, hzr, List.map_append, List.map_cons, List.map_cons, List.map_nil, join_snoc]
      have e : jnL sp (ws.take k) = Lib.join (z.data.toList :: r.map (·.data.toList)) sp.data.toList := by rw [jnL, hzr]; rfl
      rw [← e]
      simp [ByteArray.data_append, ih]
/-- The words, joined. -/
def jnS (sp : ByteArray) (ws : List ByteArray) : ByteArray := ⟨(jnL sp ws).toArray⟩
theorem jnK_all (o sp : ByteArray) (ws : List ByteArray) : jnK o sp ws ws.length = o ++ jnS sp ws := by
  apply ByteArray.ext
  apply Array.toList_inj.1
  rw [jnK_data o sp ws ws.length (Nat.le_refl _), List.take_length]
  simp [jnS, ByteArray.data_append]
theorem jnK_nil (sp : ByteArray) (ws : List ByteArray) : jnK ⟨#[]⟩ sp ws ws.length = jnS sp ws := by
  apply ByteArray.ext
  apply Array.toList_inj.1
  rw [jnK_data _ sp ws ws.length (Nat.le_refl _), List.take_length]
  simp [jnS]
theorem jnS_size {sp : ByteArray} {ws : List ByteArray} {b : Nat} (hsp : sp.size = 1) (h : ∀ d ∈ ws, d.size ≤ b) : (jnS sp ws).size ≤ (b + 1) * ws.length := by
  have h1 := jnK_size ⟨#[]⟩ hsp h ws.length (Nat.le_refl _)
  rw [jnK_nil] at h1
  have h2 : (⟨#[]⟩ : ByteArray).size = 0 := rfl
  omega
def stc (s : ByteArray) : List Value := [.string s]
theorem stc_length (s : ByteArray) : (stc s).length = 1 := rfl
theorem flat_st (l : List ByteArray) : l.flatMap stc = l.map Value.string := by
  induction l with
  | nil => rfl
  | cons a l ih => rw [List.flatMap_cons, ih]; rfl
end Go.Proofs.YtjjdehnpnfdjcabDoor
