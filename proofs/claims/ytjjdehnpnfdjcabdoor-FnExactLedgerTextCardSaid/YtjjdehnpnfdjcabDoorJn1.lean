/-
  strings.Join over a row of strings of one's own. Condition: the words together are shorter than Go allows.
-/
import Derived.Test.YtjjdehnpnfdjcabDoorJn0
import Derived.Test.YtjjdehnpnfdjcabDoorShelf
import Derived.Test.YtjjdehnpnfdjcabDoorFlb
import Derived.Test.YtjjdehnpnfdjcabDoorGk
import Derived.Test.YtjjdehnpnfdjcabDoorOw
namespace Go.Proofs.YtjjdehnpnfdjcabDoor
open Go.ChangeShapes Go.WideShapes Go.ChangeAt Go.RowKit Go.Deep

theorem Tryd.infoSt : (Tryd.prog.info? 9).map (fun i => (i.zero, i.size, i.bytes)) = some (some (.string ⟨#[]⟩), 1, 16) := by kernel_rfl
theorem cell_str_new (W : World) (s : ByteArray) (t : TypeId) : ∀ j u, [Value.string s][j]? = some u → (W.alloc (.cells #[.string s] t)).cell? ((⟨W.heap.size, 0, none⟩ : Addr).add j) = some u := by
  intro j u hj
  match j, hj with
  | 0, hj => simp at hj; subst hj; simp [Addr.add]
theorem joinO_any (ws : List ByteArray) (sp : ByteArray) (hsz : (jnS sp ws).size ≤ 1000000000) (hl : ws.length ≤ 1000000) (B : Nat) (A : Option Addr) (c : Nat) (w : World) (h : w.ownsRow B 9 1 (.slice A ws.length c) ws.length (ws.flatMap stc)) :
    Calls Tryd.prog 27 #[.slice A ws.length c, .string sp] w fun e w' => e = .returned (.string (jnS sp ws)) ∧ Below w.heap.size w w' := by
  rcases h.2 with ⟨h1, h2⟩ | ⟨g, cap, cur, h1, h2, h3, h4, h5, h6, h7⟩
  · obtain ⟨rfl, hx0, rfl⟩ : A = none ∧ ws.length = 0 ∧ c = 0 := by simpa using h1
    have e0 : ws = [] := List.eq_nil_of_length_eq_zero hx0
    subst e0
    exact (Tryd.strings_Join_none none 0 sp w).mono fun e w' ⟨he, hw⟩ => ⟨he.trans rfl, hw ▸ Below.refl _ _⟩
  · simp only [Value.slice.injEq, true_and] at h1
    obtain ⟨rfl, rfl⟩ := h1
    have hln : (jnL sp ws).length = (jnS sp ws).size := by simp [jnS, ByteArray.size]
    exact Tryd.strings_Join g 0 c ws sp w (fun j x hj => by
      rw [Nat.zero_add, cell_of_row w g j cur _ (0, 0) h3]
      have h8 : (cur.toList.take (ws.length * 1))[j]? = some (.string x) := by
        rw [h7, flat_st, List.getElem?_map, hj]; rfl
      rw [List.getElem?_take] at h8
      split at h8
      · simpa using h8
      · cases h8) (Array.getElem?_eq_some_iff.1 h3).1 (by omega) h4 (by
        have : Lib.join (ws.map (·.data.toList)) sp.data.toList = jnL sp ws := rfl
        rw [this, hln]; omega)
end Go.Proofs.YtjjdehnpnfdjcabDoor
