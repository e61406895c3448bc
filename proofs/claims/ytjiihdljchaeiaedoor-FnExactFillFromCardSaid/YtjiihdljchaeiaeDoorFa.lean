/-
  Bottles of one crate that come into the free places of another: sums over places. No program stands here.
-/
import Derived.Test.YtjiihdljchaeiaeDoorM
import Derived.Test.YtjiihdljchaeiaeDoorFp
namespace Go.Proofs.YtjiihdljchaeiaeDoor

def nE (b : Bot) : Bool := !eB b
/-- The crates after i bottles came over. -/
def fillA (a b : List Bot) (fr us : List Nat) : Nat → List Bot
  | 0 => a
  | i + 1 => (fillA a b fr us i).set (fr.getD i 0) (b.getD (us.getD i 0) (0, 0))
def fillB (b : List Bot) (us : List Nat) : Nat → List Bot
  | 0 => b
  | i + 1 => (fillB b us i).set (us.getD i 0) (0, 0)

theorem usedN_mem {bs : List Bot} {p : Bot → Bool} {k j : Nat} : j ∈ usedN bs p k ↔ j < k ∧ (bs[j]?.any p) = true := by
  constructor
  · intro h
    obtain ⟨x, hx, rfl⟩ := List.mem_map.1 h
    exact ⟨plTo_mem.1 hx, x.2⟩
  · rintro ⟨h, hy⟩
    exact List.mem_map.2 ⟨⟨j, hy⟩, plTo_mem.2 h, rfl⟩
theorem usedN_sorted (bs : List Bot) (p : Bot → Bool) : ∀ k, (usedN bs p k).Pairwise (· < ·)
  | 0 => by simp [usedN, plTo]
  | k + 1 => by
    cases h : bs[k]?.any p
    · rw [usedN_no h]; exact usedN_sorted bs p k
    · rw [usedN_yes h, List.pairwise_append]
      refine ⟨usedN_sorted bs p k, by simp, fun x hx y hy => ?_⟩
      rw [List.mem_singleton.1 hy]
      exact usedN_lt x hx
theorem usedN_less {bs : List Bot} {p : Bot → Bool} {k i j : Nat} (hj : j < (usedN bs p k).length) (hij : i < j) : (usedN bs p k).getD i 0 < (usedN bs p k).getD j 0 := by
  have h := List.pairwise_iff_getElem.1 (usedN_sorted bs p k) i j (by omega) hj hij
  simpa [List.getD_eq_getElem?_getD, List.getElem?_eq_getElem hj, List.getElem?_eq_getElem (show i < (usedN bs p k).length by omega)] using h
theorem usedN_getD {bs : List Bot} {p : Bot → Bool} {k i : Nat} (hi : i < (usedN bs p k).length) : (usedN bs p k).getD i 0 < k ∧ ∃ b, bs[(usedN bs p k).getD i 0]? = some b ∧ p b = true := by
  have hm : (usedN bs p k).getD i 0 ∈ usedN bs p k := by
    rw [List.getD_eq_getElem?_getD, List.getElem?_eq_getElem hi]; exact List.getElem_mem hi
  obtain ⟨h1, h2⟩ := usedN_mem.1 hm
  refine ⟨h1, ?_⟩
  cases hb : bs[(usedN bs p k).getD i 0]? with
  | none => rw [hb] at h2; simp at h2
  | some b => rw [hb] at h2; exact ⟨b, rfl, by simpa using h2⟩
theorem wfC_set {bs : List Bot} (h : WfC bs) (k : Nat) {b : Bot} (hb : wfB b) : WfC (bs.set k b) := by
  refine ⟨by rw [List.length_set]; exact h.1, fun c hc => ?_⟩
  rcases List.mem_or_eq_of_mem_set hc with hm | rfl
  · exact h.2 c hm
  · exact hb
theorem wfC_getD {bs : List Bot} (h : WfC bs) (k : Nat) : wfB (bs.getD k (0, 0)) := by
  rw [List.getD_eq_getElem?_getD]
  cases hk : bs[k]? with
  | none => simp [wfB]
  | some b => exact h.2 b (List.mem_of_getElem? hk)
theorem fillA_wf {a b : List Bot} (ha : WfC a) (hb : WfC b) (fr us : List Nat) : ∀ i, WfC (fillA a b fr us i)
  | 0 => ha
  | i + 1 => wfC_set (fillA_wf ha hb fr us i) _ (wfC_getD hb _)
theorem fillB_wf {b : List Bot} (hb : WfC b) (us : List Nat) : ∀ i, WfC (fillB b us i)
  | 0 => hb
  | i + 1 => wfC_set (fillB_wf hb us i) _ (by simp [wfB])
theorem fillB_other (b : List Bot) (us : List Nat) (j : Nat) : ∀ i, (∀ m, m < i → us.getD m 0 ≠ j) → (fillB b us i)[j]? = b[j]?
  | 0, _ => rfl
  | i + 1, h => by
    rw [fillB, List.getElem?_set_ne (h i (by omega))]
    exact fillB_other b us j i fun m hm => h m (by omega)
theorem fillA_other (a b : List Bot) (fr us : List Nat) (j : Nat) : ∀ i, (∀ m, m < i → fr.getD m 0 ≠ j) → (fillA a b fr us i)[j]? = a[j]?
  | 0, _ => rfl
  | i + 1, h => by
    rw [fillA, List.getElem?_set_ne (h i (by omega))]
    exact fillA_other a b fr us j i fun m hm => h m (by omega)
/-- The bottle that comes over next. -/
theorem fillB_next {b : List Bot} {i : Nat} (hi : i < (usedN b nE 12).length) : (fillB b (usedN b nE 12) i)[(usedN b nE 12).getD i 0]? = some (b.getD ((usedN b nE 12).getD i 0) (0, 0)) := by
  rw [fillB_other _ _ _ i (fun m hm => by have := usedN_less hi hm; omega)]
  obtain ⟨_, x, hx, _⟩ := usedN_getD hi
  have hg : b.getD ((usedN b nE 12).getD i 0) (0, 0) = x := by
    generalize (usedN b nE 12).getD i 0 = k at hx ⊢
    rw [List.getD_eq_getElem?_getD, hx]; rfl
  rw [hg]; exact hx
/-- Filled places hold bottles. -/
theorem fillA_full {a b : List Bot} (ha : a.length = 12) (m : Nat) : ∀ i, i ≤ (usedN a eB 12).length → i ≤ (usedN b nE 12).length → m < i → ∀ c, (fillA a b (usedN a eB 12) (usedN b nE 12) i)[(usedN a eB 12).getD m 0]? = some c → eB c = false
  | 0, _, _, h => by omega
  | i + 1, h1, h2, h3 => by
    intro c hc
    rw [fillA] at hc
    by_cases hm : m = i
    · subst hm
      rw [List.getElem?_set_self' ] at hc
      obtain ⟨_, x, hx, hx2⟩ := usedN_getD (bs := b) (p := nE) (k := 12) (i := m) (by omega)
      have hg : b.getD ((usedN b nE 12).getD m 0) (0, 0) = x := by
        generalize (usedN b nE 12).getD m 0 = k at hx ⊢
        rw [List.getD_eq_getElem?_getD, hx]; rfl
      cases hq : (fillA a b (usedN a eB 12) (usedN b nE 12) m)[(usedN a eB 12).getD m 0]? with
      | none => rw [hq] at hc; simp at hc
      | some y =>
        rw [hq, hg] at hc
        have hc' : x = c := by simpa using hc
        subst hc'
        simpa [nE] using hx2
    · rw [List.getElem?_set_ne (by have := usedN_less (bs := a) (p := eB) (k := 12) (i := m) (j := i) (by omega) (by omega); omega)] at hc
      exact fillA_full ha m i (by omega) (by omega) (by omega) c hc
theorem fill_free {a b : List Bot} (ha : a.length = 12) {i : Nat} (h1 : i ≤ (usedN a eB 12).length) (h2 : i ≤ (usedN b nE 12).length) {j : Nat} {c : Bot}
    (hc : (fillA a b (usedN a eB 12) (usedN b nE 12) i)[j]? = some c) (he : eB c = true) : ∃ m, i ≤ m ∧ m < (usedN a eB 12).length ∧ (usedN a eB 12).getD m 0 = j := by
  by_cases h : ∃ m, m < i ∧ (usedN a eB 12).getD m 0 = j
  · obtain ⟨m, hm, rfl⟩ := h
    rw [fillA_full ha m i h1 h2 hm c hc] at he; cases he
  · have hne : ∀ m, m < i → (usedN a eB 12).getD m 0 ≠ j := fun m hm e => h ⟨m, hm, e⟩
    rw [fillA_other _ _ _ _ _ i hne] at hc
    have hlt := (List.getElem?_eq_some_iff.1 hc).1
    have hmem : j ∈ usedN a eB 12 := usedN_mem.2 ⟨by omega, by rw [hc]; simpa using he⟩
    obtain ⟨m, hm, hjm⟩ := List.mem_iff_getElem.1 hmem
    have hg : (usedN a eB 12).getD m 0 = j := by rw [List.getD_eq_getElem?_getD, List.getElem?_eq_getElem hm]; exact hjm
    refine ⟨m, ?_, hm, hg⟩
    by_cases hmi : m < i
    · exact absurd hg (hne m hmi)
    · omega
/-- The first free place after i bottles came over. -/
theorem fp_fill {a b : List Bot} (ha : a.length = 12) {i : Nat} (h1 : i < (usedN a eB 12).length) (h2 : i ≤ (usedN b nE 12).length) :
    fp eB (fillA a b (usedN a eB 12) (usedN b nE 12) i) = ((usedN a eB 12).getD i 0 : Nat) := by
  obtain ⟨_, x, hx, hx2⟩ := usedN_getD h1
  refine fp_hit (b := x) (fun j c hj hc => ?_) (by rw [fillA_other _ _ _ _ _ i (fun m hm => by have := usedN_less h1 hm; omega)]; exact hx) hx2
  cases he : eB c
  · rfl
  · obtain ⟨m, hm1, hm2, hm3⟩ := fill_free ha (by omega) h2 hc he
    by_cases hmi : m = i
    · subst hmi; omega
    · have := usedN_less (i := i) (j := m) hm2 (by omega); omega
theorem fp_full {a b : List Bot} (ha : a.length = 12) {i : Nat} (h1 : i = (usedN a eB 12).length) (h2 : i ≤ (usedN b nE 12).length) :
    fp eB (fillA a b (usedN a eB 12) (usedN b nE 12) i) = -1 := by
  refine fp_none (fun j c hj hc => ?_)
  cases he : eB c
  · rfl
  · obtain ⟨m, hm1, hm2, hm3⟩ := fill_free ha (by omega) h2 hc he
    omega
end Go.Proofs.YtjiihdljchaeiaeDoor
