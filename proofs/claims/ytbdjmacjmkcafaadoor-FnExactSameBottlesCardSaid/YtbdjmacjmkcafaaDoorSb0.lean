/-
  SameBottles: two maps of counts that are equal tell lists that are alike but for their order; mathematics over what the maps hold. Condition: both maps are owned, and hold the counts.
-/
import Derived.Test.YtbdjmacjmkcafaaDoorGm
import Derived.Test.YtbdjmacjmkcafaaDoorGs
namespace Go.Proofs.YtbdjmacjmkcafaaDoor
open Go.ChangeShapes Go.WideShapes Go.ChangeAt Go.RowKit Go.Deep Go.Maps

theorem sub_len {α : Type} : ∀ {l1 l2 : List α}, l1.Pairwise (· ≠ ·) → (∀ x ∈ l1, x ∈ l2) → l1.length ≤ l2.length
  | [], _, _, _ => Nat.zero_le _
  | a :: l1, l2, hn, hs => by
    obtain ⟨s, t, rfl⟩ := List.append_of_mem (hs a (List.mem_cons_self ..))
    have hn' := List.pairwise_cons.1 hn
    have ih := sub_len (l2 := s ++ t) hn'.2 (fun y hy => by
      have h := hs y (List.mem_cons_of_mem _ hy)
      rcases List.mem_append.1 h with h | h
      · exact List.mem_append_left _ h
      · rcases List.mem_cons.1 h with rfl | h
        · exact absurd rfl (hn'.1 y hy)
        · exact List.mem_append_right _ h)
    simp only [List.length_append, List.length_cons] at ih ⊢
    omega
theorem sub_back {α : Type} : ∀ {l1 l2 : List α}, l1.Pairwise (· ≠ ·) → (∀ x ∈ l1, x ∈ l2) → l2.length ≤ l1.length → ∀ x ∈ l2, x ∈ l1
  | [], l2, _, _, h, x, hx => by
    have := List.eq_nil_of_length_eq_zero (Nat.le_zero.1 h)
    subst this; exact hx
  | a :: l1, l2, hn, hs, hl, x, hx => by
    obtain ⟨s, t, rfl⟩ := List.append_of_mem (hs a (List.mem_cons_self ..))
    have hn' := List.pairwise_cons.1 hn
    have ih := sub_back (l2 := s ++ t) hn'.2 (fun y hy => by
      have h := hs y (List.mem_cons_of_mem _ hy)
      rcases List.mem_append.1 h with h | h
      · exact List.mem_append_left _ h
      · rcases List.mem_cons.1 h with rfl | h
        · exact absurd rfl (hn'.1 y hy)
        · exact List.mem_append_right _ h) (by simp only [List.length_append, List.length_cons] at hl ⊢; omega)
    rcases List.mem_append.1 hx with h | h
    · exact List.mem_cons_of_mem _ (ih x (List.mem_append_left _ h))
    · rcases List.mem_cons.1 h with rfl | h
      · exact List.mem_cons_self ..
      · exact List.mem_cons_of_mem _ (ih x (List.mem_append_right _ h))
theorem atKey_mem {p : Lit × DataW Unit} (hk : WideAt.IsKeyLit p.1) (z : DataW Unit) : ∀ {es : List (Lit × DataW Unit)}, es.Pairwise (fun p q => p.1 ≠ q.1) → p ∈ es → (DataW.map es : DataW Unit).atKey p.1 z = p.2
  | [], _, h => by cases h
  | q :: es, hp, h => by
    have hp' := List.pairwise_cons.1 hp
    rcases List.mem_cons.1 h with rfl | h
    · simp [DataW.atKey, WideAt.sameKey_self hk]
    · have ih := atKey_mem hk z hp'.2 h
      have hne := Maps.sameKey_ne (hp'.1 p h)
      simp only [DataW.atKey] at ih ⊢
      rw [List.find?_cons, hne]
      exact ih
theorem mult_count (x : Crt) (b : Bot) : mult x b = (allB x.1 12).count b := by
  unfold mult
  rw [List.count_eq_countP, List.countP_eq_length_filter, show (fun y : Bot => decide (y = b)) = (fun y => y == b) from funext fun y => by rw [Bool.eq_iff_iff]; simp]
theorem cntAll_one (x : Crt) (b : Bot) : cntAll [x] b = mult x b := by simp [cntAll]
theorem mult_wf {x : Crt} {b : Bot} (h : mult x b ≠ 0) : wfB b := allB_wf x.2 b ((mult_pos x b).1 h)

theorem eqD_smB {w1 w2 : World} {B1 B2 n1 n2 : Nat} {D1 D2 : DataW Unit} (x y : Crt) (h1 : OwnsB w1 B1 n1 D1) (h2 : OwnsB w2 B2 n2 D2) (hh1 : Holds D1 wfB kB (cntAll [x])) (hh2 : Holds D2 wfB kB (cntAll [y])) :
    Lib.equalFuncD eqD D1 D2 = smB x.1 y.1 := by
  obtain ⟨es1, rfl, hp1, hk1⟩ := keys_owns h1
  obtain ⟨es2, rfl, hp2, hk2⟩ := keys_owns h2
  have there : ∀ (es : List (Lit × DataW Unit)) (z : Crt), Holds (.map es) wfB kB (cntAll [z]) → ∀ a, mult z a ≠ 0 → ∃ p ∈ es, p.1 = kB a := fun es z hh a h0 => by
    have := hh.has (mult_wf h0) (by rw [cntAll_one]; exact h0)
    rw [Maps.has_eq, List.any_eq_true] at this
    obtain ⟨p, hpm, hs⟩ := this
    exact ⟨p, hpm, WideAt.sameKey_eq hs⟩
  have pos : ∀ (es : List (Lit × DataW Unit)) (z : Crt), Holds (.map es) wfB kB (cntAll [z]) → ∀ a, wfB a → (∃ p ∈ es, p.1 = kB a) → mult z a ≠ 0 := fun es z hh a ha ⟨p, hpm, he⟩ h0 => by
    have hf : Maps.has (.map es : DataW Unit) (kB a) = false := Maps.has_false_of_atKey (fun zd => by rw [hh a ha zd, if_pos (by rw [cntAll_one]; exact h0)])
    rw [Maps.has_eq, List.any_eq_false] at hf
    refine hf p hpm ?_
    rw [he]; exact WideAt.sameKey_self (kB_is a)
  have keys1 : (es1.map Prod.fst).Pairwise (· ≠ ·) := List.pairwise_map.2 hp1
  have keys2 : (es2.map Prod.fst).Pairwise (· ≠ ·) := List.pairwise_map.2 hp2
  have val : ∀ (es : List (Lit × DataW Unit)) (z : Crt), es.Pairwise (fun p q => p.1 ≠ q.1) → Holds (.map es) wfB kB (cntAll [z]) → ∀ p ∈ es, ∀ a, wfB a → p.1 = kB a → p.2 = i64L (mult z a) := fun es z hp hh p hpm a ha he => by
    have h0 := pos es z hh a ha ⟨p, hpm, he⟩
    have e1 := atKey_mem (p := p) (by rw [he]; exact kB_is a) .nil hp hpm
    rw [he, hh a ha .nil, cntAll_one, if_neg h0] at e1
    exact e1.symm
  rw [Bool.eq_iff_iff]
  unfold Lib.equalFuncD smB
  rw [Bool.and_eq_true, decide_eq_true_eq, List.all_eq_true, List.isPerm_iff, List.perm_iff_count, Maps.size_eq, Maps.size_eq]
  constructor
  · rintro ⟨hsz, hall⟩ b
    rw [← mult_count, ← mult_count]
    have fwd : ∀ a, mult x a ≠ 0 → mult x a = mult y a := fun a h0 => by
      obtain ⟨p, hpm, he⟩ := there es1 x hh1 a h0
      have hg := hall p hpm
      simp only [Lib.goodD, Bool.and_eq_true] at hg
      obtain ⟨g1, g2⟩ := hg
      have hb : ∃ q ∈ es2, q.1 = kB a := by
        rw [Maps.has_eq, List.any_eq_true] at g1
        obtain ⟨q, hqm, hs⟩ := g1
        exact ⟨q, hqm, by rw [WideAt.sameKey_eq hs, he]⟩
      have h2 := pos es2 y hh2 a (mult_wf h0) hb
      rw [val es1 x hp1 hh1 p hpm a (mult_wf h0) he, he, hh2 a (mult_wf h0) .nil, cntAll_one, if_neg h2] at g2
      simp only [eqD, i64L, decide_eq_true_eq] at g2
      omega
    by_cases h0 : mult x b = 0
    · by_cases h2 : mult y b = 0
      · rw [h0, h2]
      · exfalso
        obtain ⟨q, hqm, hq⟩ := there es2 y hh2 b h2
        have hsub : ∀ k ∈ es1.map Prod.fst, k ∈ es2.map Prod.fst := fun k hk => by
          obtain ⟨p, hpm, rfl⟩ := List.mem_map.1 hk
          have hg := hall p hpm
          simp only [Lib.goodD, Bool.and_eq_true] at hg
          have g1 := hg.1
          rw [Maps.has_eq, List.any_eq_true] at g1
          obtain ⟨q, hqm, hs⟩ := g1
          exact List.mem_map.2 ⟨q, hqm, WideAt.sameKey_eq hs⟩
        have hback := sub_back keys1 hsub (by rw [List.length_map, List.length_map]; omega) q.1 (List.mem_map.2 ⟨q, hqm, rfl⟩)
        obtain ⟨p, hpm, he⟩ := List.mem_map.1 hback
        exact pos es1 x hh1 b (mult_wf h2) ⟨p, hpm, he.trans hq⟩ h0
    · exact fwd b h0
  · intro hc
    have hm : ∀ b, mult x b = mult y b := fun b => by rw [mult_count, mult_count]; exact hc b
    have s12 : ∀ k ∈ es1.map Prod.fst, k ∈ es2.map Prod.fst := fun k hk => by
      obtain ⟨p, hpm, rfl⟩ := List.mem_map.1 hk
      obtain ⟨a, ha, he⟩ := hk1 p hpm
      have h0 := pos es1 x hh1 a ha ⟨p, hpm, he⟩
      obtain ⟨q, hqm, hq⟩ := there es2 y hh2 a (by rw [← hm]; exact h0)
      exact List.mem_map.2 ⟨q, hqm, hq.trans he.symm⟩
    have s21 : ∀ k ∈ es2.map Prod.fst, k ∈ es1.map Prod.fst := fun k hk => by
      obtain ⟨p, hpm, rfl⟩ := List.mem_map.1 hk
      obtain ⟨a, ha, he⟩ := hk2 p hpm
      have h0 := pos es2 y hh2 a ha ⟨p, hpm, he⟩
      obtain ⟨q, hqm, hq⟩ := there es1 x hh1 a (by rw [hm]; exact h0)
      exact List.mem_map.2 ⟨q, hqm, hq.trans he.symm⟩
    have l1 := sub_len keys1 s12
    have l2 := sub_len keys2 s21
    rw [List.length_map, List.length_map] at l1 l2
    refine ⟨by omega, fun p hpm => ?_⟩
    obtain ⟨a, ha, he⟩ := hk1 p hpm
    have h0 := pos es1 x hh1 a ha ⟨p, hpm, he⟩
    have h2 : mult y a ≠ 0 := by rw [← hm]; exact h0
    have hhas := hh2.has ha (by rw [cntAll_one]; exact h2)
    simp only [Lib.goodD, Bool.and_eq_true]
    refine ⟨by rw [he]; exact hhas, ?_⟩
    rw [val es1 x hp1 hh1 p hpm a ha he, he, hh2 a ha .nil, cntAll_one, if_neg h2, hm]
    simp [eqD, i64L]
end Go.Proofs.YtbdjmacjmkcafaaDoor
