/-
  SumOrder: samples by their sums of ranks: the one list that is sorted by sums and then by samples; mathematics. No condition.
-/
import Derived.Test.YtlagnocglkoomaaDoorOr0
namespace Go.Proofs.YtlagnocglkoomaaDoor
open Go.RowKit

/-- Sums first, then samples. -/
def soK (s : List Int) (x : Int) : Int := s.getD x.toNat 0 * 16 + x
theorem srt.tail {a : Int} {X : List Int} (h : srt (a :: X)) : srt X := fun p q x y hpq hx hy => h (p + 1) (q + 1) x y (by omega) (by simpa using hx) (by simpa using hy)
theorem srt.head {a : Int} {X : List Int} (h : srt (a :: X)) {x : Int} (hx : x ∈ a :: X) : a ≤ x := by
  rcases List.mem_cons.1 hx with rfl | hx
  · exact Int.le_refl _
  · obtain ⟨j, hj, rfl⟩ := List.mem_iff_getElem.1 hx
    exact h 0 (j + 1) _ _ (by omega) rfl (by rw [List.getElem?_cons_succ]; exact List.getElem?_eq_getElem hj)
theorem srt_same : ∀ {X Y : List Int}, X.Perm Y → srt X → srt Y → X = Y
  | [], Y, hp, _, _ => (List.nil_perm.1 hp).symm
  | a :: X, [], hp, _, _ => by have := hp.length_eq; simp at this
  | a :: X, b :: Y, hp, h1, h2 => by
    have e1 : a ≤ b := h1.head (hp.mem_iff.2 (List.mem_cons_self ..))
    have e2 : b ≤ a := h2.head (hp.mem_iff.1 (List.mem_cons_self ..))
    obtain rfl : a = b := by omega
    rw [srt_same hp.cons_inv h1.tail h2.tail]
theorem soK_inj {s : List Int} {x y : Int} (hx : 0 ≤ x ∧ x < 9) (hy : 0 ≤ y ∧ y < 9) (h : soK s x = soK s y) : x = y := by
  unfold soK at h; omega
theorem so_uniq {s : List Int} {N : Nat} (hN : N ≤ 9) {X Y : List Int} (hX : X.Perm (iota N)) (hY : Y.Perm (iota N)) (h1 : srt (X.map (soK s))) (h2 : srt (Y.map (soK s))) : X = Y := by
  have e := srt_same ((hX.trans hY.symm).map (soK s)) h1 h2
  have hl : X.length = Y.length := (hX.trans hY.symm).length_eq
  apply List.ext_getElem hl
  intro k h1 h2
  have e2 : (X.map (soK s))[k]? = (Y.map (soK s))[k]? := by rw [e]
  rw [List.getElem?_map, List.getElem?_map, List.getElem?_eq_getElem h1, List.getElem?_eq_getElem h2] at e2
  have m1 := iota_mem.1 (hX.mem_iff.1 (List.getElem_mem h1))
  have m2 := iota_mem.1 (hY.mem_iff.1 (List.getElem_mem h2))
  exact soK_inj ⟨m1.1, by omega⟩ ⟨m2.1, by omega⟩ (by simpa using e2)
def soL (s : List Int) (N : Nat) : List Int := (iota N).mergeSort (fun a b => decide (soK s a ≤ soK s b))
theorem soL_perm (s : List Int) (N : Nat) : (soL s N).Perm (iota N) := List.mergeSort_perm _ _
theorem soL_len (s : List Int) (N : Nat) : (soL s N).length = N := by rw [(soL_perm s N).length_eq, iota_len]
theorem soL_srt (s : List Int) (N : Nat) : srt ((soL s N).map (soK s)) := by
  have h : (soL s N).Pairwise (fun a b => decide (soK s a ≤ soK s b) = true) := List.pairwise_mergeSort (fun a b c h1 h2 => by simp only [decide_eq_true_eq] at *; omega) (fun a b => by simp only [Bool.or_eq_true, decide_eq_true_eq]; omega) _
  intro p q x y hpq hx hy
  rw [List.getElem?_map, Option.map_eq_some_iff] at hx hy
  obtain ⟨a, ha, rfl⟩ := hx
  obtain ⟨b, hb, rfl⟩ := hy
  obtain ⟨h1, rfl⟩ := List.getElem?_eq_some_iff.1 ha
  obtain ⟨h2, rfl⟩ := List.getElem?_eq_some_iff.1 hb
  have := (List.pairwise_iff_getElem.1 h) p q h1 h2 hpq
  simpa using this
theorem soL_is {s : List Int} {N : Nat} (hN : N ≤ 9) {X : List Int} (hp : X.Perm (iota N)) (hs : srt (X.map (soK s))) : X = soL s N := so_uniq hN hp (soL_perm s N) hs (soL_srt s N)

/-- One sample is on its way down. -/
structure soI (s : List Int) (N : Nat) (X : List Int) (i j : Nat) : Prop where
  perm : X.Perm (iota N)
  sx : srtX (X.map (soK s)) i j
  at_ : X[j]? = some (i : Int)
  up : ∀ (p : Nat) (x : Int), X[p]? = some x → i < p → x = p
  lo : ∀ (p : Nat) (x : Int), X[p]? = some x → p ≤ i → p ≠ j → x < i
/-- All up to i are sorted. -/
structure soO (s : List Int) (N : Nat) (X : List Int) (i : Nat) : Prop where
  perm : X.Perm (iota N)
  su : srtU (X.map (soK s)) i
  up : ∀ (p : Nat) (x : Int), X[p]? = some x → i ≤ p → x = p
  lo : ∀ (p : Nat) (x : Int), X[p]? = some x → p < i → x < i
theorem iota_at {N p : Nat} {x : Int} (h : (iota N)[p]? = some x) : x = p ∧ p < N := by
  obtain ⟨h1, rfl⟩ := List.getElem?_eq_some_iff.1 h
  rw [iota_len] at h1
  exact ⟨by simp [iota], h1⟩
theorem soO.start (s : List Int) (N : Nat) : soO s N (iota N) 1 where
  perm := List.Perm.refl _
  su := fun p q x y h1 h2 => by omega
  up := fun p x h _ => (iota_at h).1
  lo := fun p x h h2 => by have := (iota_at h).1; omega
theorem soO.begin {s : List Int} {N : Nat} {X : List Int} {i : Nat} (h : soO s N X i) (hi : i < N) : soI s N X i i where
  perm := h.perm
  sx := h.su.begin
  at_ := by
    have hl : X.length = N := by rw [h.perm.length_eq, iota_len]
    have hx : X[i]? = some (X[i]'(by omega)) := List.getElem?_eq_getElem (by omega)
    rw [hx, h.up i _ hx (Nat.le_refl _)]
  up := fun p x hx hp => h.up p x hx (by omega)
  lo := fun p x hx h1 h2 => h.lo p x hx (by omega)
theorem soI.len {s : List Int} {N : Nat} {X : List Int} {i j : Nat} (h : soI s N X i j) : X.length = N := by rw [h.perm.length_eq, iota_len]
theorem soO.len {s : List Int} {N : Nat} {X : List Int} {i : Nat} (h : soO s N X i) : X.length = N := by rw [h.perm.length_eq, iota_len]
theorem soI.mem {s : List Int} {N : Nat} {X : List Int} {i j : Nat} (h : soI s N X i j) {p : Nat} {x : Int} (hx : X[p]? = some x) : 0 ≤ x ∧ x < N := iota_mem.1 (h.perm.mem_iff.1 (List.mem_of_getElem? hx))
/-- Sums alone decide between the one that is on its way and one ahead. -/
theorem soI.less {s : List Int} {N : Nat} (hN : N ≤ 9) {X : List Int} {i j : Nat} (h : soI s N X i j) (hj : 0 < j) (hji : j ≤ i) {a : Int} (ha : X[j - 1]? = some a) : decide (s.getD i 0 < s.getD a.toNat 0) = decide (soK s (i : Int) < soK s a) := by
  have h1 := h.lo (j - 1) a ha (by omega) (by omega)
  have h2 := h.mem ha
  have h3 := h.mem h.at_
  rw [decide_eq_decide]
  unfold soK
  rw [Int.toNat_natCast]
  omega
theorem swp_map {X : List Int} {j : Nat} {a b : Int} (f : Int → Int) : (swp X j a b).map f = swp (X.map f) j (f a) (f b) := by simp [swp, List.map_set]
theorem soI.swap {s : List Int} {N : Nat} {X : List Int} {i j : Nat} (h : soI s N X i j) (hj : 0 < j) (hji : j ≤ i) (hi : i < N) {a : Int} (ha : X[j - 1]? = some a) (hab : soK s (i : Int) < soK s a) : soI s N (swp X j a i) i (j - 1) where
  perm := (swp_perm hj (by rw [h.len]; omega) ha h.at_).trans h.perm
  sx := by
    rw [swp_map]
    exact h.sx.swap hj hji (by rw [List.length_map, h.len]; omega) (by rw [List.getElem?_map, ha]; rfl) (by rw [List.getElem?_map, h.at_]; rfl) hab
  at_ := by rw [swp_at hj (by rw [h.len]; omega), if_pos rfl]
  up := fun p x hx hp => by
    rw [swp_at hj (by rw [h.len]; omega), if_neg (by omega), if_neg (by omega)] at hx
    exact h.up p x hx hp
  lo := fun p x hx h1 h2 => by
    rw [swp_at hj (by rw [h.len]; omega), if_neg h2] at hx
    by_cases e : p = j
    · rw [if_pos e] at hx
      obtain rfl := Option.some.inj hx
      exact h.lo (j - 1) _ ha (by omega) (by omega)
    · rw [if_neg e] at hx
      exact h.lo p x hx h1 e
theorem soI.done {s : List Int} {N : Nat} {X : List Int} {i j : Nat} (h : soI s N X i j) (hji : j ≤ i) (hd : j = 0 ∨ ∀ a, X[j - 1]? = some a → ¬ soK s (i : Int) < soK s a) : soO s N X (i + 1) where
  perm := h.perm
  su := h.sx.done hji (hd.imp id fun hd x y hx hy => by
    rw [List.getElem?_map, Option.map_eq_some_iff] at hx hy
    obtain ⟨a, ha, rfl⟩ := hx
    obtain ⟨b, hb, rfl⟩ := hy
    rw [h.at_] at hb
    obtain rfl := Option.some.inj hb
    have := hd a ha
    omega)
  up := fun p x hx hp => h.up p x hx (by omega)
  lo := fun p x hx hp => by
    by_cases e : p = j
    · subst e
      rw [h.at_] at hx
      obtain rfl := Option.some.inj hx
      omega
    · have := h.lo p x hx (by omega) e
      omega
theorem soO.all {s : List Int} {N : Nat} (hN : N ≤ 9) {X : List Int} {i : Nat} (h : soO s N X i) (hi : N ≤ i) : X = soL s N := soL_is hN h.perm (fun p q x y h1 hx hy => h.su p q x y h1 (by
  have := (List.getElem?_eq_some_iff.1 hy).1
  rw [List.length_map, h.len] at this
  omega) hx hy)

/-- Those that have been taken out, and those that are left. -/
structure soT (s : List Int) (N : Nat) (O R : List Int) : Prop where
  perm : (O ++ R).Perm (iota N)
  so : srt (O.map (soK s))
  le : ∀ o ∈ O, ∀ r ∈ R, soK s o ≤ soK s r
theorem soT.start (s : List Int) (N : Nat) : soT s N [] (iota N) := ⟨List.Perm.refl _, fun p q x y _ hx => by simp at hx, fun o h => by simp at h⟩
theorem soT.mem {s : List Int} {N : Nat} {O R : List Int} (h : soT s N O R) {x : Int} : x ∈ R ↔ (0 ≤ x ∧ x < N) ∧ x ∉ O := by
  have h1 : ∀ y, y ∈ O ++ R ↔ 0 ≤ y ∧ y < N := fun y => h.perm.mem_iff.trans iota_mem
  have h2 : (O ++ R).Nodup := h.perm.nodup_iff.2 (iota_nodup N)
  rw [List.nodup_append] at h2
  constructor
  · intro hx
    refine ⟨(h1 x).1 (List.mem_append_right _ hx), fun ho => h2.2.2 x ho x hx rfl⟩
  · rintro ⟨hx, ho⟩
    exact (List.mem_append.1 ((h1 x).2 hx)).resolve_left ho
theorem soT.step {s : List Int} {N : Nat} {O R : List Int} (h : soT s N O R) {b : Int} (hb : b ∈ R) (hm : ∀ r ∈ R, soK s b ≤ soK s r) : soT s N (O ++ [b]) (R.erase b) where
  perm := by
    rw [List.append_assoc]
    exact ((List.Perm.append_left O (List.perm_cons_erase hb).symm)).trans h.perm
  so := fun p q x y hpq hx hy => by
    rw [List.map_append] at hx hy
    have hq := (List.getElem?_eq_some_iff.1 hy).1
    simp only [List.length_append, List.length_map, List.map_cons, List.map_nil, List.length_cons, List.length_nil] at hq
    rw [List.getElem?_append_left (by rw [List.length_map]; omega)] at hx
    by_cases e : q < O.length
    · rw [List.getElem?_append_left (by rw [List.length_map]; omega)] at hy
      exact h.so p q x y hpq hx hy
    · rw [List.getElem?_append_right (by rw [List.length_map]; omega), List.length_map, show q - O.length = 0 from by omega] at hy
      obtain rfl := Option.some.inj hy
      rw [List.getElem?_map, Option.map_eq_some_iff] at hx
      obtain ⟨a, ha, rfl⟩ := hx
      exact h.le a (List.mem_of_getElem? ha) b hb
  le := fun o ho r hr => by
    rcases List.mem_append.1 ho with ho | ho
    · exact h.le o ho r (List.mem_of_mem_erase hr)
    · obtain rfl : o = b := by simpa using ho
      exact hm r (List.mem_of_mem_erase hr)
theorem soT.len {s : List Int} {N : Nat} {O R : List Int} (h : soT s N O R) : O.length + R.length = N := by
  have := h.perm.length_eq
  rw [List.length_append, iota_len] at this
  exact this
theorem soT.all {s : List Int} {N : Nat} (hN : N ≤ 9) {O R : List Int} (h : soT s N O R) (hl : O.length = N) : O = soL s N := by
  have hR : R = [] := List.eq_nil_of_length_eq_zero (by have := h.len; omega)
  have hp := h.perm
  rw [hR, List.append_nil] at hp
  exact soL_is hN hp h.so
/-- The least one left among the first i. -/
def soM (s : List Int) (O : List Int) (i : Nat) (b : Int) : Prop :=
  (b = -1 ∧ ∀ j : Nat, j < i → (j : Int) ∈ O) ∨ ((0 ≤ b ∧ b < i) ∧ b ∉ O ∧ ∀ j : Nat, j < i → (j : Int) ∉ O → soK s b ≤ soK s j)
theorem soM.start (s : List Int) (O : List Int) : soM s O 0 (-1) := Or.inl ⟨rfl, fun j h => absurd h (Nat.not_lt_zero _)⟩
theorem soM.has {s : List Int} {O : List Int} {i : Nat} {b : Int} (h : soM s O i b) (hi : (i : Int) ∈ O) : soM s O (i + 1) b := by
  rcases h with ⟨rfl, h⟩ | ⟨h1, h2, h3⟩
  · refine Or.inl ⟨rfl, fun j hj => ?_⟩
    by_cases e : j = i
    · subst e; exact hi
    · exact h j (by omega)
  · refine Or.inr ⟨by omega, h2, fun j hj hn => ?_⟩
    by_cases e : j = i
    · subst e; exact absurd hi hn
    · exact h3 j (by omega) hn
theorem soM.first {s : List Int} {O : List Int} {i : Nat} {b : Int} (h : soM s O i b) (hi : (i : Int) ∉ O) (hb : b < 0) : soM s O (i + 1) i := by
  rcases h with ⟨rfl, h⟩ | ⟨h1, h2, h3⟩
  · refine Or.inr ⟨by omega, hi, fun j hj hn => ?_⟩
    by_cases e : j = i
    · subst e; exact Int.le_refl _
    · exact absurd (h j (by omega)) hn
  · omega
theorem soM.less {s : List Int} {O : List Int} {i : Nat} {b : Nat} (hi9 : i < 9) (h : soM s O i (b : Int)) (hi : (i : Int) ∉ O) (hl : s.getD i 0 < s.getD b 0) : soM s O (i + 1) i := by
  rcases h with ⟨e, h⟩ | ⟨h1, h2, h3⟩
  · omega
  · refine Or.inr ⟨by omega, hi, fun j hj hn => ?_⟩
    by_cases e : j = i
    · subst e; exact Int.le_refl _
    · have := h3 j (by omega) hn
      unfold soK at this ⊢
      rw [Int.toNat_natCast] at this ⊢
      rw [Int.toNat_natCast] at this ⊢
      omega
theorem soM.stay {s : List Int} {O : List Int} {i : Nat} {b : Nat} (hi9 : i < 9) (h : soM s O i (b : Int)) (hi : (i : Int) ∉ O) (hl : ¬ s.getD i 0 < s.getD b 0) : soM s O (i + 1) b := by
  rcases h with ⟨e, h⟩ | ⟨h1, h2, h3⟩
  · omega
  · refine Or.inr ⟨by omega, h2, fun j hj hn => ?_⟩
    by_cases e : j = i
    · subst e
      unfold soK
      rw [Int.toNat_natCast, Int.toNat_natCast]
      omega
    · exact h3 j (by omega) hn
theorem soM.took {s : List Int} {N : Nat} {O R : List Int} {b : Int} (h : soM s O N b) (ht : soT s N O R) (hl : O.length < N) : (0 ≤ b ∧ b < N) ∧ soT s N (O ++ [b]) (R.erase b) := by
  rcases h with ⟨rfl, h⟩ | ⟨h1, h2, h3⟩
  · have h4 := ht.len
    obtain ⟨r, hr⟩ : ∃ r, r ∈ R := List.exists_mem_of_length_pos (by omega)
    obtain ⟨h5, h6⟩ := ht.mem.1 hr
    exact absurd (by have := h r.toNat (by omega); rwa [Int.toNat_of_nonneg h5.1] at this) h6
  · refine ⟨h1, ht.step (ht.mem.2 ⟨h1, h2⟩) fun r hr => ?_⟩
    obtain ⟨h5, h6⟩ := ht.mem.1 hr
    have := h3 r.toNat (by omega) (by rw [Int.toNat_of_nonneg h5.1]; exact h6)
    rwa [Int.toNat_of_nonneg h5.1] at this
end Go.Proofs.YtlagnocglkoomaaDoor
