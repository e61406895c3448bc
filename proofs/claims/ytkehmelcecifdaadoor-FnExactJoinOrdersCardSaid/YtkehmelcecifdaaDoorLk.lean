/-
  What is wanted beyond what is in some crates, each of which counts once. No program in it.
-/
import Derived.Test.YtkehmelcecifdaaDoorKm
import Derived.Test.YtkehmelcecifdaaDoorWa
namespace Go.Proofs.YtkehmelcecifdaaDoor
open Go.ChangeShapes Go.WideShapes Go.ChangeAt Go.RowKit Go.Deep

theorem nodup_le {α : Type} [DecidableEq α] {l m : List α} (h : l.Nodup) (hs : ∀ x ∈ l, x ∈ m) : l.length ≤ m.length := by
  induction l generalizing m with
  | nil => simp
  | cons a l ih =>
    obtain ⟨h1, h2⟩ := List.nodup_cons.1 h
    have ham := hs a (by simp)
    have hi := ih (m := m.erase a) h2 (fun x hx => (List.mem_erase_of_ne (fun e => h1 (by rw [← e]; exact hx))).2 (hs x (by simp [hx])))
    have he := List.length_erase_of_mem ham
    have hp := List.length_pos_of_mem ham
    simp only [List.length_cons]
    omega

/-- What is wanted beyond f. -/
def beyond (f : Bot → Nat) (x : Wnt) : Option Wnt := if (f x.1 : Int) < x.2 then some (x.1, x.2 - f x.1) else none
def lackTo (f : Bot → Nat) (ord : List Wnt) (k : Nat) : List Wnt := (ord.take k).filterMap (beyond f)
theorem lackTo_yes {f : Bot → Nat} {ord : List Wnt} {k : Nat} {x : Wnt} (h : ord[k]? = some x) (hx : (f x.1 : Int) < x.2) : lackTo f ord (k + 1) = lackTo f ord k ++ [(x.1, x.2 - f x.1)] := by
  obtain ⟨hlt, he⟩ := List.getElem?_eq_some_iff.1 h
  rw [lackTo, List.take_succ_eq_append_getElem hlt, he, List.filterMap_append]
  simp [beyond, hx, lackTo]
theorem lackTo_no {f : Bot → Nat} {ord : List Wnt} {k : Nat} {x : Wnt} (h : ord[k]? = some x) (hx : ¬ (f x.1 : Int) < x.2) : lackTo f ord (k + 1) = lackTo f ord k := by
  obtain ⟨hlt, he⟩ := List.getElem?_eq_some_iff.1 h
  rw [lackTo, List.take_succ_eq_append_getElem hlt, he, List.filterMap_append]
  simp [beyond, hx, lackTo]
theorem lackTo_length (f : Bot → Nat) (ord : List Wnt) (k : Nat) : (lackTo f ord k).length ≤ k := by
  have h1 := List.length_filterMap_le (beyond f) (ord.take k)
  rw [List.length_take] at h1
  unfold lackTo
  omega
def lack (f : Bot → Nat) (ord : List Wnt) : List Wnt := ord.filterMap (beyond f)
theorem lackTo_all (f : Bot → Nat) (ord : List Wnt) : lackTo f ord ord.length = lack f ord := by rw [lackTo, List.take_length, lack]
theorem lack_congr {f g : Bot → Nat} {ord : List Wnt} (h : ∀ x ∈ ord, f x.1 = g x.1) : lack f ord = lack g ord := by
  unfold lack
  induction ord with
  | nil => rfl
  | cons a l ih =>
    have e : beyond f a = beyond g a := by simp only [beyond, h a (by simp)]
    simp only [List.filterMap_cons, e, ih (fun x hx => h x (by simp [hx]))]
theorem lack_length (f : Bot → Nat) (ord : List Wnt) : (lack f ord).length ≤ ord.length := List.length_filterMap_le _ _

/-- The numbers of a list, each one once. -/
def onceTo (cr : List Int) : Nat → List Int
  | 0 => []
  | k + 1 => match cr[k]? with
    | none => onceTo cr k
    | some c => if c ∈ cr.take k then onceTo cr k else onceTo cr k ++ [c]
theorem onceTo_old {cr : List Int} {k : Nat} {c : Int} (h : cr[k]? = some c) (hm : c ∈ cr.take k) : onceTo cr (k + 1) = onceTo cr k := by simp [onceTo, h, hm]
theorem onceTo_new {cr : List Int} {k : Nat} {c : Int} (h : cr[k]? = some c) (hm : c ∉ cr.take k) : onceTo cr (k + 1) = onceTo cr k ++ [c] := by simp [onceTo, h, hm]
theorem onceTo_mem {cr : List Int} (k : Nat) (c : Int) : c ∈ onceTo cr k ↔ c ∈ cr.take k := by
  induction k with
  | zero => simp [onceTo]
  | succ k ih =>
    cases h : cr[k]? with
    | none =>
      have hk : cr.length ≤ k := by
        rcases Nat.lt_or_ge k cr.length with hk | hk
        · rw [List.getElem?_eq_getElem hk] at h; cases h
        · exact hk
      rw [List.take_of_length_le hk] at ih
      rw [List.take_of_length_le (by omega)]
      simp only [onceTo, h, ih]
    | some d =>
      obtain ⟨hlt, he⟩ := List.getElem?_eq_some_iff.1 h
      rw [List.take_succ_eq_append_getElem hlt, he, List.mem_append, List.mem_singleton]
      by_cases hm : d ∈ cr.take k
      · rw [onceTo_old h hm, ih]
        constructor
        · exact Or.inl
        · rintro (h | rfl)
          · exact h
          · exact hm
      · rw [onceTo_new h hm, List.mem_append, List.mem_singleton, ih]
theorem onceTo_nodup (cr : List Int) (k : Nat) : (onceTo cr k).Nodup := by
  induction k with
  | zero => simp [onceTo]
  | succ k ih =>
    cases h : cr[k]? with
    | none => simpa only [onceTo, h] using ih
    | some c =>
      by_cases hm : c ∈ cr.take k
      · rw [onceTo_old h hm]; exact ih
      · rw [onceTo_new h hm, List.nodup_append]
        refine ⟨ih, by simp, fun a ha b hb => ?_⟩
        simp only [List.mem_singleton] at hb
        subst hb
        rintro rfl
        exact hm ((onceTo_mem k a).1 ha)
theorem onceTo_length (cr : List Int) (k : Nat) : (onceTo cr k).length ≤ k := by
  induction k with
  | zero => simp [onceTo]
  | succ k ih =>
    cases h : cr[k]? with
    | none => simp only [onceTo, h]; omega
    | some c =>
      by_cases hm : c ∈ cr.take k
      · rw [onceTo_old h hm]; omega
      · rw [onceTo_new h hm, List.length_append]; simp; omega
theorem onceTo_le {cr : List Int} {n : Nat} (h : ∀ c ∈ cr, 0 ≤ c ∧ c < n) (k : Nat) : (onceTo cr k).length ≤ n := by
  have := nodup_le (m := (List.range n).map fun (j : Nat) => (j : Int)) (onceTo_nodup cr k) (fun c hc => by
    obtain ⟨h0, h1⟩ := h c (List.mem_of_mem_take ((onceTo_mem k c).1 hc))
    rw [List.mem_map]
    exact ⟨c.toNat, List.mem_range.2 (by omega), by omega⟩)
  simpa using this
/-- Crates with some numbers. -/
def pick (xs : List Crt) (is : List Int) : List Crt := is.filterMap fun i => xs[i.toNat]?
theorem pick_snoc {xs : List Crt} {is : List Int} {c : Int} {x : Crt} (h : xs[c.toNat]? = some x) : pick xs (is ++ [c]) = pick xs is ++ [x] := by simp [pick, h]
theorem pick_length (xs : List Crt) (is : List Int) : (pick xs is).length ≤ is.length := List.length_filterMap_le _ _
theorem cntAll_snoc (ys : List Crt) (x : Crt) (b : Bot) : cntAll (ys ++ [x]) b = cntAll ys b + mult x b := by simp [cntAll]
/-- All numbers below n. -/
def every (n : Nat) : List Int := (List.range n).map fun (j : Nat) => (j : Int)
theorem every_length (n : Nat) : (every n).length = n := by simp [every]
theorem every_get {n k : Nat} (h : k < n) : (every n)[k]? = some (k : Int) := by simp [every, h]
theorem every_snoc (k : Nat) : every (k + 1) = every k ++ [(k : Int)] := by simp [every, List.range_succ]
theorem every_in {n : Nat} : ∀ c ∈ every n, 0 ≤ c ∧ c < n := by
  intro c hc
  simp only [every, List.mem_map, List.mem_range] at hc
  obtain ⟨j, hj, rfl⟩ := hc
  omega
theorem every_take {n k : Nat} (h : k ≤ n) : (every n).take k = every k := by
  unfold every
  rw [← List.map_take, List.take_range, Nat.min_eq_left h]
theorem onceTo_every {n k : Nat} (h : k ≤ n) : onceTo (every n) k = every k := by
  induction k with
  | zero => simp [onceTo, every]
  | succ k ih =>
    rw [onceTo_new (every_get (by omega)), ih (by omega), every_snoc]
    rw [every_take (by omega)]
    intro hm
    have := every_in _ hm
    omega
theorem pick_every (xs : List Crt) : pick xs (every xs.length) = xs := by
  suffices h : ∀ k, k ≤ xs.length → pick xs (every k) = xs.take k by
    have := h xs.length (Nat.le_refl _)
    rwa [List.take_length] at this
  intro k hk
  induction k with
  | zero => simp [pick, every]
  | succ k ih =>
    rw [every_snoc, pick_snoc (x := xs[k]'(by omega)) (by simp), ih (by omega), List.take_succ_eq_append_getElem (by omega)]
/-- How many there are of each in some crates, each of which counts once. -/
def cntOf (xs : List Crt) (cr : List Int) (b : Bot) : Nat := cntAll (pick xs (onceTo cr cr.length)) b
theorem cntOf_every (xs : List Crt) (b : Bot) : cntOf xs (every xs.length) b = cntAll xs b := by
  rw [cntOf, every_length, onceTo_every (Nat.le_refl _), pick_every]
end Go.Proofs.YtkehmelcecifdaaDoor
