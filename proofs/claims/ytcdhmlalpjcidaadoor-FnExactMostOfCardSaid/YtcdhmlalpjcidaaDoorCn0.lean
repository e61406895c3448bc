/-
  MostOf: bottles counted along a sorted list, and the first of those that are most (mathematics). No program.
-/
import Derived.Test.YtcdhmlalpjcidaaDoorJo0
import Derived.Test.YtcdhmlalpjcidaaDoorGa
import Derived.Test.YtcdhmlalpjcidaaDoorKm
namespace Go.Proofs.YtcdhmlalpjcidaaDoor
open Go.ChangeShapes Go.WideShapes Go.ChangeAt Go.RowKit Go.Deep

theorem ltB_cmp {a b : Bot} : ltB a b = true ↔ cmpB a b < 0 := by
  rw [ltB_iff]
  unfold cmpB
  constructor
  · intro h
    repeat' split
    all_goals omega
  · intro h
    repeat' split at h
    all_goals omega
theorem nodup_leC {l m : List Bot} (h : l.Nodup) (hs : ∀ x ∈ l, x ∈ m) : l.length ≤ m.length := by
  induction l generalizing m with
  | nil => simp
  | cons a l ih =>
    obtain ⟨h1, h2⟩ := List.nodup_cons.1 h
    have ham := hs a (by simp)
    have hi := ih (m := m.erase a) h2 (fun x hx => (List.mem_erase_of_ne (fun e => h1 (by rw [← e]; exact hx))).2 (hs x (by simp [hx])))
    have he := List.length_erase_of_mem ham
    have hp := List.length_pos_of_mem ham
    simp only [List.length_cons]
    omega
/-- A list of counts of bottles: in the order of bottles, each one that is there. -/
structure IsC (f : Bot → Nat) (C : List Wnt) : Prop where
  ord : ordS C
  pos : ∀ w ∈ C, 1 ≤ w.2
  num : ∀ b, numN C b = f b
theorem sort_IsC {f : Bot → Nat} {C X : List Wnt} (hC : IsC f C) (hn : (X.map fun w => w.1).Nodup) (hx : ∀ w ∈ X, w.2 = (f w.1 : Int) ∧ f w.1 ≠ 0) (hall : ∀ c, f c ≠ 0 → (c, (f c : Int)) ∈ X) :
    isL (fun p q => decide (cmpB p.1 q.1 < 0)) X = C := by
  have hp := isL_perm (fun (p q : Wnt) => decide (cmpB p.1 q.1 < 0)) X
  have hs := isL_srt (lt := fun (p q : Wnt) => decide (cmpB p.1 q.1 < 0)) (fun p q h => by
      simp only [decide_eq_true_eq] at h
      exact decide_eq_false (by have := cmp_neg h; omega)) (fun p q r h k => by
      simp only [decide_eq_false_iff_not] at h k ⊢
      intro hrp
      rcases Int.lt_trichotomy (cmpB q.1 p.1) 0 with h1 | h1 | h1
      · exact h h1
      · have := cmp_zero h1; rw [this] at k; exact k hrp
      · have h2 := cmp_pos h1
        exact k (cmp_tr hrp h2)) X
  have hn2 : ((isL (fun (p q : Wnt) => decide (cmpB p.1 q.1 < 0)) X).map fun w => w.1).Nodup := (hp.map _).nodup_iff.2 hn
  have hS : ordS (isL (fun (p q : Wnt) => decide (cmpB p.1 q.1 < 0)) X) := by
    unfold ordS
    have hn3 := List.pairwise_map.1 (List.nodup_iff_pairwise_ne.1 hn2)
    refine (hs.and hn3).imp ?_
    rintro p q ⟨h1, h2⟩
    simp only [decide_eq_false_iff_not] at h1
    rcases Int.lt_trichotomy (cmpB p.1 q.1) 0 with h3 | h3 | h3
    · exact h3
    · exact absurd (cmp_zero h3) h2
    · exact absurd (cmp_pos h3) h1
  refine ordS_eq hS hC.ord fun z => ?_
  rw [hp.mem_iff]
  constructor
  · intro hz
    obtain ⟨h1, h2⟩ := hx z hz
    have h3 : numN C z.1 ≠ 0 := by rw [hC.num]; exact h2
    obtain ⟨w, hw, e⟩ := numN_pos hC.pos h3
    have h4 := numN_in hC.ord hw
    have h5 := hC.pos w hw
    rw [hC.num, e] at h4
    have : w = z := Prod.ext e (by rw [h1, h4]; omega)
    rw [← this]; exact hw
  · intro hz
    have h4 := numN_in hC.ord hz
    have h5 := hC.pos z hz
    rw [hC.num] at h4
    have h6 := hall z.1 (by rw [h4]; omega)
    rw [h4] at h6
    have : (z.1, ((z.2.toNat : Nat) : Int)) = z := Prod.ext rfl (by show ((z.2.toNat : Nat) : Int) = z.2; omega)
    rw [this] at h6
    exact h6
theorem IsC.same {f : Bot → Nat} {C D : List Wnt} (hC : IsC f C) (hD : IsC f D) : C = D := by
  refine ordS_eq hC.ord hD.ord fun z => ?_
  have key : ∀ {C D : List Wnt}, IsC f C → IsC f D → z ∈ C → z ∈ D := fun {C D} hC hD hz => by
    have h4 := numN_in hC.ord hz
    have h5 := hC.pos z hz
    rw [hC.num] at h4
    obtain ⟨w, hw, e⟩ := numN_pos hD.pos (b := z.1) (by rw [hD.num, h4]; omega)
    have h6 := numN_in hD.ord hw
    have h7 := hD.pos w hw
    rw [hD.num, e, h4] at h6
    have : w = z := Prod.ext e (by omega)
    rw [← this]; exact hw
  exact ⟨key hC hD, key hD hC⟩

/-- How often a bottle is among the first k. -/
def cnY (Y : List Bot) (k : Nat) (b : Bot) : Nat := ((Y.take k).filter fun y => decide (y = b)).length
theorem cnY_succ {Y : List Bot} {k : Nat} {y : Bot} (h : Y[k]? = some y) (b : Bot) : cnY Y (k + 1) b = cnY Y k b + if y = b then 1 else 0 := by
  obtain ⟨h1, h2⟩ := List.getElem?_eq_some_iff.1 h
  rw [cnY, List.take_succ_eq_append_getElem h1, h2, List.filter_append, List.length_append]
  by_cases e : y = b <;> simp [cnY, e]
/-- What stands between two rounds of counting: all counts but the last, the last one. -/
structure RL (Y : List Bot) (k : Nat) (L : List Wnt) (b : Bot) (n : Int) : Prop where
  last : ∃ j, j + 1 = k ∧ Y[j]? = some b
  isC : IsC (cnY Y k) (L ++ [(b, n)])
theorem RL.first {Y : List Bot} {y : Bot} (h : Y[0]? = some y) : RL Y 1 [] y 1 :=
  ⟨⟨0, rfl, h⟩, List.pairwise_singleton _ _, fun w hw => by simp at hw; subst hw; exact Int.le_refl 1, fun b => by
    rw [cnY_succ h]
    simp [numN, cnY]⟩
theorem RL.same {Y : List Bot} {k : Nat} {L : List Wnt} {b : Bot} {n : Int} (h : RL Y k L b n) (hy : Y[k]? = some b) : RL Y (k + 1) L b (n + 1) := by
  have hn := h.isC.pos (b, n) (by simp)
  have hn : 1 ≤ n := hn
  refine ⟨⟨k, rfl, hy⟩, ?_, fun w hw => ?_, fun c => ?_⟩
  · have h1 := h.isC.ord
    unfold ordS at h1 ⊢
    rw [List.pairwise_append] at h1 ⊢
    refine ⟨h1.1, List.pairwise_singleton _ _, fun x hx z hz => ?_⟩
    simp only [List.mem_singleton] at hz
    subst hz
    exact h1.2.2 x hx (b, n) (by simp)
  · rw [List.mem_append, List.mem_singleton] at hw
    rcases hw with hw | rfl
    · exact h.isC.pos w (by simp [hw])
    · show 1 ≤ n + 1; omega
  · have h2 := h.isC.num c
    rw [numN_app, numN_cons, numN_nil] at h2
    rw [numN_app, numN_cons, numN_nil, cnY_succ hy, ← h2]
    by_cases e : b = c
    · simp only [if_pos e]; omega
    · first | (simp only [if_neg e]; done) | (simp only [if_neg e]; omega)
theorem RL.new {Y : List Bot} {k : Nat} {L : List Wnt} {b : Bot} {n : Int} (h : RL Y k L b n) (hs : SrtTo Y Y.length) {y : Bot} (hy : Y[k]? = some y) (hne : y ≠ b) : RL Y (k + 1) (L ++ [(b, n)]) y 1 := by
  obtain ⟨j, hj, hb⟩ := h.last
  have hlt : cmpB b y < 0 := by
    have h1 := hs j k b y (by omega) (List.getElem?_eq_some_iff.1 hy).1 hb hy
    rw [← ltB_cmp]
    cases h2 : ltB b y with
    | true => rfl
    | false => exact absurd (ltB_eq h2 h1) hne
  have hall : ∀ x ∈ L ++ [(b, n)], cmpB x.1 y < 0 := fun x hx => by
    rw [List.mem_append, List.mem_singleton] at hx
    rcases hx with hx | rfl
    · have h1 := h.isC.ord
      unfold ordS at h1
      rw [List.pairwise_append] at h1
      exact cmp_tr (h1.2.2 x hx (b, n) (by simp)) hlt
    · exact hlt
  refine ⟨⟨k, rfl, hy⟩, ?_, fun w hw => ?_, fun c => ?_⟩
  · unfold ordS
    rw [List.pairwise_append]
    refine ⟨h.isC.ord, List.pairwise_singleton _ _, fun x hx z hz => ?_⟩
    simp only [List.mem_singleton] at hz
    subst hz
    exact hall x hx
  · rw [List.mem_append, List.mem_singleton] at hw
    rcases hw with hw | rfl
    · exact h.isC.pos w hw
    · exact Int.le_refl 1
  · have h2 := h.isC.num c
    rw [numN_app, numN_cons, numN_nil, cnY_succ hy, h2]
    by_cases e : y = c
    · simp [e]
    · simp [e]
theorem RL.len {Y : List Bot} {k : Nat} {L : List Wnt} {b : Bot} {n : Int} (h : RL Y k L b n) (hk : k ≤ Y.length) : L.length + 1 ≤ k ∧ n ≤ k := by
  have hsum : ∀ {C : List Wnt} {f : Bot → Nat}, IsC f C → (∀ c, f c = cnY Y k c) → C.length ≤ k ∧ ∀ w ∈ C, w.2 ≤ k := fun {C f} hC hf => by
    have hle : ∀ c, f c ≤ k := fun c => by
      rw [hf, cnY]
      have h1 := List.length_filter_le (fun y => decide (y = c)) (Y.take k)
      rw [List.length_take] at h1
      omega
    refine ⟨?_, fun w hw => ?_⟩
    · have hn : (C.map fun w => w.1).Nodup := by
        rw [List.nodup_iff_pairwise_ne, List.pairwise_map]
        exact hC.ord.imp (fun h1 e => by rw [e, cmp_self] at h1; omega)
      have h1 := nodup_leC (m := Y.take k) hn (fun c hc => by
        obtain ⟨w, hw, rfl⟩ := List.mem_map.1 hc
        have h4 := numN_in hC.ord hw
        have h5 := hC.pos w hw
        rw [hC.num, hf, cnY] at h4
        have : 0 < ((Y.take k).filter fun y => decide (y = w.1)).length := by omega
        obtain ⟨z, hz⟩ := List.exists_mem_of_length_pos this
        simp only [List.mem_filter, decide_eq_true_eq] at hz
        rw [← hz.2]; exact hz.1)
      rw [List.length_map, List.length_take] at h1
      omega
    · have h4 := numN_in hC.ord hw
      have h5 := hC.pos w hw
      have h6 := hle w.1
      rw [hC.num] at h4
      omega
  obtain ⟨h1, h2⟩ := hsum h.isC (fun c => rfl)
  exact ⟨by simpa using h1, h2 (b, n) (by simp)⟩
theorem tw_memC {α : Type} {p : α → Bool} : ∀ {l : List α} {x : α}, x ∈ l.takeWhile p → p x = true
  | [], _, h => by cases h
  | a :: l, x, h => by
    rw [List.takeWhile_cons] at h
    split at h
    · rename_i ha
      simp only [List.mem_cons] at h
      rcases h with rfl | h
      · exact ha
      · exact tw_memC h
    · cases h
theorem dw_nilC {α : Type} {p : α → Bool} : ∀ {l : List α}, (∀ x ∈ l, p x = true) → l.dropWhile p = []
  | [], _ => rfl
  | a :: l, h => by
    rw [List.dropWhile_cons, if_pos (h a (by simp))]
    exact dw_nilC (fun x hx => h x (by simp [hx]))
/-- The better of two: the one of which there are more. -/
def mxN (b x : Wnt) : Wnt := if b.2 < x.2 then x else b
def mxC : List Wnt → Wnt
  | [] => ((0, 0), 0)
  | c :: r => r.foldl mxN c
theorem ins_head {S : List Wnt} {h x : Wnt} (hh : S.head? = some h) (hm : ∀ s ∈ S, s.2 ≤ h.2) : (insL (fun p q => decide (q.2 - p.2 < 0)) S x).head? = some (mxN h x) ∧ ∀ s ∈ insL (fun p q => decide (q.2 - p.2 < 0)) S x, s.2 ≤ (mxN h x).2 := by
  have hmem : ∀ s ∈ insL (fun (p q : Wnt) => decide (q.2 - p.2 < 0)) S x, s.2 ≤ (mxN h x).2 := fun s hs => by
    have h1 := (insL_perm (fun (p q : Wnt) => decide (q.2 - p.2 < 0)) S x).mem_iff.1 hs
    simp only [List.mem_cons] at h1
    unfold mxN
    split
    · rcases h1 with rfl | h1
      · exact Int.le_refl _
      · have := hm s h1; omega
    · rcases h1 with rfl | h1
      · omega
      · exact hm s h1
  refine ⟨?_, hmem⟩
  have hp := rev_parts (fun q => decide (q.2 - x.2 < 0)) S
  unfold insL
  show ((S.reverse.dropWhile (fun q => decide (q.2 - x.2 < 0))).reverse ++ x :: (S.reverse.takeWhile (fun q => decide (q.2 - x.2 < 0))).reverse).head? = _
  cases hd : (S.reverse.dropWhile (fun q => decide (q.2 - x.2 < 0))).reverse with
  | nil =>
    rw [hd, List.nil_append] at hp
    have hin : h ∈ (S.reverse.takeWhile (fun q => decide (q.2 - x.2 < 0))).reverse := by rw [hp]; exact List.mem_of_mem_head? (by rw [hh]; rfl)
    have h2 := tw_memC (List.mem_reverse.1 hin)
    simp only [decide_eq_true_eq] at h2
    rw [List.nil_append, List.head?_cons, mxN, if_pos (by omega)]
  | cons z zs =>
    rw [hd, List.cons_append] at hp
    rw [List.cons_append, List.head?_cons]
    have hz : z = h := by rw [← hp, List.head?_cons] at hh; exact Option.some.inj hh
    subst hz
    have hne : S.reverse.dropWhile (fun q => decide (q.2 - x.2 < 0)) ≠ [] := fun e => by rw [e] at hd; cases hd
    have h3 : ¬ ∀ s ∈ S, s.2 - x.2 < 0 := fun hall => hne (by
      refine dw_nilC fun s hs => ?_
      exact decide_eq_true (hall s (List.mem_reverse.1 hs)))
    rw [mxN, if_neg]
    intro hlt
    exact h3 (fun s hs => by have := hm s hs; omega)
theorem isL_head {C : List Wnt} (h0 : C ≠ []) : (isL (fun p q => decide (q.2 - p.2 < 0)) C).head? = some (mxC C) := by
  cases C with
  | nil => exact absurd rfl h0
  | cons c r =>
    have key : ∀ (r S : List Wnt) (h : Wnt), S.head? = some h → (∀ s ∈ S, s.2 ≤ h.2) → (r.foldl (insL fun (p q : Wnt) => decide (q.2 - p.2 < 0)) S).head? = some (r.foldl mxN h) := by
      intro r
      induction r with
      | nil => intro S h hh _; exact hh
      | cons x r ih =>
        intro S h hh hm
        obtain ⟨h1, h2⟩ := ins_head (x := x) hh hm
        exact ih _ _ h1 h2
    exact key r [c] c rfl (fun s hs => by simp at hs; subst hs; exact Int.le_refl _)
/-- The first of the most among the first k + 1. -/
theorem mx_step {C : List Wnt} {k : Nat} {x : Wnt} (h0 : 0 < k) (h : C[k]? = some x) : mxC (C.take (k + 1)) = mxN (mxC (C.take k)) x := by
  obtain ⟨h1, h2⟩ := List.getElem?_eq_some_iff.1 h
  cases C with
  | nil => simp at h1
  | cons c r =>
    obtain ⟨j, rfl⟩ : ∃ j, k = j + 1 := ⟨k - 1, by omega⟩
    rw [List.take_succ_cons, List.take_succ_cons, mxC, mxC]
    have h3 : r[j]? = some x := by simpa using h
    obtain ⟨h4, h5⟩ := List.getElem?_eq_some_iff.1 h3
    rw [List.take_succ_eq_append_getElem h4, h5, List.foldl_append]
    rfl
theorem cnY_perm {Y Z : List Bot} (h : Y.Perm Z) (b : Bot) : cnY Y Y.length b = (Z.filter fun y => decide (y = b)).length := by
  rw [cnY, List.take_length]
  exact (h.filter _).length_eq
theorem exC_sorted {Y : List Bot} (hs : SrtTo Y Y.length) : ∃ C, IsC (cnY Y Y.length) C := by
  have key : ∀ k, k ≤ Y.length → (k = 0 ∨ ∃ L b n, RL Y k L b n) := by
    intro k
    induction k with
    | zero => intro _; exact .inl rfl
    | succ k ih =>
      intro hk
      obtain ⟨y, hy⟩ : ∃ y, Y[k]? = some y := ⟨_, List.getElem?_eq_getElem hk⟩
      rcases ih (by omega) with rfl | ⟨L, b, n, h⟩
      · exact .inr ⟨[], y, 1, RL.first hy⟩
      · by_cases e : y = b
        · subst e; exact .inr ⟨_, _, _, h.same hy⟩
        · exact .inr ⟨_, _, _, h.new hs hy e⟩
  rcases key Y.length (Nat.le_refl _) with h | ⟨L, b, n, h⟩
  · refine ⟨[], List.Pairwise.nil, fun w hw => by simp at hw, fun b => ?_⟩
    have : Y = [] := List.eq_nil_of_length_eq_zero h
    subst this; rfl
  · exact ⟨_, h.isC⟩
theorem srt_isL (X : List Bot) : SrtTo (isL ltB X) (isL ltB X).length := by
  have hs := isL_srt (lt := ltB) (fun a b h => ltB_asymm h) (fun a b c h k => ltB_le h k) X
  intro p q a b hpq hq ha hb
  exact (List.pairwise_iff_getElem.1 hs p q (List.getElem?_eq_some_iff.1 ha).1 (List.getElem?_eq_some_iff.1 hb).1 hpq) |> fun h => by
    rw [(List.getElem?_eq_some_iff.1 ha).2, (List.getElem?_eq_some_iff.1 hb).2] at h
    exact h
theorem exC (X : List Bot) : ∃ C, IsC (fun b => (X.filter fun y => decide (y = b)).length) C := by
  obtain ⟨C, h1, h2, h3⟩ := exC_sorted (srt_isL X)
  exact ⟨C, h1, h2, fun b => by rw [h3, cnY_perm (isL_perm ltB X)]⟩
end Go.Proofs.YtcdhmlalpjcidaaDoor
