/-
  GreedyOpen: crates opened one by one (mathematics). No program.
-/
import Derived.Test.YtkehmelcecifdaaDoorLm
namespace Go.Proofs.YtkehmelcecifdaaDoor
open Go.ChangeShapes Go.WideShapes Go.ChangeAt Go.RowKit Go.Deep

def zC : Crt := ⟨noB, wfNo⟩
theorem mult_zC (b : Bot) : mult zC b = 0 := by
  have : allB zC.1 12 = [] := by rfl
  simp [mult, this]
def usW (x : Crt) (lk : List Wnt) : Int := usTo (mult x) lk lk.length
theorem usTo_ge {f : Bot → Nat} {lk : List Wnt} (hp : ∀ w ∈ lk, 0 < w.2) (k : Nat) : 0 ≤ usTo f lk k := by
  induction k with
  | zero => simp [usTo]
  | succ k ih =>
    cases h : lk[k]? with
    | none => simp [usTo, h, ih]
    | some x => rw [usTo_succ h]; have := hp x (List.mem_of_getElem? h); omega
theorem usTo_zero {f : Bot → Nat} {lk : List Wnt} (hf : ∀ w ∈ lk, f w.1 = 0) (hp : ∀ w ∈ lk, 0 < w.2) (k : Nat) : usTo f lk k = 0 := by
  induction k with
  | zero => simp [usTo]
  | succ k ih =>
    cases h : lk[k]? with
    | none => simp [usTo, h, ih]
    | some x => rw [usTo_succ h, ih, hf x (List.mem_of_getElem? h)]; have := hp x (List.mem_of_getElem? h); omega
theorem usTo_none {f : Bot → Nat} {lk : List Wnt} (hp : ∀ w ∈ lk, 0 < w.2) (h0 : usTo f lk lk.length ≤ 0) : ∀ w ∈ lk, f w.1 = 0 := by
  suffices key : ∀ k, k ≤ lk.length → usTo f lk k ≤ 0 → ∀ w ∈ lk.take k, f w.1 = 0 by
    intro w hw; exact key lk.length (Nat.le_refl _) h0 w (by rw [List.take_length]; exact hw)
  intro k hk
  induction k with
  | zero => intro _ w hw; simp at hw
  | succ k ih =>
    intro h w hw
    obtain ⟨x, hx⟩ : ∃ x, lk[k]? = some x := ⟨_, List.getElem?_eq_getElem hk⟩
    rw [usTo_succ hx] at h
    have h1 := usTo_ge (f := f) hp k
    have h2 := hp x (List.mem_of_getElem? hx)
    obtain ⟨hlt, he⟩ := List.getElem?_eq_some_iff.1 hx
    rw [List.take_succ_eq_append_getElem hlt, he, List.mem_append, List.mem_singleton] at hw
    rcases hw with hw | rfl
    · exact ih (by omega) (by omega) w hw
    · omega
theorem usW_zC {lk : List Wnt} (hp : ∀ w ∈ lk, 0 < w.2) : usW zC lk = 0 := usTo_zero (fun w _ => mult_zC w.1) hp _

/-- The program's most useful one of the first. -/
def muS (cs : List Crt) (lk : List Wnt) : Nat → Nat × Int
  | 0 => (0, 0)
  | k + 1 => match cs[k]? with
    | none => muS cs lk k
    | some x => if (muS cs lk k).2 < usW x lk then (k, usW x lk) else muS cs lk k
theorem muS_yes {cs : List Crt} {lk : List Wnt} {k : Nat} {x : Crt} (h : cs[k]? = some x) (hl : (muS cs lk k).2 < usW x lk) : muS cs lk (k + 1) = (k, usW x lk) := by simp only [muS, h, if_pos hl]
theorem muS_no {cs : List Crt} {lk : List Wnt} {k : Nat} {x : Crt} (h : cs[k]? = some x) (hl : ¬ (muS cs lk k).2 < usW x lk) : muS cs lk (k + 1) = muS cs lk k := by simp only [muS, h, if_neg hl]
/-- The model's best one of the first. -/
def mbS (xs : List Crt) (lk : List Wnt) (out : List Int) : Nat → Int × Int
  | 0 => (-1, 0)
  | k + 1 => if (k : Int) ∈ out then mbS xs lk out k else match xs[k]? with
    | none => mbS xs lk out k
    | some x => if (mbS xs lk out k).1 < 0 ∨ (mbS xs lk out k).2 < usW x lk then ((k : Int), usW x lk) else mbS xs lk out k
theorem mbS_in {xs : List Crt} {lk : List Wnt} {out : List Int} {k : Nat} (h : (k : Int) ∈ out) : mbS xs lk out (k + 1) = mbS xs lk out k := by simp only [mbS, if_pos h]
theorem mbS_yes {xs : List Crt} {lk : List Wnt} {out : List Int} {k : Nat} {x : Crt} (h : ¬ (k : Int) ∈ out) (hx : xs[k]? = some x) (hl : (mbS xs lk out k).1 < 0 ∨ (mbS xs lk out k).2 < usW x lk) : mbS xs lk out (k + 1) = ((k : Int), usW x lk) := by simp only [mbS, if_neg h, hx, if_pos hl]
theorem mbS_no {xs : List Crt} {lk : List Wnt} {out : List Int} {k : Nat} {x : Crt} (h : ¬ (k : Int) ∈ out) (hx : xs[k]? = some x) (hl : ¬ ((mbS xs lk out k).1 < 0 ∨ (mbS xs lk out k).2 < usW x lk)) : mbS xs lk out (k + 1) = mbS xs lk out k := by simp only [mbS, if_neg h, hx, if_neg hl]
theorem muS_ge (cs : List Crt) (lk : List Wnt) (k : Nat) : 0 ≤ (muS cs lk k).2 := by
  induction k with
  | zero => simp [muS]
  | succ k ih =>
    cases h : cs[k]? with
    | none => simp only [muS, h]; exact ih
    | some x =>
      by_cases hl : (muS cs lk k).2 < usW x lk
      · rw [muS_yes h hl]; show 0 ≤ usW x lk; omega
      · rw [muS_no h hl]; exact ih
theorem muS_at {cs : List Crt} {lk : List Wnt} (k : Nat) (h : 0 < (muS cs lk k).2) : ∃ x, cs[(muS cs lk k).1]? = some x ∧ usW x lk = (muS cs lk k).2 ∧ (muS cs lk k).1 < k := by
  induction k with
  | zero => simp [muS] at h
  | succ k ih =>
    cases hx : cs[k]? with
    | none =>
      have e : muS cs lk (k + 1) = muS cs lk k := by simp only [muS, hx]
      rw [e] at h ⊢
      obtain ⟨x, h1, h2, h3⟩ := ih h
      exact ⟨x, h1, h2, by omega⟩
    | some x =>
      by_cases hl : (muS cs lk k).2 < usW x lk
      · rw [muS_yes hx hl]; exact ⟨x, hx, rfl, by show k < k + 1; omega⟩
      · rw [muS_no hx hl] at h ⊢
        obtain ⟨y, h1, h2, h3⟩ := ih h
        exact ⟨y, h1, h2, by omega⟩
theorem muS_none {cs : List Crt} {lk : List Wnt} (k : Nat) (h : (muS cs lk k).2 ≤ 0) : ∀ (j : Nat) x, j < k → cs[j]? = some x → usW x lk ≤ 0 := by
  induction k with
  | zero => intro j x hj; omega
  | succ k ih =>
    intro j x hj hx
    cases hk : cs[k]? with
    | none =>
      have e : muS cs lk (k + 1) = muS cs lk k := by simp only [muS, hk]
      rw [e] at h
      by_cases e2 : j = k
      · subst e2; rw [hk] at hx; cases hx
      · exact ih h j x (by omega) hx
    | some y =>
      by_cases hl : (muS cs lk k).2 < usW y lk
      · rw [muS_yes hk hl] at h
        have := muS_ge cs lk k
        have h' : usW y lk ≤ 0 := h
        omega
      · rw [muS_no hk hl] at h
        by_cases e2 : j = k
        · subst e2; rw [hk] at hx; obtain rfl := Option.some.inj hx; omega
        · exact ih h j x (by omega) hx
theorem mb_mu {xs cs : List Crt} {lk : List Wnt} {out : List Int} (hp : ∀ w ∈ lk, 0 < w.2) (hc : ∀ (k : Nat) x, xs[k]? = some x → cs[k]? = some (if (k : Int) ∈ out then zC else x)) (k : Nat) (hk : k ≤ xs.length) :
    (0 < (muS cs lk k).2 ∧ mbS xs lk out k = (((muS cs lk k).1 : Int), (muS cs lk k).2)) ∨ ((muS cs lk k).2 = 0 ∧ (mbS xs lk out k).2 = 0) := by
  induction k with
  | zero => exact .inr ⟨rfl, rfl⟩
  | succ k ih =>
    obtain ⟨x, hx⟩ : ∃ x, xs[k]? = some x := ⟨_, List.getElem?_eq_getElem hk⟩
    have hc2 := hc k x hx
    have ih := ih (by omega)
    by_cases hin : (k : Int) ∈ out
    · rw [if_pos hin] at hc2
      have hz := usW_zC hp
      have hge := muS_ge cs lk k
      rw [mbS_in hin, muS_no hc2 (by rw [hz]; omega)]
      exact ih
    · rw [if_neg hin] at hc2
      have hu : 0 ≤ usW x lk := usTo_ge hp _
      rcases ih with ⟨h1, h2⟩ | ⟨h1, h2⟩
      · by_cases hl : (muS cs lk k).2 < usW x lk
        · rw [muS_yes hc2 hl, mbS_yes hin hx (.inr (by rw [h2]; exact hl))]
          exact .inl ⟨by show 0 < usW x lk; omega, rfl⟩
        · rw [muS_no hc2 hl, mbS_no hin hx (by rw [h2]; exact fun h => h.elim (fun h => by have h' : ((muS cs lk k).1 : Int) < 0 := h; omega) hl)]
          exact .inl ⟨h1, h2⟩
      · by_cases hl : 0 < usW x lk
        · rw [muS_yes hc2 (by rw [h1]; exact hl), mbS_yes hin hx (.inr (by rw [h2]; exact hl))]
          exact .inl ⟨hl, rfl⟩
        · rw [muS_no hc2 (by rw [h1]; exact hl)]
          refine .inr ⟨h1, ?_⟩
          by_cases hb : (mbS xs lk out k).1 < 0
          · rw [mbS_yes hin hx (.inl hb)]; show usW x lk = 0; omega
          · rw [mbS_no hin hx (by rw [h2]; exact fun h => h.elim hb hl)]
            exact h2

theorem lack_pos {f : Bot → Nat} {ord : List Wnt} : ∀ w ∈ lack f ord, 0 < w.2 := by
  intro w hw
  obtain ⟨x, -, hx⟩ := List.mem_filterMap.1 hw
  simp only [beyond] at hx
  split at hx
  · rename_i h; obtain rfl := Option.some.inj hx; show 0 < x.2 - f x.1; omega
  · cases hx
theorem lack_add (f g h : Bot → Nat) (hh : ∀ b, h b = f b + g b) (ord : List Wnt) : lack h ord = lack g (lack f ord) := by
  unfold lack
  rw [List.filterMap_filterMap]
  congr 1
  funext x
  simp only [beyond, hh]
  by_cases h1 : (f x.1 : Int) < x.2
  · rw [if_pos h1, Option.bind_some]
    show _ = if (g x.1 : Int) < x.2 - f x.1 then _ else _
    by_cases h2 : (g x.1 : Int) < x.2 - f x.1
    · rw [if_pos h2, if_pos (by omega)]
      congr 2
      show x.2 - _ = x.2 - f x.1 - g x.1
      omega
    · rw [if_neg h2, if_neg (by omega)]
  · rw [if_neg h1, if_neg (by omega)]; rfl
theorem lack_le {f g : Bot → Nat} {ord : List Wnt} (h : ∀ b, f b ≤ g b) (h0 : lack f ord = []) : lack g ord = [] := by
  unfold lack at h0 ⊢
  rw [List.filterMap_eq_nil_iff] at h0 ⊢
  intro x hx
  have := h0 x hx
  simp only [beyond] at this ⊢
  split at this
  · cases this
  · rename_i h1
    rw [if_neg]
    have := h x.1
    omega
theorem onceTo_pre (a b : List Int) : ∀ k, k ≤ a.length → onceTo (a ++ b) k = onceTo a k
  | 0, _ => rfl
  | k + 1, hk => by
    have ih := onceTo_pre a b k (by omega)
    obtain ⟨x, hx⟩ : ∃ x, a[k]? = some x := ⟨_, List.getElem?_eq_getElem hk⟩
    have hx2 : (a ++ b)[k]? = some x := by rw [List.getElem?_append_left hk]; exact hx
    have ht : (a ++ b).take k = a.take k := List.take_append_of_le_length (by omega)
    by_cases hm : x ∈ a.take k
    · rw [onceTo_old hx hm, onceTo_old hx2 (by rw [ht]; exact hm), ih]
    · rw [onceTo_new hx hm, onceTo_new hx2 (by rw [ht]; exact hm), ih]
theorem cntOf_snoc {xs : List Crt} {out : List Int} {c : Int} {x : Crt} (hc : c ∉ out) (hx : xs[c.toNat]? = some x) (b : Bot) : cntOf xs (out ++ [c]) b = cntOf xs out b + mult x b := by
  have h1 : (out ++ [c])[out.length]? = some c := by simp
  have h2 : c ∉ (out ++ [c]).take out.length := by rw [List.take_left]; exact hc
  rw [cntOf, List.length_append, List.length_singleton, onceTo_new h1 h2, pick_snoc hx, cntAll_snoc, onceTo_pre out [c] _ (Nat.le_refl _)]
  rfl
theorem cntAll_set {cs : List Crt} {k : Nat} {x : Crt} (h : cs[k]? = some x) (b : Bot) : cntAll (cs.set k zC) b + mult x b = cntAll cs b := by
  unfold cntAll
  induction cs generalizing k with
  | nil => simp at h
  | cons a l ih =>
    cases k with
    | zero =>
      obtain rfl : a = x := by simpa using h
      simp only [List.set_cons_zero, List.map_cons, List.sum_cons, mult_zC]
      omega
    | succ k =>
      have := ih (k := k) (by simpa using h)
      simp only [List.set_cons_succ, List.map_cons, List.sum_cons]
      omega
theorem cntAll_zero {cs : List Crt} {b : Bot} (h : ∀ (k : Nat) x, cs[k]? = some x → mult x b = 0) : cntAll cs b = 0 := by
  unfold cntAll
  induction cs with
  | nil => rfl
  | cons a l ih =>
    have h0 := h 0 a rfl
    have h1 := ih (fun k x hk => h (k + 1) x (by simpa using hk))
    simp only [List.map_cons, List.sum_cons, h0, h1]

abbrev GS := List Int × List Crt × List Wnt
/-- Nothing more is to be opened, or nothing helps. -/
def gStk (s : GS) : Prop := s.2.2 = [] ∨ (muS s.2.1 s.2.2 s.2.1.length).2 ≤ 0
instance (s : GS) : Decidable (gStk s) := by unfold gStk; infer_instance
def gNx (s : GS) : GS := (s.1 ++ [((muS s.2.1 s.2.2 s.2.1.length).1 : Int)], s.2.1.set (muS s.2.1 s.2.2 s.2.1.length).1 zC, lack (mult (s.2.1.getD (muS s.2.1 s.2.2 s.2.1.length).1 zC)) s.2.2)
def grN (s : GS) : GS := if gStk s then s else gNx s
def grS (xs : List Crt) (ord : List Wnt) : Nat → GS
  | 0 => ([], xs, ord)
  | j + 1 => grN (grS xs ord j)
theorem grS_stk {xs : List Crt} {ord : List Wnt} {j : Nat} (h : gStk (grS xs ord j)) : ∀ m, grS xs ord (j + m) = grS xs ord j
  | 0 => rfl
  | m + 1 => by
    have ih := grS_stk h m
    show grN (grS xs ord (j + m)) = _
    rw [ih, grN, if_pos h]
structure GI (xs : List Crt) (ord : List Wnt) (s : GS) : Prop where
  len : s.2.1.length = xs.length
  at_ : ∀ (k : Nat) x, xs[k]? = some x → s.2.1[k]? = some (if (k : Int) ∈ s.1 then zC else x)
  nd : s.1.Nodup
  inn : ∀ c ∈ s.1, 0 ≤ c ∧ c < xs.length
  lk : s.2.2 = lack (cntOf xs s.1) ord
  sum : ∀ b, cntAll s.2.1 b + cntOf xs s.1 b = cntAll xs b
theorem GI.pos {xs : List Crt} {ord : List Wnt} {s : GS} (h : GI xs ord s) : ∀ w ∈ s.2.2, 0 < w.2 := by rw [h.lk]; exact lack_pos
theorem lack_zero {ord : List Wnt} {f : Bot → Nat} (hf : ∀ b, f b = 0) (hp : ∀ w ∈ ord, 0 < w.2) : lack f ord = ord := by
  unfold lack
  induction ord with
  | nil => rfl
  | cons a l ih =>
    have h0 := hp a (by simp)
    have e : beyond f a = some a := by
      rw [beyond, if_pos (by rw [hf]; omega), hf]
      congr 1
      exact Prod.ext rfl (by show a.2 - _ = _; omega)
    rw [List.filterMap_cons, e, ih (fun w hw => hp w (by simp [hw]))]
theorem GI.start {xs : List Crt} {ord : List Wnt} (hp : ∀ w ∈ ord, 0 < w.2) : GI xs ord ([], xs, ord) :=
  ⟨rfl, fun k x h => by simpa using h, List.nodup_nil, fun c hc => by simp at hc, (lack_zero (fun b => rfl) hp).symm, fun b => by simp [cntOf, onceTo, pick, cntAll]⟩
theorem GI.next {xs : List Crt} {ord : List Wnt} {s : GS} (h : GI xs ord s) (hs : ¬ gStk s) : GI xs ord (gNx s) ∧ ∃ x, s.2.1[(muS s.2.1 s.2.2 s.2.1.length).1]? = some x ∧ (muS s.2.1 s.2.2 s.2.1.length).1 < xs.length ∧ (gNx s).2.2 = lack (mult x) s.2.2 := by
  have hm : 0 < (muS s.2.1 s.2.2 s.2.1.length).2 := by
    rcases Int.lt_or_le 0 (muS s.2.1 s.2.2 s.2.1.length).2 with h1 | h1
    · exact h1
    · exact absurd (.inr h1) hs
  obtain ⟨y, hy, hu, hlt⟩ := muS_at _ hm
  have hin : ¬ (((muS s.2.1 s.2.2 s.2.1.length).1 : Nat) : Int) ∈ s.1 := by
    intro hin
    obtain ⟨x, hx⟩ : ∃ x, xs[(muS s.2.1 s.2.2 s.2.1.length).1]? = some x := ⟨_, List.getElem?_eq_getElem (by rw [← h.len]; exact hlt)⟩
    have := h.at_ _ x hx
    rw [if_pos hin, hy] at this
    obtain rfl := Option.some.inj this
    rw [usW_zC h.pos] at hu
    omega
  obtain ⟨x, hx⟩ : ∃ x, xs[(muS s.2.1 s.2.2 s.2.1.length).1]? = some x := ⟨_, List.getElem?_eq_getElem (by rw [← h.len]; exact hlt)⟩
  have hyx : s.2.1[(muS s.2.1 s.2.2 s.2.1.length).1]? = some x := by have := h.at_ _ x hx; rwa [if_neg hin] at this
  obtain ⟨m, hme⟩ : ∃ m, (muS s.2.1 s.2.2 s.2.1.length).1 = m := ⟨_, rfl⟩
  have hd : s.2.1.getD m zC = x := by rw [← hme]; simp [hyx]
  have hN : gNx s = (s.1 ++ [(m : Int)], s.2.1.set m zC, lack (mult x) s.2.2) := by rw [gNx, hme, hd]
  rw [hme] at hin hyx hx hlt ⊢
  have hsn : ∀ b, cntOf xs (s.1 ++ [(m : Int)]) b = cntOf xs s.1 b + mult x b := fun b => cntOf_snoc hin (by simpa using hx) b
  rw [hN]
  refine ⟨⟨by simpa using h.len, fun k z hz => ?_, ?_, fun c hc => ?_, ?_, fun b => ?_⟩, x, hyx, by rw [← h.len]; exact hlt, rfl⟩
  · show (s.2.1.set m zC)[k]? = _
    by_cases e : k = m
    · subst e
      rw [List.getElem?_set_self hlt, if_pos (by simp)]
    · rw [List.getElem?_set_ne (Ne.symm e), h.at_ k z hz]
      have e2 : ((k : Int) ∈ s.1 ++ [(m : Int)]) ↔ (k : Int) ∈ s.1 := by
        rw [List.mem_append, List.mem_singleton]
        constructor
        · rintro (h | h)
          · exact h
          · exact absurd (by omega) e
        · exact .inl
      by_cases hk : (k : Int) ∈ s.1
      · rw [if_pos hk, if_pos (e2.2 hk)]
      · rw [if_neg hk, if_neg (fun h => hk (e2.1 h))]
  · show (s.1 ++ [(m : Int)]).Nodup
    rw [List.nodup_append]
    exact ⟨h.nd, by simp, fun a ha b hb => by rw [List.mem_singleton] at hb; subst hb; rintro rfl; exact hin ha⟩
  · rw [List.mem_append, List.mem_singleton] at hc
    rcases hc with hc | rfl
    · exact h.inn c hc
    · have := h.len; omega
  · show lack (mult x) s.2.2 = _
    rw [h.lk, ← lack_add _ _ _ hsn]
  · show cntAll (s.2.1.set m zC) b + cntOf xs (s.1 ++ [(m : Int)]) b = _
    have h1 := cntAll_set hyx b
    have h2 := h.sum b
    rw [hsn]
    omega
theorem grS_GI {xs : List Crt} {ord : List Wnt} (hp : ∀ w ∈ ord, 0 < w.2) : ∀ j, GI xs ord (grS xs ord j)
  | 0 => GI.start hp
  | j + 1 => by
    have ih := grS_GI (xs := xs) hp j
    show GI xs ord (grN (grS xs ord j))
    rw [grN]
    split
    · exact ih
    · rename_i h; exact (ih.next h).1
theorem grS_len {xs : List Crt} {ord : List Wnt} : ∀ j, gStk (grS xs ord j) ∨ (grS xs ord j).1.length = j
  | 0 => .inr rfl
  | j + 1 => by
    by_cases h : gStk (grS xs ord j)
    · have := grS_stk h 1
      rw [this]; exact .inl h
    · have e : grS xs ord (j + 1) = gNx (grS xs ord j) := by show grN _ = _; rw [grN, if_neg h]
      rcases grS_len (xs := xs) (ord := ord) j with h1 | h1
      · exact absurd h1 h
      · right; rw [e]; simp [gNx, h1]
theorem GI.le {xs : List Crt} {ord : List Wnt} {s : GS} (h : GI xs ord s) : s.1.length ≤ xs.length := by
  have := nodup_le (m := (List.range xs.length).map fun (j : Nat) => (j : Int)) h.nd (fun c hc => by
    obtain ⟨h0, h1⟩ := h.inn c hc
    rw [List.mem_map]
    exact ⟨c.toNat, List.mem_range.2 (by omega), by omega⟩)
  simpa using this
theorem grS_end {xs : List Crt} {ord : List Wnt} (hp : ∀ w ∈ ord, 0 < w.2) : gStk (grS xs ord (xs.length + 1)) := by
  rcases grS_len (xs := xs) (ord := ord) (xs.length + 1) with h | h
  · exact h
  · have := (grS_GI (xs := xs) hp (xs.length + 1)).le; omega
theorem grS_fin {xs : List Crt} {ord : List Wnt} {j : Nat} (hj : j ≤ xs.length + 1) (h : gStk (grS xs ord j)) : grS xs ord (xs.length + 1) = grS xs ord j := by
  have := grS_stk h (xs.length + 1 - j)
  rwa [show j + (xs.length + 1 - j) = xs.length + 1 from by omega] at this
/-- One round more, where it is not over: how many are open. -/
theorem grS_room {xs : List Crt} {ord : List Wnt} (hp : ∀ w ∈ ord, 0 < w.2) {j : Nat} (hl : (grS xs ord j).1.length = j) (h : ¬ gStk (grS xs ord j)) : grS xs ord (j + 1) = gNx (grS xs ord j) ∧ (grS xs ord (j + 1)).1.length = j + 1 ∧ j + 1 ≤ xs.length := by
  have e : grS xs ord (j + 1) = gNx (grS xs ord j) := by show grN _ = _; rw [grN, if_neg h]
  have l : (grS xs ord (j + 1)).1.length = j + 1 := by rw [e]; simp [gNx, hl]
  exact ⟨e, l, by have := (grS_GI (xs := xs) hp (j + 1)).le; omega⟩
/-- All is there, and something is lacking still: then something helps. -/
theorem GI.helps {xs : List Crt} {ord : List Wnt} {s : GS} (h : GI xs ord s) (hf : lack (cntAll xs) ord = []) (hs : gStk s) : s.2.2 = [] := by
  rcases hs with hs | hs
  · exact hs
  · cases hl : s.2.2 with
    | nil => rfl
    | cons w l =>
      exfalso
      have hw : w ∈ s.2.2 := by rw [hl]; simp
      have hmu := muS_none _ hs
      have hz : ∀ (k : Nat) x, s.2.1[k]? = some x → mult x w.1 = 0 := fun k x hx => by
        have h1 := hmu k x (List.getElem?_eq_some_iff.1 hx).1 hx
        exact usTo_none h.pos h1 w hw
      have h2 := h.sum w.1
      rw [cntAll_zero hz] at h2
      rw [h.lk] at hw
      obtain ⟨x, hx, hb⟩ := List.mem_filterMap.1 hw
      have h3 := List.filterMap_eq_nil_iff.1 hf x hx
      simp only [beyond] at hb h3
      split at hb
      · rename_i h4
        obtain rfl := Option.some.inj hb
        split at h3
        · cases h3
        · have h5 : 0 + cntOf xs s.1 x.1 = cntAll xs x.1 := h2
          omega
      · cases hb
theorem GI.filled {xs : List Crt} {ord : List Wnt} {s : GS} (h : GI xs ord s) (h0 : s.2.2 = []) : lack (cntAll xs) ord = [] := by
  rw [h.lk] at h0
  exact lack_le (fun b => by have := h.sum b; omega) h0
/-- What GreedyOpen comes to. -/
def goT (xs : List Crt) (ord : List Wnt) : Except Nat (List Int) := if askOk xs ord = true then (if lack (cntAll xs) ord = [] then .ok (grS xs ord (xs.length + 1)).1 else .error 4) else .error 5
def goL (xs : List Crt) (ord : List Wnt) : List Int := match goT xs ord with
  | .ok l => l
  | .error _ => []
def goC (xs : List Crt) (ord : List Wnt) : Int := match goT xs ord with
  | .ok _ => 0
  | .error e => if e = 4 then 6 else 1
theorem go_bad {xs : List Crt} {ord : List Wnt} (h : askOk xs ord = false) : goL xs ord = [] ∧ goC xs ord = 1 := by simp [goL, goC, goT, h]
theorem go_lack {xs : List Crt} {ord : List Wnt} (h : askOk xs ord = true) (h2 : lack (cntAll xs) ord ≠ []) : goL xs ord = [] ∧ goC xs ord = 6 := by simp [goL, goC, goT, h, h2]
theorem go_ok {xs : List Crt} {ord : List Wnt} (h : askOk xs ord = true) (h2 : lack (cntAll xs) ord = []) : goL xs ord = (grS xs ord (xs.length + 1)).1 ∧ goC xs ord = 0 := by simp [goL, goC, goT, h, h2]
end Go.Proofs.YtkehmelcecifdaaDoor
