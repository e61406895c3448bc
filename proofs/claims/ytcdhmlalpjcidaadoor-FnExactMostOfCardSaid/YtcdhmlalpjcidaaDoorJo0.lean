/-
  JoinOrders: two orders merged, and the same by a sum over bottles that is sorted (mathematics). No program.
-/
import Derived.Test.YtcdhmlalpjcidaaDoorTt0
import Derived.Test.YtcdhmlalpjcidaaDoorIs0
namespace Go.Proofs.YtcdhmlalpjcidaaDoor
open Go.ChangeShapes Go.WideShapes Go.ChangeAt Go.RowKit Go.Deep

theorem cmp_self (a : Bot) : cmpB a a = 0 := by simp [cmpB]
theorem cmp_zero {a b : Bot} (h : cmpB a b = 0) : a = b := by
  unfold cmpB at h
  split at h
  · cases h
  · split at h
    · cases h
    · split at h
      · cases h
      · split at h
        · cases h
        · exact Prod.ext (by omega) (by omega)
theorem cmp_neg {a b : Bot} (h : cmpB a b < 0) : 0 < cmpB b a := by
  unfold cmpB at h ⊢
  repeat' split at h
  all_goals first | (exfalso; omega) | (repeat' split) <;> omega
theorem cmp_pos {a b : Bot} (h : 0 < cmpB a b) : cmpB b a < 0 := by
  unfold cmpB at h ⊢
  repeat' split at h
  all_goals first | (exfalso; omega) | (repeat' split) <;> omega
theorem cmp_tr {a b c : Bot} (h : cmpB a b < 0) (k : cmpB b c < 0) : cmpB a c < 0 := by
  unfold cmpB at h k ⊢
  repeat' split at h
  all_goals repeat' split at k
  all_goals first | (exfalso; omega) | (repeat' split) <;> omega
theorem cmp_rng (a b : Bot) : -100000 ≤ cmpB a b ∧ cmpB a b ≤ 100000 := by
  unfold cmpB; repeat' split
  all_goals omega
def ltW (a b : Wnt) : Bool := decide (cmpB a.1 b.1 < 0)
/-- In the order of bottles, no bottle twice. -/
def ordS (l : List Wnt) : Prop := l.Pairwise fun a b => cmpB a.1 b.1 < 0
theorem ordS_eq : ∀ {l m : List Wnt}, ordS l → ordS m → (∀ x, x ∈ l ↔ x ∈ m) → l = m
  | [], m, _, _, h => by
    cases m with
    | nil => rfl
    | cons b m => have := (h b).2 (by simp); simp at this
  | a :: l, m, hl, hm, h => by
    cases m with
    | nil => have := (h a).1 (by simp); simp at this
    | cons b m =>
      obtain ⟨h1, h2⟩ := List.pairwise_cons.1 hl
      obtain ⟨k1, k2⟩ := List.pairwise_cons.1 hm
      have e : a = b := by
        have ha := (h a).1 (by simp)
        have hb := (h b).2 (by simp)
        simp only [List.mem_cons] at ha hb
        rcases ha with ha | ha
        · exact ha
        · rcases hb with hb | hb
          · exact hb.symm
          · have q1 := k1 a ha
            have q2 := h1 b hb
            have := cmp_neg q1
            omega
      subst e
      refine congrArg _ (ordS_eq h2 k2 fun x => ⟨fun hx => ?_, fun hx => ?_⟩)
      · have := (h x).1 (by simp [hx])
        simp only [List.mem_cons] at this
        rcases this with rfl | this
        · have := h1 x hx; rw [cmp_self] at this; omega
        · exact this
      · have := (h x).2 (by simp [hx])
        simp only [List.mem_cons] at this
        rcases this with rfl | this
        · have := k1 x hx; rw [cmp_self] at this; omega
        · exact this

/-- How many of a bottle are wanted. -/
def numN (l : List Wnt) (b : Bot) : Nat := (l.map fun w => if w.1 = b then w.2.toNat else 0).sum
theorem numN_nil (b : Bot) : numN [] b = 0 := rfl
theorem numN_cons (w : Wnt) (l : List Wnt) (b : Bot) : numN (w :: l) b = (if w.1 = b then w.2.toNat else 0) + numN l b := by simp [numN]
theorem numN_app (l m : List Wnt) (b : Bot) : numN (l ++ m) b = numN l b + numN m b := by simp [numN]
theorem numN_none {l : List Wnt} {b : Bot} (h : ∀ w ∈ l, w.1 ≠ b) : numN l b = 0 := by
  induction l with
  | nil => rfl
  | cons w l ih => rw [numN_cons, if_neg (h w (by simp)), ih (fun x hx => h x (by simp [hx]))]
theorem numN_in {l : List Wnt} (hs : ordS l) {w : Wnt} (hw : w ∈ l) : numN l w.1 = w.2.toNat := by
  induction l with
  | nil => cases hw
  | cons x l ih =>
    obtain ⟨h1, h2⟩ := List.pairwise_cons.1 hs
    rw [numN_cons]
    simp only [List.mem_cons] at hw
    rcases hw with rfl | hw
    · rw [if_pos rfl, numN_none (fun y hy e => by have := h1 y hy; rw [e, cmp_self] at this; omega), Nat.add_zero]
    · rw [if_neg (fun e => by have := h1 w hw; rw [e, cmp_self] at this; omega), ih h2 hw, Nat.zero_add]
theorem numN_pos {l : List Wnt} (hk : ∀ w ∈ l, 1 ≤ w.2) {b : Bot} (h : numN l b ≠ 0) : ∃ w ∈ l, w.1 = b := by
  induction l with
  | nil => exact absurd rfl h
  | cons w l ih =>
    by_cases e : w.1 = b
    · exact ⟨w, by simp, e⟩
    · rw [numN_cons, if_neg e, Nat.zero_add] at h
      obtain ⟨x, hx, hb⟩ := ih (fun x hx => hk x (by simp [hx])) h
      exact ⟨x, by simp [hx], hb⟩
theorem numN_le {l : List Wnt} (hs : ordS l) (hk : okN l) (b : Bot) : numN l b ≤ 144 := by
  by_cases h : numN l b = 0
  · omega
  · obtain ⟨w, hw, rfl⟩ := numN_pos (fun w hw => (hk w hw).1) h
    rw [numN_in hs hw]
    have := (hk w hw).2
    omega

/-- Two orders merged. -/
def mgL : List Wnt → List Wnt → List Wnt
  | [], b => b
  | x :: a, [] => x :: a
  | x :: a, y :: b => if cmpB x.1 y.1 < 0 then x :: mgL a (y :: b) else if 0 < cmpB x.1 y.1 then y :: mgL (x :: a) b else (x.1, x.2 + y.2) :: mgL a b
  termination_by a b => a.length + b.length
theorem mgL_nil (b : List Wnt) : mgL [] b = b := by rw [mgL]
theorem mgL_nil2 (a : List Wnt) : mgL a [] = a := by cases a <;> rw [mgL]
theorem mgL_lt {x y : Wnt} {a b : List Wnt} (h : cmpB x.1 y.1 < 0) : mgL (x :: a) (y :: b) = x :: mgL a (y :: b) := by rw [mgL, if_pos h]
theorem mgL_gt {x y : Wnt} {a b : List Wnt} (h : 0 < cmpB x.1 y.1) : mgL (x :: a) (y :: b) = y :: mgL (x :: a) b := by rw [mgL, if_neg (by omega), if_pos h]
theorem mgL_eq {x y : Wnt} {a b : List Wnt} (h : cmpB x.1 y.1 = 0) : mgL (x :: a) (y :: b) = (x.1, x.2 + y.2) :: mgL a b := by rw [mgL, if_neg (by omega), if_neg (by omega)]
theorem mgL_len : ∀ (a b : List Wnt), (mgL a b).length ≤ a.length + b.length
  | [], b => by rw [mgL_nil]; simp
  | x :: a, [] => by rw [mgL_nil2]; simp
  | x :: a, y :: b => by
    rcases Int.lt_trichotomy (cmpB x.1 y.1) 0 with h | h | h
    · rw [mgL_lt h]; have := mgL_len a (y :: b); simp only [List.length_cons] at this ⊢; omega
    · rw [mgL_eq h]; have := mgL_len a b; simp only [List.length_cons] at this ⊢; omega
    · rw [mgL_gt h]; have := mgL_len (x :: a) b; simp only [List.length_cons] at this ⊢; omega
  termination_by a b => a.length + b.length
/-- What bottles a merged order has. -/
theorem mgL_mem : ∀ (a b : List Wnt) (z : Wnt), z ∈ mgL a b → (∃ x ∈ a, x.1 = z.1) ∨ ∃ y ∈ b, y.1 = z.1
  | [], b, z, h => by rw [mgL_nil] at h; exact .inr ⟨z, h, rfl⟩
  | x :: a, [], z, h => by rw [mgL_nil2] at h; exact .inl ⟨z, h, rfl⟩
  | x :: a, y :: b, z, h => by
    rcases Int.lt_trichotomy (cmpB x.1 y.1) 0 with hc | hc | hc
    · rw [mgL_lt hc] at h
      simp only [List.mem_cons] at h
      rcases h with rfl | h
      · exact .inl ⟨z, by simp, rfl⟩
      · rcases mgL_mem a (y :: b) z h with ⟨q, hq, e⟩ | ⟨q, hq, e⟩
        · exact .inl ⟨q, by simp [hq], e⟩
        · exact .inr ⟨q, hq, e⟩
    · rw [mgL_eq hc] at h
      simp only [List.mem_cons] at h
      rcases h with rfl | h
      · exact .inl ⟨x, by simp, rfl⟩
      · rcases mgL_mem a b z h with ⟨q, hq, e⟩ | ⟨q, hq, e⟩
        · exact .inl ⟨q, by simp [hq], e⟩
        · exact .inr ⟨q, by simp [hq], e⟩
    · rw [mgL_gt hc] at h
      simp only [List.mem_cons] at h
      rcases h with rfl | h
      · exact .inr ⟨z, by simp, rfl⟩
      · rcases mgL_mem (x :: a) b z h with ⟨q, hq, e⟩ | ⟨q, hq, e⟩
        · exact .inl ⟨q, hq, e⟩
        · exact .inr ⟨q, by simp [hq], e⟩
  termination_by a b => a.length + b.length
theorem mgL_ord : ∀ (a b : List Wnt), ordS a → ordS b → ordS (mgL a b)
  | [], b, _, hb => by rw [mgL_nil]; exact hb
  | x :: a, [], ha, _ => by rw [mgL_nil2]; exact ha
  | x :: a, y :: b, ha, hb => by
    obtain ⟨h1, h2⟩ := List.pairwise_cons.1 ha
    obtain ⟨k1, k2⟩ := List.pairwise_cons.1 hb
    rcases Int.lt_trichotomy (cmpB x.1 y.1) 0 with hc | hc | hc
    · rw [mgL_lt hc]
      refine List.pairwise_cons.2 ⟨fun z hz => ?_, mgL_ord a (y :: b) h2 hb⟩
      rcases mgL_mem a (y :: b) z hz with ⟨q, hq, e⟩ | ⟨q, hq, e⟩
      · rw [← e]; exact h1 q hq
      · rw [← e]
        simp only [List.mem_cons] at hq
        rcases hq with rfl | hq
        · exact hc
        · exact cmp_tr hc (k1 q hq)
    · have hxy := cmp_zero hc
      rw [mgL_eq hc]
      refine List.pairwise_cons.2 ⟨fun z hz => ?_, mgL_ord a b h2 k2⟩
      rcases mgL_mem a b z hz with ⟨q, hq, e⟩ | ⟨q, hq, e⟩
      · rw [← e]; exact h1 q hq
      · rw [← e]; show cmpB x.1 q.1 < 0; rw [hxy]; exact k1 q hq
    · rw [mgL_gt hc]
      have hc2 := cmp_pos hc
      refine List.pairwise_cons.2 ⟨fun z hz => ?_, mgL_ord (x :: a) b ha k2⟩
      rcases mgL_mem (x :: a) b z hz with ⟨q, hq, e⟩ | ⟨q, hq, e⟩
      · rw [← e]
        simp only [List.mem_cons] at hq
        rcases hq with rfl | hq
        · exact hc2
        · exact cmp_tr hc2 (h1 q hq)
      · rw [← e]; exact k1 q hq
  termination_by a b => a.length + b.length
theorem mgL_num : ∀ (a b : List Wnt), (∀ w ∈ a, 1 ≤ w.2) → (∀ w ∈ b, 1 ≤ w.2) → (∀ c, numN (mgL a b) c = numN a c + numN b c) ∧ ∀ w ∈ mgL a b, 1 ≤ w.2
  | [], b, _, hb => by rw [mgL_nil]; exact ⟨fun c => by rw [numN_nil, Nat.zero_add], hb⟩
  | x :: a, [], ha, _ => by rw [mgL_nil2]; exact ⟨fun c => by rw [numN_nil, Nat.add_zero], ha⟩
  | x :: a, y :: b, ha, hb => by
    have hx := ha x (by simp)
    have hy := hb y (by simp)
    rcases Int.lt_trichotomy (cmpB x.1 y.1) 0 with hc | hc | hc
    · obtain ⟨h1, h2⟩ := mgL_num a (y :: b) (fun w hw => ha w (by simp [hw])) hb
      rw [mgL_lt hc]
      refine ⟨fun c => by rw [numN_cons, numN_cons x a, h1]; omega, fun w hw => ?_⟩
      simp only [List.mem_cons] at hw
      rcases hw with rfl | hw
      · exact hx
      · exact h2 w hw
    · obtain ⟨h1, h2⟩ := mgL_num a b (fun w hw => ha w (by simp [hw])) (fun w hw => hb w (by simp [hw]))
      have hxy := cmp_zero hc
      rw [mgL_eq hc]
      refine ⟨fun c => ?_, fun w hw => ?_⟩
      · rw [numN_cons, numN_cons x a, numN_cons y b, h1, ← hxy]
        by_cases e : x.1 = c
        · simp only [if_pos e]; omega
        · simp only [if_neg e]; omega
      · simp only [List.mem_cons] at hw
        rcases hw with rfl | hw
        · show 1 ≤ x.2 + y.2; omega
        · exact h2 w hw
    · obtain ⟨h1, h2⟩ := mgL_num (x :: a) b ha (fun w hw => hb w (by simp [hw]))
      rw [mgL_gt hc]
      refine ⟨fun c => by rw [numN_cons, numN_cons y b, h1]; omega, fun w hw => ?_⟩
      simp only [List.mem_cons] at hw
      rcases hw with rfl | hw
      · exact hy
      · exact h2 w hw
  termination_by a b => a.length + b.length
/-- What a list of all bottles with their numbers is when it is sorted. -/
theorem sort_mgL {a b X : List Wnt} (ha : ordS a) (hb : ordS b) (ka : ∀ w ∈ a, 1 ≤ w.2) (kb : ∀ w ∈ b, 1 ≤ w.2) (hn : (X.map fun w => w.1).Nodup) (hx : ∀ w ∈ X, w.2 = (numN (a ++ b) w.1 : Int) ∧ numN (a ++ b) w.1 ≠ 0) (hall : ∀ c, numN (a ++ b) c ≠ 0 → (c, (numN (a ++ b) c : Int)) ∈ X) :
    isL (fun p q => decide (cmpB p.1 q.1 < 0)) X = mgL a b := by
  have hp := isL_perm (fun (p q : Wnt) => decide (cmpB p.1 q.1 < 0)) X
  have hs := isL_srt (lt := fun (p q : Wnt) => decide (cmpB p.1 q.1 < 0)) (fun p q h => by
      simp only [decide_eq_true_eq] at h
      exact decide_eq_false (by have := cmp_neg h; omega)) (fun p q r h k => by
      simp only [decide_eq_false_iff_not] at h k ⊢
      intro hrp
      rcases Int.lt_trichotomy (cmpB q.1 p.1) 0 with h1 | h1 | h1
      · exact h h1
      · have := cmp_zero h1; rw [this] at k; exact k hrp
      · have h2 := cmp_pos h1
        exact k (cmp_tr hrp h2)) X
  have hn2 : ((isL (fun (p q : Wnt) => decide (cmpB p.1 q.1 < 0)) X).map fun w => w.1).Nodup := (hp.map _).nodup_iff.2 hn
  have hS : ordS (isL (fun (p q : Wnt) => decide (cmpB p.1 q.1 < 0)) X) := by
    unfold ordS
    have hn3 := List.pairwise_map.1 (List.nodup_iff_pairwise_ne.1 hn2)
    refine (hs.and hn3).imp ?_
    rintro p q ⟨h1, h2⟩
    simp only [decide_eq_false_iff_not] at h1
    rcases Int.lt_trichotomy (cmpB p.1 q.1) 0 with h3 | h3 | h3
    · exact h3
    · exact absurd (cmp_zero h3) h2
    · exact absurd (cmp_pos h3) h1
  obtain ⟨m1, m2⟩ := mgL_num a b ka kb
  have hM := mgL_ord a b ha hb
  refine ordS_eq hS hM fun z => ?_
  rw [hp.mem_iff]
  constructor
  · intro hz
    obtain ⟨h1, h2⟩ := hx z hz
    have h3 : numN (mgL a b) z.1 ≠ 0 := by rw [m1, ← numN_app]; exact h2
    obtain ⟨w, hw, e⟩ := numN_pos m2 h3
    have h4 := numN_in hM hw
    have h5 := m2 w hw
    rw [m1, ← numN_app, e] at h4
    have : w = z := Prod.ext e (by rw [h1, h4]; omega)
    rw [← this]; exact hw
  · intro hz
    have h4 := numN_in hM hz
    have h5 := m2 z hz
    rw [m1, ← numN_app] at h4
    have h6 := hall z.1 (by rw [h4]; omega)
    rw [h4] at h6
    have : (z.1, ((z.2.toNat : Nat) : Int)) = z := Prod.ext rfl (by show ((z.2.toNat : Nat) : Int) = z.2; omega)
    rw [this] at h6
    exact h6
theorem ordOk_ordS {l : List Wnt} (h : ordOk l = true) : ordS l := by
  simp only [ordOk, Bool.and_eq_true, List.all_eq_true, List.mem_range] at h
  have step : ∀ k x y, l[k]? = some x → l[k + 1]? = some y → cmpB x.1 y.1 < 0 := fun k x y hx hy => by
    have h1 := h.1 (k + 1) (List.getElem?_eq_some_iff.1 hy).1
    simp only [okAt, hy, Bool.and_eq_true, upAt, hx, decide_eq_true_eq] at h1
    exact h1.2
  clear h
  unfold ordS
  induction l with
  | nil => exact List.Pairwise.nil
  | cons a l ih =>
    have h2 := ih (fun k x y hx hy => step (k + 1) x y (by simpa using hx) (by simpa using hy))
    refine List.pairwise_cons.2 ⟨fun z hz => ?_, h2⟩
    cases l with
    | nil => cases hz
    | cons b l =>
      have h3 := step 0 a b rfl rfl
      simp only [List.mem_cons] at hz
      rcases hz with rfl | hz
      · exact h3
      · exact cmp_tr h3 ((List.pairwise_cons.1 h2).1 z hz)
/-- What JoinOrders comes to. -/
def joK (a b : List Wnt) : Bool := ordOk a && ordOk b
def joC (a b : List Wnt) : Int := if joK a b = true then (if ordOk (mgL a b) = true then 0 else 3) else 1
def joL (a b : List Wnt) : List Wnt := if joK a b = true then (if ordOk (mgL a b) = true then mgL a b else []) else []
theorem jo_bad {a b : List Wnt} (h : joK a b = false) : joL a b = [] ∧ joC a b = 1 := by simp [joL, joC, h]
theorem jo_much {a b : List Wnt} (h : joK a b = true) (h2 : ordOk (mgL a b) = false) : joL a b = [] ∧ joC a b = 3 := by simp [joL, joC, h, h2]
theorem jo_ok {a b : List Wnt} (h : joK a b = true) (h2 : ordOk (mgL a b) = true) : joL a b = mgL a b ∧ joC a b = 0 := by simp [joL, joC, h, h2]
theorem joL_len (a b : List Wnt) : (joL a b).length ≤ 8 := by
  unfold joL
  split
  · split
    · rename_i h; exact ordOk_L h
    · simp
  · simp
theorem mgL_wf : ∀ (a b : List Wnt), (∀ w ∈ a, wfW w) → (∀ w ∈ b, wfW w) → (∀ w ∈ a, 1 ≤ w.2 ∧ w.2 ≤ 144) → (∀ w ∈ b, 1 ≤ w.2 ∧ w.2 ≤ 144) → ∀ w ∈ mgL a b, wfW w
  | [], b, _, hb, _, _ => by rw [mgL_nil]; exact hb
  | x :: a, [], ha, _, _, _ => by rw [mgL_nil2]; exact ha
  | x :: a, y :: b, ha, hb, ka, kb => by
    have hx := ha x (by simp)
    have hy := hb y (by simp)
    have qx := ka x (by simp)
    have qy := kb y (by simp)
    intro w hw
    rcases Int.lt_trichotomy (cmpB x.1 y.1) 0 with hc | hc | hc
    · rw [mgL_lt hc] at hw
      simp only [List.mem_cons] at hw
      rcases hw with rfl | hw
      · exact hx
      · exact mgL_wf a (y :: b) (fun w hw => ha w (by simp [hw])) hb (fun w hw => ka w (by simp [hw])) kb w hw
    · rw [mgL_eq hc] at hw
      simp only [List.mem_cons] at hw
      rcases hw with rfl | hw
      · exact ⟨hx.1, by show -32768 ≤ x.2 + y.2; omega, by show x.2 + y.2 ≤ 32767; omega⟩
      · exact mgL_wf a b (fun w hw => ha w (by simp [hw])) (fun w hw => hb w (by simp [hw])) (fun w hw => ka w (by simp [hw])) (fun w hw => kb w (by simp [hw])) w hw
    · rw [mgL_gt hc] at hw
      simp only [List.mem_cons] at hw
      rcases hw with rfl | hw
      · exact hy
      · exact mgL_wf (x :: a) b ha (fun w hw => hb w (by simp [hw])) ka (fun w hw => kb w (by simp [hw])) w hw
  termination_by a b => a.length + b.length
end Go.Proofs.YtcdhmlalpjcidaaDoor
