/-
  What taking the oldest ones comes to: one by one. No program's contract here.
-/
import Derived.Test.YtmfdgpinohbckaaDoorMg16
import Derived.Test.YtmfdgpinohbckaaDoorKc7
namespace Go.Proofs.YtmfdgpinohbckaaDoor
open Go.ChangeShapes Go.WideShapes Go.ChangeAt Go.RowKit Go.Deep

/-- Taking the one that is chosen out of its lane: the rack, the one, the moves; or the code. -/
def tkT (s : Int) (xss : List (List Wnt)) (b : Bot) : Except Nat (List (List Wnt) × Wnt × Nat) := match chT b.1 b.2 s xss with
  | none => .error 4
  | some c => match rcS xss c.2.1 (xss.getD c.2.1 []) ((xss.getD c.2.1 []).length - 1 - c.2.2) with
    | none => .error 1
    | some r => .ok (r.set c.2.1 ((xss.getD c.2.1 []).take c.2.2), c.1, (xss.getD c.2.1 []).length - 1 - c.2.2)
/-- Taking several, in their order. -/
def teN (s : Int) (T : Except Nat (List (List Wnt) × List Wnt × Nat)) (b : Bot) : Except Nat (List (List Wnt) × List Wnt × Nat) := match T with
  | .error e => .error e
  | .ok p => match tkT s p.1 b with
    | .error e => .error e
    | .ok q => .ok (q.1, p.2.1 ++ [q.2.1], p.2.2 + q.2.2)
def teS (s : Int) (xss : List (List Wnt)) (bs : List Bot) : Nat → Except Nat (List (List Wnt) × List Wnt × Nat)
  | 0 => .ok (xss, [], 0)
  | k + 1 => teN s (teS s xss bs k) (bs.getD k (0, 0))
theorem chT_in {k y s : Int} {xss : List (List Wnt)} {c : Core} (h : chT k y s xss = some c) : ∃ xs, xss[c.2.1]? = some xs ∧ xs[c.2.2]? = some c.1 := by
  unfold chT at h
  split at h
  · cases h
  · obtain ⟨h1, h2⟩ := fmL_in h
    exact (coT_mem (Nat.le_refl _) h1).2
theorem tkT_no {s : Int} {xss : List (List Wnt)} {b : Bot} (h : chT b.1 b.2 s xss = none) : tkT s xss b = .error 4 := by rw [tkT, h]
theorem tkT_limit {s : Int} {xss : List (List Wnt)} {b : Bot} {c : Core} {xs : List Wnt} (h : chT b.1 b.2 s xss = some c) (hx : xss[c.2.1]? = some xs) (hr : rcS xss c.2.1 xs (xs.length - 1 - c.2.2) = none) : tkT s xss b = .error 1 := by
  have e : xss.getD c.2.1 [] = xs := by simp [hx]
  rw [tkT, h]; simp only [e, hr]
theorem tkT_yes {s : Int} {xss r : List (List Wnt)} {b : Bot} {c : Core} {xs : List Wnt} (h : chT b.1 b.2 s xss = some c) (hx : xss[c.2.1]? = some xs) (hr : rcS xss c.2.1 xs (xs.length - 1 - c.2.2) = some r) : tkT s xss b = .ok (r.set c.2.1 (xs.take c.2.2), c.1, xs.length - 1 - c.2.2) := by
  have e : xss.getD c.2.1 [] = xs := by simp [hx]
  rw [tkT, h]; simp only [e, hr]
theorem teS_err {s : Int} {xss : List (List Wnt)} {bs : List Bot} {k n : Nat} (h : teS s xss bs k = .error n) : ∀ m, teS s xss bs (k + m) = .error n
  | 0 => h
  | m + 1 => by
    have := teS_err h m
    show teS s xss bs (k + m + 1) = _
    rw [teS, this]; rfl
theorem teS_stop {s : Int} {xss r : List (List Wnt)} {bs : List Bot} {b : Bot} {k n m : Nat} {ts : List Wnt} {q : Nat} (hb : bs[k]? = some b) (h : teS s xss bs k = .ok (r, ts, q)) (ht : tkT s r b = .error n) (hm : k < m) : teS s xss bs m = .error n := by
  have e : teS s xss bs (k + 1) = .error n := by rw [teS, h, show bs.getD k (0, 0) = b from by simp [hb]]; simp only [teN, ht]
  have := teS_err e (m - (k + 1))
  rwa [show k + 1 + (m - (k + 1)) = m from by omega] at this
theorem teS_step {s : Int} {xss r r2 : List (List Wnt)} {bs : List Bot} {b : Bot} {k : Nat} {ts : List Wnt} {q : Nat} {x : Wnt} {n : Nat} (hb : bs[k]? = some b) (h : teS s xss bs k = .ok (r, ts, q)) (ht : tkT s r b = .ok (r2, x, n)) : teS s xss bs (k + 1) = .ok (r2, ts ++ [x], q + n) := by
  rw [teS, h, show bs.getD k (0, 0) = b from by simp [hb]]; simp only [teN, ht]
/-- What a rack keeps while things are taken. -/
def rkB (n : Nat) (r : List (List Wnt)) : Prop := r.length = n ∧ (∀ zs ∈ r, zs.length ≤ 6) ∧ (∀ zs ∈ r, ∀ z ∈ zs, wfW z) ∧ ∀ zs ∈ r, ∀ z ∈ zs, z.2 ≤ 2000
theorem rcS_day {xss : List (List Wnt)} {l : Nat} {xs : List Wnt} (hl : xss[l]? = some xs) (hd : ∀ xs ∈ xss, ∀ x ∈ xs, x.2 ≤ 2000) : ∀ (k : Nat), k ≤ xs.length → ∀ r, rcS xss l xs k = some r → ∀ zs ∈ r, ∀ z ∈ zs, z.2 ≤ 2000
  | 0, _, r, h => by
    obtain rfl : xss = r := Option.some.inj h
    exact hd
  | k + 1, hk, r, h => by
    cases hS : rcS xss l xs k with
    | none => have := rcS_no hS 1; rw [h] at this; cases this
    | some r0 =>
      have ih := rcS_day hl hd k (by omega) r0 hS
      cases hT : rmT r0 l r0.length with
      | none => have := rcS_stop hS hT (Nat.lt_succ_self k); rw [h] at this; cases this
      | some t =>
        obtain ⟨-, htl, zs, hz, hz6⟩ := rm_ok _ (Nat.le_refl _) t hT
        have hxj : xs[xs.length - 1 - k]? = some (xs[xs.length - 1 - k]'(by omega)) := List.getElem?_eq_getElem (by omega)
        rw [rcS_step hS hT hz hxj] at h
        obtain rfl := Option.some.inj h
        have hwx := hd xs (List.mem_of_getElem? hl)
        intro u hu z hzu
        rcases List.mem_or_eq_of_mem_set hu with h | rfl
        · rcases List.mem_or_eq_of_mem_set h with h | rfl
          · exact ih u h z hzu
          · rcases List.mem_append.1 hzu with h | h
            · exact ih zs (List.mem_of_getElem? hz) z h
            · obtain rfl : z = _ := by simpa using h
              exact hwx _ (List.getElem_mem _)
        · exact hwx z (List.mem_of_mem_take hzu)
theorem tkT_ok {s : Int} {n : Nat} {xss r : List (List Wnt)} {b : Bot} {x : Wnt} {m : Nat} (hB : rkB n xss) (h : tkT s xss b = .ok (r, x, m)) : rkB n r ∧ wfW x ∧ x.2 ≤ 2000 ∧ m ≤ 5 := by
  obtain ⟨b1, b2, b3, b4⟩ := hB
  cases hc : chT b.1 b.2 s xss with
  | none => rw [tkT_no hc] at h; cases h
  | some c =>
    obtain ⟨xs, hx, hi⟩ := chT_in hc
    cases hr : rcS xss c.2.1 xs (xs.length - 1 - c.2.2) with
    | none => rw [tkT_limit hc hx hr] at h; cases h
    | some r0 =>
      rw [tkT_yes hc hx hr] at h
      simp only [Except.ok.injEq, Prod.mk.injEq] at h
      obtain ⟨rfl, rfl, rfl⟩ := h
      obtain ⟨o1, o2, o3, o4⟩ := rcS_ok hx b2 b3 _ (by omega) r0 hr
      have o5 := rcS_day hx b4 _ (by omega) r0 hr
      have hm := List.mem_of_getElem? hx
      have hx6 := b2 xs hm
      refine ⟨⟨by simp [o1, b1], fun u hu => ?_, fun u hu z hz => ?_, fun u hu z hz => ?_⟩, b3 xs hm _ (List.mem_of_getElem? hi), b4 xs hm _ (List.mem_of_getElem? hi), by omega⟩
      · rcases List.mem_or_eq_of_mem_set hu with h | rfl
        · exact o3 u h
        · rw [List.length_take]; omega
      · rcases List.mem_or_eq_of_mem_set hu with h | rfl
        · exact o4 u h z hz
        · exact b3 xs hm z (List.mem_of_mem_take hz)
      · rcases List.mem_or_eq_of_mem_set hu with h | rfl
        · exact o5 u h z hz
        · exact b4 xs hm z (List.mem_of_mem_take hz)
theorem teS_ok {s : Int} {n : Nat} {xss : List (List Wnt)} {bs : List Bot} (hB : rkB n xss) : ∀ (k : Nat), k ≤ bs.length → ∀ r ts q, teS s xss bs k = .ok (r, ts, q) → rkB n r ∧ ts.length = k ∧ (∀ x ∈ ts, wfW x) ∧ q ≤ k * 5
  | 0, _, r, ts, q, h => by
    simp only [teS, Except.ok.injEq, Prod.mk.injEq] at h
    obtain ⟨rfl, rfl, rfl⟩ := h
    exact ⟨hB, rfl, by simp, by omega⟩
  | k + 1, hk, r, ts, q, h => by
    obtain ⟨b, hb⟩ : ∃ x, bs[k]? = some x := ⟨_, List.getElem?_eq_getElem (by omega)⟩
    cases hS : teS s xss bs k with
    | error e => have := teS_err hS 1; rw [h] at this; cases this
    | ok p =>
      obtain ⟨r0, ts0, q0⟩ := p
      obtain ⟨i1, i2, i3, i4⟩ := teS_ok hB k (by omega) r0 ts0 q0 hS
      cases ht : tkT s r0 b with
      | error e => have := teS_stop hb hS ht (Nat.lt_succ_self k); rw [h] at this; cases this
      | ok t =>
        obtain ⟨r1, x, m⟩ := t
        rw [teS_step hb hS ht] at h
        simp only [Except.ok.injEq, Prod.mk.injEq] at h
        obtain ⟨rfl, rfl, rfl⟩ := h
        obtain ⟨j1, j2, j3, j4⟩ := tkT_ok i1 ht
        refine ⟨j1, by simp [i2], fun u hu => ?_, by rw [Nat.succ_mul]; omega⟩
        rcases List.mem_append.1 hu with h | h
        · exact i3 u h
        · obtain rfl : u = x := by simpa using h
          exact j2

end Go.Proofs.YtmfdgpinohbckaaDoor
