/-
  reach: what moving the ones ahead of one comes to, and the program's contract. Condition: a rack of one's own, at most eight of at most six; the sentinel errors lie as the row lists them.
-/
import Derived.Test.YtmfdgpinohbckaaDoorKo2
import Derived.Test.YtmfdgpinohbckaaDoorTf0
import Derived.ScopeJumps
namespace Go.Proofs.YtmfdgpinohbckaaDoor
open Go.ChangeShapes Go.WideShapes Go.ChangeAt Go.RowKit Go.Deep

theorem rm_ne {r : List (List Wnt)} {l : Nat} : ∀ (k b : Nat), rmT r l k = some b → b ≠ l
  | 0, b, h => by cases h
  | k + 1, b, h => by
    simp only [rmT] at h
    unfold rmN at h
    split at h
    · exact rm_ne k b h
    · rename_i hn
      split at h
      · obtain rfl := Option.some.inj h; exact fun e => hn (.inl e)
      · rename_i b0 hb
        split at h
        · obtain rfl := Option.some.inj h; exact fun e => hn (.inl e)
        · obtain rfl := Option.some.inj h; exact rm_ne k _ hb
theorem rm_set {r : List (List Wnt)} {l : Nat} {ys : List Wnt} : ∀ k, rmT (r.set l ys) l k = rmT r l k
  | 0 => rfl
  | k + 1 => by
    have ih := rm_set (r := r) (l := l) (ys := ys) k
    simp only [rmT]
    rw [ih]
    unfold rmN
    by_cases hk : k = l
    · rw [if_pos (.inl hk), if_pos (.inl hk)]
    · have g : (r.set l ys).getD k [] = r.getD k [] := by simp only [List.getD_eq_getElem?_getD]; rw [List.getElem?_set_ne (fun e => hk e.symm)]
      rw [g]
      cases hT : rmT r l k with
      | none => rfl
      | some b =>
        have hb := rm_ne k b hT
        have g2 : (r.set l ys).getD b [] = r.getD b [] := by simp only [List.getD_eq_getElem?_getD]; rw [List.getElem?_set_ne (fun e => hb e.symm)]
        simp only [g2]
/-- The rack when so many have been moved out of the lane l, that was xs. -/
def rcS (xss : List (List Wnt)) (l : Nat) (xs : List Wnt) : Nat → Option (List (List Wnt))
  | 0 => some xss
  | k + 1 => match rcS xss l xs k with
    | none => none
    | some r => match rmT r l r.length with
      | none => none
      | some t => some ((r.set t (r.getD t [] ++ [xs.getD (xs.length - 1 - k) ((0, 0), 0)])).set l (xs.take (xs.length - 1 - k)))
theorem rcS_no {xss : List (List Wnt)} {l : Nat} {xs : List Wnt} {k : Nat} (h : rcS xss l xs k = none) : ∀ m, rcS xss l xs (k + m) = none
  | 0 => h
  | m + 1 => by
    have := rcS_no h m
    show rcS xss l xs (k + m + 1) = none
    rw [rcS, this]
theorem rcS_stop {xss : List (List Wnt)} {l : Nat} {xs : List Wnt} {k m : Nat} {r : List (List Wnt)} (h : rcS xss l xs k = some r) (hT : rmT r l r.length = none) (hm : k < m) : rcS xss l xs m = none := by
  have e : rcS xss l xs (k + 1) = none := by rw [rcS, h]; simp only [hT]
  have := rcS_no e (m - (k + 1))
  rwa [show k + 1 + (m - (k + 1)) = m from by omega] at this
theorem rcS_step {xss : List (List Wnt)} {l t : Nat} {xs zs : List Wnt} {k : Nat} {r : List (List Wnt)} {x : Wnt} (h : rcS xss l xs k = some r) (hT : rmT r l r.length = some t) (hz : r[t]? = some zs) (hx : xs[xs.length - 1 - k]? = some x) : rcS xss l xs (k + 1) = some ((r.set t (zs ++ [x])).set l (xs.take (xs.length - 1 - k))) := by
  have e1 : r.getD t [] = zs := by simp [hz]
  have e2 : xs.getD (xs.length - 1 - k) ((0, 0), 0) = x := by simp [hx]
  rw [rcS, h]; simp only [hT, e1, e2]
theorem rcS_ok {xss : List (List Wnt)} {l : Nat} {xs : List Wnt} (hl : xss[l]? = some xs) (h6 : ∀ xs ∈ xss, xs.length ≤ 6) (hwf : ∀ xs ∈ xss, ∀ x ∈ xs, wfW x) : ∀ (k : Nat), k ≤ xs.length → ∀ r, rcS xss l xs k = some r → r.length = xss.length ∧ r[l]? = some (xs.take (xs.length - k)) ∧ (∀ zs ∈ r, zs.length ≤ 6) ∧ ∀ zs ∈ r, ∀ z ∈ zs, wfW z
  | 0, _, r, h => by
    obtain rfl : xss = r := Option.some.inj h
    exact ⟨rfl, by simpa using hl, h6, hwf⟩
  | k + 1, hk, r, h => by
    cases hS : rcS xss l xs k with
    | none => have := rcS_no hS 1; rw [h] at this; cases this
    | some r0 =>
      obtain ⟨i1, i2, i3, i4⟩ := rcS_ok hl h6 hwf k (by omega) r0 hS
      cases hT : rmT r0 l r0.length with
      | none => have := rcS_stop hS hT (Nat.lt_succ_self k); rw [h] at this; cases this
      | some t =>
        obtain ⟨-, htl, zs, hz, hz6⟩ := rm_ok _ (Nat.le_refl _) t hT
        have hxj : xs[xs.length - 1 - k]? = some (xs[xs.length - 1 - k]'(by omega)) := List.getElem?_eq_getElem (by omega)
        rw [rcS_step hS hT hz hxj] at h
        obtain rfl := Option.some.inj h
        have hll := (List.getElem?_eq_some_iff.1 i2).1
        have hwx := hwf xs (List.mem_of_getElem? hl)
        have hl6 := h6 xs (List.mem_of_getElem? hl)
        refine ⟨by simp [i1], ?_, fun u hu => ?_, fun u hu z hzu => ?_⟩
        · rw [List.getElem?_set_self (by simpa using hll)]
          rw [show xs.length - 1 - k = xs.length - (k + 1) from by omega]
        · rcases List.mem_or_eq_of_mem_set hu with h | rfl
          · rcases List.mem_or_eq_of_mem_set h with h | rfl
            · exact i3 u h
            · simp; omega
          · rw [List.length_take]; omega
        · rcases List.mem_or_eq_of_mem_set hu with h | rfl
          · rcases List.mem_or_eq_of_mem_set h with h | rfl
            · exact i4 u h z hzu
            · rcases List.mem_append.1 hzu with h | h
              · exact i4 zs (List.mem_of_getElem? hz) z h
              · obtain rfl : z = _ := by simpa using h
                exact hwx _ (List.getElem_mem _)
          · exact hwx z (List.mem_of_mem_take hzu)
/-- Room is asked of the rack without the one that is taken. -/
theorem rcS_next {r : List (List Wnt)} {l t : Nat} {ys zs : List Wnt} {x : Wnt} (htl : t ≠ l) : (r.set l ys).set t (zs ++ [x]) = (r.set t (zs ++ [x])).set l ys := List.set_comm _ _ (fun e => htl e.symm)

def rcV (xss : List (List Wnt)) (l : Nat) (xs : List Wnt) (i : Nat) : Wnt := match rcS xss l xs (xs.length - 1 - i) with
  | none => ((0, 0), 0)
  | some _ => xs.getD i ((0, 0), 0)
def rcM (xss : List (List Wnt)) (l : Nat) (xs : List Wnt) (i : Nat) : Nat := match rcS xss l xs (xs.length - 1 - i) with
  | none => 0
  | some _ => xs.length - 1 - i
def rcE (ad : Nat → Addr) (xss : List (List Wnt)) (l : Nat) (xs : List Wnt) (i : Nat) : Value := match rcS xss l xs (xs.length - 1 - i) with
  | none => .iface 165 (.pointer (some (ad 1)))
  | some _ => .nilIface
theorem rc_no {xss : List (List Wnt)} {l : Nat} {xs : List Wnt} {i : Nat} (h : rcS xss l xs (xs.length - 1 - i) = none) (ad : Nat → Addr) : rcV xss l xs i = ((0, 0), 0) ∧ rcM xss l xs i = 0 ∧ rcE ad xss l xs i = .iface 165 (.pointer (some (ad 1))) := by
  refine ⟨by rw [rcV, h], by rw [rcM, h], by rw [rcE, h]⟩
theorem rc_yes {xss r : List (List Wnt)} {l : Nat} {xs : List Wnt} {i : Nat} {x : Wnt} (h : rcS xss l xs (xs.length - 1 - i) = some r) (hx : xs[i]? = some x) (ad : Nat → Addr) : rcV xss l xs i = x ∧ rcM xss l xs i = xs.length - 1 - i ∧ rcE ad xss l xs i = .nilIface := by
  refine ⟨by rw [rcV, h]; simp [hx], by rw [rcM, h], by rw [rcE, h]⟩

end Go.Proofs.YtmfdgpinohbckaaDoor
