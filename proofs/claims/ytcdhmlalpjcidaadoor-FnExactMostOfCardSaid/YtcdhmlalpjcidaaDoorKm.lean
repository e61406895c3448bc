/-
  Bottles counted by maps: what stands in the maps between two rounds. No program in it.
-/
import Derived.Test.YtcdhmlalpjcidaaDoorKy
import Derived.Test.YtcdhmlalpjcidaaDoorAo
namespace Go.Proofs.YtcdhmlalpjcidaaDoor
open Go.ChangeShapes Go.WideShapes Go.ChangeAt Go.RowKit Go.Deep

def i64L (n : Nat) : DataW Unit := .lit (.int .i64 (n : Int))
/-- A map reads as the numbers f, and holds nothing where f is 0. -/
def Holds (D : DataW Unit) {α : Type} (ok : α → Prop) (key : α → Lit) (f : α → Nat) : Prop := ∀ x, ok x → ∀ zd, D.atKey (key x) zd = if f x = 0 then zd else i64L (f x)
theorem Holds.empty {α : Type} (ok : α → Prop) (key : α → Lit) : Holds (.map []) ok key (fun _ => 0) := fun _ _ _ => rfl
theorem Holds.look {D : DataW Unit} {α : Type} {ok : α → Prop} {key : α → Lit} {f : α → Nat} (h : Holds D ok key f) {x : α} (hx : ok x) {c : Int} (hc : D.atKey (key x) (.lit (.int .i64 0)) = .lit (.int .i64 c)) : c = f x := by
  have := h x hx (.lit (.int .i64 0))
  rw [hc] at this
  by_cases h0 : f x = 0
  · rw [if_pos h0] at this
    simp only [DataW.lit.injEq, Lit.int.injEq, true_and] at this
    rw [this, h0]; rfl
  · rw [if_neg h0] at this
    simp only [i64L, DataW.lit.injEq, Lit.int.injEq, true_and] at this
    exact this
theorem Holds.put {D : DataW Unit} {α : Type} {ok : α → Prop} {key : α → Lit} {f g : α → Nat} (h : Holds D ok key f) (hm : Maps.IsMap D) (hinj : ∀ x y, ok x → ok y → key x = key y → x = y) {x : α} (hx : ok x) (hk : WideAt.IsKeyLit (key x)) {n : Nat} (hn : n ≠ 0)
    (hg : g x = n) (ho : ∀ y, y ≠ x → g y = f y) : Holds (D.put (key x) (.lit (.int .i64 (n : Int)))) ok key g := by
  intro y hy zd
  by_cases e : y = x
  · subst e
    rw [Maps.atKey_put_same hm hk, hg, if_neg hn]; rfl
  · rw [Maps.atKey_put_other (fun h' => e (hinj _ _ hy hx h')), ho y e]
    exact h y hy zd
theorem Holds.has {D : DataW Unit} {α : Type} {ok : α → Prop} {key : α → Lit} {f : α → Nat} (h : Holds D ok key f) {x : α} (hx : ok x) (h0 : f x ≠ 0) : Maps.has D (key x) = true :=
  Maps.has_true_of_atKey (y := i64L (f x)) (fun z => by rw [h x hx z, if_neg h0])
theorem Holds.congr {D : DataW Unit} {α : Type} {ok : α → Prop} {key : α → Lit} {f g : α → Nat} (h : Holds D ok key f) (e : ∀ x, ok x → f x = g x) : Holds D ok key g := fun x hx zd => by rw [h x hx zd, e x hx]

/-- How often a crate is in a list of crates. -/
def cntX (ys : List Crt) (X : Crt) : Nat := (ys.filter fun y => decide (y = X)).length
/-- How often a bottle is in a crate. -/
def mult (X : Crt) (b : Bot) : Nat := ((allB X.1 12).filter fun y => decide (y = b)).length
theorem mult_le (X : Crt) (b : Bot) : mult X b ≤ 12 := Nat.le_trans (List.length_filter_le _ _) (allB_length _ _)
theorem cntX_snoc (ys : List Crt) (x X : Crt) : cntX (ys ++ [x]) X = cntX ys X + (if x = X then 1 else 0) := by
  unfold cntX
  by_cases h : x = X <;> simp [h]
theorem cntX_le (ys : List Crt) (X : Crt) : cntX ys X ≤ ys.length := List.length_filter_le _ _
theorem cntX_pos {ys : List Crt} {X : Crt} (h : X ∈ ys) : cntX ys X ≠ 0 := by
  unfold cntX
  intro h0
  have := List.eq_nil_of_length_eq_zero h0
  rw [List.filter_eq_nil_iff] at this
  exact this X h (by simp)
theorem cntX_take {ys : List Crt} {k : Nat} {x : Crt} (h : ys[k]? = some x) (X : Crt) : cntX (ys.take (k + 1)) X = cntX (ys.take k) X + (if x = X then 1 else 0) := by
  obtain ⟨hlt, he⟩ := List.getElem?_eq_some_iff.1 h
  rw [List.take_succ_eq_append_getElem hlt, he, cntX_snoc]
/-- The bottles of the crates that have been struck. -/
def tot (ys : List Crt) (left : Lit → Bool) (b : Bot) : Nat := (ys.map fun x => if left (kC x.1) = true then 0 else mult x b).sum
theorem tot_le (ys : List Crt) (left : Lit → Bool) (b : Bot) : tot ys left b ≤ 12 * ys.length := by
  induction ys with
  | nil => simp [tot]
  | cons x ys ih =>
    have : (if left (kC x.1) = true then 0 else mult x b) ≤ 12 := by
      split
      · omega
      · exact mult_le x b
    simp only [tot, List.map_cons, List.sum_cons, List.length_cons] at ih ⊢
    omega
theorem tot_all {ys : List Crt} {left : Lit → Bool} (h : ∀ x ∈ ys, left (kC x.1) = true) (b : Bot) : tot ys left b = 0 := by
  induction ys with
  | nil => rfl
  | cons x ys ih =>
    have := ih (fun y hy => h y (List.mem_cons_of_mem _ hy))
    simp only [tot, List.map_cons, List.sum_cons, h x (List.mem_cons_self ..), if_true] at this ⊢
    omega
theorem tot_congr {ys : List Crt} {left left' : Lit → Bool} (h : ∀ x ∈ ys, left (kC x.1) = left' (kC x.1)) (b : Bot) : tot ys left b = tot ys left' b := by
  unfold tot
  congr 1
  exact List.map_congr_left fun x hx => by rw [h x hx]
theorem tot_strike (ys : List Crt) (left : Lit → Bool) (X : Crt) (hX : left (kC X.1) = true) (b : Bot) :
    tot ys (fun z => left z && !z.sameKey (kC X.1)) b = tot ys left b + cntX ys X * mult X b := by
  have hsame : (kC X.1).sameKey (kC X.1) = true := by simp [kC, Lit.sameKey]
  induction ys with
  | nil => simp [tot, cntX]
  | cons x ys ih =>
    have e1 : tot (x :: ys) (fun z => left z && !z.sameKey (kC X.1)) b = (if (left (kC x.1) && !(kC x.1).sameKey (kC X.1)) = true then 0 else mult x b) + tot ys (fun z => left z && !z.sameKey (kC X.1)) b := rfl
    have e2 : tot (x :: ys) left b = (if left (kC x.1) = true then 0 else mult x b) + tot ys left b := rfl
    rw [e1, e2, ih]
    by_cases e : x = X
    · subst e
      have : cntX (x :: ys) x = cntX ys x + 1 := by simp [cntX]
      rw [this, hX, hsame, Nat.succ_mul]
      simp; omega
    · have hne : (kC x.1).sameKey (kC X.1) = false := by
        cases h : (kC x.1).sameKey (kC X.1)
        · rfl
        · have : kC x.1 = kC X.1 := WideAt.sameKey_eq h
          exact absurd (Subtype.ext (kC_inj x.2 X.2 this)) e
      have : cntX (x :: ys) X = cntX ys X := by simp [cntX, e]
      rw [this, hne]
      simp; omega
/-- How often a bottle is in crates. -/
def cntAll (ys : List Crt) (b : Bot) : Nat := (ys.map fun x => mult x b).sum
theorem tot_none {ys : List Crt} {left : Lit → Bool} (h : ∀ l, left l = false) (b : Bot) : tot ys left b = cntAll ys b := by
  unfold tot cntAll
  congr 1
  exact List.map_congr_left fun x _ => by rw [h]; simp
theorem cntAll_le (ys : List Crt) (b : Bot) : cntAll ys b ≤ 12 * ys.length := by
  rw [← tot_none (left := fun _ => false) (fun _ => rfl)]; exact tot_le _ _ _
/-- How often a bottle is among the first m. -/
def cntT (Y : List Bot) (m : Nat) (b : Bot) : Nat := ((Y.take m).filter fun y => decide (y = b)).length
theorem cntT_le (Y : List Bot) (m : Nat) (b : Bot) : cntT Y m b ≤ m := Nat.le_trans (List.length_filter_le _ _) (by rw [List.length_take]; omega)
theorem cntT_succ {Y : List Bot} {m : Nat} {y : Bot} (h : Y[m]? = some y) (b : Bot) : cntT Y (m + 1) b = cntT Y m b + (if y = b then 1 else 0) := by
  obtain ⟨hlt, he⟩ := List.getElem?_eq_some_iff.1 h
  rw [cntT, cntT, List.take_succ_eq_append_getElem hlt, he, List.filter_append]
  by_cases e : y = b <;> simp [e]
theorem cntT_all (X : Crt) (b : Bot) : cntT (allB X.1 12) (allB X.1 12).length b = mult X b := by rw [cntT, mult, List.take_length]
theorem allB_wf {X : List Bot} (h : WfC X) : ∀ b ∈ allB X 12, wfB b := by
  intro b hb
  simp only [allB, List.mem_map] at hb
  obtain ⟨j, hj, rfl⟩ := hb
  have hj12 := usedN_lt j hj
  have : j < X.length := by rw [h.1]; exact hj12
  simp only [List.getD_eq_getElem?_getD, List.getElem?_eq_getElem this, Option.getD_some]
  exact h.2 _ (List.getElem_mem this)
theorem size_ownsMap {P : Program} {k : TypeId} {R : Value → Option (DataW Unit × List MemPlace)} {w : World} {b n : Nat} {D : DataW Unit} (h : w.ownsMap P k R b n D) : Maps.size D ≤ n ∧ Maps.IsMap D := by
  obtain ⟨es, clock, hb, F, hs, rfl⟩ := h
  refine ⟨?_, ⟨_, rfl⟩⟩
  rw [Maps.size_eq, length_sorted]
  simpa using hs
end Go.Proofs.YtcdhmlalpjcidaaDoor
