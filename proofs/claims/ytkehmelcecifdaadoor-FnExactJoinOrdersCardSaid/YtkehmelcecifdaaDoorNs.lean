/-
  Lists of lists: each one read in its own place. No condition of its own.
-/
import Derived.Test.YtkehmelcecifdaaDoorMg3
import Derived.Test.YtkehmelcecifdaaDoorMg2
namespace Go.Proofs.YtkehmelcecifdaaDoor
open Go.ChangeShapes Go.WideShapes Go.ChangeAt Go.RowKit Go.Deep

/-- What a slice's cell holds: address, length, capacity. -/
abbrev Hd := Option Addr × Nat × Nat
def hcells (h : Hd) : List Value := [.slice h.1 h.2.1 h.2.2]
theorem hcells_length (h : Hd) : (hcells h).length = 1 := rfl
theorem hcells_one (h : Hd) : (hcells h).toArray.all (·.oneCell') = true := by simp [hcells, Value.oneCell']
theorem rowH {w : World} {b o k : Nat} {h : Hd} (hr : w.rangeAt b (o + k * 1) (hcells h)) : w.cell? ⟨b, o + k, none⟩ = some (.slice h.1 h.2.1 h.2.2) := by
  have := hr 0 _ rfl
  simpa using this

/-- A slice reads as these lists, and all of it lies below block B. -/
def RdN {T : Type} (w : World) (B : Nat) (cells : T → List Value) (A : Option Addr) (xss : List (List T)) : Prop :=
  ∃ hs : List Hd, hs.length = xss.length ∧ Rd w B hcells A hs ∧ ∀ (i : Nat) (h : Hd) (xs : List T), hs[i]? = some h → xss[i]? = some xs → h.2.1 = xs.length ∧ Rd w B cells h.1 xs
theorem RdN.below {T : Type} {w w' : World} {B : Nat} {cells : T → List Value} {A : Option Addr} {xss : List (List T)} (h : RdN w B cells A xss) {B' : Nat} (hB : B ≤ B') (hb : Below B' w w') : RdN w' B cells A xss := by
  obtain ⟨hs, hl, hr, hx⟩ := h
  exact ⟨hs, hl, hr.below hB hb, fun i h xs h1 h2 => ⟨(hx i h xs h1 h2).1, (hx i h xs h1 h2).2.below hB hb⟩⟩
theorem RdN.more {T : Type} {w : World} {B B' : Nat} {cells : T → List Value} {A : Option Addr} {xss : List (List T)} (h : RdN w B cells A xss) (hB : B ≤ B') : RdN w B' cells A xss := by
  obtain ⟨hs, hl, hr, hx⟩ := h
  exact ⟨hs, hl, hr.more hB, fun i h xs h1 h2 => ⟨(hx i h xs h1 h2).1, (hx i h xs h1 h2).2.more hB⟩⟩
theorem RdN.keep {T : Type} {w w' : World} {cells : T → List Value} {A : Option Addr} {xss : List (List T)} (h : RdN w w.heap.size cells A xss) (hb : Below w.heap.size w w') : RdN w' w'.heap.size cells A xss := (h.below (Nat.le_refl _) hb).more hb.size
theorem RdN.at_ {T : Type} {w : World} {B : Nat} {cells : T → List Value} {A : Option Addr} {xss : List (List T)} (h : RdN w B cells A xss) {k : Nat} {xs : List T} (hk : xss[k]? = some xs) :
    ∃ b o a c, A = some ⟨b, o, none⟩ ∧ b < B ∧ w.cell? ⟨b, o + k, none⟩ = some (.slice a xs.length c) ∧ Rd w B cells a xs := by
  obtain ⟨hs, hl, hr, hx⟩ := h
  have hkl := (List.getElem?_eq_some_iff.1 hk).1
  obtain ⟨⟨a, n, c⟩, hh⟩ : ∃ h, hs[k]? = some h := ⟨_, List.getElem?_eq_getElem (by omega)⟩
  obtain ⟨b, o, e, hb, hrow⟩ := hr.at_ hcells_length hh
  obtain ⟨hn, hrd⟩ := hx k _ xs hh hk
  have hc := rowH hrow
  dsimp only at hn hc
  rw [hn] at hc
  exact ⟨b, o, a, c, e, hb, hc, hrd⟩

section
variable {H : Type} {enc : TypeId × Value → H} {P : Program} {w : World} {base : Nat} {spare : Nat → Bool} {held : Bool}
theorem open_rowsC {T : Type} (cells : T → List Value) (wf : T → Prop) {t e : TypeId} {ks : List IntKind} {v : Value} {fuel : Nat} {x : DataW H × List MemPlace} (ht : P.underlying t = some (.slice e)) (hF : FlatT P e ks) (hC : P.cellsOf e = ks.length) (h0 : 0 < ks.length) (hlen : ∀ b, (cells b).length = ks.length)
    (hdec : ∀ cs, FitsL ks cs → ∃ b, wf b ∧ cs = cells b) (h : DataW.trod enc P w 0 spare held fuel t [v] = some x) :
    ∃ (A : Option Addr) (c : Nat) (xs : List T), v = .slice A xs.length c ∧ xs.length ≤ c ∧ c ≤ maxLen ∧ (∀ x ∈ xs, wf x) ∧ Rd w w.heap.size cells A xs := by
  have hv : v.cells.toList = [v] := by
    rcases open_slice ht h with ⟨hcs, _⟩ | ⟨a, len, cap, m, n, D, Pl, hcs, _⟩
    · obtain rfl : v = .slice none 0 0 := by simpa using hcs
      rfl
    · obtain rfl : v = .slice (some a) len cap := by simpa using hcs
      rfl
  exact open_rows (d := x.1) (p := x.2) cells wf ht hF hC h0 hlen hdec hv ⟨fuel, by rw [hv]; exact h⟩

theorem flat_h (hs : List Hd) : hs.flatMap hcells = hs.map fun h => .slice h.1 h.2.1 h.2.2 := by
  induction hs with
  | nil => rfl
  | cons h hs ih => rw [List.flatMap_cons, ih]; rfl

/-- An argument that is a list of lists, opened. -/
theorem open_nested {T : Type} (cells : T → List Value) (wf : T → Prop) {t e q : TypeId} {ks : List IntKind} {v : Value} {d : DataW H} {p : List MemPlace} (ht : P.underlying t = some (.slice e)) (he : P.underlying e = some (.slice q)) (ce : P.cellsOf e = 1) (hF : FlatT P q ks) (hC : P.cellsOf q = ks.length) (h0 : 0 < ks.length) (hlen : ∀ b, (cells b).length = ks.length)
    (hdec : ∀ cs, FitsL ks cs → ∃ b, wf b ∧ cs = cells b) (hv : v.cells.toList = [v]) (h : DataW.Trod enc P w 0 spare held t v d p) :
    ∃ (A : Option Addr) (c : Nat) (xss : List (List T)), v = .slice A xss.length c ∧ xss.length ≤ c ∧ c ≤ maxLen ∧ (∀ xs ∈ xss, xs.length ≤ maxLen ∧ ∀ x ∈ xs, wf x) ∧ RdN w w.heap.size cells A xss := by
  obtain ⟨fuel, hf⟩ := h
  rw [hv] at hf
  rcases open_slice1 ht ce hf with ⟨hcs, _⟩ | ⟨a, len, cap, m, n, V, D, Pl, hcs, _, hl, hm, hmm, _, hi⟩
  · obtain rfl : v = .slice none 0 0 := by simpa using hcs
    exact ⟨none, 0, [], rfl, Nat.le_refl _, Nat.zero_le _, by simp, [], rfl, fun h => absurd h (by simp), fun i h xs h1 => by simp at h1⟩
  · obtain rfl : v = .slice (some a) len cap := by simpa using hcs
    have hlm : len ≤ m := by rw [hmm]; split <;> omega
    obtain ⟨ys, hyl, hy⟩ := choose_rows len (fun i (y : Hd × List T) => w.cell? (a.add i) = some (.slice y.1.1 y.1.2.1 y.1.2.2) ∧ y.1.2.1 = y.2.length ∧ y.2.length ≤ maxLen ∧ (∀ x ∈ y.2, wf x) ∧ Rd w w.heap.size cells y.1.1 y.2) (fun i hil => by
      obtain ⟨hc, htr⟩ := hi i (by omega)
      obtain ⟨A, c, xs, hV, h1, h2, h3, h4⟩ := open_rowsC cells wf he hF hC h0 hlen hdec htr
      rw [hV] at hc
      exact ⟨((A, xs.length, c), xs), hc, rfl, Nat.le_trans h1 h2, h3, h4⟩)
    have hys : ∀ (i : Nat) y, ys[i]? = some y → i < len := fun i y h => by have := (List.getElem?_eq_some_iff.1 h).1; omega
    refine ⟨some a, cap, ys.map (·.2), by simp [hyl], by simp; omega, hm, fun xs hxs => ?_, ys.map (·.1), by simp, fun hn => ?_, fun i h xs h1 h2 => ?_⟩
    · obtain ⟨y, hym, rfl⟩ := List.mem_map.1 hxs
      obtain ⟨i, hil, rfl⟩ := List.mem_iff_getElem.1 hym
      have := hy i _ (List.getElem?_eq_getElem hil)
      exact ⟨this.2.2.1, this.2.2.2.1⟩
    · have hpos : 0 < ys.length := by simpa using hn
      have hc0 := (hy 0 _ (List.getElem?_eq_getElem hpos)).1
      have ha : a.add 0 = a := by simp [Addr.add]
      rw [ha] at hc0
      have hlt := block_lt_of_cell hc0
      have hsp := add_zero_spot hc0
      obtain ⟨b, o, s⟩ := a
      simp only [Addr.mk.injEq, true_and] at hsp
      subst hsp
      refine ⟨b, o, rfl, hlt, fun j v hv => ?_⟩
      rw [flat_h, List.map_map, List.getElem?_map] at hv
      obtain ⟨y, hyj, rfl⟩ := Option.map_eq_some_iff.1 hv
      have := (hy j y hyj).1
      rw [Addr.add_mid] at this
      exact this
    · rw [List.getElem?_map] at h1 h2
      obtain ⟨y, hy1, rfl⟩ := Option.map_eq_some_iff.1 h1
      obtain ⟨y', hy2, rfl⟩ := Option.map_eq_some_iff.1 h2
      obtain rfl : y = y' := Option.some.inj (hy1.symm.trans hy2)
      have := hy i y hy1
      exact ⟨this.2.1, this.2.2.2.2⟩
end

/-- The cell of a list that fills its block. -/
def hdOf {T : Type} (g : Nat) (xs : List T) : Hd := (some ⟨g, 0, none⟩, xs.length, xs.length)
/-- Lists of the call's own, one block for each, and one of their cells; in the order in which they have been made. -/
def RsN {T : Type} (w : World) (g : Nat) (te t : TypeId) (cells : T → List Value) (xss : List (List T)) (gs : List Nat) : Prop :=
  gs.length = xss.length ∧ Rs w g te hcells (List.zipWith hdOf gs xss) ∧ (∀ (i g' : Nat) (xs : List T), gs[i]? = some g' → xss[i]? = some xs → Rs w g' t cells xs) ∧ (g :: gs).Pairwise (· < ·)
theorem RsN.keep {T : Type} {w w' : World} {g : Nat} {te t : TypeId} {cells : T → List Value} {xss : List (List T)} {gs : List Nat} (h : RsN w g te t cells xss gs) (hb : Below w.heap.size w w') : RsN w' g te t cells xss gs :=
  ⟨h.1, Blk.keep h.2.1 hb, fun i g' xs h1 h2 => Blk.keep (h.2.2.1 i g' xs h1 h2) hb, h.2.2.2⟩
theorem RsN.lt {T : Type} {w : World} {g : Nat} {te t : TypeId} {cells : T → List Value} {xss : List (List T)} {gs : List Nat} (h : RsN w g te t cells xss gs) : g < w.heap.size := Blk.lt h.2.1
theorem RsN.rd {T : Type} {w : World} {g : Nat} {te t : TypeId} {cells : T → List Value} {xss : List (List T)} {gs : List Nat} (h : RsN w g te t cells xss gs) : RdN w w.heap.size cells (some ⟨g, 0, none⟩) xss := by
  obtain ⟨hl, ho, hi, -⟩ := h
  refine ⟨List.zipWith hdOf gs xss, by simp [hl], ho.rd (Blk.lt ho), fun i h xs h1 h2 => ?_⟩
  have hil := (List.getElem?_eq_some_iff.1 h2).1
  have hg : gs[i]? = some (gs[i]'(by omega)) := List.getElem?_eq_getElem (by omega)
  rw [List.getElem?_zipWith, hg, h2] at h1
  obtain rfl := Option.some.inj h1
  have hr := hi i _ xs hg h2
  exact ⟨rfl, hr.rd (Blk.lt hr)⟩

/-- How much there is in lists, they themselves counted. -/
def sumL {T : Type} (xss : List (List T)) : Nat := (xss.map List.length).sum
def sumTo {T : Type} (xss : List (List T)) (k : Nat) : Nat := sumL (xss.take k)
theorem sumTo_succ {T : Type} {xss : List (List T)} {k : Nat} {xs : List T} (h : xss[k]? = some xs) : sumTo xss (k + 1) = sumTo xss k + xs.length := by
  obtain ⟨h1, h2⟩ := List.getElem?_eq_some_iff.1 h
  unfold sumTo sumL
  rw [List.take_succ_eq_append_getElem h1, h2]
  simp
theorem sumTo_all {T : Type} (xss : List (List T)) : sumTo xss xss.length = sumL xss := by unfold sumTo; rw [List.take_length]
theorem sumTo_le {T : Type} (xss : List (List T)) (k : Nat) : sumTo xss k ≤ sumL xss := by
  unfold sumTo sumL
  rw [List.map_take]
  have h := congrArg List.sum (List.take_append_drop k (xss.map List.length))
  rw [List.sum_append] at h
  omega
theorem le_sumL {T : Type} {xss : List (List T)} {k : Nat} {xs : List T} (h : xss[k]? = some xs) : xs.length ≤ sumL xss := by
  have := sumTo_le xss (k + 1)
  rw [sumTo_succ h] at this
  omega
end Go.Proofs.YtkehmelcecifdaaDoor
