/-
  Bottles, crates and lists of crates that came in as arguments, opened: a crate is twelve pairs of numbers of their kinds. No condition of its own.
-/
import Derived.WalkKit
import Derived.ProofKit
import Derived.OpenShut
import Derived.Lib.SmallJoins
import Derived.Deep.Slices
import Derived.Deep.Fields
namespace Go.Proofs.YtcdhmlalpjcidaaDoor
open Go.ChangeShapes Go.WideShapes Go.ChangeAt Go.RowKit Go.Joins Go.Deep

/-- A bottle: its Kind and its Year. -/
abbrev Bot := Int × Int
def wfB (b : Bot) : Prop := 0 ≤ b.1 ∧ b.1 ≤ 255 ∧ -32768 ≤ b.2 ∧ b.2 ≤ 32767
def bcells (b : Bot) : List Value := [.int .u8 b.1, .int .i16 b.2]
def ccells (bs : List Bot) : List Value := bs.flatMap bcells

theorem ccells_length (bs : List Bot) : (ccells bs).length = 2 * bs.length := by
  induction bs with
  | nil => rfl
  | cons b bs ih => simp only [ccells, List.flatMap_cons, List.length_append, List.length_cons] at ih ⊢; rw [ih]; simp [bcells]; omega
theorem ccells_even (bs : List Bot) (i : Nat) (h : i < bs.length) : (ccells bs)[2 * i]? = some (.int .u8 bs[i].1) := by
  induction bs generalizing i with
  | nil => simp at h
  | cons b bs ih =>
    cases i with
    | zero => rfl
    | succ i =>
      have : (ccells (b :: bs))[2 * (i + 1)]? = (ccells bs)[2 * i]? := by
        simp [ccells, bcells, show 2 * (i + 1) = 2 * i + 1 + 1 from by omega]
      rw [this, ih i (by simpa using h)]; rfl
theorem ccells_odd (bs : List Bot) (i : Nat) (h : i < bs.length) : (ccells bs)[2 * i + 1]? = some (.int .i16 bs[i].2) := by
  induction bs generalizing i with
  | nil => simp at h
  | cons b bs ih =>
    cases i with
    | zero => rfl
    | succ i =>
      have : (ccells (b :: bs))[2 * (i + 1) + 1]? = (ccells bs)[2 * i + 1]? := by
        simp [ccells, bcells, show 2 * (i + 1) + 1 = 2 * i + 1 + 1 + 1 from by omega]
      rw [this, ih i (by simpa using h)]; rfl

theorem ccells_of (n : Nat) : ∀ cs : List Value, cs.length = 2 * n → (∀ i, i < n → ∃ b, wfB b ∧ (cs.drop (i * 2)).take 2 = bcells b) → ∃ bs : List Bot, bs.length = n ∧ cs = ccells bs ∧ ∀ b ∈ bs, wfB b := by
  induction n with
  | zero => intro cs h _; exact ⟨[], rfl, by cases cs; rfl; simp at h, by simp⟩
  | succ n ih =>
    intro cs h hb
    obtain ⟨b, hw, he⟩ := hb 0 (by omega)
    obtain ⟨bs, hl, hcs, hwf⟩ := ih (cs.drop 2) (by simp; omega) (fun i hi => by
      obtain ⟨b', hw', he'⟩ := hb (i + 1) (by omega)
      exact ⟨b', hw', by rw [List.drop_drop, ← he']; congr 2; omega⟩)
    refine ⟨b :: bs, by simp [hl], ?_, fun x hx => ?_⟩
    · have e0 : cs = cs.take 2 ++ cs.drop 2 := (List.take_append_drop 2 cs).symm
      rw [e0, hcs, show cs.take 2 = bcells b from by simpa using he]
      simp [ccells]
    · rcases List.mem_cons.1 hx with rfl | hx
      · exact hw
      · exact hwf x hx

section
variable {H : Type} {enc : TypeId × Value → H} {P : Program} {w : World} {base : Nat} {spare : Nat → Bool} {held : Bool}

theorem trod_bottle {e : TypeId} {f0 f1 : Field} {fuel : Nat} {cs : List Value} {x : DataW H × List MemPlace} (he : P.underlying e = some (.struct #[f0, f1])) (h0 : P.underlying f0.type = some (.int .u8)) (h1 : P.underlying f1.type = some (.int .i16))
    (hone : oneCellFields P #[f0, f1] = true) (hC : P.cellsOf e = 2) (h : DataW.trod enc P w base spare held fuel e cs = some x) : ∃ b : Bot, wfB b ∧ cs = bcells b := by
  obtain ⟨xs, m, _, hx, hlen, hyl, hg⟩ := DataW.trod_struct he h
  have hyl2 : xs.length = 2 := hyl
  rw [hC] at hlen
  match cs, hlen with
  | [c0, c1], _ =>
    obtain ⟨o0, k0⟩ := hone_of hone 0 f0 rfl
    obtain ⟨o1, k1⟩ := hone_of hone 1 f1 rfl
    have g0 := hg 0 f0 rfl
    have g1 := hg 1 f1 rfl
    rw [o0, k0] at g0
    rw [o1, k1] at g1
    simp only [List.drop_zero, List.take_succ_cons, List.take_zero, List.drop_succ_cons] at g0 g1
    cases hx0 : xs[0]? with
    | none => rw [hx0] at g0; rw [List.getElem?_eq_getElem (by omega)] at hx0; cases hx0
    | some y0 =>
      cases hx1 : xs[1]? with
      | none => rw [hx1] at g1; rw [List.getElem?_eq_getElem (by omega)] at hx1; cases hx1
      | some y1 =>
        rw [hx0] at g0
        rw [hx1] at g1
        obtain ⟨k, ek, _, wk⟩ := DataW.trod_int h0 g0
        obtain ⟨y, ey, _, wy⟩ := DataW.trod_int h1 g1
        simp at ek ey
        have bk := bounds_u8 wk
        have by' := bounds_i16 wy
        exact ⟨(k, y), ⟨bk.1, bk.2, by'.1, by'.2⟩, by rw [ek, ey]; rfl⟩

theorem trod_crate {t e : TypeId} {f0 f1 : Field} {n fuel : Nat} {cs : List Value} {x : DataW H × List MemPlace} (ht : P.underlying t = some (.array n e)) (hT : P.cellsOf t = 2 * n)
    (he : P.underlying e = some (.struct #[f0, f1])) (h0 : P.underlying f0.type = some (.int .u8)) (h1 : P.underlying f1.type = some (.int .i16))
    (hone : oneCellFields P #[f0, f1] = true) (hC : P.cellsOf e = 2) (h : DataW.trod enc P w base spare held fuel t cs = some x) : ∃ bs : List Bot, bs.length = n ∧ cs = ccells bs ∧ ∀ b ∈ bs, wfB b := by
  obtain ⟨xs, m, _, hx, hlen, hxl, hg⟩ := DataW.trod_array ht h
  refine ccells_of n cs (by rw [hlen, hT]) (fun i hi => ?_)
  have g := hg i hi
  rw [hC] at g
  rw [List.getElem?_eq_getElem (by omega)] at g
  exact trod_bottle he h0 h1 hone hC g

theorem open_crate {t e : TypeId} {f0 f1 : Field} {n : Nat} {r : Reach} {b0 : Nat} {v : Value} {d : DataW H} {p : List MemPlace} (ht : P.underlying t = some (.array n e)) (hT : P.cellsOf t = 2 * n)
    (he : P.underlying e = some (.struct #[f0, f1])) (h0 : P.underlying f0.type = some (.int .u8)) (h1 : P.underlying f1.type = some (.int .i16))
    (hone : oneCellFields P #[f0, f1] = true) (hC : P.cellsOf e = 2) (hv : Value.okWide P w r b0 t v) (h : DataW.Trod enc P w base spare held t v d p) :
    ∃ bs : List Bot, bs.length = n ∧ v = .agg (ccells bs).toArray ∧ ∀ b ∈ bs, wfB b := by
  obtain ⟨cs, rfl, hsz, _⟩ : ∃ cs, v = .agg cs ∧ cs.size = P.cellsOf t ∧ Row.okWide P w r b0 t cs := by
    simpa [Value.okWide, ht] using hv
  obtain ⟨fuel, hf⟩ := h
  obtain ⟨bs, hl, hcs, hwf⟩ := trod_crate ht hT he h0 h1 hone hC hf
  refine ⟨bs, hl, ?_, hwf⟩
  rw [← hcs]
  simp [Value.cells]
theorem open_bottle {e : TypeId} {f0 f1 : Field} {r : Reach} {b0 : Nat} {v : Value} {d : DataW H} {p : List MemPlace}
    (he : P.underlying e = some (.struct #[f0, f1])) (h0 : P.underlying f0.type = some (.int .u8)) (h1 : P.underlying f1.type = some (.int .i16))
    (hone : oneCellFields P #[f0, f1] = true) (hC : P.cellsOf e = 2) (hv : Value.okWide P w r b0 e v) (h : DataW.Trod enc P w base spare held e v d p) :
    ∃ b : Bot, wfB b ∧ v = .agg (bcells b).toArray := by
  obtain ⟨cs, rfl, hsz⟩ := okWide_struct he hv
  obtain ⟨fuel, hf⟩ := h
  obtain ⟨b, hw, hcs⟩ := trod_bottle he h0 h1 hone hC hf
  refine ⟨b, hw, ?_⟩
  rw [← hcs]
  simp [Value.cells]
end
end Go.Proofs.YtcdhmlalpjcidaaDoor
