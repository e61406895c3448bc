/-
  The contracts of IsPure, of the model and of the program. Condition: the crate's length, that its numbers fit their kinds; the sentinel errors lie as the row lists them (the program's).
-/
import Derived.Test.YtkehmelcecifdaaDoorVs
import Derived.Test.YtkehmelcecifdaaDoorKn
import Derived.Test.YtkehmelcecifdaaDoorMg9
import Derived.Maps.OwnSet
namespace Go.Proofs.YtkehmelcecifdaaDoor
open Go.ChangeShapes Go.WideShapes Go.ChangeAt Go.RowKit Go.Deep
open Go.Maps (Keyed)
open Go.WideElems (rd_key rg_of)

theorem keyB_inv {v : Value} {l : Lit} (h : keyOf Tryd.prog 76 v = some l) : ∃ b, wfB b ∧ l = kB b := by
  obtain ⟨xs, L, rfl, hL, -⟩ := keyOf_top (by rw [Tryd.underlying76]) h
  rw [Tryd.tsize] at hL
  obtain ⟨b, hb, hc⟩ := klits_bottle_inv (P := Tryd.prog) (d := 264 + 1) Tryd.underlying76 Tryd.underlying5 Tryd.underlying74 rfl rfl (by kernel_rfl) (by kernel_rfl) Tryd.cellsIB hL
  have e : xs = #[.int .u8 b.1, .int .i16 b.2] := by
    apply Array.ext'
    rw [hc]; rfl
  rw [e, keyB b hb] at h
  exact ⟨b, hb, (Option.some.inj h).symm⟩
theorem keys_owns {w : World} {B n : Nat} {E : DataW Unit} (h : OwnsB w B n E) : ∃ es, E = .map es ∧ es.Pairwise (fun p q => p.1 ≠ q.1) ∧ ∀ p ∈ es, ∃ b, wfB b ∧ p.1 = kB b := by
  obtain ⟨es, he, hp, -⟩ := h.entries (Keyed.of_law Tryd.lawB)
  refine ⟨es, he, hp, fun p hm => ?_⟩
  obtain ⟨es0, clock, hb, F, hs, hD⟩ := h
  rw [he] at hD
  simp only [DataW.map.injEq] at hD
  rw [hD, mem_sorted, List.mem_map] at hm
  obtain ⟨x, hx, rfl⟩ := hm
  obtain ⟨y, hy⟩ := F.reads x hx
  rw [rg_of hy]
  exact keyB_inv (rd_key hy)
theorem size_le_one {w : World} {B n : Nat} {E : DataW Unit} {f : Bot → Nat} (h : OwnsB w B n E) (hh : Holds E wfB kB f) : Maps.size E ≤ 1 ↔ ∀ a b, wfB a → wfB b → f a ≠ 0 → f b ≠ 0 → a = b := by
  obtain ⟨es, rfl, hp, hk⟩ := keys_owns h
  rw [Maps.size_eq]
  have there : ∀ a, wfB a → f a ≠ 0 → ∃ p ∈ es, p.1 = kB a := fun a ha h0 => by
    have := hh.has ha h0
    rw [Maps.has_eq, List.any_eq_true] at this
    obtain ⟨p, hpm, hs⟩ := this
    exact ⟨p, hpm, WideAt.sameKey_eq hs⟩
  have pos : ∀ a, wfB a → (∃ p ∈ es, p.1 = kB a) → f a ≠ 0 := fun a ha ⟨p, hpm, he⟩ h0 => by
    have hf : Maps.has (.map es : DataW Unit) (kB a) = false := Maps.has_false_of_atKey (fun z => by rw [hh a ha z, if_pos h0])
    rw [Maps.has_eq, List.any_eq_false] at hf
    refine hf p hpm ?_
    rw [he]; exact WideAt.sameKey_self (kB_is a)
  constructor
  · intro hl a b ha hb fa fb
    obtain ⟨p, hpm, hpe⟩ := there a ha fa
    obtain ⟨q, hqm, hqe⟩ := there b hb fb
    match es, hl, hpm, hqm with
    | [], _, h1, _ => cases h1
    | [z], _, h1, h2 =>
      obtain rfl := List.mem_singleton.1 h1
      obtain rfl := List.mem_singleton.1 h2
      exact kB_inj ha hb (hpe.symm.trans hqe)
    | _ :: _ :: _, h3, _, _ => simp at h3
  · intro hall
    match es, hp, hk with
    | [], _, _ => simp
    | [z], _, _ => simp
    | p :: q :: r, h1, h2 =>
      exfalso
      obtain ⟨a, ha, hpe⟩ := h2 p (by simp)
      obtain ⟨b, hb, hqe⟩ := h2 q (by simp)
      have fa := pos a ha ⟨p, by simp, hpe⟩
      have fb := pos b hb ⟨q, by simp, hqe⟩
      have := hall a b ha hb fa fb
      subst this
      exact (List.pairwise_cons.1 h1).1 q (by simp) (hpe.trans hqe.symm)
/-- Are all bottles alike? -/
def purB : List Bot → Bool
  | [] => true
  | b :: r => r.all fun y => decide (y = b)
theorem purB_iff (Y : List Bot) : purB Y = true ↔ ∀ a ∈ Y, ∀ b ∈ Y, a = b := by
  cases Y with
  | nil => simp [purB]
  | cons y r =>
    simp only [purB, List.all_eq_true, decide_eq_true_eq]
    constructor
    · intro h a ha b hb
      have h2 : ∀ z ∈ y :: r, z = y := fun z hz => by
        rcases List.mem_cons.1 hz with rfl | hz
        · rfl
        · exact h z hz
      rw [h2 a ha, h2 b hb]
    · intro h z hz
      exact h z (List.mem_cons_of_mem _ hz) y (List.mem_cons_self ..)
theorem mult_pos (x : Crt) (b : Bot) : mult x b ≠ 0 ↔ b ∈ allB x.1 12 := by
  unfold mult
  constructor
  · intro h
    obtain ⟨y, hy⟩ := List.exists_mem_of_ne_nil ((allB x.1 12).filter fun y => decide (y = b)) (fun e => h (by rw [e]; rfl))
    rw [List.mem_filter, decide_eq_true_eq] at hy
    rw [← hy.2]; exact hy.1
  · intro h h0
    have := List.eq_nil_of_length_eq_zero h0
    rw [List.filter_eq_nil_iff] at this
    exact this b h (by simp)
theorem size_pure {w : World} {B n : Nat} {E : DataW Unit} (x : Crt) (h : OwnsB w B n E) (hh : Holds E wfB kB (cntAll [x])) : decide (Maps.size E ≤ 1) = purB (allB x.1 12) := by
  have e : ∀ b, cntAll [x] b = mult x b := fun b => by simp [cntAll]
  rw [Bool.eq_iff_iff, decide_eq_true_eq, purB_iff, size_le_one h hh]
  constructor
  · intro hall a ha b hb
    exact hall a b (allB_wf x.2 a ha) (allB_wf x.2 b hb) (by rw [e]; exact (mult_pos x a).2 ha) (by rw [e]; exact (mult_pos x b).2 hb)
  · intro hall a b _ _ fa fb
    rw [e] at fa fb
    exact hall a ((mult_pos x a).1 fa) b ((mult_pos x b).1 fb)

/-- What IsPure answers. -/
def ipB (X : List Bot) : Bool := okC X && purB (allB X 12)
def ipC (X : List Bot) : Int := if okC X = true then 0 else 1
def ipV (X : List Bot) : Value := .tuple #[.bool (ipB X), .int .i64 (ipC X)]
theorem ip_bad {X : List Bot} (h : okC X = false) : ipV X = .tuple #[.bool false, .int .i64 1] := by simp [ipV, ipB, ipC, h]
theorem ip_ok {X : List Bot} (h : okC X = true) : ipV X = .tuple #[.bool (purB (allB X 12)), .int .i64 0] := by simp [ipV, ipB, ipC, h]

def alikeTo (Y : List Bot) (k : Nat) : Prop := ∀ j, j < k → j < Y.length → Y[j]? = Y[0]?
theorem alike_all {Y : List Bot} (h : alikeTo Y Y.length) : purB Y = true := by
  rw [purB_iff]
  intro a ha b hb
  obtain ⟨i, hi, rfl⟩ := List.mem_iff_getElem.1 ha
  obtain ⟨j, hj, rfl⟩ := List.mem_iff_getElem.1 hb
  have e1 := h i hi hi
  have e2 := h j hj hj
  rw [List.getElem?_eq_getElem hi] at e1
  rw [List.getElem?_eq_getElem hj] at e2
  exact Option.some.inj (e1.trans e2.symm)
theorem alike_no {Y : List Bot} {k : Nat} {a b : Bot} (ha : Y[k]? = some a) (hb : Y[0]? = some b) (hn : a ≠ b) : purB Y = false := by
  cases h : purB Y
  · rfl
  · rw [purB_iff] at h
    exact absurd (h a (List.mem_of_getElem? ha) b (List.mem_of_getElem? hb)) hn

theorem rd_one {w : World} {g B : Nat} {t : TypeId} (x : Crt) (h : CBlk w g t x.1) (hB : g < B) : Rd w B kcells (some ⟨g, 0, none⟩) [x] := fun _ => ⟨g, 0, rfl, hB, fun j v hv => by
  rw [Nat.zero_add, h.cell j]
  simpa [kcells] using hv⟩

end Go.Proofs.YtkehmelcecifdaaDoor
