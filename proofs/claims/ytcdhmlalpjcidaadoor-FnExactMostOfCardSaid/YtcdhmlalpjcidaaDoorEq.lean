/-
  Crates compared by the language's own comparison. No condition but the crates' length.
-/
import Derived.Test.YtcdhmlalpjcidaaDoorI
import Derived.Test.YtcdhmlalpjcidaaDoorChecked
import Derived.Laws.StructEq
namespace Go.Proofs.YtcdhmlalpjcidaaDoor
open Go.ChangeShapes Go.WideShapes Go.ChangeAt Go.RowKit

theorem equalIn_bot (d : Nat) (a b : Bot) (w : World) : (Op.equalIn (d + 2) 26 (.agg #[.int .u8 a.1, .int .i16 a.2]) (.agg #[.int .u8 b.1, .int .i16 b.2])).run Tryd.prog w = .ok (decide (a = b)) w := by
  rw [run_equalIn_agg w (d + 1) _ _ _ (by kernel_rfl) (by kernel_rfl)]
  simp only [Program.fieldsOf, Tryd.underlying26]
  have e1 := run_equalIn_int (P := Tryd.prog) w d _ .u8 _ a.1 b.1 Tryd.underlying5
  have e2 := run_equalIn_int (P := Tryd.prog) w d _ .i16 _ a.2 b.2 Tryd.underlying22
  have hab : decide (a = b) = ((a.1 == b.1) && (a.2 == b.2)) := by
    obtain ⟨a1, a2⟩ := a; obtain ⟨b1, b2⟩ := b
    rw [Bool.eq_iff_iff]; simp
  rw [hab]
  simp [Op.eqFields, part, isAgg, run_underlying Tryd.underlying5, run_underlying Tryd.underlying22, e1, e2]
  cases h1 : (a.1 == b.1) <;> cases h2 : (a.2 == b.2) <;> simp_all
theorem all_same (xs ys : List Bot) (hx : xs.length = 12) (hy : ys.length = 12) : ((List.range 12).all fun i => decide (xs.getD i (0, 0) = ys.getD i (0, 0))) = decide (xs = ys) := by
  rw [Bool.eq_iff_iff]
  simp only [List.all_eq_true, List.mem_range, decide_eq_true_eq]
  constructor
  · intro h
    refine list_eq_of hx hy fun j hj => ?_
    have := h j hj
    rw [List.getD_eq_getElem?_getD, List.getD_eq_getElem?_getD, List.getElem?_eq_getElem (by omega), List.getElem?_eq_getElem (by omega)] at this
    rw [List.getElem?_eq_getElem (by omega), List.getElem?_eq_getElem (by omega)]
    simpa using this
  · rintro rfl _ _; rfl
theorem run_equalIn_crate {P : Program} (w : World) (d : Nat) (t e : TypeId) (ht : P.underlying t = some (.array 12 e)) (ha : ∀ w, (isAgg e).run P w = .ok true w) (hs : ∀ w, (sizeOf e).run P w = .ok 2 w)
    (he : ∀ (a b : Bot) w, (Op.equalIn d e (.agg #[.int .u8 a.1, .int .i16 a.2]) (.agg #[.int .u8 b.1, .int .i16 b.2])).run P w = .ok (decide (a = b)) w)
    (xs ys : List Bot) (hx : xs.length = 12) (hy : ys.length = 12) :
    (Op.equalIn (d + 1) t (.agg (ccells xs).toArray) (.agg (ccells ys).toArray)).run P w = .ok (decide (xs = ys)) w := by
  rw [← all_same xs ys hx hy, List.range_eq_range', Op.equalIn]
  simp only [Sem.run_bind, run_underlying ht, Result.andThen_ok, hs, Std.Legacy.Range.forIn_eq_forIn_range', Std.Legacy.Range.size, Nat.sub_zero, Nat.add_sub_cancel, Nat.div_one]
  have hl : ∀ i ∈ List.range' 0 12 1, i < 12 := fun i hi => by simpa using (List.mem_range'_1.1 hi).2
  generalize List.range' 0 12 1 = l at hl ⊢
  induction l with
  | nil => simp
  | cons i l ih =>
    have hi : i < 12 := hl i (by simp)
    have kx : xs[i]? = some (xs.getD i (0, 0)) := by rw [List.getD_eq_getElem?_getD, List.getElem?_eq_getElem (by omega)]; rfl
    have ky : ys[i]? = some (ys.getD i (0, 0)) := by rw [List.getD_eq_getElem?_getD, List.getElem?_eq_getElem (by omega)]; rfl
    have px : (part e (ccells xs).toArray (i * 2)).run P w = .ok (.agg #[.int .u8 (xs.getD i (0, 0)).1, .int .i16 (xs.getD i (0, 0)).2]) w := by
      have := ccells_extract xs kx
      simp only [part, Sem.run_bind, ha, hs, Result.andThen_ok, if_true, Sem.run_pure, this]
    have py : (part e (ccells ys).toArray (i * 2)).run P w = .ok (.agg #[.int .u8 (ys.getD i (0, 0)).1, .int .i16 (ys.getD i (0, 0)).2]) w := by
      have := ccells_extract ys ky
      simp only [part, Sem.run_bind, ha, hs, Result.andThen_ok, if_true, Sem.run_pure, this]
    simp only [List.forIn_cons, Sem.run_bind, px, py, he, Result.andThen_ok, List.all_cons]
    cases hb : decide (xs.getD i (0, 0) = ys.getD i (0, 0))
    · simp
    · simp only [Bool.not_true, Bool.false_eq_true, if_false, Sem.run_pure, Result.andThen_ok, Bool.true_and]
      exact ih fun j hj => hl j (by simp [hj])
theorem equalIn_crate (xs ys : List Bot) (hx : xs.length = 12) (hy : ys.length = 12) (w : World) :
    (Op.equalIn 10000 30 (.agg (ccells xs).toArray) (.agg (ccells ys).toArray)).run Tryd.prog w = .ok (decide (xs = ys)) w :=
  run_equalIn_crate w 9999 _ _ Tryd.underlying30 Tryd.isAgg26 Tryd.sizeOf26 (fun a b w => equalIn_bot 9997 a b w) xs ys hx hy
end Go.Proofs.YtcdhmlalpjcidaaDoor
