/-
  Entries as keys of maps and as operands of a comparison; what a map of counts reads as when counts may fall to 0; what MissingIn answers. No condition but that the numbers fit their kinds.
-/
import Derived.Test.YtlfamfdgphhbcabDoorMe
import Derived.Test.YtlfamfdgphhbcabDoorHe
import Derived.Test.YtlfamfdgphhbcabDoorHd
import Derived.WalkArith
import Derived.Laws.StructEq
namespace Go.Proofs.YtlfamfdgphhbcabDoor
open Go.ChangeShapes Go.WideShapes Go.ChangeAt Go.RowKit Go.Deep
open Go.WideMaps (KeyLaw)

def enL (x : Ent) : List Lit := [.int .i16 x.dy, .int .i8 x.fr, .int .i8 x.to, .int .u8 x.wh, .int .i16 x.nu]
def kE (x : Ent) : Lit := .string (keyBytes (enL x))
section
variable {P : Program}
theorem klits_ent {e : TypeId} {f0 f1 f2 f3 f4 : Field} {d : Nat} (he : P.underlying e = some (.struct #[f0, f1, f2, f3, f4])) (h0 : P.underlying f0.type = some (.int .i16)) (h1 : P.underlying f1.type = some (.int .i8)) (h2 : P.underlying f2.type = some (.int .i8)) (h3 : P.underlying f3.type = some (.int .u8)) (h4 : P.underlying f4.type = some (.int .i16)) (n0 : (f0.name != "_") = true) (n1 : (f1.name != "_") = true) (n2 : (f2.name != "_") = true) (n3 : (f3.name != "_") = true) (n4 : (f4.name != "_") = true) (o0 : f0.offset = 0) (o1 : f1.offset = 1) (o2 : f2.offset = 2) (o3 : f3.offset = 3) (o4 : f4.offset = 4) (c0 : P.cellsOf f0.type = 1) (c1 : P.cellsOf f1.type = 1) (c2 : P.cellsOf f2.type = 1) (c3 : P.cellsOf f3.type = 1) (c4 : P.cellsOf f4.type = 1) (hC : P.cellsOf e = 5) (x : Ent) (hb : wfE x) :
    P.keyLits (d + 2) e (ecells x) = some (enL x) := by
  have w0 : (Lit.int .i16 x.dy).wf = true := WalkArith.wf_i16 ⟨hb.1.1, hb.1.2⟩
  have w1 : (Lit.int .i8 x.fr).wf = true := WalkArith.wf_i8 ⟨hb.2.1.1, hb.2.1.2⟩
  have w2 : (Lit.int .i8 x.to).wf = true := WalkArith.wf_i8 ⟨hb.2.2.1.1, hb.2.2.1.2⟩
  have w3 : (Lit.int .u8 x.wh).wf = true := WalkArith.wf_u8 ⟨hb.2.2.2.1.1, hb.2.2.2.1.2⟩
  have w4 : (Lit.int .i16 x.nu).wf = true := WalkArith.wf_i16 ⟨hb.2.2.2.2.1, hb.2.2.2.2.2⟩
  simp [Program.keyLits, he, h0, n0, o0, c0, w0, h1, n1, o1, c1, w1, h2, n2, o2, c2, w2, h3, n3, o3, c3, w3, h4, n4, o4, c4, w4, hC, ecells, enL]
end

theorem Tryd.tsizeE : ∃ d, Tryd.prog.types.size + 1 = d + 2 := ⟨Tryd.prog.types.size - 1, by have : 1 ≤ Tryd.prog.types.size := Nat.le_of_ble_eq_true (by kernel_rfl); omega⟩
theorem Tryd.ktE : Tryd.prog.keyType 67 = true := by kernel_rfl
theorem Tryd.lawE : KeyLaw Tryd.prog 67 := deep_law_laid Tryd.laidOut (m := 2) (by decide) (of_decide_eq_true (by kernel_rfl)) (by kernel_rfl) (by rw [Tryd.underlying67])
theorem Tryd.cellsIE : Tryd.prog.cellsOf 67 = 5 := by kernel_rfl
theorem keyE (x : Ent) (hb : wfE x) : keyOf Tryd.prog 67 (.agg #[.int .i16 x.dy, .int .i8 x.fr, .int .i8 x.to, .int .u8 x.wh, .int .i16 x.nu]) = some (kE x) := by
  unfold keyOf
  rw [Tryd.underlying67]
  have hf : Value.formed Tryd.prog 67 (.agg #[.int .i16 x.dy, .int .i8 x.fr, .int .i8 x.to, .int .u8 x.wh, .int .i16 x.nu]) = true := by
    unfold Value.formed
    rw [Tryd.underlying67]
    simp [Tryd.cellsIE]
  simp only [Tryd.ktE, hf, Bool.and_self, if_true]
  obtain ⟨d, hd⟩ := Tryd.tsizeE
  have := klits_ent (P := Tryd.prog) (d := d) Tryd.underlying67 Tryd.underlying49 Tryd.underlying65 Tryd.underlying65 Tryd.underlying5 Tryd.underlying49 (by decide) (by decide) (by decide) (by decide) (by decide) rfl rfl rfl rfl rfl (by kernel_rfl) (by kernel_rfl) (by kernel_rfl) (by kernel_rfl) (by kernel_rfl) Tryd.cellsIE x hb
  rw [hd]
  show ((Tryd.prog.keyLits (d + 2) 67 (ecells x)).map _) = _
  rw [this]; rfl
theorem kE_inj {a b : Ent} (ha : wfE a) (hb : wfE b) (h : kE a = kE b) : a = b := by
  have := Tryd.lawE.inj (keyE a ha) (by rw [h]; exact keyE b hb)
  simp only [Value.agg.injEq] at this
  have h2 : [Value.int .i16 a.dy, Value.int .i8 a.fr, Value.int .i8 a.to, Value.int .u8 a.wh, Value.int .i16 a.nu] = [Value.int .i16 b.dy, Value.int .i8 b.fr, Value.int .i8 b.to, Value.int .u8 b.wh, Value.int .i16 b.nu] := by simpa using this
  simp only [List.cons.injEq, Value.int.injEq, true_and, and_true] at h2
  obtain ⟨a0, a1, a2, a3, a4⟩ := a
  obtain ⟨b0, b1, b2, b3, b4⟩ := b
  simp only at h2
  obtain ⟨rfl, rfl, rfl, rfl, rfl⟩ := h2
  rfl
theorem kE_is (x : Ent) : WideAt.IsKeyLit (kE x) := trivial

theorem equalIn_ent (d : Nat) (a b : Ent) (w : World) : (Op.equalIn (d + 2) 67 (.agg #[.int .i16 a.dy, .int .i8 a.fr, .int .i8 a.to, .int .u8 a.wh, .int .i16 a.nu]) (.agg #[.int .i16 b.dy, .int .i8 b.fr, .int .i8 b.to, .int .u8 b.wh, .int .i16 b.nu])).run Tryd.prog w = .ok (decide (a = b)) w := by
  rw [run_equalIn_agg w (d + 1) _ _ _ (by kernel_rfl) (by kernel_rfl)]
  simp only [Program.fieldsOf, Tryd.underlying67]
  have e0 := run_equalIn_int (P := Tryd.prog) w d _ .i16 _ a.dy b.dy Tryd.underlying49
  have e1 := run_equalIn_int (P := Tryd.prog) w d _ .i8 _ a.fr b.fr Tryd.underlying65
  have e2 := run_equalIn_int (P := Tryd.prog) w d _ .i8 _ a.to b.to Tryd.underlying65
  have e3 := run_equalIn_int (P := Tryd.prog) w d _ .u8 _ a.wh b.wh Tryd.underlying5
  have e4 := run_equalIn_int (P := Tryd.prog) w d _ .i16 _ a.nu b.nu Tryd.underlying49
  have hab : decide (a = b) = ((a.dy == b.dy) && ((a.fr == b.fr) && ((a.to == b.to) && ((a.wh == b.wh) && (a.nu == b.nu))))) := by
    obtain ⟨a0, a1, a2, a3, a4⟩ := a
    obtain ⟨b0, b1, b2, b3, b4⟩ := b
    rw [Bool.eq_iff_iff]; simp
  rw [hab]
  simp [Op.eqFields, part, isAgg, run_underlying Tryd.underlying65, run_underlying Tryd.underlying5, run_underlying Tryd.underlying49, e0, e1, e2, e3, e4]
  cases h1 : (a.dy == b.dy) <;> cases h2 : (a.fr == b.fr) <;> cases h3 : (a.to == b.to) <;> cases h4 : (a.wh == b.wh) <;> cases h5 : (a.nu == b.nu) <;> simp_all

/-- Look-ups in the map read as the numbers f. -/
def HoldsZ (D : DataW Unit) {α : Type} (ok : α → Prop) (key : α → Lit) (f : α → Nat) : Prop := ∀ x, ok x → D.atKey (key x) (.lit (.int .i64 0)) = i64L (f x)
theorem HoldsZ.empty {α : Type} (ok : α → Prop) (key : α → Lit) : HoldsZ (.map []) ok key (fun _ => 0) := fun _ _ => rfl
theorem HoldsZ.look {D : DataW Unit} {α : Type} {ok : α → Prop} {key : α → Lit} {f : α → Nat} (h : HoldsZ D ok key f) {x : α} (hx : ok x) {c : Int} (hc : D.atKey (key x) (.lit (.int .i64 0)) = .lit (.int .i64 c)) : c = f x := by
  have := h x hx
  rw [hc] at this
  simpa [i64L] using this
theorem HoldsZ.put {D : DataW Unit} {α : Type} {ok : α → Prop} {key : α → Lit} {f g : α → Nat} (h : HoldsZ D ok key f) (hm : Maps.IsMap D) (hinj : ∀ x y, ok x → ok y → key x = key y → x = y) {x : α} (hx : ok x) (hk : WideAt.IsKeyLit (key x)) {n : Nat}
    (hg : g x = n) (ho : ∀ y, y ≠ x → g y = f y) : HoldsZ (D.put (key x) (.lit (.int .i64 (n : Int)))) ok key g := by
  intro y hy
  by_cases e : y = x
  · subst e
    rw [Maps.atKey_put_same hm hk, hg]; rfl
  · rw [Maps.atKey_put_other (fun h' => e (hinj _ _ hy hx h')), ho y e]
    exact h y hy
theorem HoldsZ.congr {D : DataW Unit} {α : Type} {ok : α → Prop} {key : α → Lit} {f g : α → Nat} (h : HoldsZ D ok key f) (e : ∀ x, ok x → f x = g x) : HoldsZ D ok key g := fun x hx => by rw [h x hx, e x hx]

/-- How often an entry stands in a list. -/
def cntE (l : List Ent) (x : Ent) : Nat := (l.filter fun y => decide (y = x)).length
theorem cntE_le (l : List Ent) (x : Ent) : cntE l x ≤ l.length := List.length_filter_le _ _
theorem cntE_take {l : List Ent} {k : Nat} {y : Ent} (h : l[k]? = some y) (x : Ent) : cntE (l.take (k + 1)) x = cntE (l.take k) x + (if y = x then 1 else 0) := by
  unfold cntE
  rw [List.take_add_one, h, List.filter_append, List.length_append]
  by_cases e : y = x <;> simp [e]
/-- The entries that are kept, among the first k. -/
def msT (a b : List Ent) : Nat → List Ent
  | 0 => []
  | k + 1 => msT a b k ++ (match a[k]? with
    | none => []
    | some x => if cntE b x < cntE (a.take (k + 1)) x then [x] else [])
theorem msT_yes {a b : List Ent} {k : Nat} {x : Ent} (h : a[k]? = some x) (hc : cntE b x < cntE (a.take (k + 1)) x) : msT a b (k + 1) = msT a b k ++ [x] := by
  rw [msT, h]; simp [hc]
theorem msT_no {a b : List Ent} {k : Nat} {x : Ent} (h : a[k]? = some x) (hc : ¬ cntE b x < cntE (a.take (k + 1)) x) : msT a b (k + 1) = msT a b k := by
  rw [msT, h]; simp [hc]
theorem msT_len (a b : List Ent) : ∀ k, (msT a b k).length ≤ k
  | 0 => Nat.le_refl _
  | k + 1 => by
    have := msT_len a b k
    rw [msT, List.length_append]
    split
    · simp; omega
    · split
      · simp; omega
      · simp; omega
/-- The code of MissingIn; what it answers. -/
def msC (a b : List Ent) : Int := if a.length ≤ 80 ∧ b.length ≤ 80 then 0 else 3
def msL (a b : List Ent) : List Ent := if a.length ≤ 80 ∧ b.length ≤ 80 then msT a b a.length else []
theorem ms_no {a b : List Ent} (h : ¬ (a.length ≤ 80 ∧ b.length ≤ 80)) : msC a b = 3 ∧ msL a b = [] := ⟨if_neg h, if_neg h⟩
theorem ms_yes {a b : List Ent} (h : a.length ≤ 80 ∧ b.length ≤ 80) : msC a b = 0 ∧ msL a b = msT a b a.length := ⟨if_pos h, if_pos h⟩
theorem msL_len (a b : List Ent) : (msL a b).length ≤ 80 := by
  unfold msL
  split
  · have := msT_len a b a.length; omega
  · simp
end Go.Proofs.YtlfamfdgphhbcabDoor
