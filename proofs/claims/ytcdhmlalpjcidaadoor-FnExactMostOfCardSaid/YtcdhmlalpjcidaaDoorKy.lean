/-
  Crates and bottles as keys of maps: what they read as, and that all that reads so is a crate, or a bottle. No condition but that the numbers fit their kinds.
-/
import Derived.Test.YtcdhmlalpjcidaaDoorMe
import Derived.Test.YtcdhmlalpjcidaaDoorKa
import Derived.WalkArith
namespace Go.Proofs.YtcdhmlalpjcidaaDoor
open Go.ChangeShapes Go.WideShapes Go.ChangeAt Go.RowKit Go.Deep
open Go.WideMaps (KeyLaw)

theorem mapM_all {α β : Type} {f : α → Option β} : ∀ {l : List α} {ys : List β}, l.mapM f = some ys → ∀ x ∈ l, ∃ a, f x = some a
  | [], _, _, x, hx => by cases hx
  | y :: l, ys, h, x, hx => by
    simp only [List.mapM_cons, Option.pure_def, Option.bind_eq_bind, Option.bind_eq_some_iff] at h
    obtain ⟨a, ha, bs, hbs, _⟩ := h
    rcases List.mem_cons.1 hx with rfl | hx
    · exact ⟨a, ha⟩
    · exact mapM_all hbs x hx
theorem mapM_map {α β : Type} {f : α → Option β} {g : α → β} : ∀ {l : List α}, (∀ x ∈ l, f x = some (g x)) → l.mapM f = some (l.map g)
  | [], _ => rfl
  | y :: l, h => by
    rw [List.mapM_cons, h y (List.mem_cons_self ..), mapM_map (fun x hx => h x (List.mem_cons_of_mem _ hx))]
    rfl

def kbL (b : Bot) : List Lit := [.int .u8 b.1, .int .i16 b.2]
def kC (X : List Bot) : Lit := .string (keyBytes (X.flatMap kbL))
def kB (b : Bot) : Lit := .string (keyBytes (kbL b))

section
variable {P : Program}
theorem klits_bottle {e : TypeId} {f0 f1 : Field} {d : Nat} (he : P.underlying e = some (.struct #[f0, f1])) (h0 : P.underlying f0.type = some (.int .u8)) (h1 : P.underlying f1.type = some (.int .i16))
    (n0 : (f0.name != "_") = true) (n1 : (f1.name != "_") = true) (o0 : f0.offset = 0) (o1 : f1.offset = 1) (c0 : P.cellsOf f0.type = 1) (c1 : P.cellsOf f1.type = 1) (hC : P.cellsOf e = 2) (b : Bot) (hb : wfB b) :
    P.keyLits (d + 2) e (bcells b) = some (kbL b) := by
  have w0 : (Lit.int .u8 b.1).wf = true := WalkArith.wf_u8 ⟨hb.1, hb.2.1⟩
  have w1 : (Lit.int .i16 b.2).wf = true := WalkArith.wf_i16 ⟨hb.2.2.1, hb.2.2.2⟩
  simp [Program.keyLits, he, h0, h1, n0, n1, o0, o1, c0, c1, hC, bcells, kbL, w0, w1]
theorem klits_bottle_inv {e : TypeId} {f0 f1 : Field} {d : Nat} (he : P.underlying e = some (.struct #[f0, f1])) (h0 : P.underlying f0.type = some (.int .u8)) (h1 : P.underlying f1.type = some (.int .i16))
    (o0 : f0.offset = 0) (o1 : f1.offset = 1) (c0 : P.cellsOf f0.type = 1) (c1 : P.cellsOf f1.type = 1) (hC : P.cellsOf e = 2) {cs : List Value} {L : List Lit} (h : P.keyLits (d + 2) e cs = some L) : ∃ b, wfB b ∧ cs = bcells b := by
  unfold Program.keyLits at h
  simp only [he] at h
  split at h
  · rename_i hl
    obtain ⟨ls, hls, -⟩ := Option.map_eq_some_iff.1 h
    have a0 := mapM_all hls f0 (by simp)
    have a1 := mapM_all hls f1 (by simp)
    rw [o0, c0] at a0
    rw [o1, c1] at a1
    match cs, hl.1.trans hC with
    | [v0, v1], _ =>
      obtain ⟨x0, x0h⟩ := a0
      obtain ⟨x1, x1h⟩ := a1
      simp only [List.drop_zero, List.take_succ_cons, List.take_zero, List.drop_succ_cons] at x0h x1h
      obtain ⟨k, e0, -⟩ := keyLits_int' h0 x0h
      obtain ⟨y, e1, -⟩ := keyLits_int' h1 x1h
      simp only [List.cons.injEq, and_true] at e0 e1
      subst e0; subst e1
      have w0 : (Lit.int .u8 k).wf = true := by
        unfold Program.keyLits at x0h
        simp only [h0] at x0h
        split at x0h
        · rename_i hw; exact hw.2
        · cases x0h
      have w1 : (Lit.int .i16 y).wf = true := by
        unfold Program.keyLits at x1h
        simp only [h1] at x1h
        split at x1h
        · rename_i hw; exact hw.2
        · cases x1h
      have b0 := wf_u8 w0
      have b1 := wf_i16 w1
      exact ⟨(k, y), ⟨b0.1, b0.2, b1.1, b1.2⟩, rfl⟩
  · cases h
theorem klits_crate {t e : TypeId} {f0 f1 : Field} {d : Nat} (ht : P.underlying t = some (.array 12 e)) (hT : P.cellsOf t = 24) (he : P.underlying e = some (.struct #[f0, f1])) (h0 : P.underlying f0.type = some (.int .u8)) (h1 : P.underlying f1.type = some (.int .i16))
    (n0 : (f0.name != "_") = true) (n1 : (f1.name != "_") = true) (o0 : f0.offset = 0) (o1 : f1.offset = 1) (c0 : P.cellsOf f0.type = 1) (c1 : P.cellsOf f1.type = 1) (hC : P.cellsOf e = 2) (X : List Bot) (hX : WfC X) :
    P.keyLits (d + 3) t (ccells X) = some (X.flatMap kbL) := by
  have hl : (ccells X).length = 24 := by rw [ccells_length, hX.1]
  unfold Program.keyLits
  simp only [ht, hl, hT, if_true, hC]
  rw [mapM_map (g := fun i => kbL (X.getD i (0, 0)))]
  · have : (List.range 12).map (fun i => kbL (X.getD i (0, 0))) = X.map kbL := by
      apply List.ext_getElem
      · simp [hX.1]
      · intro i h1 h2
        have : i < X.length := by simpa using h2
        simp [this]
    simp only [this, Option.map_some]
    rfl
  · intro i hi
    have hi12 : i < 12 := by simpa using hi
    have hiX : i < X.length := by rw [hX.1]; exact hi12
    have hc : ((ccells X).drop (i * 2)).take 2 = bcells X[i] := by
      apply List.ext_getElem?
      intro j
      by_cases hj : j < 2
      · have e0 := ccells_even X i hiX
        have e1 := ccells_odd X i hiX
        have : j = 0 ∨ j = 1 := by omega
        rcases this with rfl | rfl
        · rw [List.getElem?_take_of_lt (by omega), List.getElem?_drop, Nat.mul_comm i 2, Nat.add_zero, e0]; rfl
        · rw [List.getElem?_take_of_lt (by omega), List.getElem?_drop, Nat.mul_comm i 2, e1]; rfl
      · rw [List.getElem?_eq_none (by simp; omega), List.getElem?_eq_none (by simp [bcells]; omega)]
    rw [hc]
    have := klits_bottle (d := d) he h0 h1 n0 n1 o0 o1 c0 c1 hC X[i] (hX.2 _ (List.getElem_mem hiX))
    rw [this]
    simp [hiX]
theorem klits_crate_inv {t e : TypeId} {f0 f1 : Field} {d : Nat} (ht : P.underlying t = some (.array 12 e)) (hT : P.cellsOf t = 24) (he : P.underlying e = some (.struct #[f0, f1])) (h0 : P.underlying f0.type = some (.int .u8)) (h1 : P.underlying f1.type = some (.int .i16))
    (o0 : f0.offset = 0) (o1 : f1.offset = 1) (c0 : P.cellsOf f0.type = 1) (c1 : P.cellsOf f1.type = 1) (hC : P.cellsOf e = 2) {cs : List Value} {L : List Lit} (h : P.keyLits (d + 3) t cs = some L) : ∃ X, WfC X ∧ cs = ccells X := by
  unfold Program.keyLits at h
  simp only [ht] at h
  split at h
  · rename_i hl
    obtain ⟨ls, hls, -⟩ := Option.map_eq_some_iff.1 h
    obtain ⟨X, hX, hc, hw⟩ := ccells_of 12 cs (by rw [hl, hT]) (fun i hi => by
      obtain ⟨a, ha⟩ := mapM_all hls i (by simpa using hi)
      rw [hC] at ha
      exact klits_bottle_inv he h0 h1 o0 o1 c0 c1 hC ha)
    exact ⟨X, ⟨hX, hw⟩, hc⟩
  · cases h
end

theorem Tryd.tsize : Tryd.prog.types.size + 1 = 209 + 3 := by kernel_rfl
theorem Tryd.ktC : Tryd.prog.keyType 30 = true := by kernel_rfl
theorem Tryd.ktB : Tryd.prog.keyType 26 = true := by kernel_rfl
theorem Tryd.lawC : KeyLaw Tryd.prog 30 := deep_law_laid Tryd.laidOut (m := 3) (by decide) (of_decide_eq_true (by kernel_rfl)) (by kernel_rfl) (by rw [Tryd.underlying30])
theorem Tryd.lawB : KeyLaw Tryd.prog 26 := deep_law_laid Tryd.laidOut (m := 2) (by decide) (of_decide_eq_true (by kernel_rfl)) (by kernel_rfl) (by rw [Tryd.underlying26])
theorem Tryd.cellsIC : Tryd.prog.cellsOf 30 = 24 := by kernel_rfl
theorem Tryd.cellsIB : Tryd.prog.cellsOf 26 = 2 := by kernel_rfl
theorem keyC (X : List Bot) (hX : WfC X) : keyOf Tryd.prog 30 (.agg (ccells X).toArray) = some (kC X) := by
  unfold keyOf
  rw [Tryd.underlying30]
  have hf : Value.formed Tryd.prog 30 (.agg (ccells X).toArray) = true := by
    unfold Value.formed
    rw [Tryd.underlying30]
    simp [Tryd.cellsIC, ccells_length, hX.1]
  simp only [Tryd.ktC, hf, Bool.and_self, if_true]
  have := klits_crate (P := Tryd.prog) (d := 209) Tryd.underlying30 Tryd.cellsIC Tryd.underlying26 Tryd.underlying5 Tryd.underlying22 (by decide) (by decide) rfl rfl (by kernel_rfl) (by kernel_rfl) Tryd.cellsIB X hX
  rw [Tryd.tsize]
  show ((Tryd.prog.keyLits (209 + 3) 30 (ccells X)).map _) = _
  rw [this]; rfl
theorem keyB (b : Bot) (hb : wfB b) : keyOf Tryd.prog 26 (.agg #[.int .u8 b.1, .int .i16 b.2]) = some (kB b) := by
  unfold keyOf
  rw [Tryd.underlying26]
  have hf : Value.formed Tryd.prog 26 (.agg #[.int .u8 b.1, .int .i16 b.2]) = true := by
    unfold Value.formed
    rw [Tryd.underlying26]
    simp [Tryd.cellsIB]
  simp only [Tryd.ktB, hf, Bool.and_self, if_true]
  have := klits_bottle (P := Tryd.prog) (d := 209 + 1) Tryd.underlying26 Tryd.underlying5 Tryd.underlying22 (by decide) (by decide) rfl rfl (by kernel_rfl) (by kernel_rfl) Tryd.cellsIB b hb
  rw [Tryd.tsize]
  show ((Tryd.prog.keyLits (209 + 1 + 2) 26 (bcells b)).map _) = _
  rw [this]; rfl
theorem keyC_inv {v : Value} {l : Lit} (h : keyOf Tryd.prog 30 v = some l) : ∃ X : Crt, v = .agg (ccells X.1).toArray := by
  obtain ⟨xs, L, rfl, hL, -⟩ := keyOf_top (by rw [Tryd.underlying30]) h
  rw [Tryd.tsize] at hL
  obtain ⟨X, hX, hc⟩ := klits_crate_inv (P := Tryd.prog) (d := 209) Tryd.underlying30 Tryd.cellsIC Tryd.underlying26 Tryd.underlying5 Tryd.underlying22 rfl rfl (by kernel_rfl) (by kernel_rfl) Tryd.cellsIB hL
  exact ⟨⟨X, hX⟩, by rw [← hc]⟩
theorem kC_inj {X Y : List Bot} (hX : WfC X) (hY : WfC Y) (h : kC X = kC Y) : X = Y := by
  have := Tryd.lawC.inj (keyC X hX) (by rw [h]; exact keyC Y hY)
  simp only [Value.agg.injEq] at this
  have h2 : ccells X = ccells Y := by simpa using this
  refine list_eq_of hX.1 hY.1 fun j hj => ?_
  have hjX : j < X.length := by rw [hX.1]; exact hj
  have hjY : j < Y.length := by rw [hY.1]; exact hj
  have a0 := ccells_even X j hjX
  have a1 := ccells_odd X j hjX
  rw [h2, ccells_even Y j hjY] at a0
  rw [h2, ccells_odd Y j hjY] at a1
  simp only [Option.some.injEq, Value.int.injEq, true_and] at a0 a1
  rw [List.getElem?_eq_getElem hjX, List.getElem?_eq_getElem hjY]
  exact congrArg some (Prod.ext a0.symm a1.symm)
theorem kB_inj {a b : Bot} (ha : wfB a) (hb : wfB b) (h : kB a = kB b) : a = b := by
  have := Tryd.lawB.inj (keyB a ha) (by rw [h]; exact keyB b hb)
  simp only [Value.agg.injEq] at this
  have h2 : [Value.int .u8 a.1, Value.int .i16 a.2] = [Value.int .u8 b.1, Value.int .i16 b.2] := by simpa using this
  simp only [List.cons.injEq, Value.int.injEq, true_and, and_true] at h2
  exact Prod.ext h2.1 h2.2
end Go.Proofs.YtcdhmlalpjcidaaDoor
