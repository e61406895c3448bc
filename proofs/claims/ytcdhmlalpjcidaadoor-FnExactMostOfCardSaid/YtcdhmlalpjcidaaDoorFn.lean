/-
  The contract of firstError at however many errors; a list of three, made in a region. Condition: the cells hold errors or none.
-/
import Derived.Test.YtcdhmlalpjcidaaDoorEz
namespace Go.Proofs.YtcdhmlalpjcidaaDoor
open Go.ChangeShapes Go.WideShapes Go.ChangeAt Go.RowKit Go.Deep

/-- The first of several errors. -/
def firstL : List Value → Value
  | [] => .nilIface
  | v :: vs => match v with | .nilIface => firstL vs | u => u
theorem firstL_nil : ∀ (vs : List Value), (∀ v ∈ vs, v = .nilIface) → firstL vs = .nilIface
  | [], _ => rfl
  | v :: vs, h => by
    have : v = .nilIface := h v (List.mem_cons_self ..)
    subst this
    exact firstL_nil vs (fun u hu => h u (List.mem_cons_of_mem _ hu))
theorem firstL_hit : ∀ (vs : List Value) (k : Nat) (a : Addr), (∀ j v, j < k → vs[j]? = some v → v = .nilIface) → vs[k]? = some (errV a) → firstL vs = errV a
  | [], k, a, _, h => by simp at h
  | v :: vs, 0, a, _, h => by
    obtain rfl : v = errV a := by simpa using h
    rfl
  | v :: vs, k + 1, a, h, hk => by
    have : v = .nilIface := h 0 v (by omega) rfl
    subst this
    exact firstL_hit vs k a (fun j u hj hu => h (j + 1) u (by omega) (by simpa using hu)) (by simpa using hk)
set_option maxHeartbeats 1000000 in
theorem firstErrs_any (vs : List Value) (hv : ∀ v ∈ vs, isE v) (B c : Nat) (w : World) (hl : vs.length ≤ 1048576) (h : ∀ (j : Nat) (v : Value), vs[j]? = some v → w.cell? ⟨B, j, none⟩ = some v) :
    Calls Tryd.prog 76 #[.slice (some ⟨B, 0, none⟩) vs.length c] w fun e w' => e = .returned (firstL vs) ∧ w = w' := by
  have HV := Lib.hid hv
  have H := Lib.hid h
  clear hv h
  go_enter Tryd.func76, Tryd.ntmps76
  go_wp2_with fail
  go_loop [7] (fun i => ∃ k : Nat, k ≤ vs.length ∧ i = .int .i64 k ∧ ∀ (j : Nat) (v : Value), j < k → vs[j]? = some v → v = .nilIface) (fun i => vs.length - (intOf i).toNat)
  case atStart => exact ⟨0, by omega, rfl, fun j v h => absurd h (Nat.not_lt_zero _)⟩
  case round =>
    obtain ⟨k, hk, rfl, hT⟩ := hrel
    have HT := Lib.hid hT
    clear hT
    by_cases hlt : k < vs.length
    · obtain ⟨v, hx⟩ : ∃ x, vs[k]? = some x := ⟨_, List.getElem?_eq_getElem hlt⟩
      have hc := H.out k v hx
      have HX := Lib.hid hx
      have hk0 : (0 : Int) ≤ (k : Int) := Int.natCast_nonneg _
      have hk8 : (k : Int) < vs.length := by omega
      rcases HV.out v (List.mem_of_getElem? hx) with rfl | ⟨a, rfl⟩
      · clear hx
        go_wp2
        go_round
        case rel =>
          refine ⟨k + 1, by omega, by go_num, fun j u hj hu => ?_⟩
          by_cases e : j = k
          · subst e; exact (Option.some.inj (HX.out.symm.trans hu)).symm
          · exact HT.out j u (by omega) hu
        case measure => simp [intOf]; omega
      · clear hx
        rw [show errV a = .iface 173 (.pointer (some a)) from rfl] at hc
        go_wp2
        go_ret
        exact ⟨by rw [firstL_hit vs k a HT.out HX.out]; rfl, rfl⟩
    · obtain rfl : k = vs.length := by omega
      go_wp2
      go_ret
      exact ⟨by rw [firstL_nil vs (fun v hv => by obtain ⟨i, hi, rfl⟩ := List.mem_iff_getElem.1 hv; exact HT.out i _ hi (List.getElem?_eq_getElem hi))]; rfl, rfl⟩
theorem fill_errs3 {v0 v1 v2 : Value} (h0 : isE v0) (h1 : isE v1) (h2 : isE v2) {z : Value} {ie : TypeInfo} (hs : ie.size = 1) :
    Instr.fill (fun i => some (i * ie.size, ie.size)) ((Array.range (3 * ie.size)).map (z.cells[· % z.cells.size]!)) [(0, v0), (1, v1), (2, v2)] = some #[v0, v1, v2] := by
  have := Great.fill_whole (s := 1) (by omega) [v0, v1, v2] ((Array.range (3 * ie.size)).map (z.cells[· % z.cells.size]!)) (by intro v hv; simp only [List.mem_cons, List.not_mem_nil, or_false] at hv; rcases hv with rfl | rfl | rfl <;> exact isE_size (by assumption)) (by simp [hs])
  rw [hs] at this ⊢
  simpa [isE_cells h0, isE_cells h1, isE_cells h2] using this
theorem wp_threeErrs {o : Oper} {a : Act} {w : World} {K : Act → World → Prop} {Q : Exit → Act → World → Prop} (x0 x1 x2 : Operand) (ho : o.op = .buildSlice 145 3 #[(0, x0), (1, x1), (2, x2)]) {v0 v1 v2 : Value} (h0 : isE v0) (h1 : isE v1) (h2 : isE v2)
    (hx0 : a.eval x0 = v0) (hx1 : a.eval x1 = v1) (hx2 : a.eval x2 = v2) (h : K (a.put o.dst (.slice (some ⟨w.heap.size, 0, none⟩) 3 3)) (w.alloc (.cells #[v0, v1, v2] 74))) : Oper.wp Tryd.prog o a w K Q := by
  obtain ⟨ie, hie, hzz⟩ := Option.map_eq_some_iff.1 Tryd.infoErr
  simp only [Prod.mk.injEq] at hzz
  refine wp_buildSlice 145 74 3 _ ho _ ie .nilIface Tryd.underlying145 hie hzz.1 (by rw [hzz.2]; omega) (by rw [hzz.2]; omega) ?_ h
  have := fill_errs3 h0 h1 h2 (z := .nilIface) hzz.2
  simpa [hx0, hx1, hx2] using this
theorem wpList_threeErrs {ops : Array Oper} {rest : List Oper} {o : Oper} {a : Act} {w : World} {Q : Exit → Act → World → Prop} (hg : o.guard = none) (x0 x1 x2 : Operand) (ho : o.op = .buildSlice 145 3 #[(0, x0), (1, x1), (2, x2)]) {v0 v1 v2 : Value} (h0 : isE v0) (h1 : isE v1) (h2 : isE v2)
    (hx0 : a.eval x0 = v0) (hx1 : a.eval x1 = v1) (hx2 : a.eval x2 = v2) (h : wpList Tryd.prog ops Q rest (a.put o.dst (.slice (some ⟨w.heap.size, 0, none⟩) 3 3)) (w.alloc (.cells #[v0, v1, v2] 74))) : wpList Tryd.prog ops Q (o :: rest) a w :=
  wpList_plain hg fun _ hK => wp_threeErrs x0 x1 x2 ho h0 h1 h2 hx0 hx1 hx2 (hK _ _ h)
theorem cells3 (W : World) (v0 v1 v2 : Value) (t : TypeId) : ∀ (j : Nat) (v : Value), [v0, v1, v2][j]? = some v → (W.alloc (.cells #[v0, v1, v2] t)).cell? ⟨W.heap.size, j, none⟩ = some v := fun j v hv => by
  rw [cell_of_row _ _ _ _ _ _ (heap_alloc_new W (.cells #[v0, v1, v2] t))]
  simpa using hv
end Go.Proofs.YtcdhmlalpjcidaaDoor
