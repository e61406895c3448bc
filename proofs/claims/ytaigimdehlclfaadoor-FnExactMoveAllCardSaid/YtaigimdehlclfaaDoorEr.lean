/-
  Checks and their first error, whatever they answer; the contracts of checkPlace, checkSwap, checkManySwaps, checkSwaps. Condition: the sentinel errors lie as the row lists them; the numbers of the swaps fit their kinds.
-/
import Derived.Test.YtaigimdehlclfaaDoorBt
import Derived.Test.YtaigimdehlclfaaDoorSm
namespace Go.Proofs.YtaigimdehlclfaaDoor
open Go.ChangeShapes Go.WideShapes Go.ChangeAt Go.RowKit Go.Deep

/-- What a check answers that fails with the k-th error. -/
def erV (ad : Nat → Addr) (k : Nat) (ok : Bool) : Value := if ok = true then .nilIface else errV (ad k)
def isE (v : Value) : Prop := v = .nilIface ∨ ∃ a, v = errV a
/-- The first of two errors. -/
def firstV (v0 v1 : Value) : Value := match v0 with | .nilIface => v1 | v => v
theorem erV_isE (ad : Nat → Addr) (k : Nat) (ok : Bool) : isE (erV ad k ok) := by
  cases ok
  · exact .inr ⟨_, rfl⟩
  · exact .inl rfl
theorem firstV_nil (v : Value) : firstV .nilIface v = v := rfl
theorem firstV_err (a : Addr) (v : Value) : firstV (errV a) v = errV a := rfl
theorem firstV_isE {v0 v1 : Value} (h0 : isE v0) (h1 : isE v1) : isE (firstV v0 v1) := by
  rcases h0 with rfl | ⟨a, rfl⟩
  · exact h1
  · exact .inr ⟨a, rfl⟩
theorem first2_any {v0 v1 : Value} (hv0 : isE v0) (hv1 : isE v1) (B c : Nat) (w : World) (h0 : w.cell? ⟨B, 0, none⟩ = some v0) (h1 : w.cell? ⟨B, 1, none⟩ = some v1) :
    Calls Tryd.prog 15 #[.slice (some ⟨B, 0, none⟩) 2 c] w fun e w' => e = .returned (firstV v0 v1) ∧ w = w' := by
  rcases hv0 with rfl | ⟨a, rfl⟩
  · rcases hv1 with rfl | ⟨a, rfl⟩
    · exact first2_none B c w h0 h1
    · exact first2_second a B c w h0 h1
  · exact first2_hit a B c w h0
theorem isE_size {v : Value} (h : isE v) : v.cells.size = 1 := by
  rcases h with rfl | ⟨a, rfl⟩ <;> rfl
theorem Tryd.infoErr : (Tryd.prog.info? 49).map (fun i => (i.zero, i.size)) = some (some .nilIface, 1) := by kernel_rfl
theorem isE_cells {v : Value} (h : isE v) : v.cells.toList = [v] := by
  rcases h with rfl | ⟨a, rfl⟩ <;> rfl
theorem fill_errs {v0 v1 : Value} (h0 : isE v0) (h1 : isE v1) {z : Value} {ie : TypeInfo} (hs : ie.size = 1) :
    Instr.fill (fun i => some (i * ie.size, ie.size)) ((Array.range (2 * ie.size)).map (z.cells[· % z.cells.size]!)) [(0, v0), (1, v1)] = some #[v0, v1] := by
  have := Great.fill_whole (s := 1) (by omega) [v0, v1] ((Array.range (2 * ie.size)).map (z.cells[· % z.cells.size]!)) (by intro v hv; simp only [List.mem_cons, List.not_mem_nil, or_false] at hv; rcases hv with rfl | rfl <;> exact isE_size (by assumption)) (by simp [hs])
  rw [hs] at this ⊢
  simpa [isE_cells h0, isE_cells h1] using this
theorem wp_twoErrs {o : Oper} {a : Act} {w : World} {K : Act → World → Prop} {Q : Exit → Act → World → Prop} (x0 x1 : Operand) (ho : o.op = .buildSlice 60 2 #[(0, x0), (1, x1)]) {v0 v1 : Value} (h0 : isE v0) (h1 : isE v1)
    (hx0 : a.eval x0 = v0) (hx1 : a.eval x1 = v1) (h : K (a.put o.dst (.slice (some ⟨w.heap.size, 0, none⟩) 2 2)) (w.alloc (.cells #[v0, v1] 49))) : Oper.wp Tryd.prog o a w K Q := by
  obtain ⟨ie, hie, hzz⟩ := Option.map_eq_some_iff.1 Tryd.infoErr
  simp only [Prod.mk.injEq] at hzz
  refine wp_buildSlice 60 49 2 _ ho _ ie .nilIface Tryd.underlying60 hie hzz.1 (by rw [hzz.2]; omega) (by rw [hzz.2]; omega) ?_ h
  have := fill_errs h0 h1 (z := .nilIface) hzz.2
  simpa [hx0, hx1] using this
theorem wpList_twoErrs {ops : Array Oper} {rest : List Oper} {o : Oper} {a : Act} {w : World} {Q : Exit → Act → World → Prop} (hg : o.guard = none) (x0 x1 : Operand) (ho : o.op = .buildSlice 60 2 #[(0, x0), (1, x1)]) {v0 v1 : Value} (h0 : isE v0) (h1 : isE v1)
    (hx0 : a.eval x0 = v0) (hx1 : a.eval x1 = v1) (h : wpList Tryd.prog ops Q rest (a.put o.dst (.slice (some ⟨w.heap.size, 0, none⟩) 2 2)) (w.alloc (.cells #[v0, v1] 49))) : wpList Tryd.prog ops Q (o :: rest) a w :=
  wpList_plain hg fun _ hK => wp_twoErrs x0 x1 ho h0 h1 hx0 hx1 (hK _ _ h)
theorem checkPl_any (n : Int) (ad : Nat → Addr) (w : World) (hE : EW 7 w ad) :
    Calls Tryd.prog 41 #[.int .i64 n] w fun e w' => e = .returned (erV ad 0 (plI n)) ∧ w = w' := by
  have c0 : w.cell? ⟨2, 0, none⟩ = some (.iface 93 (.pointer (some (ad 0)))) := hE.cell 0 (by omega)
  clear hE
  by_cases h0 : n < 0
  · have hp : erV ad 0 (plI n) = .iface 93 (.pointer (some (ad 0))) := by rw [show plI n = false by simp [plI]; omega]; rfl
    rw [hp]
    clear hp
    go_enter Tryd.func41, Tryd.ntmps41
    go_wp2
    go_ret
    exact ⟨rfl, rfl⟩
  by_cases h1 : 12 ≤ n
  · have hp : erV ad 0 (plI n) = .iface 93 (.pointer (some (ad 0))) := by rw [show plI n = false by simp [plI]; omega]; rfl
    rw [hp]
    clear hp
    have h2 : 0 ≤ n := by omega
    go_enter Tryd.func41, Tryd.ntmps41
    go_wp2
    go_ret
    exact ⟨rfl, rfl⟩
  · have hp : erV ad 0 (plI n) = .nilIface := by rw [show plI n = true by simp [plI]; omega]; rfl
    rw [hp]
    clear hp
    have h2 : 0 ≤ n := by omega
    have h3 : n < 12 := by omega
    clear h0
    go_enter Tryd.func41, Tryd.ntmps41
    go_wp2
    go_ret
    exact ⟨rfl, rfl⟩
theorem first_can (ad : Nat → Addr) (x y : Int) : firstV (erV ad 0 (plI x)) (erV ad 0 (plI y)) = erV ad 0 (canS (x, y)) := by
  unfold canS
  cases plI x <;> rfl

set_option maxRecDepth 100000 in
set_option maxHeartbeats 1000000 in
theorem checkSwap_any (x y : Int) (hs : wfS (x, y)) (ad : Nat → Addr) (w : World) (hE : EW 7 w ad) :
    Calls Tryd.prog 39 #[.agg #[.int .i8 x, .int .i8 y]] w fun e w' => e = .returned (erV ad 0 (canS (x, y))) ∧ Below w.heap.size w w' := by
  obtain ⟨⟨x1, x2⟩, y1, y2⟩ := hs
  dsimp only at x1 x2 y1 y2
  rw [← first_can]
  have hp0 := erV_isE ad 0 (plI x)
  have hp1 := erV_isE ad 0 (plI y)
  have c0 := fun w hE => checkPl_any x ad w hE
  have c1 := fun w hE => checkPl_any y ad w hE
  obtain ⟨v0, hv0⟩ : ∃ v, erV ad 0 (plI x) = v := ⟨_, rfl⟩
  obtain ⟨v1, hv1⟩ : ∃ v, erV ad 0 (plI y) = v := ⟨_, rfl⟩
  rw [hv0] at hp0 ⊢
  rw [hv1] at hp1 ⊢
  simp only [hv0] at c0
  simp only [hv1] at c1
  clear hv0 hv1
  have C0 := Lib.hid c0
  have C1 := Lib.hid c1
  have P0 := Lib.hid hp0
  have P1 := Lib.hid hp1
  have hx : IntKind.i64.wrap x = x := IntWalk.i64_in _ ⟨by omega, by omega⟩
  have hy : IntKind.i64.wrap y = y := IntWalk.i64_in _ ⟨by omega, by omega⟩
  have h2 : Blk (w.alloc (.cells #[.int .i8 x, .int .i8 y] 44)) w.heap.size 44 #[.int .i8 x, .int .i8 y] := Blk.new _ _ _
  have hb : Below w.heap.size w (w.alloc (.cells #[.int .i8 x, .int .i8 y] 44)) := (by repeat (first | exact Below.refl _ _ | refine Below.drew ?_ | refine Below.alloc ?_ (by simp <;> omega) _ | refine Below.setCell ?_ (by simp <;> omega) _))
  obtain ⟨W1, hW1⟩ : ∃ W1, (w.alloc (.cells #[.int .i8 x, .int .i8 y] 44)) = W1 := ⟨_, rfl⟩
  rw [hW1] at h2 hb
  have H2 := Lib.hid h2
  have HB := Lib.hid hb
  have HE := Lib.hid (hE.below hb (Nat.le_refl _))
  clear h2 hb hE c0 c1 hp0 hp1
  go_enter Tryd.func39, Tryd.ntmps39
  go_wp2_with fail
  clear hW1
  refine wp_region_held_drew (S := fun w' => Below W1.heap.size W1 w') (by kernel_rfl) (Below.refl _ _).drew (fun hHeld => ?_)
  refine wpAnyH_take (i := 0) (v := .pointer (some ⟨w.heap.size, 0, none⟩)) rfl (by kernel_rfl) (by kernel_rfl) (by kernel_rfl) (fun _ _ _ h => h) (Or.inl ⟨by rfl, fun w' h => by go_simp⟩) (by assumption) ?_
  try simp only [Act.put, List.getElem_toArray, List.getElem_cons_zero, List.getElem_cons_succ, List.setIfInBounds_toArray, List.set_cons_zero, List.set_cons_succ]
  refine wpAnyH_take (i := 1) (v := .int .i8 x) rfl (by kernel_rfl) (by kernel_rfl) (by kernel_rfl) (fun _ _ _ h => h) (Or.inl ⟨by rfl, fun w' h => by have e3 : w'.cell? ⟨w.heap.size, 0, none⟩ = some (.int .i8 x) := (H2.out.below h H2.out.lt).cell 0; go_simp⟩) (by assumption) ?_
  try simp only [Act.put, List.getElem_toArray, List.getElem_cons_zero, List.getElem_cons_succ, List.setIfInBounds_toArray, List.set_cons_zero, List.set_cons_succ]
  refine wpAnyH_take (i := 2) (v := .int .i64 x) rfl (by kernel_rfl) (by kernel_rfl) (by kernel_rfl) (fun _ _ _ h => h) (Or.inl ⟨by rfl, fun w' h => by go_simp⟩) (by assumption) ?_
  try simp only [Act.put, List.getElem_toArray, List.getElem_cons_zero, List.getElem_cons_succ, List.setIfInBounds_toArray, List.set_cons_zero, List.set_cons_succ]
  refine wpAnyH_take (i := 4) (v := .pointer (some ⟨w.heap.size, 1, none⟩)) rfl (by kernel_rfl) (by kernel_rfl) (by kernel_rfl) (fun _ _ _ h => h) (Or.inl ⟨by rfl, fun w' h => by go_simp⟩) (by assumption) ?_
  try simp only [Act.put, List.getElem_toArray, List.getElem_cons_zero, List.getElem_cons_succ, List.setIfInBounds_toArray, List.set_cons_zero, List.set_cons_succ]
  refine wpAnyH_take (i := 5) (v := .int .i8 y) rfl (by kernel_rfl) (by kernel_rfl) (by kernel_rfl) (fun _ _ _ h => h) (Or.inl ⟨by rfl, fun w' h => by have e3 : w'.cell? ⟨w.heap.size, 1, none⟩ = some (.int .i8 y) := (H2.out.below h H2.out.lt).cell 1; go_simp⟩) (by assumption) ?_
  try simp only [Act.put, List.getElem_toArray, List.getElem_cons_zero, List.getElem_cons_succ, List.setIfInBounds_toArray, List.set_cons_zero, List.set_cons_succ]
  refine wpAnyH_take (i := 6) (v := .int .i64 y) rfl (by kernel_rfl) (by kernel_rfl) (by kernel_rfl) (fun _ _ _ h => h) (Or.inl ⟨by rfl, fun w' h => by go_simp⟩) (by assumption) ?_
  try simp only [Act.put, List.getElem_toArray, List.getElem_cons_zero, List.getElem_cons_succ, List.setIfInBounds_toArray, List.set_cons_zero, List.set_cons_succ]
  have hE2 : EW 7 W1.drew ad := HE.out.below (Below.refl _ _).drew (Nat.le_refl _)
  have hB2 : Below w.heap.size w W1.drew := HB.out.drew
  obtain ⟨W2, hW2⟩ : ∃ W2, W1.drew = W2 := ⟨_, rfl⟩
  rw [hW2] at hE2 hB2 hHeld ⊢
  have HE2 := Lib.hid hE2
  have HB2 := Lib.hid hB2
  have HS := Lib.hid hHeld
  clear hW2 hE2 hB2 HE HB H2
  refine wpAnyH_ready (rs := [3]) (by kernel_rfl) (by simp) ?_
  refine AllReadyH.cons rfl (fun K hK => ?_) AllReadyH.nil
  refine if_wanted rfl ?_
  go_simp
  refine (C0.out _ HE2.out).mono ?_
  rintro e w' ⟨rfl, rfl⟩
  dsimp only
  refine hK.out _ _ HS.out (fun hHeld => ?_)
  clear hK K
  try simp only [Act.put, List.getElem_toArray, List.getElem_cons_zero, List.getElem_cons_succ, List.setIfInBounds_toArray, List.set_cons_zero, List.set_cons_succ]
  refine wpAnyH_ready (rs := [7]) (by kernel_rfl) (by simp) ?_
  refine AllReadyH.cons rfl (fun K hK => ?_) AllReadyH.nil
  refine if_wanted rfl ?_
  go_simp
  refine (C1.out _ HE2.out).mono ?_
  rintro e w' ⟨rfl, rfl⟩
  dsimp only
  refine hK.out _ _ HS.out (fun hHeld => ?_)
  clear hK K
  try simp only [Act.put, List.getElem_toArray, List.getElem_cons_zero, List.getElem_cons_succ, List.setIfInBounds_toArray, List.set_cons_zero, List.set_cons_succ]
  refine wpAnyH_ready (rs := [8]) (by kernel_rfl) (by simp) ?_
  refine AllReadyH.cons rfl (fun K hK => ?_) AllReadyH.nil
  refine if_wanted rfl (wp_twoErrs (.tmp 6) (.tmp 10) rfl P0.out P1.out rfl rfl ?_)
  refine hK.out _ _ (HS.out.alloc HS.out.size _) (fun hHeld => ?_)
  clear hK K
  try simp only [Act.put, List.getElem_toArray, List.getElem_cons_zero, List.getElem_cons_succ, List.setIfInBounds_toArray, List.set_cons_zero, List.set_cons_succ]
  have q0 := new_cell2 W2 v0 v1 49
  obtain ⟨W3, hW3⟩ : ∃ W3, W2.alloc (.cells #[v0, v1] 49) = W3 := ⟨_, rfl⟩
  have hB3 : Below w.heap.size w W3 := by rw [← hW3]; exact HB2.out.alloc HB2.out.size _
  rw [hW3] at q0 hHeld ⊢
  have Q := Lib.hid q0
  have B3 := Lib.hid hHeld
  have HB3 := Lib.hid hB3
  clear q0 hW3 hB3 hHeld
  refine wpAnyH_ready (rs := [9]) (by kernel_rfl) (by simp) ?_
  refine AllReadyH.cons rfl (fun K hK => ?_) AllReadyH.nil
  refine if_wanted rfl ?_
  go_simp
  refine (first2_any P0.out P1.out _ _ _ Q.out.1 Q.out.2).mono ?_
  rintro e w' ⟨rfl, rfl⟩
  dsimp only
  refine hK.out _ _ B3.out (fun hHeld => ?_)
  clear hK K
  try simp only [Act.put, List.getElem_toArray, List.getElem_cons_zero, List.getElem_cons_succ, List.setIfInBounds_toArray, List.set_cons_zero, List.set_cons_succ]
  refine wpAnyH_ready (rs := [10]) (by kernel_rfl) (by simp) ?_
  refine AllReadyH.cons rfl (fun K hK => ?_) AllReadyH.nil
  refine if_wanted rfl ?_
  refine wp_assign0 rfl rfl ?_
  refine hK.out _ _ B3.out (fun hHeld => ?_)
  clear hK K
  refine wpAnyH_done (by kernel_rfl) ?_ _
  try simp only [Act.put, List.getElem_toArray, List.getElem_cons_zero, List.getElem_cons_succ, List.setIfInBounds_toArray, List.set_cons_zero, List.set_cons_succ]
  go_wp2
  go_ret
  exact ⟨rfl, HB3.out⟩

theorem checkMany_any (A : Option Addr) (n c : Nat) (ad : Nat → Addr) (w : World) (hE : EW 7 w ad) :
    Calls Tryd.prog 17 #[.slice A n c] w fun e w' => e = .returned (erV ad 1 (!decide (60 < n))) ∧ w = w' := by
  have c0 : w.cell? ⟨1, 0, none⟩ = some (.iface 93 (.pointer (some (ad 1)))) := hE.cell 1 (by omega)
  clear hE
  by_cases h : 60 < n
  · have hp : erV ad 1 (!decide (60 < n)) = .iface 93 (.pointer (some (ad 1))) := by rw [decide_eq_true h]; rfl
    rw [hp]
    clear hp
    have h2 : (60 : Int) < n := by omega
    go_enter Tryd.func17, Tryd.ntmps17
    go_wp2
    go_ret
    exact ⟨rfl, rfl⟩
  · have hp : erV ad 1 (!decide (60 < n)) = .nilIface := by rw [decide_eq_false h]; rfl
    rw [hp]
    clear hp
    have h2 : ¬ (60 : Int) < n := by omega
    go_enter Tryd.func17, Tryd.ntmps17
    go_wp2
    go_ret
    exact ⟨rfl, rfl⟩

/-- What checkSwaps answers. -/
def csV (ad : Nat → Addr) (xs : List Swp) : Value := if 60 < xs.length then errV (ad 1) else erV ad 0 (xs.all canS)
theorem csV_isE (ad : Nat → Addr) (xs : List Swp) : isE (csV ad xs) := by
  unfold csV
  split
  · exact .inr ⟨_, rfl⟩
  · exact erV_isE _ _ _

end Go.Proofs.YtaigimdehlclfaaDoor
