/-
  Pairs: swapped, greaterOf, wins, isAscending, the pairs that ascend, sums of numbers of pairs. Condition: samples below nine.
-/
import Derived.Test.YtglhjdnencpdiaaDoorZp
import Derived.Deep.RegionHeld3
namespace Go.Proofs.YtglhjdnencpdiaaDoor
open Go.ChangeShapes Go.WideShapes Go.ChangeAt Go.RowKit Go.Deep
open Go.Maps (Keyed)

theorem yieldsIf_lookupR {P : Program} {ops : Array Oper} {S : World → Prop} {op : Oper} {a : Act} (hw : Region.wanted op (yielded ops a.tmps) = true) (t : TypeId) (m x : Operand) (ho : op.op = .lookup t m x false) {mv key v : Value} (hm : a.eval m = mv) (hx : a.eval x = key)
    (hrun : ∀ w, S w → (Instr.lookup t mv key false).run P w = .ok v w) : YieldsIf P ops S op v a :=
  .inl ⟨hw, fun w h => by
    unfold execOp
    simp [ho, hm, hx, hrun w h, Result.andThen]⟩
theorem Tryd.sizePq : (Tryd.prog.info? 53).map (·.size) = some 2 := by kernel_rfl
theorem pq_range (w : World) (p : Pq) : (w.alloc (.cells #[.int .i64 p.1, .int .i64 p.2] 53)).rangeAt w.heap.size 0 (pqc p) := by
  have hK : Rs (w.alloc (.cells #[.int .i64 p.1, .int .i64 p.2] 53)) w.heap.size 53 pqc [p] := by
    have := Blk.new w 53 #[Value.int .i64 p.1, Value.int .i64 p.2]
    simpa [Rs, pqc] using this
  have := Rs.range hK
  simpa using this

theorem l00Max_z (a b : Int) (w : World) : Calls Tryd.prog 33 #[.int .i64 a, .int .i64 b] w fun e w' => e = .returned (.int .i64 (max a b)) ∧ w = w' := by
  go_enter Tryd.func33, Tryd.ntmps33
  by_cases h : b < a
  · have hm : max a b = a := by omega
    rw [hm]
    go_wp2
    go_ret
    exact ⟨rfl, rfl⟩
  · have hm : max a b = b := by omega
    rw [hm]
    go_wp2
    go_ret
    exact ⟨rfl, rfl⟩

set_option maxRecDepth 100000 in
set_option maxHeartbeats 2000000 in
theorem isAscending_any (i k : Nat) (w : World) : Calls Tryd.prog 36 #[.agg #[.int .i64 i, .int .i64 k]] w fun e w' => e = .returned (.bool (decide (i < k))) ∧ Below w.heap.size w w' := by
  have HB : Hid (Below w.heap.size w (w.alloc (.cells #[.int .i64 i, .int .i64 k] 53))) := (Below.refl _ w).alloc (Nat.le_refl _) _
  go_enter Tryd.func36, Tryd.ntmps36
  go_wp2
  go_ret
  exact ⟨by simp, HB.out⟩
set_option maxRecDepth 100000 in
set_option maxHeartbeats 2000000 in
theorem swapped_any (i k : Nat) (w : World) : Calls Tryd.prog 51 #[.agg #[.int .i64 i, .int .i64 k]] w fun e w' => e = .returned (.agg #[.int .i64 k, .int .i64 i]) ∧ Below w.heap.size w w' := by
  go_enter Tryd.func51, Tryd.ntmps51
  go_wp2
  refine bodyPost_ret (v := .agg #[.int .i64 k, .int .i64 i]) (by simp [results, Tryd.results51, go_sem]) rfl ⟨rfl, (by repeat (first | exact Below.refl _ _ | refine Below.drew ?_ | refine Below.alloc ?_ (by simp <;> omega) _ | refine Below.setCell ?_ (by simp <;> omega) _))⟩


set_option maxRecDepth 100000 in
set_option maxHeartbeats 4000000 in
theorem greaterOf_any (a b : Nat) (ha : a < 9) (hb9 : b < 9) (ps : List Pq) (B n : Nat) (D : DataW Unit) (w : World) (hO : OwnsP w B n D) (hH : Holds D ok2 kP (cntP ps)) (hlen : ps.length ≤ 6500) :
    Calls Tryd.prog 37 #[.map (some B), .agg #[.int .i64 a, .int .i64 b]] w fun e w' => e = .returned (.int .i64 (max ((cntP ps ((a : Int), (b : Int)) : Nat) : Int) ((cntP ps ((b : Int), (a : Int)) : Nat) : Int))) ∧ Below w.heap.size w w' := by
  have HL : Hid (∀ (W : World), Below w.heap.size w W → ∀ (i k : Nat), i < 9 → k < 9 → (Instr.lookup 47 (.map (some B)) (.agg #[.int .i64 (i : Int), .int .i64 (k : Int)]) false).run Tryd.prog W = .ok (.int .i64 (cntP ps ((i : Int), (k : Int)))) W) := fun W hW i k hi hk =>
    tally_look (p := ((i : Int), (k : Int))) (hO.kept (grown_of_below hW) (by simp)) hH ⟨⟨by show (0 : Int) ≤ i; omega, by show (i : Int) < 9; omega⟩, ⟨by show (0 : Int) ≤ k; omega, by show (k : Int) < 9; omega⟩⟩
  have hx1 := cntP_le ps ((a : Int), (b : Int))
  have hx2 := cntP_le ps ((b : Int), (a : Int))
  clear hO hH
  have hL1 := fun W hW => HL.out W hW a b ha hb9
  have hL2 := fun W hW => HL.out W hW b a hb9 ha
  obtain ⟨x, hx⟩ : ∃ x, cntP ps ((a : Int), (b : Int)) = x := ⟨_, rfl⟩
  obtain ⟨y, hy⟩ : ∃ y, cntP ps ((b : Int), (a : Int)) = y := ⟨_, rfl⟩
  rw [hx] at hx1 hL1 ⊢
  rw [hy] at hx2 hL2 ⊢
  have L1 := Lib.hid hL1
  have L2 := Lib.hid hL2
  clear hL1 hL2 HL hx hy
  obtain ⟨W, hW⟩ : ∃ W, w.alloc (.cells #[.int .i64 a, .int .i64 b] 53) = W := ⟨_, rfl⟩
  have hrg : W.rangeAt w.heap.size 0 (pqc ((a : Int), (b : Int))) := by rw [← hW]; exact pq_range w _
  have hlt : w.heap.size < W.heap.size := by rw [← hW]; simp
  have hB : Below w.heap.size w W := by rw [← hW]; exact (Below.refl _ w).alloc (Nat.le_refl _) _
  have HRg := Lib.hid hrg
  have HB := Lib.hid hB
  clear hrg hB
  go_enter Tryd.func37, Tryd.ntmps37
  go_wp2_with fail
  clear hW
  refine wp_region_held_drew (S := fun w' => Below W.heap.size W w') (by kernel_rfl) (Below.refl _ _).drew (fun hHeld => ?_)
  refine wpAnyH_take (i := 0) (v := .map (some B)) rfl (by kernel_rfl) (by kernel_rfl) (by kernel_rfl) (fun _ _ _ h => h) (Or.inl ⟨by rfl, fun w' h => by go_simp⟩) (by assumption) ?_
  try simp only [Act.put, List.getElem_toArray, List.getElem_cons_zero, List.getElem_cons_succ, List.setIfInBounds_toArray, List.set_cons_zero, List.set_cons_succ]
  refine' wpAnyH_take (i := 1) (v := _) rfl (by kernel_rfl) (by kernel_rfl) (by kernel_rfl) (fun _ _ _ h => h) (yieldsIf_load_mid (by rfl) 53 (.tmp 3) rfl w.heap.size (0) rfl (pqc ((a : Int), (b : Int))) _ (fun w' h => fun j v hv => (rangeAt_below HRg.out h hlt) j v hv) Tryd.underlying53 rfl Tryd.sizePq) (by assumption) ?_
  try simp only [Act.put, List.getElem_toArray, List.getElem_cons_zero, List.getElem_cons_succ, List.setIfInBounds_toArray, List.set_cons_zero, List.set_cons_succ]
  refine' wpAnyH_take (i := 2) (v := _) rfl (by kernel_rfl) (by kernel_rfl) (by kernel_rfl) (fun _ _ _ h => h) (yieldsIf_lookupR (by rfl) 47 (.tmp 5) (.tmp 6) rfl rfl rfl (fun w' h => L1.out w' (HB.out.trans (h.mono HB.out.size)))) (by assumption) ?_
  try simp only [Act.put, List.getElem_toArray, List.getElem_cons_zero, List.getElem_cons_succ, List.setIfInBounds_toArray, List.set_cons_zero, List.set_cons_succ]
  refine wpAnyH_take (i := 3) (v := .map (some B)) rfl (by kernel_rfl) (by kernel_rfl) (by kernel_rfl) (fun _ _ _ h => h) (Or.inl ⟨by rfl, fun w' h => by go_simp⟩) (by assumption) ?_
  try simp only [Act.put, List.getElem_toArray, List.getElem_cons_zero, List.getElem_cons_succ, List.setIfInBounds_toArray, List.set_cons_zero, List.set_cons_succ]
  refine' wpAnyH_take (i := 4) (v := _) rfl (by kernel_rfl) (by kernel_rfl) (by kernel_rfl) (fun _ _ _ h => h) (yieldsIf_load_mid (by rfl) 53 (.tmp 3) rfl w.heap.size (0) rfl (pqc ((a : Int), (b : Int))) _ (fun w' h => fun j v hv => (rangeAt_below HRg.out h hlt) j v hv) Tryd.underlying53 rfl Tryd.sizePq) (by assumption) ?_
  try simp only [Act.put, List.getElem_toArray, List.getElem_cons_zero, List.getElem_cons_succ, List.setIfInBounds_toArray, List.set_cons_zero, List.set_cons_succ]
  obtain ⟨D0, hD0⟩ : ∃ D0, W.drew = D0 := ⟨_, rfl⟩
  rw [hD0] at hHeld ⊢
  clear hD0
  refine wpAnyH_ready (rs := [5]) (by kernel_rfl) (by simp) ?_
  refine AllReadyH.cons rfl (fun K hK => ?_) AllReadyH.nil
  refine if_wanted rfl ?_
  go_simp
  refine (swapped_any a b _).mono ?_
  rintro e w4 ⟨rfl, hb⟩
  have hH2 : Below W.heap.size W w4 := hHeld.trans (hb.mono hHeld.size)
  clear hb hHeld
  dsimp only
  refine hK.out _ _ hH2 (fun hHeld => ?_)
  clear hK K hH2
  try simp only [Act.put, List.getElem_toArray, List.getElem_cons_zero, List.getElem_cons_succ, List.setIfInBounds_toArray, List.set_cons_zero, List.set_cons_succ]
  refine' wpAnyH_take (i := 6) (v := _) rfl (by kernel_rfl) (by kernel_rfl) (by kernel_rfl) (fun _ _ _ h => h) (yieldsIf_lookupR (by rfl) 47 (.tmp 8) (.tmp 10) rfl rfl rfl (fun w' h => L2.out w' (HB.out.trans (h.mono HB.out.size)))) (by assumption) ?_
  try simp only [Act.put, List.getElem_toArray, List.getElem_cons_zero, List.getElem_cons_succ, List.setIfInBounds_toArray, List.set_cons_zero, List.set_cons_succ]
  refine wpAnyH_take (i := 7) (v := .int .i64 (max (x : Int) (y : Int))) rfl (by kernel_rfl) (by kernel_rfl) (by kernel_rfl) (fun _ _ _ h => h) (Or.inl ⟨by rfl, fun w' h => by (go_simp; split <;> omega)⟩) (by assumption) ?_
  try simp only [Act.put, List.getElem_toArray, List.getElem_cons_zero, List.getElem_cons_succ, List.setIfInBounds_toArray, List.set_cons_zero, List.set_cons_succ]
  refine wpAnyH_ready (rs := [8]) (by kernel_rfl) (by simp) ?_
  refine AllReadyH.cons rfl (fun K hK => ?_) AllReadyH.nil
  refine if_wanted rfl ?_
  refine wp_assign0 (v := .int .i64 (max (x : Int) (y : Int))) rfl rfl ?_
  refine hK.out _ _ hHeld (fun hHeld => ?_)
  clear hK K
  try simp only [Act.put, List.getElem_toArray, List.getElem_cons_zero, List.getElem_cons_succ, List.setIfInBounds_toArray, List.set_cons_zero, List.set_cons_succ]
  refine wpAnyH_done (by kernel_rfl) ?_ _
  try simp only [Act.put, List.getElem_toArray, List.getElem_cons_zero, List.getElem_cons_succ, List.setIfInBounds_toArray, List.set_cons_zero, List.set_cons_succ]
  have hb := hHeld
  clear hHeld
  have HB9 := Lib.hid (HB.out.trans (hb.mono HB.out.size))
  clear hb
  go_wp2
  go_ret
  exact ⟨rfl, HB9.out⟩


set_option maxRecDepth 100000 in
set_option maxHeartbeats 4000000 in
theorem wins_any (a b : Nat) (ha : a < 9) (hb9 : b < 9) (ps : List Pq) (B n : Nat) (D : DataW Unit) (w : World) (hO : OwnsP w B n D) (hH : Holds D ok2 kP (cntP ps)) (hlen : ps.length ≤ 6500) :
    Calls Tryd.prog 53 #[.map (some B), .agg #[.int .i64 a, .int .i64 b]] w fun e w' => e = .returned (.bool (decide (cntP ps ((b : Int), (a : Int)) < cntP ps ((a : Int), (b : Int))))) ∧ Below w.heap.size w w' := by
  have HL : Hid (∀ (W : World), Below w.heap.size w W → ∀ (i k : Nat), i < 9 → k < 9 → (Instr.lookup 47 (.map (some B)) (.agg #[.int .i64 (i : Int), .int .i64 (k : Int)]) false).run Tryd.prog W = .ok (.int .i64 (cntP ps ((i : Int), (k : Int)))) W) := fun W hW i k hi hk =>
    tally_look (p := ((i : Int), (k : Int))) (hO.kept (grown_of_below hW) (by simp)) hH ⟨⟨by show (0 : Int) ≤ i; omega, by show (i : Int) < 9; omega⟩, ⟨by show (0 : Int) ≤ k; omega, by show (k : Int) < 9; omega⟩⟩
  have hx1 := cntP_le ps ((a : Int), (b : Int))
  have hx2 := cntP_le ps ((b : Int), (a : Int))
  clear hO hH
  have hL1 := fun W hW => HL.out W hW a b ha hb9
  have hL2 := fun W hW => HL.out W hW b a hb9 ha
  obtain ⟨x, hx⟩ : ∃ x, cntP ps ((a : Int), (b : Int)) = x := ⟨_, rfl⟩
  obtain ⟨y, hy⟩ : ∃ y, cntP ps ((b : Int), (a : Int)) = y := ⟨_, rfl⟩
  rw [hx] at hx1 hL1 ⊢
  rw [hy] at hx2 hL2 ⊢
  have L1 := Lib.hid hL1
  have L2 := Lib.hid hL2
  clear hL1 hL2 HL hx hy
  obtain ⟨W, hW⟩ : ∃ W, w.alloc (.cells #[.int .i64 a, .int .i64 b] 53) = W := ⟨_, rfl⟩
  have hrg : W.rangeAt w.heap.size 0 (pqc ((a : Int), (b : Int))) := by rw [← hW]; exact pq_range w _
  have hlt : w.heap.size < W.heap.size := by rw [← hW]; simp
  have hB : Below w.heap.size w W := by rw [← hW]; exact (Below.refl _ w).alloc (Nat.le_refl _) _
  have HRg := Lib.hid hrg
  have HB := Lib.hid hB
  clear hrg hB
  go_enter Tryd.func53, Tryd.ntmps53
  go_wp2_with fail
  clear hW
  refine wp_region_held_drew (S := fun w' => Below W.heap.size W w') (by kernel_rfl) (Below.refl _ _).drew (fun hHeld => ?_)
  refine wpAnyH_take (i := 0) (v := .map (some B)) rfl (by kernel_rfl) (by kernel_rfl) (by kernel_rfl) (fun _ _ _ h => h) (Or.inl ⟨by rfl, fun w' h => by go_simp⟩) (by assumption) ?_
  try simp only [Act.put, List.getElem_toArray, List.getElem_cons_zero, List.getElem_cons_succ, List.setIfInBounds_toArray, List.set_cons_zero, List.set_cons_succ]
  refine' wpAnyH_take (i := 1) (v := _) rfl (by kernel_rfl) (by kernel_rfl) (by kernel_rfl) (fun _ _ _ h => h) (yieldsIf_load_mid (by rfl) 53 (.tmp 3) rfl w.heap.size (0) rfl (pqc ((a : Int), (b : Int))) _ (fun w' h => fun j v hv => (rangeAt_below HRg.out h hlt) j v hv) Tryd.underlying53 rfl Tryd.sizePq) (by assumption) ?_
  try simp only [Act.put, List.getElem_toArray, List.getElem_cons_zero, List.getElem_cons_succ, List.setIfInBounds_toArray, List.set_cons_zero, List.set_cons_succ]
  refine' wpAnyH_take (i := 2) (v := _) rfl (by kernel_rfl) (by kernel_rfl) (by kernel_rfl) (fun _ _ _ h => h) (yieldsIf_lookupR (by rfl) 47 (.tmp 5) (.tmp 6) rfl rfl rfl (fun w' h => L1.out w' (HB.out.trans (h.mono HB.out.size)))) (by assumption) ?_
  try simp only [Act.put, List.getElem_toArray, List.getElem_cons_zero, List.getElem_cons_succ, List.setIfInBounds_toArray, List.set_cons_zero, List.set_cons_succ]
  refine wpAnyH_take (i := 3) (v := .map (some B)) rfl (by kernel_rfl) (by kernel_rfl) (by kernel_rfl) (fun _ _ _ h => h) (Or.inl ⟨by rfl, fun w' h => by go_simp⟩) (by assumption) ?_
  try simp only [Act.put, List.getElem_toArray, List.getElem_cons_zero, List.getElem_cons_succ, List.setIfInBounds_toArray, List.set_cons_zero, List.set_cons_succ]
  refine' wpAnyH_take (i := 4) (v := _) rfl (by kernel_rfl) (by kernel_rfl) (by kernel_rfl) (fun _ _ _ h => h) (yieldsIf_load_mid (by rfl) 53 (.tmp 3) rfl w.heap.size (0) rfl (pqc ((a : Int), (b : Int))) _ (fun w' h => fun j v hv => (rangeAt_below HRg.out h hlt) j v hv) Tryd.underlying53 rfl Tryd.sizePq) (by assumption) ?_
  try simp only [Act.put, List.getElem_toArray, List.getElem_cons_zero, List.getElem_cons_succ, List.setIfInBounds_toArray, List.set_cons_zero, List.set_cons_succ]
  obtain ⟨D0, hD0⟩ : ∃ D0, W.drew = D0 := ⟨_, rfl⟩
  rw [hD0] at hHeld ⊢
  clear hD0
  refine wpAnyH_ready (rs := [5]) (by kernel_rfl) (by simp) ?_
  refine AllReadyH.cons rfl (fun K hK => ?_) AllReadyH.nil
  refine if_wanted rfl ?_
  go_simp
  refine (swapped_any a b _).mono ?_
  rintro e w4 ⟨rfl, hb⟩
  have hH2 : Below W.heap.size W w4 := hHeld.trans (hb.mono hHeld.size)
  clear hb hHeld
  dsimp only
  refine hK.out _ _ hH2 (fun hHeld => ?_)
  clear hK K hH2
  try simp only [Act.put, List.getElem_toArray, List.getElem_cons_zero, List.getElem_cons_succ, List.setIfInBounds_toArray, List.set_cons_zero, List.set_cons_succ]
  refine' wpAnyH_take (i := 6) (v := _) rfl (by kernel_rfl) (by kernel_rfl) (by kernel_rfl) (fun _ _ _ h => h) (yieldsIf_lookupR (by rfl) 47 (.tmp 8) (.tmp 10) rfl rfl rfl (fun w' h => L2.out w' (HB.out.trans (h.mono HB.out.size)))) (by assumption) ?_
  try simp only [Act.put, List.getElem_toArray, List.getElem_cons_zero, List.getElem_cons_succ, List.setIfInBounds_toArray, List.set_cons_zero, List.set_cons_succ]
  refine wpAnyH_take (i := 7) (v := .bool (decide (y < x))) rfl (by kernel_rfl) (by kernel_rfl) (by kernel_rfl) (fun _ _ _ h => h) (Or.inl ⟨by rfl, fun w' h => by go_simp⟩) (by assumption) ?_
  try simp only [Act.put, List.getElem_toArray, List.getElem_cons_zero, List.getElem_cons_succ, List.setIfInBounds_toArray, List.set_cons_zero, List.set_cons_succ]
  refine wpAnyH_ready (rs := [8]) (by kernel_rfl) (by simp) ?_
  refine AllReadyH.cons rfl (fun K hK => ?_) AllReadyH.nil
  refine if_wanted rfl ?_
  refine wp_assign0 (v := .bool (decide (y < x))) rfl rfl ?_
  refine hK.out _ _ hHeld (fun hHeld => ?_)
  clear hK K
  try simp only [Act.put, List.getElem_toArray, List.getElem_cons_zero, List.getElem_cons_succ, List.setIfInBounds_toArray, List.set_cons_zero, List.set_cons_succ]
  refine wpAnyH_done (by kernel_rfl) ?_ _
  try simp only [Act.put, List.getElem_toArray, List.getElem_cons_zero, List.getElem_cons_succ, List.setIfInBounds_toArray, List.set_cons_zero, List.set_cons_succ]
  have hb := hHeld
  clear hHeld
  have HB9 := Lib.hid (HB.out.trans (hb.mono HB.out.size))
  clear hb
  go_wp2
  go_ret
  exact ⟨rfl, HB9.out⟩

/-- The greater number of both ways. -/
def gP (ps : List Pq) (p : Pq) : Int := max ((cntP ps p : Nat) : Int) ((cntP ps (p.2, p.1) : Nat) : Int)
def asc (i k : Nat) : Bool := decide (i < k)
/-- The sum of numbers of the first k. -/
def suP (g : Pq → Int) (qs : List Pq) : Int := (qs.map g).sum
theorem suP_snoc (g : Pq → Int) (qs : List Pq) (p : Pq) : suP g (qs ++ [p]) = suP g qs + g p := by simp [suP]
theorem suP_take {g : Pq → Int} {qs : List Pq} {k : Nat} {p : Pq} (h : qs[k]? = some p) : suP g (qs.take (k + 1)) = suP g (qs.take k) + g p := by
  obtain ⟨hlt, he⟩ := List.getElem?_eq_some_iff.1 h
  rw [List.take_succ_eq_append_getElem hlt, he, suP_snoc]
theorem suP_b {g : Pq → Int} {M : Int} : ∀ {qs : List Pq}, (∀ p ∈ qs, 0 ≤ g p ∧ g p ≤ M) → 0 ≤ suP g qs ∧ suP g qs ≤ qs.length * M
  | [], _ => by simp [suP]
  | p :: qs, h => by
    have h1 := suP_b (qs := qs) (fun q hq => h q (List.mem_cons_of_mem _ hq))
    have h2 := h p (List.mem_cons_self ..)
    have e : suP g (p :: qs) = g p + suP g qs := by simp [suP]
    have e2 : (((p :: qs).length : Nat) : Int) * M = (qs.length : Int) * M + M := by
      rw [List.length_cons, Int.natCast_add, Int.add_mul]; simp
    rw [e, e2]; omega

set_option maxRecDepth 100000 in
set_option maxHeartbeats 4000000 in
theorem sumForP_any (g : Pq → Int) (M : Int) (hM : M ≤ 6500) (qs : List Pq) (hqs : qs.length ≤ 6500) (hg : ∀ p ∈ qs, 0 ≤ g p ∧ g p ≤ M) (A : Option Addr) (c : Nat) (w : World) (hr : Rd w w.heap.size pqc A qs) (B : Nat)
    (HCf : ∀ p ∈ qs, ∀ (W : World), Below w.heap.size w W → Calls Tryd.prog 37 #[.map (some B), .agg #[.int .i64 p.1, .int .i64 p.2]] W fun e w' => e = .returned (.int .i64 (g p)) ∧ Below W.heap.size W w') :
    Calls Tryd.prog 34 #[.slice A qs.length c, .func (.func 37) #[.map (some B)] #[]] w fun e w' => e = .returned (.int .i64 (suP g qs)) ∧ Below w.heap.size w w' := by
  have HR := Lib.hid hr
  have HC := Lib.hid HCf
  have HG := Lib.hid hg
  clear hr HCf hg
  go_enter Tryd.func34, Tryd.ntmps34
  go_wp2_with fail
  go_loopw [5, 10] (fun s j wr => ∃ (t : Nat), t ≤ qs.length ∧ j = .int .i64 t ∧ s = .int .i64 (suP g (qs.take t)) ∧ Below w.heap.size w wr) (fun _ j _ => qs.length - (intOf j).toNat)
  case atStart => exact ⟨0, by omega, rfl, rfl, Below.refl _ _⟩
  case round =>
    obtain ⟨t, ht, rfl, rfl, hB⟩ := hrel
    obtain ⟨wa, rfl⟩ : ∃ u, u = wr := ⟨_, rfl⟩
    have HB := Lib.hid hB
    clear hB
    have ht0 : (0 : Int) ≤ (t : Int) := Int.natCast_nonneg _
    by_cases hlt : t < qs.length
    · obtain ⟨p, hp⟩ : ∃ x, qs[t]? = some x := ⟨_, List.getElem?_eq_getElem hlt⟩
      have ht8 : (t : Int) < qs.length := by omega
      obtain ⟨b, o, rfl, hbl, hrow⟩ := (HR.out.keep HB.out).at_ pqc_length hp
      have hpm := List.mem_of_getElem? hp
      have hgb := HG.out p hpm
      have HSu := Lib.hid (suP_take (g := g) hp)
      obtain ⟨p1, p2⟩ := p
      have hsb := suP_b (g := g) (M := M) (qs := qs.take t) (fun q hq => HG.out q (List.mem_of_mem_take hq))
      have hsl : (((qs.take t).length : Nat) : Int) * M ≤ 6500 * 6500 := Int.mul_le_mul (by rw [List.length_take]; omega) hM (by omega) (by omega)
      have e1 : wa.cell? ⟨b, o + t * 2, none⟩ = some (.int .i64 p1) := by simpa using hrow 0 (.int .i64 p1) (by simp [pqc])
      have e2 : wa.cell? ⟨b, o + t * 2 + 1, none⟩ = some (.int .i64 p2) := by simpa using hrow 1 (.int .i64 p2) (by simp [pqc])
      have HBa : Hid (Below wa.heap.size wa (wa.alloc (.cells #[.int .i64 p1, .int .i64 p2] 53))) := (Below.refl _ _).alloc (Nat.le_refl _) _
      have HCa := Lib.hid (HC.out (p1, p2) hpm _ (HB.out.trans (HBa.out.mono HB.out.size)))
      obtain ⟨s, hs⟩ : ∃ s, suP g (qs.take t) = s := ⟨_, rfl⟩
      obtain ⟨r, hr⟩ : ∃ r, g (p1, p2) = r := ⟨_, rfl⟩
      rw [hr] at hgb HSu HCa
      rw [hs] at hsb HSu ⊢
      have u1 : IntKind.i64.wrap (s + r) = s + r := IntWalk.i64_in _ ⟨by omega, by omega⟩
      have u2 : wrap64 (s + r) = s + r := IntWalk.wrap64_in _ ⟨by omega, by omega⟩
      clear hp hrow hbl hs hr hgb hsb hsl hpm
      go_wp2_with fail
      refine HCa.out.mono ?_
      rintro e w3 ⟨rfl, hb3⟩
      have HB3 := Lib.hid (HB.out.trans ((HBa.out.trans (hb3.mono HBa.out.size)).mono HB.out.size))
      clear hb3 HCa HBa HB e1 e2
      go_wp2
      go_roundw
      case rel => exact ⟨t + 1, by omega, by go_num, by rw [HSu.out], HB3.out⟩
      case measure => simp [intOf]; omega
    · obtain rfl : t = qs.length := by omega
      have HTk : Hid (suP g (qs.take qs.length) = suP g qs) := by show _ = _; rw [List.take_length]
      rw [HTk.out]
      go_wp2
      go_ret
      exact ⟨rfl, HB.out⟩

set_option maxRecDepth 100000 in
set_option maxHeartbeats 4000000 in
theorem pairsAsc_any (N : Nat) (hN8 : N ≤ 8) (w : World) (HCf : ∀ (i k : Nat), i < N → k < N → ∀ (W : World), Below w.heap.size w W → Calls Tryd.prog 36 #[.agg #[.int .i64 i, .int .i64 k]] W fun e w' => e = .returned (.bool (asc i k)) ∧ Below W.heap.size W w') :
    Calls Tryd.prog 35 #[.int .i64 N, .func (.func 36) #[] #[]] w fun e w' => ∃ A' c', e = .returned (.slice A' (thI (asc) N N).length c') ∧ w'.ownsRow w.heap.size 53 2 (.slice A' (thI (asc) N N).length c') (thI (asc) N N).length ((thI (asc) N N).flatMap pqc) ∧ Below w.heap.size w w' := by
  obtain ⟨i0, hi, hz0, hz1, hz2⟩ := info_parts Tryd.infoPq
  have HI := Lib.hid hi
  have HZ0 := Lib.hid hz0
  have HZ1 := Lib.hid hz1
  have HZ2 := Lib.hid hz2
  clear hi hz0 hz1 hz2

  have HC := Lib.hid HCf
  clear HCf
  have HO0 : Hid (w.ownsRow w.heap.size 53 2 (.slice none 0 0) (thI (asc) N 0).length ((thI (asc) N 0).flatMap pqc)) := ⟨rfl, .inl ⟨rfl, rfl⟩⟩
  have HB0 : Hid (Below w.heap.size w w) := Below.refl _ _
  go_enter Tryd.func35, Tryd.ntmps35
  go_wp2_with fail
  go_loopw [5, 10] (fun v j wr => ∃ (i : Nat) (A1 : Option Addr) (n1 c1 : Nat), i ≤ N ∧ j = .int .i64 i ∧ v = .slice A1 n1 c1 ∧ n1 = (thI (asc) N i).length ∧ wr.ownsRow w.heap.size 53 2 (.slice A1 n1 c1) n1 ((thI (asc) N i).flatMap pqc) ∧ Below w.heap.size w wr)
    (fun _ j _ => N - (intOf j).toNat)
  case atStart => exact ⟨0, none, 0, 0, by omega, rfl, rfl, rfl, HO0.out, HB0.out⟩
  case round =>
    clear HO0 HB0
    obtain ⟨i, A1, n1, c1, hi, rfl, rfl, hn1, hO, hB⟩ := hrel
    obtain ⟨wa, rfl⟩ : ∃ u, u = wr := ⟨_, rfl⟩
    have HO : Hid (n1 = (thI (asc) N i ++ thK (asc) i 0).length ∧ wa.ownsRow w.heap.size 53 2 (.slice A1 n1 c1) n1 ((thI (asc) N i ++ thK (asc) i 0).flatMap pqc)) := by
      show _ ∧ _
      rw [show thI (asc) N i ++ thK (asc) i 0 = thI (asc) N i from by simp [thK]]
      exact ⟨hn1, hO⟩
    have HB := Lib.hid hB
    have HN1 := Lib.hid hn1
    clear hO hB hn1
    have hi0 : (0 : Int) ≤ (i : Int) := Int.natCast_nonneg _
    by_cases hlt : i < N
    · have hi8 : (i : Int) < N := by omega
      have hl64 := thI_len64 (asc) hN8 (Nat.le_of_lt hlt)
      go_wp2_with fail
      clear HN1
      go_loopw [5, 14] (fun v j wr => ∃ (k : Nat) (A2 : Option Addr) (n2 c2 : Nat), k ≤ N ∧ j = .int .i64 k ∧ v = .slice A2 n2 c2 ∧ n2 = (thI (asc) N i ++ thK (asc) i k).length ∧ wr.ownsRow w.heap.size 53 2 (.slice A2 n2 c2) n2 ((thI (asc) N i ++ thK (asc) i k).flatMap pqc) ∧ Below w.heap.size w wr)
        (fun _ j _ => N - (intOf j).toNat)
      case atStart => exact ⟨0, A1, n1, c1, by omega, rfl, rfl, HO.out.1, HO.out.2, HB.out⟩
      case round =>
        clear HO HB
        obtain ⟨k, A2, n2, c2, hk, rfl, rfl, hn2, hO, hB⟩ := hrel
        obtain ⟨wb, rfl⟩ : ∃ u, u = wr := ⟨_, rfl⟩
        have HO := Lib.hid hO
        have HB := Lib.hid hB
        have HN2 := Lib.hid hn2
        clear hO hB
        have hk0 : (0 : Int) ≤ (k : Int) := Int.natCast_nonneg _
        by_cases hlt2 : k < N
        · have hk8 : (k : Int) < N := by omega
          have hn2b : n2 ≤ 72 := by have := thK_len (asc) i k; rw [hn2, List.length_append]; omega
          have hBa : Below wb.heap.size wb (wb.alloc (.cells #[.int .i64 i, .int .i64 k] 53)) := (Below.refl _ _).alloc (Nat.le_refl _) _
          have HCa := Lib.hid (HC.out i k hlt hlt2 _ (HB.out.trans (hBa.mono HB.out.size)))
          have hKa : Rs (wb.alloc (.cells #[.int .i64 i, .int .i64 k] 53)) wb.heap.size 53 pqc [((i : Int), (k : Int))] := by
            have := Blk.new wb 53 #[Value.int .i64 (i : Int), Value.int .i64 (k : Int)]
            simpa [Rs, pqc] using this
          have HBa := Lib.hid hBa
          have HKa := Lib.hid hKa
          clear hBa hKa hn2
          cases hf : asc i k
          · rw [hf] at HCa
            have hSt : Hid (thK (asc) i (k + 1) = thK (asc) i k) := thK_no hf
            clear hf
            go_wp2_with fail
            refine HCa.out.mono ?_
            rintro e w3 ⟨rfl, hb3⟩
            have hb3' := HBa.out.trans (hb3.mono HBa.out.size)
            have HO3 := Lib.hid (own_keep' HO.out hb3')
            have HB3 := Lib.hid (HB.out.trans (hb3'.mono HB.out.size))
            clear hb3 hb3' HCa HBa HKa HO HB
            go_wp2
            go_roundw
            case rel => exact ⟨k + 1, A2, n2, c2, by omega, by go_num, rfl, by rw [hSt.out]; exact HN2.out, by rw [hSt.out]; exact HO3.out, HB3.out⟩
            case measure => simp [intOf]; omega
          · rw [hf] at HCa
            have hSt : Hid (thK (asc) i (k + 1) = thK (asc) i k ++ [((i : Int), (k : Int))]) := thK_yes hf
            clear hf
            go_wp2_with fail
            refine HCa.out.mono ?_
            rintro e w3 ⟨rfl, hb3⟩
            have hb3' := HBa.out.trans (hb3.mono HBa.out.size)
            have HO3 := Lib.hid (own_keep' HO.out hb3')
            have HB3 := Lib.hid (HB.out.trans (hb3'.mono HB.out.size))
            have hK3 : Rs w3 wb.heap.size 53 pqc [((i : Int), (k : Int))] := Blk.keep HKa.out hb3
            have d0 : w3.cell? ⟨wb.heap.size, 0, none⟩ = some (.int .i64 i) := Rs.range hK3 0 _ (by simp [pqc])
            have d1 : w3.cell? ⟨wb.heap.size, 1, none⟩ = some (.int .i64 k) := by have := Rs.range hK3 1 (.int .i64 (k : Int)) (by simp [pqc]); simpa using this
            clear hb3 hb3' HCa HBa HKa HO HB hK3
            go_wp2_with (at_builtin; refine wpList_append_own _ rfl (.tmp 23) (.tmp 25) 54 rfl w.heap.size 53 i0 (.agg #[.int .i64 0, .int .i64 0]) 2 16 Tryd.underlying54 HI.out HZ0.out HZ1.out HZ2.out rfl (by decide) _ _ _ rfl (HO3.out.alloc _) ⟨w3.heap.size, 0, none⟩ 1 1 [.int .i64 i, .int .i64 k] rfl rfl ?c1 ?c2 ?c3 ?c4 ?c5 ?_)
            case c1 => exact cell_two_newP _ _ _ _
            case c2 => exact two_oneP _ _
            case c3 => unfold maxLen; omega
            case c4 => omega
            case c5 => have := HB3.out.size; simp; omega
            intro v' w4 hown' hgrow _
            have hown4 : w4.ownsRow w.heap.size 53 2 v' (n2 + 1) ((thI (asc) N i ++ thK (asc) i (k + 1)).flatMap pqc) := by
              rw [hSt.out, ← List.append_assoc, pqc_snoc]; simpa [pqc] using hown'
            have HB4 : Hid (Below w.heap.size w w4) := (HB3.out.alloc HB3.out.size _).grown hgrow (by have := HB3.out.size; simp; omega) (fun r e => (HO3.out.lt r e).1)
            have HN4 : Hid (n2 + 1 = (thI (asc) N i ++ thK (asc) i (k + 1)).length) := by
              show _ = _
              rw [hSt.out, ← List.append_assoc, List.length_append, ← HN2.out]; rfl
            obtain ⟨A8, c8, rfl⟩ : ∃ A8 c8, v' = .slice A8 (n2 + 1) c8 := by
              rcases hown4.2 with ⟨h1, h2⟩ | ⟨g, cap, cur, h1, -⟩
              · exact ⟨_, _, by rw [h1, h2]⟩
              · exact ⟨_, _, h1⟩
            have HO4 := Lib.hid hown4
            clear hown' hown4 hgrow d0 d1
            go_wp2
            go_roundw
            case rel => exact ⟨k + 1, A8, n2 + 1, c8, by omega, by go_num, rfl, HN4.out, HO4.out, HB4.out⟩
            case measure => simp [intOf]; omega
        · obtain rfl : k = N := by omega
          have HOx : Hid (n2 = (thI (asc) k (i + 1)).length ∧ wb.ownsRow w.heap.size 53 2 (.slice A2 n2 c2) n2 ((thI (asc) k (i + 1)).flatMap pqc)) := ⟨HN2.out, HO.out⟩
          clear hn2
          go_wp2
          go_roundw
          case rel => exact ⟨i + 1, A2, n2, c2, by omega, by go_num, rfl, HOx.out.1, HOx.out.2, HB.out⟩
          case measure => simp [intOf]; omega
    · obtain rfl : i = N := by omega
      have HOx : Hid (wa.ownsRow w.heap.size 53 2 (.slice A1 n1 c1) n1 ((thI (asc) i i).flatMap pqc)) := by
        have := HO.out.2
        rw [show thI (asc) i i ++ thK (asc) i 0 = thI (asc) i i from by simp [thK]] at this
        exact this
      go_wp2
      go_ret
      exact ⟨A1, c1, by (rw [← HN1.out]; first | done | rfl), by rw [← HN1.out]; exact HOx.out, HB.out⟩

end Go.Proofs.YtglhjdnencpdiaaDoor
