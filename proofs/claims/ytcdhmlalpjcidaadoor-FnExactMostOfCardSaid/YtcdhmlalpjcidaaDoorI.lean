/-
  The contract of placesWith and of the iterator that it hands back, for whatever predicate; the contract of the program's ValidCrate. No condition but the crate's length and that its numbers fit their kinds.
-/
import Derived.RangeFuncNested
import Derived.RangeFuncBound
import Derived.RangeFuncCalls
import Derived.RangeFuncLeaves
import Derived.Shelf.Abstract
import Derived.Shelf.RegionOpen
import Derived.WalkKit
import Derived.OwnWalkIn
import Derived.TacticsInMore
import Derived.LoopNIn
import Derived.LoopIn
import Derived.Lib.Hide
import Derived.Test.YtcdhmlalpjcidaaDoorV
namespace Go.Proofs.YtcdhmlalpjcidaaDoor
open Go.RowKit Go.Shelf
attribute [local go_sem] Oper.semAt_some

theorem ccells_extract (bs : List Bot) {k : Nat} {b : Bot} (h : bs[k]? = some b) : (ccells bs).toArray.extract (k * 2) (k * 2 + 2) = #[.int .u8 b.1, .int .i16 b.2] := by
  obtain ⟨hlt, he⟩ := List.getElem?_eq_some_iff.1 h
  have e1 := ccells_even bs k hlt
  have e2 := ccells_odd bs k hlt
  have hl := ccells_length bs
  rw [he] at e1 e2
  apply Array.ext
  · simp; omega
  · intro i h1 h2
    simp at h2
    have : i = 0 ∨ i = 1 := by omega
    rcases this with rfl | rfl
    · have := (List.getElem?_eq_some_iff.1 e1).2
      simp [Array.getElem_extract, Nat.mul_comm k 2, this]
    · have := (List.getElem?_eq_some_iff.1 e2).2
      simp [Array.getElem_extract, Nat.mul_comm k 2, this]

theorem run_index_crate {P : Program} {t e : TypeId} (ht : P.underlying t = some (.array 12 e)) (ha : ∀ w, (isAgg e).run P w = .ok true w) (hs : ∀ w, (sizeOf e).run P w = .ok 2 w) (bs : List Bot) {k : Nat} {b : Bot} (hk : bs[k]? = some b) (h12 : k < 12) (w : World) :
    (Instr.index t (.agg (ccells bs).toArray) (.int .i64 k)).run P w = .ok (.agg #[.int .u8 b.1, .int .i16 b.2]) w := by
  have hx := ccells_extract bs hk
  unfold Instr.index
  simp only [asIntOf, Sem.run_bind, Sem.run_pure, Result.andThen_ok, run_underlying ht, part, ha, hs]
  rw [if_pos (by omega)]
  simp only [Sem.run_bind, Sem.run_pure, Result.andThen_ok, hs, ha, if_true, Int.toNat_natCast, hx]

theorem run_loadCells_crate {P : Program} {w : World} {B : Nat} {t : TypeId} {X : List Bot} (h : CBlk w B t X) (hl : X.length = 12) : (loadCellsFrom ⟨B, 0, none⟩ 0 24 #[]).run P w = .ok (ccells X).toArray w := by
  have := run_loadCells_list (P := P) w ⟨B, 0, none⟩ (ccells X) (fun j v hv => by
    have hadd : (⟨B, 0, none⟩ : Addr).add j = ⟨B, j, none⟩ := by unfold Addr.add; split <;> simp_all
    rw [hadd, h.cell]
    exact hv)
  simpa [loadCells, ccells_length, hl] using this

/-- A whole row read, inside a fence. -/
theorem wpListIn_load_rowC {F : Fence} {n : Nat} {P : Program} {w : World} {ops : Array Oper} {rest : List Oper} {o : Oper} {a : Act} {Q : Exit → Act → World → Prop} (hgd : o.guard = none) (ty : TypeId) (x : Operand) (ho : o.op = .load ty x)
    (g : Nat) (hx : a.eval x = .pointer (some ⟨g, 0, none⟩)) (t : TypeId) (cs : Array Value) (fr : Nat × Nat) (d : TypeDesc) (hg : w.heap[g]? = some (.cells cs t fr))
    (hu : P.underlying ty = some d) (hd : (match d with | .struct _ | .array _ _ => true | _ => false) = true) (hi : (P.info? ty).map (·.size) = some cs.size)
    (h : wpListIn F n P ops Q rest (a.put o.dst (.agg cs)) w) : wpListIn F n P ops Q (o :: rest) a w := by
  refine wpListIn_plain hgd fun K hK => ?_
  unfold Oper.wpIn
  refine ⟨by simp [Oper.about, ho], ?_⟩
  rw [Oper.semAt_plain F _ _ (by rw [ho]; intro c hc; cases hc)]
  unfold execOp
  simp only [ho, hx, Instr.loadAt, Instr.sureAddr, Sem.run_bind, Sem.run_pure, Result.andThen_ok, run_loadVar_row w g t ty cs fr d hg hu hd hi]
  exact hK _ _ h
/-- A whole row written, inside a fence. -/
theorem wpListIn_store_rowC {F : Fence} {n : Nat} {P : Program} {w : World} {ops : Array Oper} {rest : List Oper} {o : Oper} {a : Act} {Q : Exit → Act → World → Prop} (hgd : o.guard = none) (ty : TypeId) (x y : Operand) (ho : o.op = .store ty x y)
    (g : Nat) (cells : Array Value) (hx : a.eval x = .pointer (some ⟨g, 0, none⟩)) (hy : a.eval y = .agg cells)
    (t : TypeId) (old : Array Value) (hg : w.heap[g]? = some (.cells old t (0, 0))) (hi : (P.info? ty).map (·.size) = some cells.size)
    (hold : old.size = cells.size) (h1 : cells.all (·.oneCell') = true)
    (h : wpListIn F n P ops Q rest (a.put o.dst undef) (w.setRow g cells)) : wpListIn F n P ops Q (o :: rest) a w := by
  refine wpListIn_plain hgd fun K hK => ?_
  unfold Oper.wpIn
  refine ⟨by simp [Oper.about, ho], ?_⟩
  rw [Oper.semAt_plain F _ _ (by rw [ho]; intro c hc; cases hc)]
  unfold execOp
  simp only [ho, hx, hy, Instr.storeAt, Instr.sureAddr, Sem.run_bind, Sem.run_pure, Result.andThen_ok, run_storeVar_row w g t ty old cells hg hi hold h1]
  exact hK _ _ h

/-! ### What comes out of the iterator -/
abbrev Pl (bs : List Bot) (p : Bot → Bool) := { j : Nat // (bs[j]?.any p) = true }
def plTo (bs : List Bot) (p : Bot → Bool) : Nat → List (Pl bs p)
  | 0 => []
  | k + 1 => if h : (bs[k]?.any p) = true then plTo bs p k ++ [⟨k, h⟩] else plTo bs p k
theorem plTo_yes {bs : List Bot} {p : Bot → Bool} {k : Nat} (h : (bs[k]?.any p) = true) : plTo bs p (k + 1) = plTo bs p k ++ [⟨k, h⟩] := by simp [plTo, h]
theorem plTo_no {bs : List Bot} {p : Bot → Bool} {k : Nat} (h : (bs[k]?.any p) = false) : plTo bs p (k + 1) = plTo bs p k := by simp [plTo, h]
theorem plTo_length (bs : List Bot) (p : Bot → Bool) (k : Nat) : (plTo bs p k).length ≤ k := by
  induction k with
  | zero => simp [plTo]
  | succ k ih =>
    by_cases h : (bs[k]?.any p) = true
    · rw [plTo_yes h]; simp; omega
    · rw [plTo_no (by simpa using h)]; omega
theorem plTo_prefix {bs : List Bot} {p : Bot → Bool} {k m : Nat} (h : k ≤ m) : plTo bs p k <+: plTo bs p m := by
  induction m with
  | zero => obtain rfl : k = 0 := by omega
            exact List.prefix_refl _
  | succ m ih =>
    by_cases e : k = m + 1
    · subst e; exact List.prefix_refl _
    · refine (ih (by omega)).trans ?_
      by_cases h : (bs[m]?.any p) = true
      · rw [plTo_yes h]; exact List.prefix_append _ _
      · rw [plTo_no (by simpa using h)]; exact List.prefix_refl _
theorem plTo_mem {bs : List Bot} {p : Bot → Bool} {k : Nat} {j : Pl bs p} : j ∈ plTo bs p k ↔ j.1 < k := by
  induction k with
  | zero => simp [plTo]
  | succ k ih =>
    by_cases h : (bs[k]?.any p) = true
    · rw [plTo_yes h, List.mem_append, ih]
      simp only [List.mem_singleton]
      constructor
      · rintro (h1 | rfl)
        · omega
        · exact Nat.lt_succ_self _
      · intro h1
        by_cases e : j.1 = k
        · exact .inr (Subtype.ext e)
        · exact .inl (by omega)
    · rw [plTo_no (by simpa using h), ih]
      constructor
      · intro h1; omega
      · intro h1
        by_cases e : j.1 = k
        · exact absurd (e ▸ j.2) h
        · omega

theorem grown_of_below {W W' : World} (h : Below W.heap.size W W') : W.grownBy W' none := ⟨h.os, h.tape, h.output, h.size, fun k hk _ => h.block k hk⟩
theorem keepsOthers_of_below {W W' : World} (h : Below W.heap.size W W') : KeepsOthers W W' := KeepsOthers.of_grownBy (grown_of_below h) (fun j o e => by cases e)

/-- The predicate's contract: whatever a function value that is handed to placesWith must do. -/
def Fits (P : Program) (n₀ : Nat) (w0 : World) (g : Nat) (lb : Array Value) (p : Bot → Bool) : Prop :=
  ∀ (b : Bot) (W : World), wfB b → Below n₀ w0 W → Calls P g (#[.agg #[.int .u8 b.1, .int .i16 b.2]] ++ lb) W fun e W' => e = .returned (.bool (p b)) ∧ Below W.heap.size W W'

set_option maxRecDepth 100000 in
set_option maxHeartbeats 2000000 in
theorem places_stops (bs : List Bot) (hwf : WfC bs) (p : Bot → Bool) (g : Nat) (lb : Array Value) (eg : ∀ args w, (callFunc g args).run Tryd.prog w = .ok (.enter g args) w) (n : Nat) (hn : 2 ≤ n)
    (n₀ Bc Bf : Nat) (w0 w : World) (hw0 : Below n₀ w0 w) (hp : Fits Tryd.prog n₀ w0 g lb p) (hn₀ : n₀ ≤ w.heap.size) (hBc : CBlk w Bc 30 bs) (hBf : Bf < n₀) (hcf : w.cell? ⟨Bf, 0, none⟩ = some (.func (.func g) #[] lb)) :
    SeqStopsK Fence.wide n Tryd.prog 110 #[.pointer (some ⟨Bc, 0, none⟩), .pointer (some ⟨Bf, 0, none⟩)] (fun x : Pl bs p => #[.int .i64 (x.1 : Int)]) (Below n₀) (fun xs => xs = plTo bs p 12) (fun pre => pre <+: plTo bs p 12) 12 w := by
  intro l J Jx W hW hJ hJx hY h0
  have HY := Lib.hid hY
  have HP := Lib.hid hp
  have HW := Lib.hid hwf
  have H0 := Lib.hid (hw0.trans (hW.mono hn₀))
  have HJ := Lib.hid hJ
  have hrow := Lib.hid (hBc.below hW hBc.lt)
  have hnW : n₀ ≤ W.heap.size := Nat.le_trans hn₀ hW.size
  have hcfW := (hW.cell (p := ⟨Bf, 0, none⟩) (by show Bf < _; omega)).trans hcf
  have HF := Lib.hid hcfW
  clear hY hp hwf hw0 hW hBc hcf hcfW hJ hJx
  refine callsIn_of_wp Tryd.func110 rfl trivial ?_ rfl
  simp only [Tryd.ntmps110, List.size_toArray, List.length_cons, List.length_nil, Nat.reduceAdd, Nat.reduceSub, Array.replicate_succ, Array.replicate_zero, List.push_toArray, List.append_toArray, List.nil_append, List.cons_append]
  gi_wp2_with (refine wpListIn_load_rowC rfl 30 (.tmp 1) rfl Bc rfl 30 _ (0, 0) _ hrow.out Tryd.underlying30 rfl (size_of_crate Tryd.sizeCr _ HW.out.1) ?_)
  clear hrow
  gi_loopw [7] (fun i wr => ∃ k : Nat, k ≤ 12 ∧ i = .int .i64 k ∧ J (plTo bs p k) wr ∧ Below n₀ W wr)
    (fun i _ => 12 - (intOf i).toNat)
  case atStart => exact ⟨0, by omega, rfl, h0, Below.refl _ _⟩
  case round =>
    obtain ⟨k, hk, rfl, hJs, hB⟩ := hrel
    have HJs := Lib.hid hJs
    have HB := Lib.hid hB
    clear hJs hB
    by_cases hlt : k < 12
    · obtain ⟨k1, y1, hbk, wk, wy⟩ := HW.out.at_ hlt
      have Hk := Lib.hid hbk
      have hix := run_index_crate (P := Tryd.prog) Tryd.underlying30 Tryd.isAgg26 Tryd.sizeOf26 bs hbk hlt
      clear hbk
      have hlb : Bf < wr.heap.size := by
        have h1 := HB.out.size
        have h2 := block_lt_of_cell HF.out
        exact Nat.lt_of_lt_of_le h2 h1
      have hcf : (wr.alloc (.cells #[.int .u8 k1, .int .i16 y1] 26)).cell? ⟨Bf, 0, none⟩ = some (.func (.func g) #[] lb) :=
        (World.cell?_alloc_lt wr _ ⟨Bf, 0, none⟩ hlb).trans ((HB.out.cell (p := ⟨Bf, 0, none⟩) hBf).trans HF.out)
      have hn1 : n₀ ≤ wr.heap.size := by have := HB.out.size; omega
      have hBa : Below n₀ w0 (wr.alloc (.cells #[.int .u8 k1, .int .i16 y1] 26)) := (H0.out.trans HB.out).alloc hn1 _
      have HBa := Lib.hid hBa
      clear hBa
      gi_wp2_with fail
      refine ⟨trivial, (fun h => by cases h), ?_⟩
      refine (callsIn_wide.2 (HP.out (k1, y1) _ ⟨wk.1, wk.2, wy.1, wy.2⟩ HBa.out)).mono ?_
      rintro e w1 ⟨rfl, hb1⟩
      have hg1 : Below wr.heap.size wr w1 := ((Below.refl _ wr).alloc (Nat.le_refl _) _).trans (hb1.mono (by simp))
      have HG := Lib.hid hg1
      have HJ1 : Hid (J (plTo bs p k) w1) := HJ.out _ _ _ none HJs.out (grown_of_below hg1) (fun r e => by cases e)
      clear hb1 hg1 hcf hix
      cases hpk : p (k1, y1)
      · have hno : (bs[k]?.any p) = false := by rw [Hk.out]; exact hpk
        have HN := Lib.hid hno
        have HPK := Lib.hid hpk
        clear hno hpk
        gi_wp2
        refine ⟨(fun _ h => by cases h), ?_⟩
        gi_wp2
        go_roundw
        case rel => exact ⟨k + 1, by omega, by go_num, by rw [plTo_no HN.out]; exact HJ1.out, HB.out.trans (HG.out.mono hn1)⟩
        case measure => simp [intOf]; omega
      · have hyes : (bs[k]?.any p) = true := by rw [Hk.out]; exact hpk
        have HN := Lib.hid hyes
        have HPK := Lib.hid hpk
        clear hyes hpk
        obtain ⟨fn, tmps, assign, body, hy, hR⟩ := HY.out (plTo bs p k) ⟨k, HN.out⟩ w1 HJ1.out (by have := plTo_length bs p k; omega)
        dsimp only at hy
        gi_wp2
        refine ⟨(fun h => by cases h), hR.mono ?_⟩
        rintro e w2 (⟨rfl, hJ2, hk2⟩ | ⟨rfl, hJx2⟩)
        · have HJ2 := Lib.hid hJ2
          have HK2 := Lib.hid hk2
          clear hJ2 hk2
          gi_wp2
          go_roundw
          case rel => exact ⟨k + 1, by omega, by go_num, by rw [plTo_yes HN.out]; exact HJ2.out, (HB.out.trans (HG.out.mono hn1)).trans HK2.out⟩
          case measure => simp [intOf]; omega
        · have HJ2 := Lib.hid hJx2
          clear hJx2
          gi_wp2
          refine bodyPost_ret (results_none rfl _ _ _) rfl ?_
          exact ⟨⟨_, rfl⟩, .inr ⟨plTo bs p (k + 1), plTo_prefix (by omega), by rw [plTo_yes HN.out]; exact HJ2.out⟩⟩
    · obtain rfl : k = 12 := by omega
      gi_wp2
      go_end0
      exact ⟨⟨_, rfl⟩, .inl ⟨_, rfl, HJs.out⟩⟩

theorem placesWith_any (bs : List Bot) (fv : Value) (h1 : ∃ g lb, fv = .func g #[] lb) (w : World) :
    Calls Tryd.prog 97 #[.agg (ccells bs).toArray, fv] w fun e w' => e = .returned (.func (.func 110) #[] #[.pointer (some ⟨w.heap.size, 0, none⟩), .pointer (some ⟨w.heap.size + 1, 0, none⟩)]) ∧ w' = (w.alloc (.cells (ccells bs).toArray 30)).alloc (.cells #[fv] 97) := by
  obtain ⟨g, lb, rfl⟩ := h1
  go_enter Tryd.func97, Tryd.ntmps97
  go_wp2
  go_ret
  exact ⟨rfl, rfl⟩
end Go.Proofs.YtcdhmlalpjcidaaDoor
