/-
  FirstUnfair backward: what is found going from the last to the first (mathematics), and the iterator of slices.Backward. Condition: the list reads, its numbers fit.
-/
import Derived.RangeFuncNested
import Derived.RangeFuncBox
import Derived.RangeFuncBound
import Derived.RangeFuncCalls
import Derived.RangeFuncLeaves
import Derived.Shelf.Abstract
import Derived.Shelf.RegionOpen
import Derived.OwnWalkIn
import Derived.TacticsInMore
import Derived.LoopNIn
import Derived.LoopIn
import Derived.Test.YtmfdgpinohbckaaDoorUf3
namespace Go.Proofs.YtmfdgpinohbckaaDoor
open Go.RowKit Go.Shelf Go.ChangeShapes Go.WideShapes Go.ChangeAt Go.Deep
attribute [local go_sem] Oper.semAt_some

/-- A bottle with its place. -/
abbrev UB := { p : Nat × Wnt // wfW p.2 ∧ p.1 < 1048576 }
def ubE (p : UB) : Array Value := #[.int .i64 (p.1.1 : Int), .agg #[.int .u8 p.1.2.1.1, .int .i16 p.1.2.1.2, .int .i16 p.1.2.2]]
theorem wf_getD {ts : List Wnt} (h : ∀ x ∈ ts, wfW x) (i : Nat) : wfW (ts.getD i ((0, 0), 0)) := by
  rcases Nat.lt_or_ge i ts.length with hi | hi
  · have e : ts.getD i ((0, 0), 0) = ts[i] := by simp [hi]
    rw [e]; exact h _ (List.getElem_mem hi)
  · have e : ts.getD i ((0, 0), 0) = ((0, 0), 0) := by simp [List.getElem?_eq_none hi]
    rw [e]; exact ⟨⟨by decide, by decide, by decide, by decide⟩, by decide, by decide⟩
def bwE (ts : List Wnt) (h : ∀ x ∈ ts, wfW x) (hl : ts.length ≤ 1048576) (m : Nat) : UB := ⟨(ts.length - 1 - m, ts.getD (ts.length - 1 - m) ((0, 0), 0)), wf_getD h _, by show ts.length - 1 - m < 1048576; omega⟩
def bwL (ts : List Wnt) (h : ∀ x ∈ ts, wfW x) (hl : ts.length ≤ 1048576) (m : Nat) : List UB := (List.range m).map (bwE ts h hl)
theorem bwL_succ (ts : List Wnt) (h : ∀ x ∈ ts, wfW x) (hl : ts.length ≤ 1048576) (m : Nat) : bwL ts h hl (m + 1) = bwL ts h hl m ++ [bwE ts h hl m] := by simp [bwL, List.range_succ]
theorem bwL_length (ts : List Wnt) (h : ∀ x ∈ ts, wfW x) (hl : ts.length ≤ 1048576) (m : Nat) : (bwL ts h hl m).length = m := by simp [bwL]
theorem bwE_enc {ts : List Wnt} (h : ∀ x ∈ ts, wfW x) (hl : ts.length ≤ 1048576) {j : Nat} {k y n : Int} (hx : ts[j]? = some ((k, y), n)) : ubE (bwE ts h hl (ts.length - (j + 1))) = #[.int .i64 (j : Int), .agg #[.int .u8 k, .int .i16 y, .int .i16 n]] := by
  have hj := (List.getElem?_eq_some_iff.1 hx).1
  have e : ts.length - 1 - (ts.length - (j + 1)) = j := by omega
  simp [ubE, bwE, e, hx]
/-- One step backward: what is found so far, and what was seen. -/
def uqS (s : Int) (st : Option Nat × List Wnt) (p : UB) : Option Nat × List Wnt := (if st.2.any (fun o => ufE s o p.1.2) then some p.1.1 else st.1, p.1.2 :: st.2)
def uqL (s : Int) (ls : List Wnt) (pre : List UB) : Option Nat × List Wnt := pre.foldl (uqS s) (none, ls.reverse)
theorem uqL_nil (s : Int) (ls : List Wnt) : uqL s ls [] = (none, ls.reverse) := rfl
theorem uqL_snoc (s : Int) (ls : List Wnt) (pre : List UB) (x : UB) : uqL s ls (pre ++ [x]) = uqS s (uqL s ls pre) x := by simp [uqL]
def uqIs (s : Int) (ts ls : List Wnt) (m : Nat) (st : Option Nat × List Wnt) : Prop :=
  (∀ o, o ∈ st.2 ↔ o ∈ ls ∨ ∃ j : Nat, ts.length - m ≤ j ∧ ts[j]? = some o) ∧ (st.1 = none → ∀ i, ts.length - m ≤ i → i < ts.length → ufB s ts ls i = false) ∧
    ∀ i, st.1 = some i → i < ts.length ∧ ufB s ts ls i = true ∧ ∀ j, ts.length - m ≤ j → j < i → ufB s ts ls j = false
theorem uq_is (s : Int) (ts ls : List Wnt) (h : ∀ x ∈ ts, wfW x) (hl : ts.length ≤ 1048576) (m : Nat) (hm : m ≤ ts.length) : uqIs s ts ls m (uqL s ls (bwL ts h hl m)) := by
  induction m with
  | zero =>
    refine ⟨fun o => ?_, fun _ i h1 h2 => by omega, fun i hi => by simp [bwL, uqL] at hi⟩
    simp only [bwL, List.range_zero, List.map_nil, uqL_nil, List.mem_reverse, Nat.sub_zero]
    refine ⟨.inl, fun h => h.elim id (fun ⟨j, h1, h2⟩ => ?_)⟩
    have := (List.getElem?_eq_some_iff.1 h2).1
    omega
  | succ m ih =>
    obtain ⟨h1, h2, h3⟩ := ih (by omega)
    obtain ⟨i0, hi0⟩ : ∃ i0, ts.length - 1 - m = i0 := ⟨_, rfl⟩
    have hlt : i0 < ts.length := by omega
    obtain ⟨t, ht⟩ : ∃ t, ts[i0]? = some t := ⟨_, List.getElem?_eq_getElem hlt⟩
    have ed : ts.getD i0 ((0, 0), 0) = t := by simp [ht]
    have e1 : ts.length - m = i0 + 1 := by omega
    have e2 : ts.length - (m + 1) = i0 := by omega
    rw [e1] at h1 h2 h3
    have hE : (bwE ts h hl m).1 = (i0, t) := by simp only [bwE, hi0, ed]
    rw [bwL_succ, uqL_snoc]
    generalize uqL s ls (bwL ts h hl m) = st at h1 h2 h3
    have hany : st.2.any (fun o => ufE s o t) = ufB s ts ls i0 := by
      rw [Bool.eq_iff_iff, ufB, ed, Bool.or_eq_true, List.any_eq_true, List.any_eq_true, List.any_eq_true]
      constructor
      · rintro ⟨o, ho, hu⟩
        rcases (h1 o).1 ho with ho | ⟨j, hj, ho⟩
        · exact .inr ⟨o, ho, hu⟩
        · refine .inl ⟨o, List.mem_iff_getElem?.2 ⟨j - (i0 + 1), ?_⟩, hu⟩
          rw [List.getElem?_drop, show i0 + 1 + (j - (i0 + 1)) = j from by omega]; exact ho
      · rintro (⟨o, ho, hu⟩ | ⟨o, ho, hu⟩)
        · obtain ⟨j, hj⟩ := List.mem_iff_getElem?.1 ho
          rw [List.getElem?_drop] at hj
          exact ⟨o, (h1 o).2 (.inr ⟨_, by omega, hj⟩), hu⟩
        · exact ⟨o, (h1 o).2 (.inl ho), hu⟩
    have hst : uqS s st (bwE ts h hl m) = (if ufB s ts ls i0 then some i0 else st.1, t :: st.2) := by rw [uqS, hE, hany]
    rw [hst]
    refine ⟨fun o => ?_, ?_, ?_⟩
    · rw [e2, List.mem_cons, h1]
      constructor
      · rintro (rfl | ho | ⟨j, hj, ho⟩)
        · exact .inr ⟨i0, Nat.le_refl _, ht⟩
        · exact .inl ho
        · exact .inr ⟨j, by omega, ho⟩
      · rintro (ho | ⟨j, hj, ho⟩)
        · exact .inr (.inl ho)
        · by_cases e : j = i0
          · subst e; rw [ht] at ho; exact .inl (Option.some.inj ho).symm
          · exact .inr (.inr ⟨j, by omega, ho⟩)
    · rw [e2]
      intro hn i hi hi2
      by_cases hu : ufB s ts ls i0 = true
      · simp [hu] at hn
      · by_cases e : i = i0
        · subst e; simpa using hu
        · exact h2 (by simpa [hu] using hn) i (by omega) hi2
    · rw [e2]
      intro i hi
      by_cases hu : ufB s ts ls i0 = true
      · simp only [hu, if_true, Option.some.injEq] at hi
        subst hi
        exact ⟨hlt, hu, fun j h4 h5 => by omega⟩
      · obtain ⟨q1, q2, q3⟩ := h3 i (by simpa [hu] using hi)
        refine ⟨q1, q2, fun j h4 h5 => ?_⟩
        by_cases e : j = i0
        · subst e; simpa using hu
        · exact q3 j (by omega) h5
/-- What was found when all is seen. -/
theorem uq_all {s : Int} {ts ls : List Wnt} (h : ∀ x ∈ ts, wfW x) (hl : ts.length ≤ 1048576) (ho : ufO s ts ls = none) : ufN s ts ls = ((uqL s ls (bwL ts h hl ts.length)).1).getD 0 ∧ ufC s ts ls = (if (uqL s ls (bwL ts h hl ts.length)).1.isSome = true then 0 else 6) := by
  obtain ⟨-, h2, h3⟩ := uq_is s ts ls h hl ts.length (Nat.le_refl _)
  generalize uqL s ls (bwL ts h hl ts.length) = st at h2 h3
  cases e : st.1 with
  | none => exact uf_none ho (fun j hj => h2 e j (by omega) hj)
  | some i =>
    obtain ⟨q1, q2, q3⟩ := h3 i e
    exact uf_some ho q1 q2 (fun j hj => q3 j (by omega) hj)

/-- What lies below n0 and the block Bs lie on. -/
def KeepS (n0 Bs : Nat) (W W' : World) : Prop := Below n0 W W' ∧ W'.heap[Bs]? = W.heap[Bs]?
theorem KeepS.refl (n0 Bs : Nat) (W : World) : KeepS n0 Bs W W := ⟨Below.refl _ _, rfl⟩
theorem KeepS.trans {n0 Bs : Nat} {A B C : World} (h : KeepS n0 Bs A B) (k : KeepS n0 Bs B C) : KeepS n0 Bs A C := ⟨h.1.trans k.1, k.2.trans h.2⟩
theorem KeepS.cell {n0 Bs : Nat} {W W' : World} (h : KeepS n0 Bs W W') {v : Value} (hc : W.cell? ⟨Bs, 0, none⟩ = some v) : W'.cell? ⟨Bs, 0, none⟩ = some v := by
  rw [← hc]; simp only [World.cell?, h.2]
theorem keepS_b {n0 Bs : Nat} {w : World} (hn : n0 ≤ w.heap.size) (hB : Bs < w.heap.size) (W : World) (l : Nat) (o o' : Obj) (hl : w.heap.size ≤ l) (h : W.heap[l]? = some o) (h1 : o.isCells = false) (h2 : o.isWalk = false) : KeepS n0 Bs W (W.putObj l o') :=
  ⟨belowK_b hn W l o o' hl h h1 h2, World.putObj_heap_other (by omega)⟩

set_option maxRecDepth 100000 in
set_option maxHeartbeats 2000000 in
/-- The iterator of slices.Backward: one round for each, from the last. -/
theorem backS_in (F : Fence) (n : Nat) (h7 : F.fn 101) (hro : F.round = none) (hn : 1 ≤ n) (l Bs n0 : Nat) (A : Option Addr) (c : Nat) (xs : List Wnt) (hwf : ∀ x ∈ xs, wfW x) (hl : xs.length ≤ 1048576) (J Jx : List UB → World → Prop)
    (hY : ∀ pre x W, J pre W → pre.length < xs.length → YieldAt F (n - 1) Tryd.prog l (ubE x) W fun e W' =>
      (e = .returned (.bool true) ∧ J (pre ++ [x]) W' ∧ KeepS n0 Bs W W') ∨ (e = .returned (.bool false) ∧ Jx (pre ++ [x]) W'))
    (W : World) (hBs : W.cell? ⟨Bs, 0, none⟩ = some (.slice A xs.length c)) (hr : Rd W n0 wcells A xs) (h0 : J [] W) :
    CallsIn F n Tryd.prog 101 #[.func (.yield l) #[] #[], .pointer (some ⟨Bs, 0, none⟩)] W fun e W' => (∃ v, e = .returned v) ∧ (J (bwL xs hwf hl xs.length) W' ∨ ∃ k, k ≤ xs.length ∧ Jx (bwL xs hwf hl k) W') := by
  refine callsIn_of_wp Tryd.func101 rfl h7 ?_ hro
  simp only [Tryd.ntmps101, List.size_toArray, List.length_cons, List.length_nil, Nat.reduceAdd, Nat.reduceSub, Array.replicate_succ, Array.replicate_zero, List.push_toArray, List.append_toArray, List.nil_append, List.cons_append]
  have hx0 : (0 : Int) ≤ (xs.length : Int) := Int.natCast_nonneg _
  have hx1 : (xs.length : Int) ≤ 1048576 := by omega
  gi_wp2
  gi_loopw [3] (fun i wr => ∃ k : Nat, k ≤ xs.length ∧ i = .int .i64 ((k : Int) - 1) ∧ J (bwL xs hwf hl (xs.length - k)) wr ∧ KeepS n0 Bs W wr)
    (fun i _ => (intOf i + 1).toNat)
  case atStart => exact ⟨xs.length, Nat.le_refl _, by first | rfl | go_num, by rw [Nat.sub_self]; exact h0, KeepS.refl _ _ _⟩
  case round =>
    obtain ⟨k, hk, rfl, hJs, hnx⟩ := hrel
    have hcs := hnx.cell hBs
    cases k with
    | zero =>
      have e : ((0 : Nat) : Int) - 1 = -1 := by omega
      rw [e]
      gi_wp2
      go_end0
      exact ⟨⟨_, rfl⟩, .inl (by simpa using hJs)⟩
    | succ j =>
      have hlt : j < xs.length := by omega
      obtain ⟨⟨⟨k1, y1⟩, n1⟩, hx⟩ : ∃ x, xs[j]? = some x := ⟨_, List.getElem?_eq_getElem hlt⟩
      obtain ⟨b, o, rfl, hb, hrow⟩ := (hr.below (Nat.le_refl _) hnx.1).at_ wcells_length hx
      obtain ⟨p1, p2, p3⟩ := rowW hrow
      have e : ((j + 1 : Nat) : Int) - 1 = (j : Int) := by omega
      rw [e]
      have hj0 : (0 : Int) ≤ (j : Int) := Int.natCast_nonneg _
      have hj1 : (j : Int) < xs.length := by omega
      have hw1 : IntKind.i64.wrap ((j : Int) - 1) = (j : Int) - 1 := IntWalk.i64_in _ ⟨by omega, by omega⟩
      have hw2 : wrap64 ((j : Int) - 1) = (j : Int) - 1 := IntWalk.wrap64_in _ ⟨by omega, by omega⟩
      have hst : bwL xs hwf hl (xs.length - j) = bwL xs hwf hl (xs.length - (j + 1)) ++ [bwE xs hwf hl (xs.length - (j + 1))] := by rw [← bwL_succ]; congr 1; omega
      have hYk := hY _ (bwE xs hwf hl (xs.length - (j + 1))) wr hJs (by rw [bwL_length]; omega)
      rw [bwE_enc hwf hl hx] at hYk
      obtain ⟨fn, tmps, assign, body, hy, hR⟩ := hYk
      gi_wp2
      refine hR.mono ?_
      rintro e W3 (⟨rfl, hJ3, hk3⟩ | ⟨rfl, hJx3⟩)
      · gi_wp2
        go_roundw
        case rel => exact ⟨j, by omega, rfl, by rw [hst]; exact hJ3, hnx.trans hk3⟩
        case measure => first | (simp [intOf]; done) | (simp [intOf]; omega)
      · gi_wp2
        refine bodyPost_ret (results_none rfl _ _ _) rfl ?_
        exact ⟨⟨_, rfl⟩, .inr ⟨xs.length - j, by omega, by rw [hst]; exact hJx3⟩⟩
theorem backS_stops (F : Fence) (n : Nat) (h7 : F.fn 101) (hro : F.round = none) (hn : 1 ≤ n) (Bs n0 : Nat) (A : Option Addr) (c : Nat) (xs : List Wnt) (hwf : ∀ x ∈ xs, wfW x) (hl : xs.length ≤ 1048576) (w : World) (hBs : Bs < w.heap.size) (hn0 : n0 ≤ w.heap.size)
    (hc : w.cell? ⟨Bs, 0, none⟩ = some (.slice A xs.length c)) (hr : Rd w n0 wcells A xs) :
    SeqStopsK F n Tryd.prog 101 #[.pointer (some ⟨Bs, 0, none⟩)] ubE (KeepS n0 Bs) (fun ys => ys = bwL xs hwf hl xs.length) (fun pre => ∃ k, k ≤ xs.length ∧ pre = bwL xs hwf hl k) xs.length w := fun l J Jx W hW _ _ hY h0 => by
  have hc' := (hW.cell (p := ⟨Bs, 0, none⟩) hBs).trans hc
  refine (backS_in F n h7 hro hn l Bs n0 A c xs hwf hl J Jx hY W hc' (hr.below (Nat.le_refl _) (hW.mono hn0)) h0).mono ?_
  rintro e W' ⟨he, hj | ⟨k, hk, hj⟩⟩
  · exact ⟨he, .inl ⟨_, rfl, hj⟩⟩
  · exact ⟨he, .inr ⟨_, ⟨k, hk, rfl⟩, hj⟩⟩
theorem backward_any (A : Option Addr) (n c : Nat) (w : World) :
    Calls Tryd.prog 86 #[.slice A n c] w fun e w' => e = .returned (.func (.func 101) #[] #[.pointer (some ⟨w.heap.size, 0, none⟩)]) ∧ w' = w.alloc (.cells #[.slice A n c] 44) := by
  go_enter Tryd.func86, Tryd.ntmps86
  go_wp2
  go_ret
  exact ⟨rfl, rfl⟩
end Go.Proofs.YtmfdgpinohbckaaDoor
