/-
  slices.Values over numbers of the kind int64, and what AppendSeq, Collect, Sort, Sorted make of it. Condition: at most 12 numbers, and at least one (Sort, Sorted).
-/
import Derived.RangeFuncNested
import Derived.RangeFuncBox
import Derived.RangeFuncBound
import Derived.RangeFuncCalls
import Derived.RangeFuncLeaves
import Derived.Shelf.Abstract
import Derived.Shelf.RegionOpen
import Derived.OwnWalkIn
import Derived.TacticsInMore
import Derived.LoopNIn
import Derived.LoopIn
import Derived.Test.YtlagnocglkoomaaDoorOr1
namespace Go.Proofs.YtlagnocglkoomaaDoor
open Go.RowKit Go.Shelf Go.ChangeShapes Go.WideShapes Go.ChangeAt Go.Deep
attribute [local go_sem] Oper.semAt_some

set_option maxRecDepth 100000 in
set_option maxHeartbeats 2000000 in
/-- The iterator of slices.Values: one round for each number. -/
theorem valuesI_in (F : Fence) (n : Nat) (h7 : F.fn 53) (hro : F.round = none) (hn : 1 ≤ n) (l Bs n0 : Nat) (A : Option Addr) (c : Nat) (xs : List Int) (hl : xs.length ≤ 1048576) (J Jx : List Int → World → Prop)
    (hY : ∀ pre x W, J pre W → pre.length < xs.length → YieldAt F (n - 1) Tryd.prog l #[.int .i64 x] W fun e W' =>
      (e = .returned (.bool true) ∧ J (pre ++ [x]) W' ∧ Below n0 W W') ∨ (e = .returned (.bool false) ∧ Jx (pre ++ [x]) W'))
    (W : World) (hBs : W.cell? ⟨Bs, 0, none⟩ = some (.slice A xs.length c)) (hr : Rd W n0 icells A xs) (h0 : J [] W) :
    CallsIn F n Tryd.prog 53 #[.func (.yield l) #[] #[], .pointer (some ⟨Bs, 0, none⟩)] W fun e W' => (∃ v, e = .returned v) ∧ (J xs W' ∨ ∃ k, k ≤ xs.length ∧ Jx (xs.take k) W') := by
  refine callsIn_of_wp Tryd.func53 rfl h7 ?_ hro
  simp only [Tryd.ntmps53, List.size_toArray, List.length_cons, List.length_nil, Nat.reduceAdd, Nat.reduceSub, Array.replicate_succ, Array.replicate_zero, List.push_toArray, List.append_toArray, List.nil_append, List.cons_append]
  gi_wp2
  gi_loopw [7] (fun i wr => ∃ k : Nat, k ≤ xs.length ∧ i = .int .i64 k ∧ J (xs.take k) wr ∧ Below n0 W wr)
    (fun i _ => xs.length - (intOf i).toNat)
  case atStart => exact ⟨0, Nat.zero_le _, rfl, by simpa using h0, Below.refl _ _⟩
  case round =>
    obtain ⟨k, hk, rfl, hJs, hnx⟩ := hrel
    by_cases hlt : k < xs.length
    · obtain ⟨x, hx⟩ : ∃ x, xs[k]? = some x := ⟨_, List.getElem?_eq_getElem hlt⟩
      obtain ⟨b, o, rfl, hb, hrow⟩ := (hr.below (Nat.le_refl _) hnx).at_ icells_length hx
      have hcx := rowI hrow
      have hst : xs.take (k + 1) = xs.take k ++ [x] := by
        obtain ⟨h1, h2⟩ := List.getElem?_eq_some_iff.1 hx
        rw [List.take_succ_eq_append_getElem h1, h2]
      obtain ⟨fn, tmps, assign, body, hy, hR⟩ := hY _ x wr hJs (by rw [List.length_take]; omega)
      gi_wp2
      refine hR.mono ?_
      rintro e W3 (⟨rfl, hJ3, hk3⟩ | ⟨rfl, hJx3⟩)
      · gi_wp2
        go_roundw
        case rel => exact ⟨k + 1, by omega, by simp, by rw [hst]; exact hJ3, hnx.trans hk3⟩
        case measure => simp [intOf]; omega
      · gi_wp2
        refine bodyPost_ret (results_none rfl _ _ _) rfl ?_
        exact ⟨⟨_, rfl⟩, .inr ⟨k + 1, by omega, by rw [hst]; exact hJx3⟩⟩
    · obtain rfl : k = xs.length := by omega
      gi_wp2
      go_end0
      exact ⟨⟨_, rfl⟩, .inl (by rw [List.take_length] at hJs; exact hJs)⟩
theorem valuesI_stops (F : Fence) (n : Nat) (h7 : F.fn 53) (hro : F.round = none) (hn : 1 ≤ n) (Bs n0 : Nat) (A : Option Addr) (c : Nat) (xs : List Int) (hl : xs.length ≤ 1048576) (w : World) (hBs : Bs < w.heap.size) (hn0 : n0 ≤ w.heap.size)
    (hc : w.cell? ⟨Bs, 0, none⟩ = some (.slice A xs.length c)) (hr : Rd w n0 icells A xs) :
    SeqStopsK F n Tryd.prog 53 #[.pointer (some ⟨Bs, 0, none⟩)] (fun x : Int => #[Value.int .i64 x]) (Below n0) (fun ys => ys = xs) (fun pre => pre <+: xs) xs.length w := fun l J Jx W hW _ _ hY h0 => by
  have hc' := (hW.cell (p := ⟨Bs, 0, none⟩) hBs).trans hc
  refine (valuesI_in F n h7 hro hn l Bs n0 A c xs hl J Jx hY W hc' (hr.below (Nat.le_refl _) (hW.mono hn0)) h0).mono ?_
  rintro e W' ⟨he, hj | ⟨k, hk, hj⟩⟩
  · exact ⟨he, .inl ⟨_, rfl, hj⟩⟩
  · exact ⟨he, .inr ⟨_, List.take_prefix _ _, hj⟩⟩

set_option maxRecDepth 100000 in
set_option maxHeartbeats 2000000 in
theorem appendSeqI_in (n : Nat) (hn : 6 ≤ n) (Bs : Nat) (A : Option Addr) (c : Nat) (xs : List Int) (hl : xs.length ≤ 1048576) (w : World) (hBs : Bs < w.heap.size) (hc : w.cell? ⟨Bs, 0, none⟩ = some (.slice A xs.length c)) (hr : Rd w w.heap.size icells A xs) :
    CallsIn Fence.wide n Tryd.prog 61 #[.slice none 0 0, .func (.func 53) #[] #[.pointer (some ⟨Bs, 0, none⟩)]] w
      fun e w' => ∃ v, e = .returned v ∧ w'.ownsRow w.heap.size 2 1 v xs.length (xs.flatMap icells) ∧ Below w.heap.size w w' := by
  have h1 : 1 ≤ n := by omega
  obtain ⟨i0, hi, hz0, hz1, hz2⟩ := info_parts Tryd.info64
  have HI := Lib.hid hi
  have HZ0 := Lib.hid hz0
  have HZ1 := Lib.hid hz1
  have HZ2 := Lib.hid hz2
  have HR := Lib.hid hr
  have HC := Lib.hid hc
  clear hr hc hi hz0 hz1 hz2
  refine callsIn_of_wp_marks Tryd.func61 rfl trivial ?_ rfl
  simp only [Tryd.ntmps61, List.size_toArray, List.length_cons, List.length_nil, Nat.reduceAdd, Nat.reduceSub, Array.replicate_succ, Array.replicate_zero, List.push_toArray, List.append_toArray, List.nil_append, List.cons_append]
  gi_wp2
  obtain ⟨W0, hW0⟩ : ∃ W0, w.alloc (.cells #[.slice none 0 0] 30) = W0 := ⟨_, rfl⟩
  have hs0 : W0.heap.size = w.heap.size + 1 := by rw [← hW0]; simp
  have hbx : Boxed W0 w.heap.size 30 (.slice none 0 0) := by rw [← hW0]; exact Boxed.new _ _ _
  have hB0 : Below w.heap.size w W0 := by rw [← hW0]; exact (Below.refl _ w).alloc (Nat.le_refl _) _
  have c3 : W0.cell? ⟨Bs, 0, none⟩ = some (.slice A xs.length c) := (hB0.cell (p := ⟨Bs, 0, none⟩) hBs).trans HC.out
  rw [hW0]
  clear hW0
  refine wpIn_rangeFunc_ownG rfl h1 (gf := 53) (lb := #[.pointer (some ⟨Bs, 0, none⟩)]) rfl trivial (enters_of Tryd.func53 (by kernel_rfl) rfl)
    (valuesI_stops Fence.wide (n - 1) trivial rfl (by omega) Bs w.heap.size A c xs hl W0 (by omega) (by omega) c3 (HR.out.below (Nat.le_refl _) hB0))
    belowK_t (belowK_b (by omega)) (Below.refl _ _) (fun _ => rfl)
    (fun pre W => (∃ v, Boxed W w.heap.size 30 v ∧ W.ownsRow w.heap.size 2 1 v pre.length (pre.flatMap icells) ∧ True) ∧ Below w.heap.size w W)
    (fun _ _ _ => False)
    (OwnFrom.and (Own.from (holdsRow_own w.heap.size w.heap.size 30 2 1 (fun pre : List Int => pre.length) (fun pre => pre.flatMap icells) (fun _ _ => True)) _) (ownFrom_below (Nat.le_refl _) (by omega)))
    (fun c => fun _ _ _ _ hs _ _ => hs)
    ⟨⟨_, hbx, ⟨rfl, .inl ⟨rfl, rfl⟩⟩, trivial⟩, hB0⟩
    (fun x => { tmps := #[.slice none 0 0, .func (.func 53) #[] #[.pointer (some ⟨Bs, 0, none⟩)], .pointer (some ⟨w.heap.size, 0, none⟩), undef, .slice none 0 0, .int .i64 x,
      .func (.func 53) #[] #[.pointer (some ⟨Bs, 0, none⟩)], .int .i64 x, undef, undef, undef, undef, undef], defers := [] }) ?assign ?body ?done ?stop
  case assign =>
    intro l x W K hK
    gi_wp2
    exact hK
  case body =>
    rintro l pre j W ⟨⟨v, hv, hrow, -⟩, hBB⟩ hpre
    have hpl : pre.length < 1048577 := by
      have := hpre
      first | omega | (have h9 := this.length_le; simp at h9; omega) | (have h9 := this; simp at h9; omega)
    have HV := Lib.hid hv
    have HR := Lib.hid hrow
    have HB := Lib.hid hBB
    have hcell := hv.cell
    have hlt := hv.lt
    have hle : w.heap.size ≤ W.heap.size := hBB.size
    clear hv hrow hBB c3 hbx
    try dsimp only
    gi_wp2_with (gi_at_builtin; refine wpListIn_append_own _ rfl (.tmp 8) (.tmp 10) 30 rfl w.heap.size 2 i0 (.int .i64 0) 1 8 Tryd.underlying30 HI.out HZ0.out HZ1.out HZ2.out rfl (by decide) _ _ _ rfl (HR.out.alloc _) ⟨W.heap.size, 0, none⟩ 1 1 [.int .i64 j] rfl rfl ?c1 ?c2 ?c3 ?c4 ?c5 ?_)
    case c1 => exact cell_one_new _ _ _
    case c2 => simp [Value.oneCell']
    case c3 => unfold maxLen; omega
    case c4 => omega
    case c5 => simp; omega
    intro v' w3 hown' hg3 _
    obtain ⟨q1, q2, q3, q4, q5⟩ := Boxed.appended HV.out (by decide) HR.out hle (Nat.le_refl _) hown' hg3
    obtain ⟨g', cap', rfl⟩ := ownsRow_succ hown'
    have r1 := q1.cell
    have r2 := q1.frozen
    have Q2 := Lib.hid q2
    have Q3 := Lib.hid q3
    have Q4 := Lib.hid q4
    have Q5 := Lib.hid q5
    clear q1 q2 q3 q4 q5 hown' hg3 hcell
    gi_wp2
    refine ⟨Q4.out.from _, Q5.out, ⟨_, Q2.out, ?_, trivial⟩, HB.out.trans Q5.out⟩
    rw [List.flatMap_append, List.length_append]
    exact (by simpa [icells] using Q3.out)
  case done =>
    rintro D ys W hD rfl ⟨⟨v, hv, hrow, -⟩, hBB⟩ hK
    have hcell := hv.cell
    have HR := Lib.hid hrow
    have HB := Lib.hid hBB
    have HK := Lib.hid hK
    clear hv hrow hBB hK c3 hbx
    gi_wp2
    refine ⟨by simp, .inl ⟨_, _, rfl, run_takeDeferred HK.out, ?_⟩⟩
    refine ⟨_, results_tmp rfl _ _ _, v, rfl, ?_, HB.out.trans (belowK_b (w := w) (Nat.le_refl _) W D _ _ (by omega) HK.out rfl rfl)⟩
    exact ownsRow_putObj HR.out (.deferred none) HK.out rfl
  case stop =>
    rintro D c pre W hD hpre h hK
    exact h.elim
set_option maxHeartbeats 1000000 in
theorem collectI_any (Bs : Nat) (A : Option Addr) (c : Nat) (xs : List Int) (hl : xs.length ≤ 1048576) (w : World) (hBs : Bs < w.heap.size) (hc : w.cell? ⟨Bs, 0, none⟩ = some (.slice A xs.length c)) (hr : Rd w w.heap.size icells A xs) :
    Calls Tryd.prog 51 #[.func (.func 53) #[] #[.pointer (some ⟨Bs, 0, none⟩)]] w
      fun e w' => ∃ v, e = .returned v ∧ w'.ownsRow w.heap.size 2 1 v xs.length (xs.flatMap icells) ∧ Below w.heap.size w w' := by
  go_enter Tryd.func51, Tryd.ntmps51
  go_wp2_with fail
  refine (callsIn_wide.1 (appendSeqI_in 6 (Nat.le_refl _) Bs A c xs hl _ hBs hc hr)).mono ?_
  rintro e w1 ⟨v, rfl, hr, hb⟩
  have HR := Lib.hid hr
  have HB := Lib.hid hb
  clear hr hb
  go_wp2
  go_ret
  exact ⟨v, rfl, HR.out, HB.out⟩

theorem lenU_some (n : Nat) (hn : n ≤ 12) (w : World) : Calls Tryd.prog 63 #[.int .u64 n] w fun e w' => (∃ r : Int, e = .returned (.int .i64 r)) ∧ w = w' := by
  go_enter Tryd.func63, Tryd.ntmps63
  go_wp2_with fail
  refine (len64_some n hn _).mono ?_
  rintro e w1 ⟨⟨r, rfl⟩, rfl⟩
  go_wp2
  go_ret
  exact ⟨⟨_, rfl⟩, rfl⟩
theorem sortI_any (X : List Int) (hl : X.length ≤ 12) (g cap : Nat) (w : World) (h : OI w g X cap) :
    Calls Tryd.prog 52 #[.slice (some ⟨g, 0, none⟩) X.length cap] w fun e w' => (∃ v, e = .returned v) ∧ ∃ Y, Y.Perm X ∧ srt Y ∧ OI w' g Y cap ∧ Below g w w' := by
  have HC : Hid (∀ r : Int, Calls Tryd.prog 62 #[.slice (some ⟨g, 0, none⟩) X.length cap, .int .i64 0, .int .i64 X.length, .int .i64 r] w fun e w' => (∃ v, e = .returned v) ∧ ∃ Y, Y.Perm X ∧ srt Y ∧ OI w' g Y cap ∧ Below g w w') := fun r => pdqI_any X hl g cap r w h
  have hxl : (0 : Int) ≤ (X.length : Int) := Int.natCast_nonneg _
  have hw3 : IntKind.u64.wrap (X.length : Int) = X.length := IntWalk.u64_in _ ⟨by omega, by omega⟩
  clear h
  go_enter Tryd.func52, Tryd.ntmps52
  go_wp2_with fail
  refine (lenU_some X.length hl _).mono ?_
  rintro e w1 ⟨⟨r, rfl⟩, rfl⟩
  go_wp2_with fail
  refine (HC.out r).mono ?_
  rintro e w1 ⟨⟨v, rfl⟩, Y, h1, h2, h3, h4⟩
  have H1 := Lib.hid h1
  have H2 := Lib.hid h2
  have H3 := Lib.hid h3
  have H4 := Lib.hid h4
  clear h1 h2 h3 h4 HC
  go_wp2
  go_end0
  exact ⟨⟨_, rfl⟩, Y, H1.out, H2.out, H3.out, H4.out⟩
theorem sortedI_any (Bs : Nat) (A : Option Addr) (c : Nat) (xs : List Int) (h1 : 1 ≤ xs.length) (hl : xs.length ≤ 12) (w : World) (hBs : Bs < w.heap.size) (hc : w.cell? ⟨Bs, 0, none⟩ = some (.slice A xs.length c)) (hr : Rd w w.heap.size icells A xs) :
    Calls Tryd.prog 37 #[.func (.func 53) #[] #[.pointer (some ⟨Bs, 0, none⟩)]] w
      fun e w' => ∃ g cap Y, e = .returned (.slice (some ⟨g, 0, none⟩) Y.length cap) ∧ Y.Perm xs ∧ srt Y ∧ OI w' g Y cap ∧ Below w.heap.size w w' := by
  have HC := Lib.hid (collectI_any Bs A c xs (by omega) w hBs hc hr)
  clear hc hr
  go_enter Tryd.func37, Tryd.ntmps37
  go_wp2_with fail
  refine HC.out.mono ?_
  rintro e w1 ⟨v, rfl, hO, hb⟩
  obtain ⟨-, h0⟩ | ⟨g, cap, rfl, hg, hOI⟩ := OI.of hO
  · rw [h0] at h1; simp at h1
  have HB := Lib.hid hb
  have HS := Lib.hid (sortI_any xs hl g cap w1 hOI)
  have HG := Lib.hid hg
  clear hO hb hOI HC hg
  go_wp2_with fail
  refine HS.out.mono ?_
  rintro e w2 ⟨⟨v, rfl⟩, Y, h1, h2, h3, h4⟩
  have H1 := Lib.hid h1
  have H2 := Lib.hid h2
  have H3 := Lib.hid h3
  have H4 : Hid (Below w.heap.size w w2) := HB.out.trans (h4.mono HG.out)
  have HL := Lib.hid h1.length_eq
  clear h1 h2 h3 h4 HS
  go_wp2
  go_ret
  exact ⟨g, cap, Y, by (rw [HL.out]; first | done | rfl), H1.out, H2.out, H3.out, H4.out⟩
end Go.Proofs.YtlagnocglkoomaaDoor
