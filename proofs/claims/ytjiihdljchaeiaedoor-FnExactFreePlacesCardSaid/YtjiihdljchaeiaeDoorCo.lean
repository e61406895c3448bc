/-
  The contracts of slices.AppendSeq and slices.Collect over the places of a crate. Condition: the crate's length, that its numbers fit their kinds, and that the predicate answers as told.
-/
import Derived.Test.YtjiihdljchaeiaeDoorNe
import Derived.Test.YtjiihdljchaeiaeDoorJ
import Derived.RangeFuncBox
namespace Go.Proofs.YtjiihdljchaeiaeDoor
open Go.RowKit Go.Shelf
attribute [local go_sem] Oper.semAt_some

theorem usedN_pre {bs : List Bot} {p : Bot → Bool} : usedN bs p 12 = (plTo bs p 12).map (·.1) := rfl

set_option maxRecDepth 100000 in
set_option maxHeartbeats 2000000 in
theorem appendSeq_in (n : Nat) (hn : 6 ≤ n) (bs : List Bot) (hwf : WfC bs) (p : Bot → Bool) (g : Nat) (lb : Array Value) (eg : ∀ args w, (callFunc g args).run Tryd.prog w = .ok (.enter g args) w) (Bc Bf : Nat) (w : World)
    (hBc : CBlk w Bc 31 bs) (hBf : Bf < w.heap.size) (hcf : w.cell? ⟨Bf, 0, none⟩ = some (.func (.func g) #[] lb)) (hp : Fits Tryd.prog w.heap.size w g lb p) :
    CallsIn Fence.wide n Tryd.prog 42 #[.slice none 0 0, .func (.func 43) #[] #[.pointer (some ⟨Bc, 0, none⟩), .pointer (some ⟨Bf, 0, none⟩)]] w
      fun e w' => ∃ v, e = .returned v ∧ w'.ownsRow w.heap.size 2 1 v (usedN bs p 12).length (nats (usedN bs p 12)) ∧ Below w.heap.size w w' := by
  have h1 : 1 ≤ n := by omega
  obtain ⟨i0, hi, hz0, hz1, hz2⟩ := info_parts Tryd.info64
  have HI := Lib.hid hi
  have HZ0 := Lib.hid hz0
  have HZ1 := Lib.hid hz1
  have HZ2 := Lib.hid hz2
  have HW := Lib.hid hwf
  have HP := Lib.hid hp
  have HC := Lib.hid hBc
  have HF := Lib.hid hcf
  clear hwf hp hBc hcf hi hz0 hz1 hz2
  refine callsIn_of_wp_marks Tryd.func42 rfl trivial ?_ rfl
  simp only [Tryd.ntmps42, List.size_toArray, List.length_cons, List.length_nil, Nat.reduceAdd, Nat.reduceSub, Array.replicate_succ, Array.replicate_zero, List.push_toArray, List.append_toArray, List.nil_append, List.cons_append]
  gi_wp2
  obtain ⟨W0, hW0⟩ : ∃ W0, w.alloc (.cells #[.slice none 0 0] 26) = W0 := ⟨_, rfl⟩
  have hs0 : W0.heap.size = w.heap.size + 1 := by rw [← hW0]; simp
  have hbx : Boxed W0 w.heap.size 26 (.slice none 0 0) := by rw [← hW0]; exact Boxed.new _ _ _
  have hB0 : Below w.heap.size w W0 := by rw [← hW0]; exact (Below.refl _ w).alloc (Nat.le_refl _) _
  have k2 : CBlk W0 Bc 31 bs := HC.out.below hB0 HC.out.lt
  have c3 : W0.cell? ⟨Bf, 0, none⟩ = some (.func (.func g) #[] lb) := (hB0.cell (p := ⟨Bf, 0, none⟩) hBf).trans HF.out
  rw [hW0]
  clear hW0
  refine wpIn_rangeFunc_ownF rfl h1 (gf := 43) (lb := #[.pointer (some ⟨Bc, 0, none⟩), .pointer (some ⟨Bf, 0, none⟩)]) rfl trivial (enters_of Tryd.func43 (by kernel_rfl) rfl)
    (places_stops bs HW.out p g lb eg (n - 1) (by omega) w.heap.size Bc Bf w W0 hB0 HP.out (by omega) k2 hBf c3)
    belowK_t (belowK_b (by omega)) (Below.refl _ _) (fun _ => rfl)
    (fun pre W => (∃ v, Boxed W w.heap.size 26 v ∧ W.ownsRow w.heap.size 2 1 v pre.length (nats (pre.map (·.1))) ∧ True) ∧ Below w.heap.size w W)
    (fun _ _ _ => False)
    (OwnFrom.and (Own.from (holdsRow_own w.heap.size w.heap.size 26 2 1 (fun pre : List (Pl bs p) => pre.length) (fun pre => nats (pre.map (·.1))) (fun _ _ => True)) _) (ownFrom_below (Nat.le_refl _) (by omega)))
    (fun c => fun _ _ _ _ hs _ _ => hs)
    ⟨⟨_, hbx, ⟨rfl, .inl ⟨rfl, rfl⟩⟩, trivial⟩, hB0⟩
    (fun x => { tmps := #[.slice none 0 0, .func (.func 43) #[] #[.pointer (some ⟨Bc, 0, none⟩), .pointer (some ⟨Bf, 0, none⟩)], .pointer (some ⟨w.heap.size, 0, none⟩), undef, .slice none 0 0, .int .i64 (x.1 : Int),
      .func (.func 43) #[] #[.pointer (some ⟨Bc, 0, none⟩), .pointer (some ⟨Bf, 0, none⟩)], .int .i64 (x.1 : Int), undef, undef, undef, undef, undef], defers := [] }) ?assign ?body ?done ?stop
  case assign =>
    intro l x W K hK
    gi_wp2
    exact hK
  case body =>
    rintro l pre ⟨j, hj⟩ W ⟨⟨v, hv, hrow, -⟩, hBB⟩ hpre
    have HV := Lib.hid hv
    have HR := Lib.hid hrow
    have HB := Lib.hid hBB
    have hcell := hv.cell
    have hlt := hv.lt
    have hle : w.heap.size ≤ W.heap.size := hBB.size
    clear hv hrow hBB c3 k2 hbx
    dsimp only
    gi_wp2_with (gi_at_builtin; refine wpListIn_append_own _ rfl (.tmp 8) (.tmp 10) 26 rfl w.heap.size 2 i0 (.int .i64 0) 1 8 Tryd.underlying26 HI.out HZ0.out HZ1.out HZ2.out rfl (by decide) _ _ _ rfl (HR.out.alloc _) ⟨W.heap.size, 0, none⟩ 1 1 [.int .i64 j] rfl rfl ?c1 ?c2 ?c3 ?c4 ?c5 ?_)
    case c1 => exact cell_one_new _ _ _
    case c2 => simp [Value.oneCell']
    case c3 => unfold maxLen; omega
    case c4 => omega
    case c5 => simp; omega
    intro v' w3 hown' hg3 _
    obtain ⟨q1, q2, q3, q4, q5⟩ := Boxed.appended HV.out (by decide) HR.out hle (Nat.le_refl _) hown' hg3
    obtain ⟨g', cap', rfl⟩ := ownsRow_succ hown'
    have r1 := q1.cell
    have r2 := q1.frozen
    have Q2 := Lib.hid q2
    have Q3 := Lib.hid q3
    have Q4 := Lib.hid q4
    have Q5 := Lib.hid q5
    clear q1 q2 q3 q4 q5 hown' hg3 hcell
    gi_wp2
    refine ⟨Q4.out, Q5.out, ⟨_, Q2.out, ?_, trivial⟩, HB.out.trans Q5.out⟩
    rw [List.map_append, List.length_append]
    exact (by simpa [nats] using Q3.out)
  case done =>
    rintro D ys W hD rfl ⟨⟨v, hv, hrow, -⟩, hBB⟩ hK
    have hcell := hv.cell
    have HR := Lib.hid hrow
    have HB := Lib.hid hBB
    have HK := Lib.hid hK
    clear hv hrow hBB hK c3 k2 hbx
    gi_wp2
    refine ⟨by simp, .inl ⟨_, _, rfl, run_takeDeferred HK.out, ?_⟩⟩
    refine ⟨_, results_tmp rfl _ _ _, v, rfl, ?_, HB.out.trans (belowK_b (w := w) (Nat.le_refl _) W D _ _ (by omega) HK.out rfl rfl)⟩
    have := ownsRow_putObj HR.out (.deferred none) HK.out rfl
    rw [usedN, List.length_map]
    exact this
  case stop =>
    rintro D c pre W hD hpre h hK
    exact h.elim

set_option maxHeartbeats 1000000 in
theorem collect_any (bs : List Bot) (hwf : WfC bs) (p : Bot → Bool) (g : Nat) (lb : Array Value) (eg : ∀ args w, (callFunc g args).run Tryd.prog w = .ok (.enter g args) w) (Bc Bf : Nat) (w : World)
    (hBc : CBlk w Bc 31 bs) (hBf : Bf < w.heap.size) (hcf : w.cell? ⟨Bf, 0, none⟩ = some (.func (.func g) #[] lb)) (hp : Fits Tryd.prog w.heap.size w g lb p) :
    Calls Tryd.prog 28 #[.func (.func 43) #[] #[.pointer (some ⟨Bc, 0, none⟩), .pointer (some ⟨Bf, 0, none⟩)]] w
      fun e w' => ∃ v, e = .returned v ∧ w'.ownsRow w.heap.size 2 1 v (usedN bs p 12).length (nats (usedN bs p 12)) ∧ Below w.heap.size w w' := by
  go_enter Tryd.func28, Tryd.ntmps28
  go_wp2_with fail
  refine (callsIn_wide.1 (appendSeq_in 6 (Nat.le_refl _) bs hwf p g lb eg Bc Bf _ hBc hBf hcf hp)).mono ?_
  rintro e w1 ⟨v, rfl, hr, hb⟩
  have HR := Lib.hid hr
  have HB := Lib.hid hb
  clear hr hb
  go_wp2
  go_ret
  exact ⟨v, rfl, HR.out, HB.out⟩
end Go.Proofs.YtjiihdljchaeiaeDoor
