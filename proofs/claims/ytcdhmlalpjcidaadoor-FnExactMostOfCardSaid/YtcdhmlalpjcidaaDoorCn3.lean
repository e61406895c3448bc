/-
  MostOf: the copy of a list of counts, the two orders of counts. Condition: the list reads as counts; the numbers are small.
-/
import Derived.Test.YtcdhmlalpjcidaaDoorCn2
import Derived.Test.YtcdhmlalpjcidaaDoorIsCq
import Derived.Test.YtcdhmlalpjcidaaDoorMg3
import Derived.Test.YtcdhmlalpjcidaaDoorOd
namespace Go.Proofs.YtcdhmlalpjcidaaDoor
open Go.ChangeShapes Go.WideShapes Go.ChangeAt Go.RowKit Go.Deep

set_option maxRecDepth 100000 in
set_option maxHeartbeats 2000000 in
theorem cloneC_any (xs : List Wnt) (A : Option Addr) (c : Nat) (w : World) (hl : xs.length ≤ 1048576) (hr : Rd w w.heap.size ncells A xs) :
    Calls Tryd.prog 64 #[.slice A xs.length c] w fun e w' => ∃ A' c', e = .returned (.slice A' xs.length c') ∧ w'.ownsRow w.heap.size 68 3 (.slice A' xs.length c') xs.length (xs.flatMap ncells) ∧ Below w.heap.size w w' := by
  obtain ⟨i0, hi, hz0, hz1, hz2⟩ := info_parts Tryd.infoCt
  have HI := Lib.hid hi
  have HZ0 := Lib.hid hz0
  have HZ1 := Lib.hid hz1
  have HZ2 := Lib.hid hz2
  clear hi hz0 hz1 hz2
  have HR := Lib.hid hr
  cases A with
  | none =>
    have hx : xs = [] := by
      rcases Nat.eq_zero_or_pos xs.length with h | h
      · exact List.eq_nil_of_length_eq_zero h
      · obtain ⟨b, o, e, -⟩ := hr h; cases e
    subst hx
    clear hr
    have hnil : ∀ w : World, (binOp .eql 63 (.slice none 0 c) (.slice none 0 0)).run Tryd.prog w = .ok (.bool true) w := fun w => Lib.run_eql_slice_nil (P := Tryd.prog) w 63 68 none 0 c 0 0 Tryd.underlying63
    show Calls Tryd.prog 64 #[.slice none 0 c] w _
    go_enter Tryd.func64, Tryd.ntmps64
    go_wp2
    go_ret
    exact ⟨none, 0, rfl, ⟨rfl, .inl ⟨rfl, rfl⟩⟩, Below.refl _ _⟩
  | some a =>
    clear hr
    have hnil : ∀ w : World, (binOp .eql 63 (.slice (some a) xs.length c) (.slice none 0 0)).run Tryd.prog w = .ok (.bool false) w := fun w => Lib.run_eql_slice_nil (P := Tryd.prog) w 63 68 (some a) xs.length c 0 0 Tryd.underlying63
    go_enter Tryd.func64, Tryd.ntmps64
    go_wp2_with (at_builtin; refine wpList_append_any _ rfl (.tmp 5) (.tmp 6) 63 63 rfl w.heap.size 68 i0 _ 3 16 Tryd.underlying63 HI.out HZ0.out HZ1.out HZ2.out rfl (by decide) _ 0 [] rfl ?own _ xs.length (xs.flatMap ncells) rfl ?src ?c3 ?c4 ?c5 ?_)
    case own => exact empty_ownCt w _ 3
    case src => exact src_of_rd _ Tryd.underlying63 ncells_length ncells_one (HR.out.keep ((Below.refl _ w).alloc (Nat.le_refl _) _))
    case c3 => unfold maxLen; omega
    case c4 => omega
    case c5 => simp
    intro v' w2 hown hg _
    have hB : Below w.heap.size w w2 := ((Below.refl _ w).alloc (Nat.le_refl _) _).grown hg (by simp) (fun k e => by
      have e2 : w.heap.size = k := by simpa [Value.ownBlock] using e
      omega)
    have hown2 : w2.ownsRow w.heap.size 68 3 v' xs.length (xs.flatMap ncells) := by simpa using hown
    obtain ⟨A', c', rfl, -, -⟩ := own_rd ncells_length hown2
    have HO := Lib.hid hown2
    have HB := Lib.hid hB
    clear hown hown2 hg hB hnil
    go_wp2
    go_ret
    exact ⟨A', c', rfl, HO.out, HB.out⟩

theorem compareCounts_any (k y n k' y' n' : Int) (w : World) : Calls Tryd.prog 62 #[.agg #[.int .u8 k, .int .i16 y, .int .i64 n], .agg #[.int .u8 k', .int .i16 y', .int .i64 n']] w fun e w' => e = .returned (.int .i64 (cmpB (k, y) (k', y'))) ∧ Below w.heap.size w w' := by
  go_enter Tryd.func62, Tryd.ntmps62
  go_wp2_with fail
  refine (cmpB_any _ _ _ _ _).mono ?_
  rintro e w1 ⟨rfl, hb⟩
  have HB : Hid (Below w.heap.size w w1) := (show Below w.heap.size w ((w.alloc (.cells #[.int .u8 k, .int .i16 y, .int .i64 n] 68)).alloc (.cells #[.int .u8 k', .int .i16 y', .int .i64 n'] 68)) from ((Below.refl _ _).alloc (Nat.le_refl _) _).alloc (by simp) _).trans (hb.mono (by simp; omega))
  clear hb
  go_wp2
  go_ret
  exact ⟨rfl, HB.out⟩
theorem compareNumbers_any (k y n k' y' n' : Int) (w : World) (h1 : 0 ≤ n ∧ n ≤ 1000) (h2 : 0 ≤ n' ∧ n' ≤ 1000) : Calls Tryd.prog 41 #[.agg #[.int .u8 k, .int .i16 y, .int .i64 n], .agg #[.int .u8 k', .int .i16 y', .int .i64 n']] w fun e w' => e = .returned (.int .i64 (n' - n)) ∧ Below w.heap.size w w' := by
  have u1 : IntKind.i64.wrap (n' - n) = n' - n := IntWalk.i64_in _ ⟨by omega, by omega⟩
  have u2 : wrap64 (n' - n) = n' - n := IntWalk.wrap64_in _ ⟨by omega, by omega⟩
  go_enter Tryd.func41, Tryd.ntmps41
  go_wp2
  go_ret
  exact ⟨by first | rfl | simp [u1, u2], ((Below.refl _ _).alloc (Nat.le_refl _) _).alloc (by simp) _⟩
end Go.Proofs.YtcdhmlalpjcidaaDoor
