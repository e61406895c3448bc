/-
  FnExactValidCrate: for every crate the law returns true, and its argument reads as before. No condition.
-/
import Derived.Test.YtcmeaiejnghpeaaRows
import Derived.Test.YtcmeaiejnghpeaaFrame
import Derived.Test.YtcmeaiejnghpeaaJ
import Derived.WalkKit
namespace Go.Proofs.Ytcmeaiejnghpeaa
open Go.ChangeShapes Go.WideShapes Go.ChangeAt Go.RowKit

theorem Try.size31 : (Try.prog.info? 31).map (·.size) = some 24 := by kernel_rfl

theorem vcLaw_any (bs : List Bot) (hwf : WfC bs) (w : World) : Calls Try.prog 5 #[.agg (ccells bs).toArray] w (Good w) := by
  have HW := Lib.hid hwf
  clear hwf
  have HA := Lib.hid (CBlk.new w 31 bs)
  go_enter Try.func5, Try.ntmps5
  go_wp2_with (first
    | (go_at_call 14; fail)
    | (refine wpList_load_row rfl 31 (.tmp 1) rfl w.heap.size rfl 31 _ (0, 0) _ HA.out Try.underlying31 rfl (size_of_crate Try.size31 _ HW.out.1) ?_))
  refine (toCrate_any bs HW.out.1 _).mono ?_
  rintro e w1 ⟨rfl, hb1⟩
  have H1 : Hid (Below (w.alloc (.cells (ccells bs).toArray 31)).heap.size (w.alloc (.cells (ccells bs).toArray 31)) w1) := hb1
  clear hb1
  go_wp2_with fail
  refine (specValidCrate_any bs HW.out _).mono ?_
  rintro e w2 ⟨rfl, hb2⟩
  have H2 : Hid (Below (w.alloc (.cells (ccells bs).toArray 31)).heap.size (w.alloc (.cells (ccells bs).toArray 31)) w2) := H1.out.trans (hb2.mono H1.out.size)
  clear hb2 H1
  have HA2 : Hid (CBlk w2 w.heap.size 31 bs) := HA.out.below H2.out (by simp)
  go_wp2_with (refine wpList_load_row rfl 31 (.tmp 1) rfl w.heap.size rfl 31 _ (0, 0) _ HA2.out Try.underlying31 rfl (size_of_crate Try.size31 _ HW.out.1) ?_)
  refine (toCrate_any bs HW.out.1 _).mono ?_
  rintro e w3 ⟨rfl, hb3⟩
  have H3 : Hid (Below (w.alloc (.cells (ccells bs).toArray 31)).heap.size (w.alloc (.cells (ccells bs).toArray 31)) w3) := H2.out.trans (hb3.mono H2.out.size)
  clear hb3
  go_wp2_with fail
  refine (validCrate_any bs HW.out _).mono ?_
  rintro e w4 ⟨rfl, hb4⟩
  have H4 : Hid (Below (w.alloc (.cells (ccells bs).toArray 31)).heap.size (w.alloc (.cells (ccells bs).toArray 31)) w4) := H3.out.trans (hb4.mono H3.out.size)
  clear hb4
  cases hv : okC bs
  all_goals
    go_wp2
    go_ret
    exact ⟨rfl, ((Below.refl w.heap.size w).alloc (Nat.le_refl _) _).trans (H4.out.mono (by simp))⟩

set_option maxRecDepth 100000 in
theorem vcLaw_lifted (os : Os) (started : os.Started) (H : Type) (enc : TypeId × Value → H) :
    ReturnsInHanded {} Try.checked os 5 .any (Rows.fnExactValidCrateSpec.pre6 enc Try.prog Try.f5 Rows.fnExactValidCrateRow.domain false) (Rows.fnExactValidCrateSpec.post enc Try.prog Try.f5 false true false false) := by
  refine law_lift (C := Try.checked) 1 Try.own started (by kernel_rfl) Try.func5
    (ChangeSpec.witness6 (enc := enc) (C := Try.checked) false ⟨#[], #[.agg #[.int .u8 0, .int .i16 0, .int .u8 0, .int .i16 0, .int .u8 0, .int .i16 0, .int .u8 0, .int .i16 0, .int .u8 0, .int .i16 0, .int .u8 0, .int .i16 0,
      .int .u8 0, .int .i16 0, .int .u8 0, .int .i16 0, .int .u8 0, .int .i16 0, .int .u8 0, .int .i16 0, .int .u8 0, .int .i16 0, .int .u8 0, .int .i16 0]], []⟩ 8 (by kernel_rfl) (by kernel_rfl) (by kernel_rfl) (by kernel_rfl))
    Try.laidOut rfl (by kernel_rfl) Try.underlying4 (by kernel_rfl) (by kernel_rfl) (fun ds h => by match ds, h with | [d], _ => rfl) ?_
  intro W base args ds p hval hA
  rw [Try.params5] at hA hval
  obtain ⟨v0, d0, rfl, rfl, h0⟩ := trodAll_one hA
  obtain ⟨bs, hl, rfl, hwf⟩ := open_crate (n := 12) Try.underlying31 (by kernel_rfl) Try.underlying26 Try.underlying5 Try.underlying24 (by kernel_rfl) (by kernel_rfl) (hval 0 31 v0 rfl rfl) h0
  exact vcLaw_any bs ⟨hl, hwf⟩ W

theorem validCrate_holds : Rows.FnExactValidCrateSaid :=
  OpenClaim.holds_of_wide 5 Try.f5 rfl rfl rfl rfl rfl rfl rfl ⟨rfl, rfl, rfl, rfl, rfl⟩ rfl rfl rfl rfl rfl (by kernel_rfl) Try.func5 (by kernel_rfl)
    (of_decide_eq_true (by kernel_rfl)) (by unfold Func.isWrapper; rw [if_neg (of_decide_eq_false (by kernel_rfl))]; exact ⟨rfl, rfl⟩)
    (fun os started H enc _ => vcLaw_lifted os started H enc)
#print axioms validCrate_holds
end Go.Proofs.Ytcmeaiejnghpeaa
