/-
  FnExactValidEntry: for all arguments the law returns true, and they read as before. No condition.
-/
import Derived.Test.YtjgafdfffmfhhaaRows
import Derived.Test.YtjgafdfffmfhhaaFrame
import Derived.Test.YtjgafdfffmfhhaaHv
import Derived.Test.YtjgafdfffmfhhaaGk
namespace Go.Proofs.Ytjgafdfffmfhhaa
open Go.ChangeShapes Go.WideShapes Go.ChangeAt Go.RowKit Go.Deep

set_option maxRecDepth 100000 in
set_option maxHeartbeats 4000000 in
theorem veLaw_any (e : Ent) (hwfe : wfE e) (n : Int) (w : World)  (hsn : wfI6 n) :
    Calls Try.prog 4 #[.int .i64 n, .agg (ecells e).toArray] w (Good w) := by
  have HWFe := Lib.hid hwfe
  have HSn := Lib.hid hsn
  clear hwfe hsn
  obtain ⟨W0, hW0⟩ : ∃ W, w.alloc (.cells (ecells e).toArray 31) = W := ⟨_, rfl⟩
  have hb0 : Below w.heap.size w W0 := by rw [← hW0]; exact (Below.refl _ _).alloc (Nat.le_refl _) _
  have kk0 : Blk W0 w.heap.size 31 (ecells e).toArray := by rw [← hW0]; exact Blk.new w _ _
  have bb0 : Below w.heap.size w W0 := hb0
  have KXe_0 := Lib.hid kk0
  have HB_0 := Lib.hid bb0
  clear kk0 bb0 hb0
  go_enter Try.func4, Try.ntmps4
  go_wp2_with (refine wpList_load_row rfl 31 (.tmp 3) rfl w.heap.size rfl 31 _ (0, 0) _ KXe_0.out Try.underlying31 rfl Try.sizeEL ?_)
  clear hW0
  refine (toEntry_any e _).mono ?_
  rintro e w1 ⟨rfl, hb⟩
  have HB_1 : Hid (Below w.heap.size w w1) := HB_0.out.trans (hb.mono HB_0.out.size)
  have KXe_1 : Hid (Blk w1 w.heap.size 31 (ecells e).toArray) := Blk.keep KXe_0.out hb
  clear hb HB_0 KXe_0
  go_wp2_with fail
  refine (specValidEntry_any n e HWFe.out _).mono ?_
  rintro e w2 ⟨rfl, hb⟩
  have HB_2 : Hid (Below w.heap.size w w2) := HB_1.out.trans (hb.mono HB_1.out.size)
  have KXe_2 : Hid (Blk w2 w.heap.size 31 (ecells e).toArray) := Blk.keep KXe_1.out hb
  clear hb HB_1 KXe_1
  obtain ⟨cd0, hcd0⟩ : ∃ c, enOk n e = c := ⟨_, rfl⟩
  have HCD0 := Lib.hid hcd0
  clear hcd0
  rw [HCD0.out]
  go_wp2_with (refine wpList_load_row rfl 31 (.tmp 3) rfl w.heap.size rfl 31 _ (0, 0) _ KXe_2.out Try.underlying31 rfl Try.sizeEL ?_)
  refine (toEntry_any e _).mono ?_
  rintro e w3 ⟨rfl, hb⟩
  have HB_3 : Hid (Below w.heap.size w w3) := HB_2.out.trans (hb.mono HB_2.out.size)
  have KXe_3 : Hid (Blk w3 w.heap.size 31 (ecells e).toArray) := Blk.keep KXe_2.out hb
  clear hb HB_2 KXe_2
  go_wp2_with fail
  refine (implValidEntry_any n e HWFe.out _).mono ?_
  rintro e w4 ⟨rfl, hb⟩
  have HB_4 : Hid (Below w.heap.size w w4) := HB_3.out.trans (hb.mono HB_3.out.size)
  have KXe_4 : Hid (Blk w4 w.heap.size 31 (ecells e).toArray) := Blk.keep KXe_3.out hb
  clear hb HB_3 KXe_3
  rw [HCD0.out]
  cases cd0
  all_goals
    go_wp2
    go_ret
    exact ⟨rfl, HB_4.out⟩

set_option maxRecDepth 100000 in
theorem fnExactValidEntry_lifted (os : Os) (started : os.Started) (H : Type) (enc : TypeId × Value → H) :
    ReturnsInHanded {} Try.checked os 4 .any (Rows.fnExactValidEntrySpec.pre6 enc Try.prog Try.f4 Rows.fnExactValidEntryRow.domain false) (Rows.fnExactValidEntrySpec.post enc Try.prog Try.f4 false true false false) := by
  refine law_lift (C := Try.checked) 2 Try.own started (by kernel_rfl) Try.func4
    (ChangeSpec.witness6 (enc := enc) (C := Try.checked) false ⟨#[], #[.int .i64 0, .agg #[.int .i16 0, .int .i8 0, .int .i8 0, .int .u8 0, .int .i16 0]], []⟩ 8 (by kernel_rfl) (by kernel_rfl) (by kernel_rfl) (by kernel_rfl))
    Try.laidOut rfl (by kernel_rfl) Try.underlying4 (by kernel_rfl) (by kernel_rfl) (fun ds h => by match ds, h with | [d1, d2], _ => rfl) ?_
  intro W base args ds p hval hA
  rw [Try.params4] at hA hval
  obtain ⟨v0, v1, d0, d1, r0, r1, rfl, rfl, rfl, h0, h1⟩ := trodAll_two hA
  obtain ⟨n, rfl, rfl, rfl, wn0⟩ := open_int Try.underlying2 (hval 0 2 v0 rfl rfl) h0
  obtain ⟨cs0, hcs0, -⟩ := okWide_struct Try.underlying31 (hval 1 31 v1 rfl rfl)
  obtain ⟨cs, rfl, hF⟩ := open_flat (r := .any) (b0 := 0) Try.flatEL ⟨_, hcs0⟩ h1
  obtain ⟨e, hwfe, rfl⟩ := ecells_of cs hF
  exact veLaw_any e hwfe n W (bounds_i64 wn0)

theorem fnExactValidEntry_holds : Rows.FnExactValidEntrySaid :=
  OpenClaim.holds_of_wide 4 Try.f4 rfl rfl rfl rfl rfl rfl rfl ⟨rfl, rfl, rfl, rfl, rfl⟩ rfl rfl rfl rfl rfl (by kernel_rfl) Try.func4 (by kernel_rfl)
    (of_decide_eq_true (by kernel_rfl)) (by unfold Func.isWrapper; rw [if_neg (of_decide_eq_false (by kernel_rfl))]; exact ⟨rfl, rfl⟩)
    (fun os started H enc _ => fnExactValidEntry_lifted os started H enc)
#print axioms fnExactValidEntry_holds
end Go.Proofs.Ytjgafdfffmfhhaa
