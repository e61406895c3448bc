/-
  FnExactValidPrices: for all arguments the law returns true, and they read as before. No condition.
-/
import Derived.Test.YtjgafdfffmfhhaaRows
import Derived.Test.YtjgafdfffmfhhaaFrame
import Derived.Test.YtjgafdfffmfhhaaHv
import Derived.Test.YtjgafdfffmfhhaaGk
namespace Go.Proofs.Ytjgafdfffmfhhaa
open Go.ChangeShapes Go.WideShapes Go.ChangeAt Go.RowKit Go.Deep

set_option maxRecDepth 100000 in
set_option maxHeartbeats 4000000 in
theorem vpLaw_any (p : Pri) (hwfp : wfP p) (w : World)  :
    Calls Try.prog 3 #[.agg (pcells p).toArray] w (Good w) := by
  have HWFp := Lib.hid hwfp
  clear hwfp
  obtain ⟨W0, hW0⟩ : ∃ W, w.alloc (.cells (pcells p).toArray 24) = W := ⟨_, rfl⟩
  have hb0 : Below w.heap.size w W0 := by rw [← hW0]; exact (Below.refl _ _).alloc (Nat.le_refl _) _
  have kk0 : Blk W0 w.heap.size 24 (pcells p).toArray := by rw [← hW0]; exact Blk.new w _ _
  have bb0 : Below w.heap.size w W0 := hb0
  have KXp_0 := Lib.hid kk0
  have HB_0 := Lib.hid bb0
  clear kk0 bb0 hb0
  go_enter Try.func3, Try.ntmps3
  go_wp2_with (refine wpList_load_row rfl 24 (.tmp 1) rfl w.heap.size rfl 24 _ (0, 0) _ KXp_0.out Try.underlying24 rfl Try.sizePL ?_)
  clear hW0
  refine (toPrices_any p _).mono ?_
  rintro e w1 ⟨rfl, hb⟩
  have HB_1 : Hid (Below w.heap.size w w1) := HB_0.out.trans (hb.mono HB_0.out.size)
  have KXp_1 : Hid (Blk w1 w.heap.size 24 (pcells p).toArray) := Blk.keep KXp_0.out hb
  clear hb HB_0 KXp_0
  go_wp2_with fail
  refine (specValidPrices_any p HWFp.out _).mono ?_
  rintro e w2 ⟨rfl, hb⟩
  have HB_2 : Hid (Below w.heap.size w w2) := HB_1.out.trans (hb.mono HB_1.out.size)
  have KXp_2 : Hid (Blk w2 w.heap.size 24 (pcells p).toArray) := Blk.keep KXp_1.out hb
  clear hb HB_1 KXp_1
  obtain ⟨cd0, hcd0⟩ : ∃ c, prOk p = c := ⟨_, rfl⟩
  have HCD0 := Lib.hid hcd0
  clear hcd0
  rw [HCD0.out]
  go_wp2_with (refine wpList_load_row rfl 24 (.tmp 1) rfl w.heap.size rfl 24 _ (0, 0) _ KXp_2.out Try.underlying24 rfl Try.sizePL ?_)
  refine (toPrices_any p _).mono ?_
  rintro e w3 ⟨rfl, hb⟩
  have HB_3 : Hid (Below w.heap.size w w3) := HB_2.out.trans (hb.mono HB_2.out.size)
  have KXp_3 : Hid (Blk w3 w.heap.size 24 (pcells p).toArray) := Blk.keep KXp_2.out hb
  clear hb HB_2 KXp_2
  go_wp2_with fail
  refine (implValidPrices_any p HWFp.out _).mono ?_
  rintro e w4 ⟨rfl, hb⟩
  have HB_4 : Hid (Below w.heap.size w w4) := HB_3.out.trans (hb.mono HB_3.out.size)
  have KXp_4 : Hid (Blk w4 w.heap.size 24 (pcells p).toArray) := Blk.keep KXp_3.out hb
  clear hb HB_3 KXp_3
  rw [HCD0.out]
  cases cd0
  all_goals
    go_wp2
    go_ret
    exact ⟨rfl, HB_4.out⟩

set_option maxRecDepth 100000 in
theorem fnExactValidPrices_lifted (os : Os) (started : os.Started) (H : Type) (enc : TypeId × Value → H) :
    ReturnsInHanded {} Try.checked os 3 .any (Rows.fnExactValidPricesSpec.pre6 enc Try.prog Try.f3 Rows.fnExactValidPricesRow.domain false) (Rows.fnExactValidPricesSpec.post enc Try.prog Try.f3 false true false false) := by
  refine law_lift (C := Try.checked) 1 Try.own started (by kernel_rfl) Try.func3
    (ChangeSpec.witness6 (enc := enc) (C := Try.checked) false ⟨#[], #[.agg #[.int .i16 0, .int .i16 0]], []⟩ 8 (by kernel_rfl) (by kernel_rfl) (by kernel_rfl) (by kernel_rfl))
    Try.laidOut rfl (by kernel_rfl) Try.underlying4 (by kernel_rfl) (by kernel_rfl) (fun ds h => by match ds, h with | [d1], _ => rfl) ?_
  intro W base args ds p hval hA
  rw [Try.params3] at hA hval
  obtain ⟨v0, d0, rfl, rfl, h0⟩ := trodAll_one hA
  obtain ⟨cs0, hcs0, -⟩ := okWide_struct Try.underlying24 (hval 0 24 v0 rfl rfl)
  obtain ⟨cs, rfl, hF⟩ := open_flat (r := .any) (b0 := 0) Try.flatPL ⟨_, hcs0⟩ h0
  obtain ⟨p, hwfp, rfl⟩ := pcells_of cs hF
  exact vpLaw_any p hwfp W 

theorem fnExactValidPrices_holds : Rows.FnExactValidPricesSaid :=
  OpenClaim.holds_of_wide 3 Try.f3 rfl rfl rfl rfl rfl rfl rfl ⟨rfl, rfl, rfl, rfl, rfl⟩ rfl rfl rfl rfl rfl (by kernel_rfl) Try.func3 (by kernel_rfl)
    (of_decide_eq_true (by kernel_rfl)) (by unfold Func.isWrapper; rw [if_neg (of_decide_eq_false (by kernel_rfl))]; exact ⟨rfl, rfl⟩)
    (fun os started H enc _ => fnExactValidPrices_lifted os started H enc)
#print axioms fnExactValidPrices_holds
end Go.Proofs.Ytjgafdfffmfhhaa
