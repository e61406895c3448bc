/-
  FnExactWalkerText: for all arguments the law returns true, and they read as before. No condition but that the library's tables hold what the program's text lays (tied).
-/
import Derived.Test.YtjjdehnpnfdjcaaDoorCards
import Derived.Test.YtjjdehnpnfdjcaaDoorTie
import Derived.Test.YtjjdehnpnfdjcaaDoorGt
import Derived.Test.YtjjdehnpnfdjcaaDoorWt1
import Derived.Test.YtjjdehnpnfdjcaaDoorWt2
import Derived.SevenTiedAt
import Derived.Lib.LaidTab
import Derived.Stop.LaidErr
namespace Go.Proofs.YtjjdehnpnfdjcaaDoor
open Go.ChangeShapes Go.WideShapes Go.ChangeAt Go.RowKit Go.Deep

theorem tab_of {W : World} (h : laidMetH Tryd.prog Rows.fnExactWalkerTextRow.laid W) : Tab W := by
  rw [MakeChecks.laidMetH_plain _ _ _ (by kernel_rfl)] at h
  exact Lib.tabIs_of_head (g := 2) (rest := []) (by kernel_rfl) (by kernel_rfl) (Tryd.underlying84) (Tryd.underlying73) (by kernel_rfl) (by kernel_rfl) (laidMet.tail (laidMet.tail h))

set_option maxRecDepth 100000 in
set_option maxHeartbeats 1000000 in
theorem wkLaw_any (x : Wal) (hx : wfV x) (w : World) (ht : Tab w) : Calls Tryd.prog 3 #[.agg (vcells x).toArray] w (Good w) := by
  have HT := Lib.hid ht
  have HX := Lib.hid hx
  have hK0 : Blk (w.alloc (.cells (vcells x).toArray 25)) w.heap.size 25 (vcells x).toArray := Blk.new w _ _
  have hB0 : Below w.heap.size w (w.alloc (.cells (vcells x).toArray 25)) := (Below.refl _ w).alloc (Nat.le_refl _) _
  have hs1 : w.heap.size < (w.alloc (.cells (vcells x).toArray 25)).heap.size := by simp
  obtain ⟨W1, hW1⟩ : ∃ W1, w.alloc (.cells (vcells x).toArray 25) = W1 := ⟨_, rfl⟩
  rw [hW1] at hK0 hB0 hs1
  have HK0 := Lib.hid hK0
  have HB0 := Lib.hid hB0
  have HS1 := Lib.hid hs1
  clear hK0 hB0 hx ht hs1
  go_enter Tryd.func3, Tryd.ntmps3
  go_wp2_with (refine wpList_load_row rfl 25 (.tmp 1) rfl w.heap.size rfl 25 (vcells x).toArray (0, 0) _ HK0.out Tryd.underlying25 rfl (by rw [Tryd.sizeVL]; rfl) ?_)
  clear hW1
  refine (toWalker_any x _).mono ?_
  rintro e w1 ⟨rfl, hb⟩
  have HB1 : Hid (Below w.heap.size w w1) := HB0.out.trans (hb.mono HB0.out.size)
  have HK1 : Hid (Blk w1 w.heap.size 25 (vcells x).toArray) := (hb.block _ HS1.out).trans HK0.out
  have HS2 : Hid (w.heap.size < w1.heap.size) := Nat.lt_of_lt_of_le HS1.out hb.size
  clear hb
  go_wp2_with fail
  refine (specWalkerText_any x HX.out _).mono ?_
  rintro e w2 ⟨rfl, hb⟩
  have HB2 : Hid (Below w.heap.size w w2) := HB1.out.trans (hb.mono HB1.out.size)
  have HK2 : Hid (Blk w2 w.heap.size 25 (vcells x).toArray) := (hb.block _ HS2.out).trans HK1.out
  clear hb
  obtain ⟨s, hs⟩ : ∃ s, wkA x = s := ⟨_, rfl⟩
  have HS := Lib.hid hs
  clear hs
  rw [HS.out]
  go_wp2_with (refine wpList_load_row rfl 25 (.tmp 1) rfl w.heap.size rfl 25 (vcells x).toArray (0, 0) _ HK2.out Tryd.underlying25 rfl (by rw [Tryd.sizeVL]; rfl) ?_)
  refine (toWalker_any x _).mono ?_
  rintro e w3 ⟨rfl, hb⟩
  have HB3 : Hid (Below w.heap.size w w3) := HB2.out.trans (hb.mono HB2.out.size)
  clear hb
  go_wp2_with fail
  refine (implWalkerText_any x HX.out _ (HT.out.on HB3.out (Nat.le_refl _))).mono ?_
  rintro e w4 ⟨rfl, hb⟩
  have HB4 : Hid (Below w.heap.size w w4) := HB3.out.trans (hb.mono HB3.out.size)
  clear hb
  rw [HS.out]
  go_wp2
  go_ret
  exact ⟨rfl, HB4.out⟩

set_option maxRecDepth 100000 in
theorem fnExactWalkerText_lifted (os : Os) (started : os.Started) (H : Type) (enc : TypeId × Value → H) :
    ReturnsInHanded {} Tryd.checked os 3 .any (fun w args => (Rows.fnExactWalkerTextSpec.pre enc Tryd.prog Tryd.f3 Rows.fnExactWalkerTextRow.domain false w args ∧ laidMetH Tryd.prog (Rows.fnExactWalkerTextRow.laid) w) ∧ sizedMet enc Tryd.prog Tryd.f3 (OpenSpec.ofChange Rows.fnExactWalkerTextSpec) false w args)
      (Rows.fnExactWalkerTextSpec.post enc Tryd.prog Tryd.f3 false true false false) := by
  refine law_liftL (C := Tryd.checked) 1 0 Tryd.own started (by kernel_rfl) Tryd.func3
    (ChangeSpec.witness_shaped (enc := enc) (C := Tryd.checked) (os := os) (X := fun w _ => laidMetH Tryd.prog (Rows.fnExactWalkerTextRow.laid) w) false (World.doorLaid Tryd.prog 62 os) #[.agg #[.int .i16 0, .int .i16 0, .int .i16 0, .int .i16 0, .int .i16 0, .int .i8 0]] 8 rfl (World.shaped_of_RefB (by kernel_rfl) (by kernel_rfl)) (by kernel_rfl) (by kernel_rfl) (by kernel_rfl)
      (laidMetH_of_parts3 (fuel := 8) (laidMet_of_run' 8 (by kernel_rfl) (by kernel_rfl)) (by kernel_rfl) (by kernel_rfl)))
    Tryd.laidOut (by kernel_rfl) rfl (by kernel_rfl) Tryd.underlying4 (by kernel_rfl) (by kernel_rfl)
    (fun ds gs h h' => by match ds, gs, h, h' with | [d1], [], _, _ => rfl) ?_
  intro W base args ds p hL hval hA
  rw [Tryd.params3] at hA hval
  obtain ⟨v0, d0, rfl, rfl, h0⟩ := trodAll_one hA
  obtain ⟨cs0, hcs0, -⟩ := okWide_struct Tryd.underlying25 (hval 0 25 v0 rfl rfl)
  obtain ⟨cs, rfl, hF⟩ := open_flat (r := .any) (b0 := 0) Tryd.flatVL ⟨_, hcs0⟩ h0
  obtain ⟨x, hwfx, rfl⟩ := vcells_of cs hF
  exact wkLaw_any x hwfx W (tab_of hL)

theorem fnExactWalkerText_row : Rows.FnExactWalkerTextSaid :=
  OpenClaim.holds_of_wide 3 Tryd.f3 rfl rfl rfl rfl rfl rfl rfl ⟨rfl, rfl, rfl, rfl, rfl⟩ rfl rfl rfl rfl rfl (by kernel_rfl) Tryd.func3 (by kernel_rfl)
    (of_decide_eq_true (by kernel_rfl)) (by unfold Func.isWrapper; rw [if_neg (of_decide_eq_false (by kernel_rfl))]; exact ⟨rfl, rfl⟩)
    (fun os started H enc _ => fnExactWalkerText_lifted os started H enc)

theorem fnExactWalkerText_card : Rows.FnExactWalkerTextCardSaid :=
  Claim7.holds_tied_plain_at .later [] [.data, .data, .data] true (true, "83fd9dceb0bc79bc2fcac88bc3a20ad788b2b8d0ed7826ca20a80238c8ebc795") false
    fnExactWalkerText_row (fun _ h => by cases h) (by kernel_rfl) (fun _ h => by cases h) fnExactWalkerText_row_tie rfl ⟨rfl, rfl⟩ (by kernel_rfl) rfl
    (fun f fn hf hfn => by
      obtain rfl : f = 3 := Option.some.inj ((show Tryd.prog.funcNamed "loop.example/g01353/laws.FnExactWalkerText" = some 3 by kernel_rfl).symm.trans hf) |>.symm
      obtain rfl : fn = Tryd.f3 := (Option.some.inj (Tryd.func3.symm.trans hfn)).symm
      exact ⟨by kernel_rfl, fun j t ht => by
        have hm : t ∈ Tryd.f3.params.toList := Array.mem_toList_iff.2 (Array.mem_of_getElem? ht)
        have hall : (Tryd.f3.params.toList.all fun u => !Tryd.prog.wantsStandIn u) = true := by kernel_rfl
        exact (show Tryd.prog.wantsStandIn t = false by simpa using List.all_eq_true.1 hall t hm)⟩)
    (by kernel_rfl)
#print axioms fnExactWalkerText_card
end Go.Proofs.YtjjdehnpnfdjcaaDoor
