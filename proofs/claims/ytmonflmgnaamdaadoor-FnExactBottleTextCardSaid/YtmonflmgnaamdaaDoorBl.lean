/-
  FnExactBottleText: for every bottle the law returns true, and its argument reads as before. No condition but that the library's tables hold what the program's text lays (tied).
-/
import Derived.Test.YtmonflmgnaamdaaDoorCards
import Derived.Test.YtmonflmgnaamdaaDoorTie
import Derived.Test.YtmonflmgnaamdaaDoorG
import Derived.Test.YtmonflmgnaamdaaDoorBx
import Derived.SevenTiedAt
import Derived.Lib.LaidTab
namespace Go.Proofs.YtmonflmgnaamdaaDoor
open Go.ChangeShapes Go.WideShapes Go.ChangeAt Go.RowKit Go.Deep

theorem tab_of {W : World} (h : laidMetH Tryd.prog Rows.fnExactBottleTextRow.laid W) : Tab W := by
  rw [MakeChecks.laidMetH_plain _ _ _ (by kernel_rfl)] at h
  exact Lib.tabIs_of_head (g := 6) (rest := []) (by kernel_rfl) (by kernel_rfl) (Tryd.underlying126) (Tryd.underlying119) (by kernel_rfl) (by kernel_rfl) (laidMet.tail (laidMet.tail h))

set_option maxRecDepth 100000 in
set_option maxHeartbeats 1000000 in
theorem btLaw_any (k y : Int) (hk : 0 ≤ k ∧ k ≤ 255) (hy : -32768 ≤ y ∧ y ≤ 32767) (w : World) (ht : Tab w) : Calls Tryd.prog 8 #[.agg #[.int .u8 k, .int .i16 y]] w (Good w) := by
  have HT := Lib.hid ht
  clear ht
  go_enter Tryd.func8, Tryd.ntmps8
  go_wp2_with fail
  have hA : Below w.heap.size w (w.alloc (.cells #[.int .u8 k, .int .i16 y] 24)) := (Below.refl _ w).alloc (Nat.le_refl _) _
  have HA := Lib.hid hA
  clear hA
  refine (toBottle_any k y _).mono ?_
  rintro e w1 ⟨rfl, hb⟩
  have HB1 : Hid (Below w.heap.size w w1) := HA.out.trans (hb.mono HA.out.size)
  have c1 : w1.cell? ⟨w.heap.size, 0, none⟩ = some (.int .u8 k) := (hb.cell (p := ⟨w.heap.size, 0, none⟩) (by simp)).trans (by simp)
  have d1 : w1.cell? ⟨w.heap.size, 1, none⟩ = some (.int .i16 y) := (hb.cell (p := ⟨w.heap.size, 1, none⟩) (by simp)).trans (by simp)
  have hl1 : w.heap.size < w1.heap.size := Nat.lt_of_lt_of_le (by simp) hb.size
  clear hb
  go_wp2_with fail
  refine (specBottleText_any k y hk hy _).mono ?_
  rintro e w2 ⟨rfl, hb⟩
  have HB2 : Hid (Below w.heap.size w w2) := HB1.out.trans (hb.mono HB1.out.size)
  have c2 : w2.cell? ⟨w.heap.size, 0, none⟩ = some (.int .u8 k) := (hb.cell (p := ⟨w.heap.size, 0, none⟩) hl1).trans c1
  have d2 : w2.cell? ⟨w.heap.size, 1, none⟩ = some (.int .i16 y) := (hb.cell (p := ⟨w.heap.size, 1, none⟩) hl1).trans d1
  clear hb c1 d1
  obtain ⟨s, hs⟩ : ∃ s, btV k y = s := ⟨_, rfl⟩
  have HS := Lib.hid hs
  clear hs
  rw [HS.out]
  go_wp2_with fail
  refine (toBottle_any k y _).mono ?_
  rintro e w3 ⟨rfl, hb⟩
  have HB3 : Hid (Below w.heap.size w w3) := HB2.out.trans (hb.mono HB2.out.size)
  clear hb c2 d2
  go_wp2_with fail
  refine (bottleText_any k y _ (HT.out.on HB3.out (Nat.le_refl _))).mono ?_
  rintro e w4 ⟨rfl, hb⟩
  have HB4 : Hid (Below w.heap.size w w4) := HB3.out.trans (hb.mono HB3.out.size)
  clear hb
  rw [HS.out]
  go_wp2
  go_ret
  exact ⟨rfl, HB4.out⟩

set_option maxRecDepth 100000 in
theorem fnExactBottleText_lifted (os : Os) (started : os.Started) (H : Type) (enc : TypeId × Value → H) :
    ReturnsInHanded {} Tryd.checked os 8 .any (fun w args => (Rows.fnExactBottleTextSpec.pre enc Tryd.prog Tryd.f8 Rows.fnExactBottleTextRow.domain false w args ∧ laidMetH Tryd.prog (Rows.fnExactBottleTextRow.laid) w) ∧ sizedMet enc Tryd.prog Tryd.f8 (OpenSpec.ofChange Rows.fnExactBottleTextSpec) false w args)
      (Rows.fnExactBottleTextSpec.post enc Tryd.prog Tryd.f8 false true false false) := by
  refine law_liftL (C := Tryd.checked) 1 0 Tryd.own started (by kernel_rfl) Tryd.func8
    (ChangeSpec.witness_shaped (enc := enc) (C := Tryd.checked) (os := os) (X := fun w _ => laidMetH Tryd.prog (Rows.fnExactBottleTextRow.laid) w) false (World.doorLaid Tryd.prog 138 os) #[.agg #[.int .u8 0, .int .i16 0]] 8 rfl (World.shaped_of_RefB (by kernel_rfl) (by kernel_rfl)) (by kernel_rfl) (by kernel_rfl) (by kernel_rfl)
      (laidMetH_of_parts3 (fuel := 8) (laidMet_of_run' 8 (by kernel_rfl) (by kernel_rfl)) (by kernel_rfl) (by kernel_rfl)))
    Tryd.laidOut (by kernel_rfl) rfl (by kernel_rfl) Tryd.underlying4 (by kernel_rfl) (by kernel_rfl)
    (fun ds gs h h' => by match ds, gs, h, h' with | [d1], [], _, _ => rfl) ?_
  intro W base args ds p hL hval hA
  rw [Tryd.params8] at hA hval
  obtain ⟨v0, d0, rfl, rfl, h0⟩ := trodAll_one hA
  obtain ⟨⟨k, y⟩, ⟨a1, a2, a3, a4⟩, rfl⟩ := open_bottle Tryd.underlying24 Tryd.underlying5 Tryd.underlying22 (by kernel_rfl) (by kernel_rfl) (hval 0 24 v0 rfl rfl) h0
  exact btLaw_any k y ⟨a1, a2⟩ ⟨a3, a4⟩ W (tab_of hL)

theorem fnExactBottleText_row : Rows.FnExactBottleTextSaid :=
  OpenClaim.holds_of_wide 8 Tryd.f8 rfl rfl rfl rfl rfl rfl rfl ⟨rfl, rfl, rfl, rfl, rfl⟩ rfl rfl rfl rfl rfl (by kernel_rfl) Tryd.func8 (by kernel_rfl)
    (of_decide_eq_true (by kernel_rfl)) (by unfold Func.isWrapper; rw [if_neg (of_decide_eq_false (by kernel_rfl))]; exact ⟨rfl, rfl⟩)
    (fun os started H enc _ => fnExactBottleText_lifted os started H enc)

theorem fnExactBottleText_card : Rows.FnExactBottleTextCardSaid :=
  Claim7.holds_tied_plain_at .later [] [.data, .data, .data] true (true, "283f6d9d941643ac4b13d1fb73fbb5baea45783aeed411615f014c78182f5680") true
    fnExactBottleText_row (fun _ h => by cases h) (by kernel_rfl) (fun _ h => by cases h) fnExactBottleText_row_tie rfl ⟨rfl, rfl⟩ (by kernel_rfl) rfl
    (fun f fn hf hfn => by
      obtain rfl : f = 8 := Option.some.inj ((show Tryd.prog.funcNamed "loop.example/g01353/laws.FnExactBottleText" = some 8 by kernel_rfl).symm.trans hf) |>.symm
      obtain rfl : fn = Tryd.f8 := (Option.some.inj (Tryd.func8.symm.trans hfn)).symm
      exact ⟨by kernel_rfl, fun j t ht => by
        have hm : t ∈ Tryd.f8.params.toList := Array.mem_toList_iff.2 (Array.mem_of_getElem? ht)
        have hall : (Tryd.f8.params.toList.all fun u => !Tryd.prog.wantsStandIn u) = true := by kernel_rfl
        exact (show Tryd.prog.wantsStandIn t = false by simpa using List.all_eq_true.1 hall t hm)⟩)
    (by kernel_rfl)
#print axioms fnExactBottleText_card
end Go.Proofs.YtmonflmgnaamdaaDoor
