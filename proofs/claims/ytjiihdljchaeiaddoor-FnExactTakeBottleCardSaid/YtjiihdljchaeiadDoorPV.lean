/-
  FnExactTakeBottle: for every crate and place the law returns true, and its arguments read as before. No condition but that the sentinel errors hold what the program's text lays (tied).
-/
import Derived.Test.YtjiihdljchaeiadDoorCards
import Derived.Test.YtjiihdljchaeiadDoorTie
import Derived.Test.YtjiihdljchaeiadDoorG
import Derived.Test.YtjiihdljchaeiadDoorR
import Derived.Test.YtjiihdljchaeiadDoorC
import Derived.Test.YtjiihdljchaeiadDoorY
import Derived.Test.YtjiihdljchaeiadDoorX
import Derived.SevenTiedAt
namespace Go.Proofs.YtjiihdljchaeiadDoor
open Go.ChangeShapes Go.WideShapes Go.ChangeAt Go.RowKit

theorem Tryd.sizeLc : (Tryd.prog.info? 25).map (·.size) = some 24 := by kernel_rfl
set_option maxRecDepth 100000 in
set_option maxHeartbeats 1000000 in
theorem takeLaw_gen (bs : List Bot) (hwf : WfC bs) (n : Int) (Y : List Bot) (hY : WfC Y) (p q c : Int)
    (hS : ∀ w, Calls Tryd.prog 12 #[.agg (ccells bs).toArray, .int .i64 n] w fun e w' => e = .returned (.tuple #[.agg (ccells Y).toArray, .agg #[.int .u8 p, .int .i16 q], .int .i64 c]) ∧ Below w.heap.size w w')
    (hI : ∀ ad w, EW 7 w ad → Calls Tryd.prog 13 #[.agg (ccells bs).toArray, .int .i64 n] w fun e w' => e = .returned (.tuple #[.agg (ccells Y).toArray, .agg #[.int .u8 p, .int .i16 q], .int .i64 c]) ∧ Below w.heap.size w w')
    (ad : Nat → Addr) (w : World) (hE : EW 7 w ad) : Calls Tryd.prog 4 #[.agg (ccells bs).toArray, .int .i64 n] w (Good w) := by
  have HW := Lib.hid hwf
  have HE := Lib.hid hE
  have HY2 := Lib.hid hY
  have HS := Lib.hid hS
  have HI := Lib.hid hI
  clear hwf hE hY hS hI
  have HA := Lib.hid (CBlk.new w 25 bs)
  have HB0 : Hid (Below w.heap.size w (w.alloc (.cells (ccells bs).toArray 25))) := (Below.refl _ w).alloc (Nat.le_refl _) _
  go_enter Tryd.func4, Tryd.ntmps4
  go_wp2_with (refine wpList_load_row rfl 25 (.tmp 2) rfl w.heap.size rfl 25 _ (0, 0) _ HA.out Tryd.underlying25 rfl (size_of_crate Tryd.sizeLc _ HW.out.1) ?_)
  refine (toCrate_any bs HW.out.1 _).mono ?_
  rintro e w1 ⟨rfl, hb1⟩
  have H1 : Hid (Below w.heap.size w w1) := HB0.out.trans (hb1.mono HB0.out.size)
  have HA1 : Hid (CBlk w1 w.heap.size 25 bs) := HA.out.below hb1 HA.out.lt
  clear hb1 HA HB0
  go_wp2_with fail
  refine (HS.out _).mono ?_
  rintro e w2 ⟨rfl, hb2⟩
  have H2 : Hid (Below w.heap.size w w2) := H1.out.trans (hb2.mono H1.out.size)
  have HA2 : Hid (CBlk w2 w.heap.size 25 bs) := HA1.out.below hb2 HA1.out.lt
  clear hb2 H1 HA1
  obtain ⟨V0, hV0⟩ : ∃ V0, (w2.alloc (.cells #[.int .u8 0, .int .i16 0, .int .u8 0, .int .i16 0, .int .u8 0, .int .i16 0, .int .u8 0, .int .i16 0, .int .u8 0, .int .i16 0, .int .u8 0, .int .i16 0, .int .u8 0, .int .i16 0, .int .u8 0, .int .i16 0, .int .u8 0, .int .i16 0, .int .u8 0, .int .i16 0, .int .u8 0, .int .i16 0, .int .u8 0, .int .i16 0] 28)).alloc (.cells #[.int .u8 0, .int .i16 0] 26) = V0 := ⟨_, rfl⟩
  have c0 : CBlk V0 w2.heap.size 28 noB := by
    rw [← hV0]; refine CBlk.alloc ?_ _; exact CBlk.new' rfl rfl
  have c1 : CBlk V0 (w2.heap.size + 1) 26 [(0, 0)] := by rw [← hV0]; exact CBlk.new' (by simp) rfl
  have c2 : CBlk V0 w.heap.size 25 bs := by rw [← hV0]; exact (CBlk.alloc HA2.out _).alloc _
  have c3 : Below w.heap.size w V0 := by rw [← hV0]; exact (H2.out.alloc H2.out.size _).alloc (by have := H2.out.size; simp; omega) _
  have hlt := HA2.out.lt
  have C0 := Lib.hid c0
  have C1 : Hid (CBlk (V0.setRow w2.heap.size (ccells Y).toArray) (w2.heap.size + 1) 26 [(0, 0)]) := c1.rowOff (by omega) _
  have C2 : Hid (CBlk ((V0.setRow w2.heap.size (ccells Y).toArray).setRow (w2.heap.size + 1) (ccells [(p, q)]).toArray) w.heap.size 25 bs) := (c2.rowOff (by omega) _).rowOff (by omega) _
  have C3 : Hid (Below w.heap.size w ((V0.setRow w2.heap.size (ccells Y).toArray).setRow (w2.heap.size + 1) (ccells [(p, q)]).toArray)) := Below.setRow (Below.setRow c3 _ _ (by omega)) _ _ (by omega)
  have C4 : Hid (CBlk ((V0.setRow w2.heap.size (ccells Y).toArray).setRow (w2.heap.size + 1) (ccells [(p, q)]).toArray) w2.heap.size 28 Y) := (CBlk.setRow (Y := Y) c0).rowOff (by omega) _
  have C5 : Hid (CBlk ((V0.setRow w2.heap.size (ccells Y).toArray).setRow (w2.heap.size + 1) (ccells [(p, q)]).toArray) (w2.heap.size + 1) 26 [(p, q)]) := (c1.rowOff (by omega) _).setRow (Y := [(p, q)])
  have hVl : w2.heap.size + 1 < V0.heap.size := c1.lt
  have HVl := Lib.hid hVl
  have HV := Lib.hid hV0
  have Hlt := Lib.hid hlt
  clear hV0 c0 c1 c2 c3 hVl hlt
  go_wp2_with (first
    | (refine wpList_store_row rfl 28 (.tmp 5) (.tmp 16) rfl w2.heap.size _ rfl rfl 28 _ (show CBlk _ w2.heap.size 28 noB by rw [HV.out]; exact C0.out) (size_of_crate Tryd.sizeCr _ HY2.out.1) (by rw [ccells_size _ HY2.out.1]; rfl) (ccells_one _) ?_; rw [HV.out])
    | (refine wpList_store_row rfl 26 (.tmp 6) (.tmp 17) rfl (w2.heap.size + 1) (ccells [(p, q)]).toArray rfl rfl 26 _ C1.out (size_of_bot Tryd.sizeBt _) rfl (ccells_one _) ?_)
    | (refine wpList_load_row rfl 25 (.tmp 2) rfl w.heap.size rfl 25 _ (0, 0) _ C2.out Tryd.underlying25 rfl (size_of_crate Tryd.sizeLc _ HW.out.1) ?_))
  obtain ⟨V1, hV1⟩ : ∃ V1, (V0.setRow w2.heap.size (ccells Y).toArray).setRow (w2.heap.size + 1) (ccells [(p, q)]).toArray = V1 := ⟨_, rfl⟩
  rw [hV1] at C2 C3 C4 C5 ⊢
  clear hV1 C0 C1 HV HVl
  refine (toCrate_any bs HW.out.1 _).mono ?_
  rintro e w3 ⟨rfl, hb3⟩
  have H3 : Hid (Below w.heap.size w w3) := C3.out.trans (hb3.mono C3.out.size)
  have D4 : Hid (CBlk w3 w2.heap.size 28 Y) := C4.out.below hb3 C4.out.lt
  have D5 : Hid (CBlk w3 (w2.heap.size + 1) 26 [(p, q)]) := C5.out.below hb3 C5.out.lt
  clear hb3 C2 C3 C4 C5
  go_wp2_with fail
  refine (HI.out ad _ (HE.out.below H3.out (Nat.le_refl _))).mono ?_
  rintro e w4 ⟨rfl, hb4⟩
  have H4 : Hid (Below w.heap.size w w4) := H3.out.trans (hb4.mono H3.out.size)
  have E4 : Hid (CBlk w4 w2.heap.size 28 Y) := D4.out.below hb4 D4.out.lt
  have E5 : Hid (CBlk w4 (w2.heap.size + 1) 26 [(p, q)]) := D5.out.below hb4 D5.out.lt
  clear hb4 D4 D5 H3
  obtain ⟨V0, hV0⟩ : ∃ V0, (w4.alloc (.cells #[.int .u8 0, .int .i16 0, .int .u8 0, .int .i16 0, .int .u8 0, .int .i16 0, .int .u8 0, .int .i16 0, .int .u8 0, .int .i16 0, .int .u8 0, .int .i16 0, .int .u8 0, .int .i16 0, .int .u8 0, .int .i16 0, .int .u8 0, .int .i16 0, .int .u8 0, .int .i16 0, .int .u8 0, .int .i16 0, .int .u8 0, .int .i16 0] 28)).alloc (.cells #[.int .u8 0, .int .i16 0] 26) = V0 := ⟨_, rfl⟩
  have c0 : CBlk V0 w4.heap.size 28 noB := by
    rw [← hV0]; refine CBlk.alloc ?_ _; exact CBlk.new' rfl rfl
  have c1 : CBlk V0 (w4.heap.size + 1) 26 [(0, 0)] := by rw [← hV0]; exact CBlk.new' (by simp) rfl
  have c4 : CBlk V0 w2.heap.size 28 Y := by rw [← hV0]; exact (CBlk.alloc E4.out _).alloc _
  have c5 : CBlk V0 (w2.heap.size + 1) 26 [(p, q)] := by rw [← hV0]; exact (CBlk.alloc E5.out _).alloc _
  have c3 : Below w.heap.size w V0 := by rw [← hV0]; exact (H4.out.alloc H4.out.size _).alloc (by have := H4.out.size; simp; omega) _
  have hl5 := E5.out.lt
  have hs4 := H4.out.size
  have C0 := Lib.hid c0
  have C1 : Hid (CBlk (V0.setRow w4.heap.size (ccells Y).toArray) (w4.heap.size + 1) 26 [(0, 0)]) := c1.rowOff (by omega) _
  have C3 : Hid (Below w.heap.size w ((V0.setRow w4.heap.size (ccells Y).toArray).setRow (w4.heap.size + 1) (ccells [(p, q)]).toArray)) := Below.setRow (Below.setRow c3 _ _ (by omega)) _ _ (by omega)
  have C4 : Hid (CBlk ((V0.setRow w4.heap.size (ccells Y).toArray).setRow (w4.heap.size + 1) (ccells [(p, q)]).toArray) w2.heap.size 28 Y) := (c4.rowOff (by omega) _).rowOff (by omega) _
  have C5 : Hid (CBlk ((V0.setRow w4.heap.size (ccells Y).toArray).setRow (w4.heap.size + 1) (ccells [(p, q)]).toArray) (w2.heap.size + 1) 26 [(p, q)]) := (c5.rowOff (by omega) _).rowOff (by omega) _
  have C6 : Hid (CBlk ((V0.setRow w4.heap.size (ccells Y).toArray).setRow (w4.heap.size + 1) (ccells [(p, q)]).toArray) w4.heap.size 28 Y) := (CBlk.setRow (Y := Y) c0).rowOff (by omega) _
  have C7 : Hid (CBlk ((V0.setRow w4.heap.size (ccells Y).toArray).setRow (w4.heap.size + 1) (ccells [(p, q)]).toArray) (w4.heap.size + 1) 26 [(p, q)]) := (c1.rowOff (by omega) _).setRow (Y := [(p, q)])
  have HV := Lib.hid hV0
  clear hV0 c0 c1 c3 c4 c5 hl5 hs4
  go_wp2_with (first
    | (refine wpList_store_row rfl 28 (.tmp 8) (.tmp 24) rfl w4.heap.size _ rfl rfl 28 _ (show CBlk _ w4.heap.size 28 noB by rw [HV.out]; exact C0.out) (size_of_crate Tryd.sizeCr _ HY2.out.1) (by rw [ccells_size _ HY2.out.1]; rfl) (ccells_one _) ?_; rw [HV.out])
    | (refine wpList_store_row rfl 26 (.tmp 9) (.tmp 25) rfl (w4.heap.size + 1) (ccells [(p, q)]).toArray rfl rfl 26 _ C1.out (size_of_bot Tryd.sizeBt _) rfl (ccells_one _) ?_)
    | (refine wpList_load_row rfl 28 (.tmp 8) rfl w4.heap.size rfl 28 _ (0, 0) _ C6.out Tryd.underlying28 rfl (size_of_crate Tryd.sizeCr _ HY2.out.1) ?_)
    | (refine wpList_load_row rfl 28 (.tmp 5) rfl w2.heap.size rfl 28 _ (0, 0) _ C4.out Tryd.underlying28 rfl (size_of_crate Tryd.sizeCr _ HY2.out.1) ?_))
  obtain ⟨V1, hV1⟩ : ∃ V1, (V0.setRow w4.heap.size (ccells Y).toArray).setRow (w4.heap.size + 1) (ccells [(p, q)]).toArray = V1 := ⟨_, rfl⟩
  rw [hV1] at C3 C4 C5 C6 C7 ⊢
  clear hV1 C0 C1 HV
  refine (eqCrate_same Y HY2.out _).mono ?_
  rintro e w5 ⟨rfl, hb5⟩
  have H5 : Hid (Below w.heap.size w w5) := C3.out.trans (hb5.mono C3.out.size)
  have D5 : Hid (CBlk w5 (w2.heap.size + 1) 26 [(p, q)]) := C5.out.below hb5 C5.out.lt
  have D7 : Hid (CBlk w5 (w4.heap.size + 1) 26 [(p, q)]) := C7.out.below hb5 C7.out.lt
  clear hb5 C3 C4 C5 C6 C7
  have x0 : w5.cell? ⟨w2.heap.size + 1, 0, none⟩ = some (.int .u8 p) := D5.out.cell 0
  have x1 : w5.cell? ⟨w2.heap.size + 1, 1, none⟩ = some (.int .i16 q) := D5.out.cell 1
  have y0 : w5.cell? ⟨w4.heap.size + 1, 0, none⟩ = some (.int .u8 p) := D7.out.cell 0
  have y1 : w5.cell? ⟨w4.heap.size + 1, 1, none⟩ = some (.int .i16 q) := D7.out.cell 1
  go_wp2_with fail
  refine (eqBottle_same p q _).mono ?_
  rintro e w6 ⟨rfl, hb6⟩
  have H6 : Hid (Below w.heap.size w w6) := H5.out.trans (hb6.mono H5.out.size)
  clear hb6
  go_wp2
  go_ret
  exact ⟨rfl, H6.out⟩

theorem takeLaw_any (bs : List Bot) (hwf : WfC bs) (n : Int) (ad : Nat → Addr) (w : World) (hE : EW 7 w ad) : Calls Tryd.prog 4 #[.agg (ccells bs).toArray, .int .i64 n] w (Good w) := by
  have wfN : WfC noB := ⟨rfl, by intro b hb; simp [noB] at hb; subst hb; simp [wfB]⟩
  cases hok : okC bs
  · by_cases hn : 0 ≤ n ∧ n < 12
    · exact takeLaw_gen bs hwf n noB wfN 0 0 1 (fun w => specTake_bad bs hwf n hok w) (fun ad w hE => implTake_bad0 bs hwf n hn hok ad w hE) ad w hE
    · exact takeLaw_gen bs hwf n noB wfN 0 0 1 (fun w => specTake_bad bs hwf n hok w) (fun ad w hE => implTake_bad1 bs hwf n hn hok ad w hE) ad w hE
  · by_cases hn : 0 ≤ n ∧ n < 12
    · obtain ⟨k, rfl⟩ : ∃ k : Nat, n = k := ⟨n.toNat, by omega⟩
      have hk : k < 12 := by omega
      obtain ⟨x, y, hbk, _, _⟩ := hwf.at_ hk
      cases hb : eB (x, y)
      · refine takeLaw_gen bs hwf k (bs.set k (0, 0)) ⟨by rw [List.length_set]; exact hwf.1, fun b hb => ?_⟩ x y 0 (fun w => specTake_some bs hwf k hk x y hbk hok hb w) (fun ad w hE => implTake_some bs hwf k hk x y hbk hok hb ad w hE) ad w hE
        rcases List.mem_or_eq_of_mem_set hb with h | h
        · exact hwf.2 b h
        · subst h; simp [wfB]
      · exact takeLaw_gen bs hwf k noB wfN 0 0 6 (fun w => specTake_none bs hwf k hk x y hbk hok hb w) (fun ad w hE => implTake_none bs hwf k hk x y hbk hok hb ad w hE) ad w hE
    · refine takeLaw_gen bs hwf n noB wfN 0 0 2 (fun w => ?_) (fun ad w hE => implTake_range bs hwf n hn hok ad w hE) ad w hE
      by_cases h0 : n < 0
      · exact specTake_range0 bs hwf n hok h0 w
      · exact specTake_range1 bs hwf n hok (by omega) w

set_option maxRecDepth 100000 in
theorem fnExactTakeBottle_lifted (os : Os) (started : os.Started) (H : Type) (enc : TypeId × Value → H) :
    ReturnsInHanded {} Tryd.checked os 4 .any (fun w args => (Rows.fnExactTakeBottleSpec.pre enc Tryd.prog Tryd.f4 Rows.fnExactTakeBottleRow.domain false w args ∧ laidMetH Tryd.prog (lay sl7) w) ∧ sizedMet enc Tryd.prog Tryd.f4 (OpenSpec.ofChange Rows.fnExactTakeBottleSpec) false w args)
      (Rows.fnExactTakeBottleSpec.post enc Tryd.prog Tryd.f4 false true false false) := by
  refine law_liftL (C := Tryd.checked) 2 7 Tryd.own started (by kernel_rfl) Tryd.func4
    (ChangeSpec.witness_shaped (enc := enc) (C := Tryd.checked) (os := os) (X := fun w _ => laidMetH Tryd.prog (lay sl7) w) false (World.doorLaid Tryd.prog 142 os) #[.agg #[.int .u8 0, .int .i16 0, .int .u8 0, .int .i16 0, .int .u8 0, .int .i16 0, .int .u8 0, .int .i16 0, .int .u8 0, .int .i16 0, .int .u8 0, .int .i16 0, .int .u8 0, .int .i16 0, .int .u8 0, .int .i16 0, .int .u8 0, .int .i16 0, .int .u8 0, .int .i16 0, .int .u8 0, .int .i16 0, .int .u8 0, .int .i16 0], .int .i64 0] 8 rfl (World.shaped_of_RefB (by kernel_rfl) (by kernel_rfl)) (by kernel_rfl) (by kernel_rfl) (by kernel_rfl)
      (laidMetH_of_parts3 (fuel := 8) (laidMet_of_run' 8 (by kernel_rfl) (by kernel_rfl)) (by kernel_rfl) (by kernel_rfl)))
    Tryd.laidOut (by kernel_rfl) rfl (by kernel_rfl) Tryd.underlying4 (by kernel_rfl) (by kernel_rfl)
    (fun ds gs h h' => by match ds, gs, h, h' with | [d1, d2], [g1, g2, g3, g4, g5, g6, g7], _, _ => rfl) ?_
  intro W base args ds p hL hval hA
  rw [Tryd.params4] at hA hval
  obtain ⟨v0, v1, d0, d1, p0, p1, rfl, rfl, rfl, h0, h1⟩ := trodAll_two hA
  obtain ⟨bs, hl, rfl, hwf⟩ := open_crate (n := 12) Tryd.underlying25 (by kernel_rfl) Tryd.underlying24 Tryd.underlying5 Tryd.underlying22 (by kernel_rfl) (by kernel_rfl) (hval 0 25 v0 rfl rfl) h0
  obtain ⟨n, rfl, rfl, rfl, wn⟩ := open_int Tryd.underlying2 (hval 1 2 v1 rfl rfl) h1
  obtain ⟨ad, hE⟩ := ew7_of hL
  exact takeLaw_any bs ⟨hl, hwf⟩ n ad W hE

theorem fnExactTakeBottle_row : Rows.FnExactTakeBottleSaid :=
  OpenClaim.holds_of_wide 4 Tryd.f4 rfl rfl rfl rfl rfl rfl rfl ⟨rfl, rfl, rfl, rfl, rfl⟩ rfl rfl rfl rfl rfl (by kernel_rfl) Tryd.func4 (by kernel_rfl)
    (of_decide_eq_true (by kernel_rfl)) (by unfold Func.isWrapper; rw [if_neg (of_decide_eq_false (by kernel_rfl))]; exact ⟨rfl, rfl⟩)
    (fun os started H enc _ => fnExactTakeBottle_lifted os started H enc)

theorem fnExactTakeBottle_card : Rows.FnExactTakeBottleCardSaid :=
  Claim7.holds_tied_plain_at .later [] [.sentinel, .sentinel, .sentinel, .sentinel, .sentinel, .sentinel, .sentinel] true (true, "2bc591f4d2f62dbd1fc91a1381c07e26b06ad54de8418bcbe3f9ca9cd24dd515") true
    fnExactTakeBottle_row (fun _ h => by cases h) (by kernel_rfl) (fun _ h => by cases h) fnExactTakeBottle_row_tie rfl ⟨rfl, rfl⟩ (by kernel_rfl) rfl
    (fun f fn hf hfn => by
      obtain rfl : f = 4 := Option.some.inj ((show Tryd.prog.funcNamed "loop.example/g01353/laws.FnExactTakeBottle" = some 4 by kernel_rfl).symm.trans hf) |>.symm
      obtain rfl : fn = Tryd.f4 := (Option.some.inj (Tryd.func4.symm.trans hfn)).symm
      exact ⟨by kernel_rfl, fun j t ht => by
        have hm : t ∈ Tryd.f4.params.toList := Array.mem_toList_iff.2 (Array.mem_of_getElem? ht)
        have hall : (Tryd.f4.params.toList.all fun u => !Tryd.prog.wantsStandIn u) = true := by kernel_rfl
        exact (show Tryd.prog.wantsStandIn t = false by simpa using List.all_eq_true.1 hall t hm)⟩)
    (by kernel_rfl)
#print axioms fnExactTakeBottle_card
end Go.Proofs.YtjiihdljchaeiadDoor
