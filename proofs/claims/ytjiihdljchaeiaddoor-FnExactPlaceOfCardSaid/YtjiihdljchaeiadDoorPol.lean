/-
  FnExactPlaceOf: for every crate and bottle the law returns true, and its arguments read as before. No condition but that the sentinel errors hold what the program's text lays (tied).
-/
import Derived.Test.YtjiihdljchaeiadDoorCards
import Derived.Test.YtjiihdljchaeiadDoorTie
import Derived.Test.YtjiihdljchaeiadDoorG
import Derived.Test.YtjiihdljchaeiadDoorPo
import Derived.SevenTiedAt
namespace Go.Proofs.YtjiihdljchaeiadDoor
open Go.ChangeShapes Go.WideShapes Go.ChangeAt Go.RowKit Go.Deep

theorem Tryd.sizeLc : (Tryd.prog.info? 25).map (·.size) = some 24 := by kernel_rfl
theorem keptCB {W0 w1 w2 : World} {B : Nat} {cs : List Value} {p q : Int} (hB : B + 1 < W0.heap.size) (h : Below W0.heap.size W0 w1) (hb : Below w1.heap.size w1 w2)
    (r : w1.rangeAt B 0 cs) (b0 : w1.cell? ⟨B + 1, 0, none⟩ = some (.int .u8 p)) (b1 : w1.cell? ⟨B + 1, 1, none⟩ = some (.int .i16 q)) :
    w2.rangeAt B 0 cs ∧ w2.cell? ⟨B + 1, 0, none⟩ = some (.int .u8 p) ∧ w2.cell? ⟨B + 1, 1, none⟩ = some (.int .i16 q) ∧ Below W0.heap.size W0 w2 := by
  have hs := h.size
  exact ⟨fun j v hv => (hb.cell (p := ⟨B, 0 + j, none⟩) (by show B < _; omega)).trans (r j v hv), (hb.cell (p := ⟨B + 1, 0, none⟩) (by show B + 1 < _; omega)).trans b0, (hb.cell (p := ⟨B + 1, 1, none⟩) (by show B + 1 < _; omega)).trans b1, h.trans (hb.mono hs)⟩

set_option maxRecDepth 100000 in
set_option maxHeartbeats 4000000 in
theorem placeLaw_gen (bs : List Bot) (hwf : WfC bs) (p q a c : Int)
    (hS : ∀ w, Calls Tryd.prog 17 #[.agg (ccells bs).toArray, .agg #[.int .u8 p, .int .i16 q]] w fun e w' => e = .returned (.tuple #[.int .i64 a, .int .i64 c]) ∧ Below w.heap.size w w')
    (hI : ∀ ad w, EW 7 w ad → Calls Tryd.prog 18 #[.agg (ccells bs).toArray, .agg #[.int .u8 p, .int .i16 q]] w fun e w' => e = .returned (.tuple #[.int .i64 a, .int .i64 c]) ∧ Below w.heap.size w w')
    (ad : Nat → Addr) (w : World) (hE : EW 7 w ad) : Calls Tryd.prog 6 #[.agg (ccells bs).toArray, .agg #[.int .u8 p, .int .i16 q]] w (Good w) := by
  have HW := Lib.hid hwf
  have HE := Lib.hid hE
  have HS := Lib.hid hS
  have HI := Lib.hid hI
  clear hwf hE hS hI
  have h1 : CBlk ((w.alloc (.cells (ccells bs).toArray 25)).alloc (.cells #[.int .u8 p, .int .i16 q] 24)) w.heap.size 25 bs := (CBlk.new w 25 bs).alloc _
  have h2 : CBlk ((w.alloc (.cells (ccells bs).toArray 25)).alloc (.cells #[.int .u8 p, .int .i16 q] 24)) (w.heap.size + 1) 24 [(p, q)] := CBlk.new' (by simp) rfl
  have h3 : Below w.heap.size w ((w.alloc (.cells (ccells bs).toArray 25)).alloc (.cells #[.int .u8 p, .int .i16 q] 24)) := (by repeat (first | exact Below.refl _ _ | refine Below.drew ?_ | refine Below.alloc ?_ (by simp <;> omega) _ | refine Below.setCell ?_ (by simp <;> omega) _))
  go_enter Tryd.func6, Tryd.ntmps6
  go_wp2_with fail
  obtain ⟨W0, hW0⟩ : ∃ W0, (w.alloc (.cells (ccells bs).toArray 25)).alloc (.cells #[.int .u8 p, .int .i16 q] 24) = W0 := ⟨_, rfl⟩
  rw [hW0] at h1 h2 h3 ⊢
  clear hW0
  have hsz : w.heap.size + 1 < W0.heap.size := h2.lt
  have c0 : W0.rangeAt w.heap.size 0 (ccells bs) := CBlk.range h1
  have c1 : W0.cell? ⟨w.heap.size + 1, 0, none⟩ = some (.int .u8 p) := h2.cell 0
  have c2 : W0.cell? ⟨w.heap.size + 1, 1, none⟩ = some (.int .i16 q) := h2.cell 1
  have hu := Tryd.underlying25
  have hi : (Tryd.prog.info? 25).map (·.size) = some (ccells bs).length := by rw [ccells_length, HW.out.1]; exact Tryd.sizeLc
  have H3 := Lib.hid h3
  have hs0 : Below W0.heap.size W0 W0 := Below.refl _ _
  clear h1 h2 h3
  go_region_held3 (fun w' => w'.rangeAt w.heap.size 0 (ccells bs) ∧ w'.cell? ⟨w.heap.size + 1, 0, none⟩ = some (.int .u8 p) ∧ w'.cell? ⟨w.heap.size + 1, 1, none⟩ = some (.int .i16 q) ∧ Below W0.heap.size W0 w') ((refine ⟨?_, ?_, ?_, ?_⟩ <;> (first | assumption | exact Below.drew ‹_› | exact (World.rangeAt_drew _ _ _ _).2 ‹_› | (simp [*]; done))))
    (first
      | (go_at_call 8; refine (toCrate_any bs HW.out.1 _).mono ?_; rintro e w2 ⟨rfl, hb⟩; obtain ⟨r0, r1, r2, r3⟩ := keptCB hsz (by first | assumption | exact Below.drew (by assumption)) hb (by first | assumption | exact (World.rangeAt_drew _ _ _ _).2 (by assumption)) (by assumption) (by assumption))
      | (go_at_call 9; refine (toBottle_any _ _ _).mono ?_; rintro e w2 ⟨rfl, hb⟩; obtain ⟨r0, r1, r2, r3⟩ := keptCB hsz (by first | assumption | exact Below.drew (by assumption)) hb (by first | assumption | exact (World.rangeAt_drew _ _ _ _).2 (by assumption)) (by assumption) (by assumption))
      | (go_at_call 17; refine (HS.out _).mono ?_; rintro e w2 ⟨rfl, hb⟩; obtain ⟨r0, r1, r2, r3⟩ := keptCB hsz (by first | assumption | exact Below.drew (by assumption)) hb (by first | assumption | exact (World.rangeAt_drew _ _ _ _).2 (by assumption)) (by assumption) (by assumption)))
  clear hb
  go_wp2_with fail
  go_region_held3 (fun w' => w'.rangeAt w.heap.size 0 (ccells bs) ∧ w'.cell? ⟨w.heap.size + 1, 0, none⟩ = some (.int .u8 p) ∧ w'.cell? ⟨w.heap.size + 1, 1, none⟩ = some (.int .i16 q) ∧ Below W0.heap.size W0 w') ((refine ⟨?_, ?_, ?_, ?_⟩ <;> (first | assumption | exact Below.drew ‹_› | exact (World.rangeAt_drew _ _ _ _).2 ‹_› | (simp [*]; done))))
    (first
      | (go_at_call 8; refine (toCrate_any bs HW.out.1 _).mono ?_; rintro e w2 ⟨rfl, hb⟩; obtain ⟨r0, r1, r2, r3⟩ := keptCB hsz (by first | assumption | exact Below.drew (by assumption)) hb (by first | assumption | exact (World.rangeAt_drew _ _ _ _).2 (by assumption)) (by assumption) (by assumption))
      | (go_at_call 9; refine (toBottle_any _ _ _).mono ?_; rintro e w2 ⟨rfl, hb⟩; obtain ⟨r0, r1, r2, r3⟩ := keptCB hsz (by first | assumption | exact Below.drew (by assumption)) hb (by first | assumption | exact (World.rangeAt_drew _ _ _ _).2 (by assumption)) (by assumption) (by assumption))
      | (go_at_call 18; refine (HI.out ad _ (HE.out.below (H3.out.trans ((show Below W0.heap.size W0 _ by first | assumption | exact Below.drew (by assumption)).mono H3.out.size)) (Nat.le_refl _))).mono ?_; rintro e w2 ⟨rfl, hb⟩; obtain ⟨r0, r1, r2, r3⟩ := keptCB hsz (by first | assumption | exact Below.drew (by assumption)) hb (by first | assumption | exact (World.rangeAt_drew _ _ _ _).2 (by assumption)) (by assumption) (by assumption)))
  go_wp2
  go_ret
  refine ⟨rfl, H3.out.trans (Below.mono (B := W0.heap.size) ?_ H3.out.size)⟩
  assumption

theorem placeLaw_any (bs : List Bot) (hwf : WfC bs) (p q : Int) (hp : 0 ≤ p ∧ p ≤ 255) (hq : -32768 ≤ q ∧ q ≤ 32767) (ad : Nat → Addr) (w : World) (hE : EW 7 w ad) : Calls Tryd.prog 6 #[.agg (ccells bs).toArray, .agg #[.int .u8 p, .int .i16 q]] w (Good w) := by
  cases hok : okC bs
  · cases hv : vB (p, q)
    · exact placeLaw_gen bs hwf p q 0 1 (fun w => specPlace_bad0 bs hwf p q hp hq hok w) (fun ad w hE => implPlace_bad00 bs hwf p q hok hv ad w hE) ad w hE
    · exact placeLaw_gen bs hwf p q 0 1 (fun w => specPlace_bad0 bs hwf p q hp hq hok w) (fun ad w hE => implPlace_bad01 bs hwf p q hok hv ad w hE) ad w hE
  · cases hv : vB (p, q)
    · exact placeLaw_gen bs hwf p q 0 1 (fun w => specPlace_bad1 bs hwf p q hp hq hok hv w) (fun ad w hE => implPlace_bad1 bs hwf p q hok hv ad w hE) ad w hE
    · rcases fp_cases (eqB (p, q)) bs with ⟨k, _, _, _, _, hf⟩ | ⟨_, hf⟩
      · exact placeLaw_gen bs hwf p q k 0 (fun w => specPlace_hit bs hwf p q hp hq hok hv k hf w) (fun ad w hE => implPlace_hit bs hwf p q hok hv k hf ad w hE) ad w hE
      · exact placeLaw_gen bs hwf p q 0 6 (fun w => specPlace_none bs hwf p q hp hq hok hv hf w) (fun ad w hE => implPlace_none bs hwf p q hok hv hf ad w hE) ad w hE

set_option maxRecDepth 100000 in
theorem fnExactPlaceOf_lifted (os : Os) (started : os.Started) (H : Type) (enc : TypeId × Value → H) :
    ReturnsInHanded {} Tryd.checked os 6 .any (fun w args => (Rows.fnExactPlaceOfSpec.pre enc Tryd.prog Tryd.f6 Rows.fnExactPlaceOfRow.domain false w args ∧ laidMetH Tryd.prog (lay sl7) w) ∧ sizedMet enc Tryd.prog Tryd.f6 (OpenSpec.ofChange Rows.fnExactPlaceOfSpec) false w args)
      (Rows.fnExactPlaceOfSpec.post enc Tryd.prog Tryd.f6 false true false false) := by
  refine law_liftL (C := Tryd.checked) 2 7 Tryd.own started (by kernel_rfl) Tryd.func6
    (ChangeSpec.witness_shaped (enc := enc) (C := Tryd.checked) (os := os) (X := fun w _ => laidMetH Tryd.prog (lay sl7) w) false (World.doorLaid Tryd.prog 142 os) #[.agg #[.int .u8 0, .int .i16 0, .int .u8 0, .int .i16 0, .int .u8 0, .int .i16 0, .int .u8 0, .int .i16 0, .int .u8 0, .int .i16 0, .int .u8 0, .int .i16 0, .int .u8 0, .int .i16 0, .int .u8 0, .int .i16 0, .int .u8 0, .int .i16 0, .int .u8 0, .int .i16 0, .int .u8 0, .int .i16 0, .int .u8 0, .int .i16 0], .agg #[.int .u8 0, .int .i16 0]] 8 rfl (World.shaped_of_RefB (by kernel_rfl) (by kernel_rfl)) (by kernel_rfl) (by kernel_rfl) (by kernel_rfl)
      (laidMetH_of_parts3 (fuel := 8) (laidMet_of_run' 8 (by kernel_rfl) (by kernel_rfl)) (by kernel_rfl) (by kernel_rfl)))
    Tryd.laidOut (by kernel_rfl) rfl (by kernel_rfl) Tryd.underlying4 (by kernel_rfl) (by kernel_rfl)
    (fun ds gs h h' => by match ds, gs, h, h' with | [d1, d2], [g1, g2, g3, g4, g5, g6, g7], _, _ => rfl) ?_
  intro W base args ds p hL hval hA
  rw [Tryd.params6] at hA hval
  obtain ⟨v0, v1, d0, d1, r0, r1, rfl, rfl, rfl, h0, h1⟩ := trodAll_two hA
  obtain ⟨bs, hl, rfl, hwf⟩ := open_crate (n := 12) Tryd.underlying25 (by kernel_rfl) Tryd.underlying24 Tryd.underlying5 Tryd.underlying22 (by kernel_rfl) (by kernel_rfl) (hval 0 25 v0 rfl rfl) h0
  obtain ⟨⟨p, q⟩, ⟨a1, a2, a3, a4⟩, rfl⟩ := open_bottle Tryd.underlying24 Tryd.underlying5 Tryd.underlying22 (by kernel_rfl) (by kernel_rfl) (hval 1 24 v1 rfl rfl) h1
  obtain ⟨ad, hE⟩ := ew7_of hL
  exact placeLaw_any bs ⟨hl, hwf⟩ p q ⟨a1, a2⟩ ⟨a3, a4⟩ ad W hE

theorem fnExactPlaceOf_row : Rows.FnExactPlaceOfSaid :=
  OpenClaim.holds_of_wide 6 Tryd.f6 rfl rfl rfl rfl rfl rfl rfl ⟨rfl, rfl, rfl, rfl, rfl⟩ rfl rfl rfl rfl rfl (by kernel_rfl) Tryd.func6 (by kernel_rfl)
    (of_decide_eq_true (by kernel_rfl)) (by unfold Func.isWrapper; rw [if_neg (of_decide_eq_false (by kernel_rfl))]; exact ⟨rfl, rfl⟩)
    (fun os started H enc _ => fnExactPlaceOf_lifted os started H enc)

theorem fnExactPlaceOf_card : Rows.FnExactPlaceOfCardSaid :=
  Claim7.holds_tied_plain_at .later [] [.sentinel, .sentinel, .sentinel, .sentinel, .sentinel, .sentinel, .sentinel] true (true, "2bc591f4d2f62dbd1fc91a1381c07e26b06ad54de8418bcbe3f9ca9cd24dd515") true
    fnExactPlaceOf_row (fun _ h => by cases h) (by kernel_rfl) (fun _ h => by cases h) fnExactPlaceOf_row_tie rfl ⟨rfl, rfl⟩ (by kernel_rfl) rfl
    (fun f fn hf hfn => by
      obtain rfl : f = 6 := Option.some.inj ((show Tryd.prog.funcNamed "loop.example/g01353/laws.FnExactPlaceOf" = some 6 by kernel_rfl).symm.trans hf) |>.symm
      obtain rfl : fn = Tryd.f6 := (Option.some.inj (Tryd.func6.symm.trans hfn)).symm
      exact ⟨by kernel_rfl, fun j t ht => by
        have hm : t ∈ Tryd.f6.params.toList := Array.mem_toList_iff.2 (Array.mem_of_getElem? ht)
        have hall : (Tryd.f6.params.toList.all fun u => !Tryd.prog.wantsStandIn u) = true := by kernel_rfl
        exact (show Tryd.prog.wantsStandIn t = false by simpa using List.all_eq_true.1 hall t hm)⟩)
    (by kernel_rfl)
#print axioms fnExactPlaceOf_card
end Go.Proofs.YtjiihdljchaeiadDoor
