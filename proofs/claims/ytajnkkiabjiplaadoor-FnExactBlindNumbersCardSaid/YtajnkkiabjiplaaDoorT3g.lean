/-
  FnExactBlindNumbers: for all arguments the law returns true, and they read as before. No condition but that the sentinel errors hold what the program's text lays (tied).
-/
import Derived.Test.YtajnkkiabjiplaaDoorCards
import Derived.Test.YtajnkkiabjiplaaDoorTie
import Derived.Test.YtajnkkiabjiplaaDoorG
import Derived.Test.YtajnkkiabjiplaaDoorTb8
import Derived.Test.YtajnkkiabjiplaaDoorGk
import Derived.Test.YtajnkkiabjiplaaDoorMkN
import Derived.SevenTiedAt
namespace Go.Proofs.YtajnkkiabjiplaaDoor
open Go.ChangeShapes Go.WideShapes Go.ChangeAt Go.RowKit Go.Deep

set_option maxRecDepth 100000 in
set_option maxHeartbeats 4000000 in
theorem bn7Law_any (n : Int) (s : Int) (f : Int) (ad : Nat → Addr) (w : World)  (hsn : wfI6 n) (hss : wfI6 s) (hsf : wfI6 f) (hE : EW 5 w ad) :
    Calls Tryd.prog 4 #[.int .i64 n, .int .i64 s, .int .i64 f] w (Good w) := by
  have HSn := Lib.hid hsn
  have HSs := Lib.hid hss
  have HSf := Lib.hid hsf
  have HE := Lib.hid hE
  clear hE
  clear hsn hss hsf
  go_enter Tryd.func4, Tryd.ntmps4
  have HB_0 : Hid (Below w.heap.size w w) := Below.refl _ _
  go_wp2_with fail
  refine (specBlind_any n s f _).mono ?_
  rintro e w1 ⟨v0, rfl, hO0, hb⟩
  have HB_1 : Hid (Below w.heap.size w w1) := HB_0.out.trans (hb.mono HB_0.out.size)
  clear hb HB_0
  obtain ⟨Av0, cv0, rfl, -, hrv0⟩ := own_rd icells_length hO0
  have RV0 : Hid (Rd w1 w1.heap.size icells Av0 (bnA n s f)) := hrv0
  clear hO0 hrv0
  have HV_1 : Hid (Below w1.heap.size w1 w1) := Below.refl _ _
  obtain ⟨cd0, hcd0⟩ : ∃ c, bnC n s f = c := ⟨_, rfl⟩
  have HCD0 := Lib.hid hcd0
  clear hcd0
  rw [HCD0.out]
  go_wp2_with fail
  refine (implBlind_any n s f HSs.out ad _ (HE.out.below HB_1.out (Nat.le_refl _))).mono ?_
  rintro e w2 ⟨g0, rfl, hO0, hb⟩
  have LE0 : Hid (w.heap.size ≤ w1.heap.size) := HB_1.out.size
  have LE1 : Hid (w1.heap.size ≤ w1.heap.size) := HV_1.out.size
  have LE2 : Hid (w1.heap.size ≤ w2.heap.size) := hb.size
  have HB_2 : Hid (Below w.heap.size w w2) := HB_1.out.trans (hb.mono HB_1.out.size)
  have HV_2 : Hid (Below w1.heap.size w1 w2) := HV_1.out.trans (hb.mono HV_1.out.size)
  clear hb HB_1 HV_1
  rw [HCD0.out]
  obtain ⟨Ag0, cg0, rfl, -, -⟩ := own_rd icells_length hO0
  have G0_2 := Lib.hid hO0
  clear hO0
  have hLlen := bnA_len n s f
  go_wp2_with fail
  refine (eqInt64S_same (bnA n s f) _ _ _ _ _ (by omega) (own_rd2 icells_length G0_2.out) (RV0.out.keep HV_2.out)).mono ?_
  rintro e w3 ⟨rfl, hb⟩
  have HB_3 : Hid (Below w.heap.size w w3) := HB_2.out.trans (hb.mono HB_2.out.size)
  have HV_3 : Hid (Below w1.heap.size w1 w3) := HV_2.out.trans (hb.mono HV_2.out.size)
  have G0_3 : Hid (w3.ownsRow w1.heap.size 2 1 (.slice Ag0 (bnA n s f).length cg0) (bnA n s f).length ((bnA n s f).flatMap icells)) := own_keep' G0_2.out hb
  clear hb HB_2 HV_2 G0_2
  have hgn0 : (0 : Int) ≤ ((bnA n s f).length : Int) := Int.natCast_nonneg _
  have SR := gk_src G0_3.out
  have GE := gk_ge G0_3.out
  clear G0_3
  go_wp2_with fail
  refine (mkN_any (bnA n s f).length Ag0 _ (1) _ (by omega) (by omega) SR).mono ?_
  rintro e w4 ⟨rfl, hM, hg, -⟩
  clear SR
  have HB_4 : Hid (Below w.heap.size w w4) := HB_3.out.grown hg HB_3.out.size (fun k e => by have lk := GE k e; have l0 := LE0.out; have l1 := LE1.out; have l2 := LE2.out; omega)
  have HV_4 : Hid (Below w1.heap.size w1 w4) := HV_3.out.grown hg HV_3.out.size (fun k e => by have lk := GE k e; have l0 := LE0.out; have l1 := LE1.out; have l2 := LE2.out; omega)
  clear hg HB_3 HV_3
  clear GE
  have M0_4 : Hid (MkdN w4 Ag0 (bnA n s f).length (1)) := hM
  clear hM
  have hmn : ¬ (1 + 1 * (((bnA n s f).length : Nat) : Int) < 0) := by omega
  go_wp2_with fail
  refine (hdN_any (bnA n s f).length Ag0 _ (1) _ (by omega) (by omega) M0_4.out).mono ?_
  rintro e w' ⟨rfl, rfl⟩
  go_wp2_with fail
  refine (implBlind_any n s f HSs.out ad _ (HE.out.below HB_4.out (Nat.le_refl _))).mono ?_
  rintro e w5 ⟨h0, rfl, hO0, hb⟩
  have HB_5 : Hid (Below w.heap.size w w5) := HB_4.out.trans (hb.mono HB_4.out.size)
  have HV_5 : Hid (Below w1.heap.size w1 w5) := HV_4.out.trans (hb.mono HV_4.out.size)
  have M0_5 : Hid (MkdN w5 Ag0 (bnA n s f).length (1)) := M0_4.out.below hb
  clear hb HB_4 HV_4 M0_4
  rw [HCD0.out]
  obtain ⟨Ah0, ch0, rfl, -, -⟩ := own_rd icells_length hO0
  have H0_5 := Lib.hid hO0
  clear hO0
  go_wp2_with fail
  refine (eqInt64S_same (bnA n s f) _ _ _ _ _ (by omega) (own_rd2 icells_length H0_5.out) (RV0.out.keep HV_5.out)).mono ?_
  rintro e w6 ⟨rfl, hb⟩
  have HB_6 : Hid (Below w.heap.size w w6) := HB_5.out.trans (hb.mono HB_5.out.size)
  have HV_6 : Hid (Below w1.heap.size w1 w6) := HV_5.out.trans (hb.mono HV_5.out.size)
  have H0_6 : Hid (w6.ownsRow w4.heap.size 2 1 (.slice Ah0 (bnA n s f).length ch0) (bnA n s f).length ((bnA n s f).flatMap icells)) := own_keep' H0_5.out hb
  have M0_6 : Hid (MkdN w6 Ag0 (bnA n s f).length (1)) := M0_5.out.below hb
  clear hb HB_5 HV_5 H0_5 M0_5
  go_wp2_with fail
  refine (hdN_any (bnA n s f).length Ag0 _ (1) _ (by omega) (by omega) M0_6.out).mono ?_
  rintro e w' ⟨rfl, rfl⟩
  go_wp2
  go_ret
  exact ⟨rfl, HB_6.out⟩
end Go.Proofs.YtajnkkiabjiplaaDoor
