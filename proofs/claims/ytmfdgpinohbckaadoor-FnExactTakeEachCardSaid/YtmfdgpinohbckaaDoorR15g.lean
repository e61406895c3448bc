/-
  FnExactTakeEach: for all arguments the law returns true, and they read as before. No condition but that the sentinel errors hold what the program's text lays (tied).
-/
import Derived.Test.YtmfdgpinohbckaaDoorCards
import Derived.Test.YtmfdgpinohbckaaDoorTie
import Derived.Test.YtmfdgpinohbckaaDoorG
import Derived.Test.YtmfdgpinohbckaaDoorTk4
import Derived.Test.YtmfdgpinohbckaaDoorMkRk
import Derived.Test.YtmfdgpinohbckaaDoorMkT
import Derived.Test.YtmfdgpinohbckaaDoorMkBt
import Derived.Test.YtmfdgpinohbckaaDoorMg4
import Derived.SevenTiedAt
namespace Go.Proofs.YtmfdgpinohbckaaDoor
open Go.ChangeShapes Go.WideShapes Go.ChangeAt Go.RowKit Go.Deep

theorem sum_boundT {T : Type} : ∀ (xss : List (List T)) (m : Nat), (∀ xs ∈ xss, xs.length ≤ m) → sumL xss ≤ xss.length * m
  | [], _, _ => by simp [sumL]
  | xs :: xss, m, h => by
    have h1 := sum_boundT xss m (fun ys hy => h ys (List.mem_cons_of_mem _ hy))
    have h2 := h xs (List.mem_cons_self ..)
    unfold sumL at h1 ⊢
    simp only [List.map_cons, List.sum_cons, List.length_cons, Nat.succ_mul]
    omega
theorem te_bounds {xss : List (List Wnt)} (hwf : ∀ xs ∈ xss, ∀ x ∈ xs, wfW x) (bs : List Bot) (s : Int) : (exR (teT s xss bs)).length ≤ 8 ∧ (∀ zs ∈ exR (teT s xss bs), zs.length ≤ 6) ∧ (exX [] (teT s xss bs)).length ≤ bs.length := by
  cases hv : tkO xss bs s with
  | some i => rw [teT_no hv]; exact ⟨by simp [exR], by simp [exR], by simp [exX]⟩
  | none =>
    obtain ⟨h1, h2, h3⟩ := tkO_none hv
    by_cases h20 : 20 < bs.length
    · rw [teT_many hv h20]; exact ⟨by simp [exR], by simp [exR], by simp [exX]⟩
    · rw [teT_yes hv h20]
      cases hT : teS s xss bs bs.length with
      | error e => exact ⟨by simp [exR], by simp [exR], by simp [exX]⟩
      | ok p =>
        obtain ⟨r, ts, q⟩ := p
        obtain ⟨b1, b2, -, -⟩ := teS_ok (rkB_ok hwf h1) _ (Nat.le_refl _) r ts q hT
        have := rkOk_len h1
        refine ⟨?_, b1.2.1, ?_⟩
        · show r.length ≤ 8; rw [b1.1]; exact this
        · show ts.length ≤ _; omega
theorem sep_inHsT {A L : Option Addr} {hs : List Hd} {n c m q : Nat} (hS : SepL A hs L) (e : (Value.slice L n c).ownBlock = some q) : ¬ inHs hs m q := fun ⟨i, h, _, hi, _, e2⟩ => by
  rw [ownBlock_slice] at e
  exact (hS q e).2 i h hi e2
theorem mkd_grownT {w w' : World} {A L : Option Addr} {hs : List Hd} {xss : List (List Wnt)} {k0 : Int} (h : MkdN w A hs xss k0) (hg : w.grownBy w' (L.map (·.block))) (hS : SepL A hs L) : MkdN w' A hs xss k0 := by
  have hO : Only (fun q => L.map (·.block) = some q) w w' := Only.of_grown hg (fun k e => e)
  exact ⟨h.1, hO.rd h.2.1 (fun k e e2 => (hS k e2).1 e), fun i hd xs hi hx => ⟨(h.2.2 i hd xs hi hx).1, (h.2.2 i hd xs hi hx).2.only hO (fun k _ e e2 => (hS k e2).2 i hd hi e)⟩⟩

set_option maxRecDepth 100000 in
set_option maxHeartbeats 8000000 in
theorem teLaw_any (xss : List (List Wnt)) (bs : List Bot) (s : Int) (A B : Option Addr) (c d : Nat) (ad : Nat → Addr) (w : World) (hl0 : xss.length ≤ 9223372036854775807) (hr0 : RdN w w.heap.size wcells A xss) (hx0 : ∀ xs ∈ xss, xs.length ≤ 9223372036854775807) (hw0 : ∀ xs ∈ xss, ∀ x ∈ xs, wfW x) (hly0 : bs.length ≤ 9223372036854775807) (hy0 : Rd w w.heap.size bcells B bs) (hwy0 : ∀ x ∈ bs, wfB x) (hE : EW 7 w ad) :
    Calls Tryd.prog 5 #[.slice A xss.length c, .slice B bs.length d, .int .i64 s] w (Good w) := by
  have HR0 := Lib.hid hr0
  have HRy := Lib.hid hy0
  have HW0 := Lib.hid hw0
  have HWy := Lib.hid hwy0
  have HE := Lib.hid hE
  clear hE hr0 hw0 hy0 hwy0
  have HB_0 : Hid (Below w.heap.size w w) := Below.refl _ _
  go_enter Tryd.func5, Tryd.ntmps5
  go_wp2_with fail
  refine (szRack_any xss A c (1048576) hl0 hx0 ⟨by omega, by omega⟩ _ (HR0.out.keep HB_0.out)).mono ?_
  rintro e w' ⟨rfl, rfl⟩
  by_cases hn0 : (1048576 : Int) < (xss.length + sumL xss)
  · rw [if_pos hn0]
    go_wp2
    go_ret
    exact ⟨rfl, HB_0.out⟩
  rw [if_neg hn0]
  obtain ⟨lf, hlf⟩ : ∃ l : Int, 1048576 - (xss.length + sumL xss : Int) = l := ⟨_, rfl⟩
  rw [hlf]
  have hz0 : ¬ lf < 0 := by omega
  have hm0 : xss.length ≤ 1048576 := by omega
  have hsm0 : sumL xss ≤ 1048576 := by omega
  have hxm0 : ∀ xs ∈ xss, xs.length ≤ 1048576 := fun xs hxs => by obtain ⟨j, hj, rfl⟩ := List.mem_iff_getElem.1 hxs; have := le_sumL (List.getElem?_eq_getElem hj); omega
  have hlb : 0 ≤ lf ∧ lf ≤ 1048576 := by omega
  have HLb := Lib.hid hlb
  clear hlf hlb
  go_wp2_with fail
  refine (szBottleS_any B bs.length d lf hly0 HLb.out _).mono ?_
  rintro e w' ⟨rfl, rfl⟩
  by_cases hn2 : lf < bs.length
  · rw [if_pos hn2]
    go_wp2
    go_ret
    exact ⟨rfl, HB_0.out⟩
  rw [if_neg hn2]
  obtain ⟨lg, hlg⟩ : ∃ l : Int, lf - (bs.length : Int) = l := ⟨_, rfl⟩
  rw [hlg]
  have hz1 : ¬ lg < 0 := by omega
  have hmy : bs.length ≤ 1048576 := by have := HLb.out; omega
  obtain ⟨L, hL⟩ : ∃ L, exR (teT s xss bs) = L := ⟨_, rfl⟩
  obtain ⟨ts, hls⟩ : ∃ L, exX [] (teT s xss bs) = L := ⟨_, rfl⟩
  obtain ⟨cd, hcd⟩ : ∃ cd, cdO (exE (teT s xss bs)) = cd := ⟨_, rfl⟩
  obtain ⟨mv, hmv⟩ : ∃ m : Nat, exM (teT s xss bs) = m := ⟨_, rfl⟩
  have hLs := te_bounds HW0.out bs s
  rw [hL, hls] at hLs
  have hLl : L.length ≤ 1048576 := by omega
  have hLx : ∀ ys ∈ L, ys.length ≤ 1048576 := fun ys hy => by have := hLs.2.1 ys hy; omega
  have hLn : sumL L ≤ 1000 := by have := sum_boundT L 6 hLs.2.1; omega
  have hll : ts.length ≤ 1048576 := by omega
  have HLx := Lib.hid hLx
  clear hLs hLx hx0 hl0 hly0 hlg HLb
  have HS : Hid (∀ A B c d w, RdN w w.heap.size wcells A xss → Rd w w.heap.size bcells B bs → Calls Tryd.prog 20 #[.slice A xss.length c, .slice B bs.length d, .int .i64 s] w fun e w' => ∃ A' c' K lc, e = .returned (.tuple #[.slice A' L.length c', .slice K ts.length lc, .int .i64 mv, .int .i64 cd]) ∧ RdN w' w'.heap.size wcells A' L ∧ Rd w' w'.heap.size wcells K ts ∧ Below w.heap.size w w') := by
    have := fun A B c d w hr hb => specTakeEach_any xss HW0.out bs HWy.out s A B c d w hm0 hxm0 hmy hr hb
    rw [hL, hls, hcd, hmv] at this; exact this
  have HI : Hid (∀ A B c d w, RdK w w.heap.size wcells A xss → Rd w w.heap.size bcells B bs → EW 7 w ad → Calls Tryd.prog 22 #[.slice A xss.length c, .slice B bs.length d, .int .i64 s] w fun e w' => ∃ A' c' hs K lc, e = .returned (.tuple #[.slice A' L.length c', .slice K ts.length lc, .int .i64 mv, .int .i64 cd]) ∧ OwnN w' w.heap.size 44 30 3 wcells A' c' hs L ∧ w'.ownsRow w.heap.size 30 3 (.slice K ts.length lc) ts.length (ts.flatMap wcells) ∧ SepL A' hs K ∧ Below w.heap.size w w') := by
    have := fun A B c d w (hr : RdK w w.heap.size wcells A xss) hb hE => implTakeEach_any xss HW0.out bs s A B c d ad w hm0 hxm0 hmy hr.rd hb hE
    rw [hL, hls, hcd, hmv] at this; exact this
  clear hL hls hcd hmv
  go_wp2_with fail
  refine (toRack_any xss A c _ hm0 hxm0 (HR0.out.keep HB_0.out)).mono ?_
  rintro e w1 ⟨rfl, ⟨gsS0, hR⟩, hb⟩
  have HB_1 : Hid (Below w.heap.size w w1) := HB_0.out.trans (hb.mono HB_0.out.size)
  clear hb HB_0
  have S0_1 : Hid (RsN w1 w.heap.size 44 30 wcells xss gsS0) := hR
  clear hR
  go_wp2_with fail
  refine (toBottleS_any bs B d _ hmy (HRy.out.keep HB_1.out)).mono ?_
  rintro e w2 ⟨rfl, hR, hb⟩
  have HB_2 : Hid (Below w.heap.size w w2) := HB_1.out.trans (hb.mono HB_1.out.size)
  have S0_2 : Hid (RsN w2 w.heap.size 44 30 wcells xss gsS0) := S0_1.out.keep hb
  clear hb HB_1 S0_1
  have S1_2 : Hid (Rs w2 w1.heap.size 28 bcells bs) := hR
  clear hR
  go_wp2_with fail
  refine (HS.out _ _ _ _ _ S0_2.out.rd (Rs.rd S1_2.out (Blk.lt S1_2.out))).mono ?_
  rintro e w3 ⟨A0, c0, K0, d0, rfl, hV, hU, hb⟩
  clear S0_2
  clear S1_2
  have HB_3 : Hid (Below w.heap.size w w3) := HB_2.out.trans (hb.mono HB_2.out.size)
  clear hb HB_2
  have RV := Lib.hid hV
  have RU := Lib.hid hU
  clear hV hU
  have HV_3 : Hid (Below w3.heap.size w3 w3) := Below.refl _ _
  go_wp2_with fail
  refine (toRack_any xss A c _ hm0 hxm0 (HR0.out.keep HB_3.out)).mono ?_
  rintro e w4 ⟨rfl, ⟨gsX, hR⟩, hb⟩
  have LE0 : Hid (w.heap.size ≤ w3.heap.size) := HB_3.out.size
  have LE1 : Hid (w3.heap.size ≤ w3.heap.size) := HV_3.out.size
  have HB_4 : Hid (Below w.heap.size w w4) := HB_3.out.trans (hb.mono HB_3.out.size)
  have HV_4 : Hid (Below w3.heap.size w3 w4) := HV_3.out.trans (hb.mono HV_3.out.size)
  clear hb HB_3 HV_3
  have X_4 : Hid (RsN w4 w3.heap.size 44 30 wcells xss gsX) := hR
  clear hR
  have HXS := Lib.hid (rk_src X_4.out).2.2.2.2.2
  have HX_4 : Hid (Below w4.heap.size w4 w4) := Below.refl _ _
  have LE2 : Hid (w3.heap.size < w4.heap.size) := X_4.out.lt
  go_wp2_with fail
  refine (toBottleS_any bs B d _ hmy (HRy.out.keep HB_4.out)).mono ?_
  rintro e w5 ⟨rfl, hR, hb⟩
  have HB_5 : Hid (Below w.heap.size w w5) := HB_4.out.trans (hb.mono HB_4.out.size)
  have HV_5 : Hid (Below w3.heap.size w3 w5) := HV_4.out.trans (hb.mono HV_4.out.size)
  have X_5 : Hid (RsN w5 w3.heap.size 44 30 wcells xss gsX) := X_4.out.keep hb
  have HX_5 : Hid (Below w4.heap.size w4 w5) := HX_4.out.trans (hb.mono HX_4.out.size)
  clear hb HB_4 HV_4 X_4 HX_4
  have Y_5 : Hid (Rs w5 w4.heap.size 28 bcells bs) := hR
  clear hR
  go_wp2_with fail
  refine (HI.out _ _ _ _ _ X_5.out.rdK (Rs.rd Y_5.out (Blk.lt Y_5.out)) (HE.out.below HB_5.out (Nat.le_refl _))).mono ?_
  rintro e w6 ⟨Ag, cg, hsg, Lg, lcg, rfl, hN, hM, hP, hb⟩
  have LE3 : Hid (w.heap.size ≤ w5.heap.size) := HB_5.out.size
  have LE4 : Hid (w3.heap.size ≤ w5.heap.size) := HV_5.out.size
  have LE5 : Hid (w4.heap.size ≤ w5.heap.size) := HX_5.out.size
  have LE6 : Hid (w4.heap.size < w5.heap.size) := Blk.lt Y_5.out
  have HB_6 : Hid (Below w.heap.size w w6) := HB_5.out.trans (hb.mono HB_5.out.size)
  have HV_6 : Hid (Below w3.heap.size w3 w6) := HV_5.out.trans (hb.mono HV_5.out.size)
  have X_6 : Hid (RsN w6 w3.heap.size 44 30 wcells xss gsX) := X_5.out.keep hb
  have HX_6 : Hid (Below w4.heap.size w4 w6) := HX_5.out.trans (hb.mono HX_5.out.size)
  have Y_6 : Hid (Rs w6 w4.heap.size 28 bcells bs) := Blk.keep Y_5.out hb
  clear hb HB_5 HV_5 X_5 HX_5 Y_5
  have GN_6 := Lib.hid hN
  have GL_6 := Lib.hid hM
  have GS := Lib.hid hP
  clear hN hM hP
  go_wp2_with fail
  refine (eqRack_same L _ _ _ _ _ hLl HLx.out (GN_6.out.rd wcells_length) (RV.out.keep HV_6.out)).mono ?_
  rintro e w7 ⟨rfl, hb⟩
  have HB_7 : Hid (Below w.heap.size w w7) := HB_6.out.trans (hb.mono HB_6.out.size)
  have HV_7 : Hid (Below w3.heap.size w3 w7) := HV_6.out.trans (hb.mono HV_6.out.size)
  have X_7 : Hid (RsN w7 w3.heap.size 44 30 wcells xss gsX) := X_6.out.keep hb
  have HX_7 : Hid (Below w4.heap.size w4 w7) := HX_6.out.trans (hb.mono HX_6.out.size)
  have Y_7 : Hid (Rs w7 w4.heap.size 28 bcells bs) := Blk.keep Y_6.out hb
  have GN_7 : Hid (OwnN w7 w5.heap.size 44 30 3 wcells Ag cg hsg (L)) := GN_6.out.keep hb
  have GL_7 : Hid (w7.ownsRow w5.heap.size 30 3 (.slice Lg ts.length lcg) ts.length (ts.flatMap wcells)) := own_keep' GL_6.out hb
  clear hb HB_6 HV_6 X_6 HX_6 Y_6 GN_6 GL_6
  go_wp2_with fail
  refine (eqStoredS_same ts _ _ _ _ _ (by omega) (own_rd2 wcells_length GL_7.out) (RU.out.keep HV_7.out)).mono ?_
  rintro e w8 ⟨rfl, hb⟩
  have HB_8 : Hid (Below w.heap.size w w8) := HB_7.out.trans (hb.mono HB_7.out.size)
  have HV_8 : Hid (Below w3.heap.size w3 w8) := HV_7.out.trans (hb.mono HV_7.out.size)
  have X_8 : Hid (RsN w8 w3.heap.size 44 30 wcells xss gsX) := X_7.out.keep hb
  have HX_8 : Hid (Below w4.heap.size w4 w8) := HX_7.out.trans (hb.mono HX_7.out.size)
  have Y_8 : Hid (Rs w8 w4.heap.size 28 bcells bs) := Blk.keep Y_7.out hb
  have GN_8 : Hid (OwnN w8 w5.heap.size 44 30 3 wcells Ag cg hsg (L)) := GN_7.out.keep hb
  have GL_8 : Hid (w8.ownsRow w5.heap.size 30 3 (.slice Lg ts.length lcg) ts.length (ts.flatMap wcells)) := own_keep' GL_7.out hb
  clear hb HB_7 HV_7 X_7 HX_7 Y_7 GN_7 GL_7
  go_wp2_with fail
  refine (toRack_any xss A c _ hm0 hxm0 (HR0.out.keep HB_8.out)).mono ?_
  rintro e w9 ⟨rfl, ⟨gsZ, hR⟩, hb⟩
  have HB_9 : Hid (Below w.heap.size w w9) := HB_8.out.trans (hb.mono HB_8.out.size)
  have HV_9 : Hid (Below w3.heap.size w3 w9) := HV_8.out.trans (hb.mono HV_8.out.size)
  have X_9 : Hid (RsN w9 w3.heap.size 44 30 wcells xss gsX) := X_8.out.keep hb
  have HX_9 : Hid (Below w4.heap.size w4 w9) := HX_8.out.trans (hb.mono HX_8.out.size)
  have Y_9 : Hid (Rs w9 w4.heap.size 28 bcells bs) := Blk.keep Y_8.out hb
  have GN_9 : Hid (OwnN w9 w5.heap.size 44 30 3 wcells Ag cg hsg (L)) := GN_8.out.keep hb
  have GL_9 : Hid (w9.ownsRow w5.heap.size 30 3 (.slice Lg ts.length lcg) ts.length (ts.flatMap wcells)) := own_keep' GL_8.out hb
  clear hb HB_8 HV_8 X_8 HX_8 Y_8 GN_8 GL_8
  have Z_9 : Hid (RsN w9 w8.heap.size 44 30 wcells xss gsZ) := hR
  clear hR
  go_wp2_with fail
  refine (eqRack_same xss _ _ _ _ _ hm0 hxm0 X_9.out.rd Z_9.out.rd).mono ?_
  rintro e w10 ⟨rfl, hb⟩
  clear Z_9
  have HB_10 : Hid (Below w.heap.size w w10) := HB_9.out.trans (hb.mono HB_9.out.size)
  have HV_10 : Hid (Below w3.heap.size w3 w10) := HV_9.out.trans (hb.mono HV_9.out.size)
  have X_10 : Hid (RsN w10 w3.heap.size 44 30 wcells xss gsX) := X_9.out.keep hb
  have HX_10 : Hid (Below w4.heap.size w4 w10) := HX_9.out.trans (hb.mono HX_9.out.size)
  have Y_10 : Hid (Rs w10 w4.heap.size 28 bcells bs) := Blk.keep Y_9.out hb
  have GN_10 : Hid (OwnN w10 w5.heap.size 44 30 3 wcells Ag cg hsg (L)) := GN_9.out.keep hb
  have GL_10 : Hid (w10.ownsRow w5.heap.size 30 3 (.slice Lg ts.length lcg) ts.length (ts.flatMap wcells)) := own_keep' GL_9.out hb
  clear hb HB_9 HV_9 X_9 HX_9 Y_9 GN_9 GL_9
  go_wp2_with fail
  refine (toBottleS_any bs B d _ hmy (HRy.out.keep HB_10.out)).mono ?_
  rintro e w11 ⟨rfl, hR, hb⟩
  have HB_11 : Hid (Below w.heap.size w w11) := HB_10.out.trans (hb.mono HB_10.out.size)
  have HV_11 : Hid (Below w3.heap.size w3 w11) := HV_10.out.trans (hb.mono HV_10.out.size)
  have X_11 : Hid (RsN w11 w3.heap.size 44 30 wcells xss gsX) := X_10.out.keep hb
  have HX_11 : Hid (Below w4.heap.size w4 w11) := HX_10.out.trans (hb.mono HX_10.out.size)
  have Y_11 : Hid (Rs w11 w4.heap.size 28 bcells bs) := Blk.keep Y_10.out hb
  have GN_11 : Hid (OwnN w11 w5.heap.size 44 30 3 wcells Ag cg hsg (L)) := GN_10.out.keep hb
  have GL_11 : Hid (w11.ownsRow w5.heap.size 30 3 (.slice Lg ts.length lcg) ts.length (ts.flatMap wcells)) := own_keep' GL_10.out hb
  clear hb HB_10 HV_10 X_10 HX_10 Y_10 GN_10 GL_10
  have Z_11 : Hid (Rs w11 w10.heap.size 28 bcells bs) := hR
  clear hR
  go_wp2_with fail
  refine (eqBots_same bs _ _ _ _ _ (by omega) (Rs.rd Y_11.out (Blk.lt Y_11.out)) (Rs.rd Z_11.out (Blk.lt Z_11.out))).mono ?_
  rintro e w12 ⟨rfl, hb⟩
  clear Z_11
  have HB_12 : Hid (Below w.heap.size w w12) := HB_11.out.trans (hb.mono HB_11.out.size)
  have HV_12 : Hid (Below w3.heap.size w3 w12) := HV_11.out.trans (hb.mono HV_11.out.size)
  have X_12 : Hid (RsN w12 w3.heap.size 44 30 wcells xss gsX) := X_11.out.keep hb
  have HX_12 : Hid (Below w4.heap.size w4 w12) := HX_11.out.trans (hb.mono HX_11.out.size)
  have Y_12 : Hid (Rs w12 w4.heap.size 28 bcells bs) := Blk.keep Y_11.out hb
  have GN_12 : Hid (OwnN w12 w5.heap.size 44 30 3 wcells Ag cg hsg (L)) := GN_11.out.keep hb
  have GL_12 : Hid (w12.ownsRow w5.heap.size 30 3 (.slice Lg ts.length lcg) ts.length (ts.flatMap wcells)) := own_keep' GL_11.out hb
  clear hb HB_11 HV_11 X_11 HX_11 Y_11 GN_11 GL_11
  obtain ⟨q1, q2, q3, q4, q5, q6⟩ := rk_src X_12.out
  clear X_12
  clear HX_12
  go_wp2_with fail
  refine (mkRk_any xss _ _ _ (1) _ (by omega) (by omega) hm0 q1 q2 q3 q4 q5).mono ?_
  rintro e w13 ⟨rfl, -, hO⟩
  have hS := HXS.out
  clear q1 q2 q3 q4 q5 q6 HXS
  have HB_13 : Hid (Below w.heap.size w w13) := hO.below HB_12.out HB_12.out.size (fun k e => by have lk := hS k e; have l0 := LE0.out; have l1 := LE1.out; have l2 := LE2.out; have l3 := LE3.out; have l4 := LE4.out; have l5 := LE5.out; have l6 := LE6.out; omega)
  have HV_13 : Hid (Below w3.heap.size w3 w13) := hO.below HV_12.out HV_12.out.size (fun k e => by have lk := hS k e; have l0 := LE0.out; have l1 := LE1.out; have l2 := LE2.out; have l3 := LE3.out; have l4 := LE4.out; have l5 := LE5.out; have l6 := LE6.out; omega)
  have Y_13 : Hid (Rs w13 w4.heap.size 28 bcells bs) := hO.blk Y_12.out (fun e => by have lk := hS _ e; have l0 := LE0.out; have l1 := LE1.out; have l2 := LE2.out; have l3 := LE3.out; have l4 := LE4.out; have l5 := LE5.out; have l6 := LE6.out; omega)
  have GN_13 : Hid (OwnN w13 w5.heap.size 44 30 3 wcells Ag cg hsg (L)) := GN_12.out.only hO (fun k e => by have lk := hS k e; have l0 := LE0.out; have l1 := LE1.out; have l2 := LE2.out; have l3 := LE3.out; have l4 := LE4.out; have l5 := LE5.out; have l6 := LE6.out; omega)
  have GL_13 : Hid (w13.ownsRow w5.heap.size 30 3 (.slice Lg ts.length lcg) ts.length (ts.flatMap wcells)) := hO.own GL_12.out (fun q e lk0 => by have lq := own_block GL_12.out e; have lk := hS q lk0; have l0 := LE0.out; have l1 := LE1.out; have l2 := LE2.out; have l3 := LE3.out; have l4 := LE4.out; have l5 := LE5.out; have l6 := LE6.out; omega)
  clear hO hS HB_12 HV_12 Y_12 GN_12 GL_12
  obtain ⟨m1, hm1⟩ : ∃ m : Int, 1 + 3 * (sumL xss : Int) = m := ⟨_, rfl⟩
  rw [hm1]
  have hm1p : 0 ≤ m1 ∧ m1 ≤ 4194304 := by omega
  clear hm1
  have hq := gk_rs bcells_length Y_13.out
  clear Y_13
  go_wp2_with fail
  refine (mkBt_any bs.length _ _ m1 _ (by omega) (by omega) hq).mono ?_
  rintro e w14 ⟨rfl, -, hg, -⟩
  have hO : Only (fun q => q = w4.heap.size) w13 w14 := Only.of_grown hg (fun k e => (Option.some.inj e).symm)
  have hS : ∀ k, k = w4.heap.size → w4.heap.size ≤ k ∧ k < w4.heap.size + 1 := fun k e => by omega
  clear hg hq
  have HB_14 : Hid (Below w.heap.size w w14) := hO.below HB_13.out HB_13.out.size (fun k e => by have lk := hS k e; have l0 := LE0.out; have l1 := LE1.out; have l2 := LE2.out; have l3 := LE3.out; have l4 := LE4.out; have l5 := LE5.out; have l6 := LE6.out; omega)
  have HV_14 : Hid (Below w3.heap.size w3 w14) := hO.below HV_13.out HV_13.out.size (fun k e => by have lk := hS k e; have l0 := LE0.out; have l1 := LE1.out; have l2 := LE2.out; have l3 := LE3.out; have l4 := LE4.out; have l5 := LE5.out; have l6 := LE6.out; omega)
  have GN_14 : Hid (OwnN w14 w5.heap.size 44 30 3 wcells Ag cg hsg (L)) := GN_13.out.only hO (fun k e => by have lk := hS k e; have l0 := LE0.out; have l1 := LE1.out; have l2 := LE2.out; have l3 := LE3.out; have l4 := LE4.out; have l5 := LE5.out; have l6 := LE6.out; omega)
  have GL_14 : Hid (w14.ownsRow w5.heap.size 30 3 (.slice Lg ts.length lcg) ts.length (ts.flatMap wcells)) := hO.own GL_13.out (fun q e lk0 => by have lq := own_block GL_13.out e; have lk := hS q lk0; have l0 := LE0.out; have l1 := LE1.out; have l2 := LE2.out; have l3 := LE3.out; have l4 := LE4.out; have l5 := LE5.out; have l6 := LE6.out; omega)
  clear hO hS HB_13 HV_13 GN_13 GL_13
  obtain ⟨m2, hm2⟩ : ∃ m : Int, m1 + 2 * (bs.length : Int) = m := ⟨_, rfl⟩
  rw [hm2]
  have hm2n : ¬ m2 < 0 := by omega
  clear hm2
  go_wp2_with fail
  refine (eqRack_same L _ _ _ _ _ hLl HLx.out (GN_14.out.rd wcells_length) (RV.out.keep HV_14.out)).mono ?_
  rintro e w15 ⟨rfl, hb⟩
  have HB_15 : Hid (Below w.heap.size w w15) := HB_14.out.trans (hb.mono HB_14.out.size)
  have HV_15 : Hid (Below w3.heap.size w3 w15) := HV_14.out.trans (hb.mono HV_14.out.size)
  have GN_15 : Hid (OwnN w15 w5.heap.size 44 30 3 wcells Ag cg hsg (L)) := GN_14.out.keep hb
  have GL_15 : Hid (w15.ownsRow w5.heap.size 30 3 (.slice Lg ts.length lcg) ts.length (ts.flatMap wcells)) := own_keep' GL_14.out hb
  clear hb HB_14 HV_14 GN_14 GL_14
  go_wp2_with fail
  refine (eqStoredS_same ts _ _ _ _ _ (by omega) (own_rd2 wcells_length GL_15.out) (RU.out.keep HV_15.out)).mono ?_
  rintro e w16 ⟨rfl, hb⟩
  have HB_16 : Hid (Below w.heap.size w w16) := HB_15.out.trans (hb.mono HB_15.out.size)
  have HV_16 : Hid (Below w3.heap.size w3 w16) := HV_15.out.trans (hb.mono HV_15.out.size)
  have GN_16 : Hid (OwnN w16 w5.heap.size 44 30 3 wcells Ag cg hsg (L)) := GN_15.out.keep hb
  have GL_16 : Hid (w16.ownsRow w5.heap.size 30 3 (.slice Lg ts.length lcg) ts.length (ts.flatMap wcells)) := own_keep' GL_15.out hb
  clear hb HB_15 HV_15 GN_15 GL_15
  obtain ⟨q1, q2, q3, q4, q5, q6⟩ := own_src GN_16.out
  clear GN_16
  go_wp2_with fail
  refine (mkRk_any L hsg Ag _ (1) _ (by omega) (by omega) hLl q1 q2 q3 q4 q5).mono ?_
  rintro e w17 ⟨rfl, hM, hO⟩
  have hS := q6
  clear q1 q2 q3 q4 q5 q6
  have HB_17 : Hid (Below w.heap.size w w17) := hO.below HB_16.out HB_16.out.size (fun k e => by have lk := hS k e; have l0 := LE0.out; have l1 := LE1.out; have l2 := LE2.out; have l3 := LE3.out; have l4 := LE4.out; have l5 := LE5.out; have l6 := LE6.out; omega)
  have HV_17 : Hid (Below w3.heap.size w3 w17) := hO.below HV_16.out HV_16.out.size (fun k e => by have lk := hS k e; have l0 := LE0.out; have l1 := LE1.out; have l2 := LE2.out; have l3 := LE3.out; have l4 := LE4.out; have l5 := LE5.out; have l6 := LE6.out; omega)
  have GL_17 : Hid (w17.ownsRow w5.heap.size 30 3 (.slice Lg ts.length lcg) ts.length (ts.flatMap wcells)) := hO.own GL_16.out (fun q e => sep_inHsT GS.out e)
  clear hO hS HB_16 HV_16 GL_16
  have MG_17 : Hid (MkdN w17 Ag hsg (L) 1) := hM
  clear hM
  obtain ⟨k1, hk1⟩ : ∃ m : Int, 1 + 3 * (sumL L : Int) = m := ⟨_, rfl⟩
  have HK1 := Lib.hid hk1
  rw [hk1]
  have hk1p : 0 ≤ k1 ∧ k1 ≤ 4194304 := by omega
  have hk1n : ¬ k1 < 0 := by omega
  clear hk1
  go_wp2_with fail
  refine (mkT_any ts.length Lg _ k1 _ (by omega) (by omega) (gk_src GL_17.out)).mono ?_
  rintro e w18 ⟨rfl, hM, hg, -⟩
  have HB_18 : Hid (Below w.heap.size w w18) := HB_17.out.grown hg HB_17.out.size (fun k e => by have lk := gk_ge GL_17.out k e; have l0 := LE0.out; have l1 := LE1.out; have l2 := LE2.out; have l3 := LE3.out; have l4 := LE4.out; have l5 := LE5.out; have l6 := LE6.out; omega)
  have HV_18 : Hid (Below w3.heap.size w3 w18) := HV_17.out.grown hg HV_17.out.size (fun k e => by have lk := gk_ge GL_17.out k e; have l0 := LE0.out; have l1 := LE1.out; have l2 := LE2.out; have l3 := LE3.out; have l4 := LE4.out; have l5 := LE5.out; have l6 := LE6.out; omega)
  have MG_18 : Hid (MkdN w18 Ag hsg (L) 1) := mkd_grownT MG_17.out hg GS.out
  have MI_18 : Hid (MkdT w18 Lg ts.length k1) := hM
  clear hM hg HB_17 HV_17 GL_17 MG_17
  obtain ⟨k2, hk2⟩ : ∃ m : Int, k1 + 3 * (ts.length : Int) = m := ⟨_, rfl⟩
  have HK2 := Lib.hid hk2
  rw [hk2]
  have hk2n : ¬ k2 < 0 := by omega
  clear hk2
  go_wp2_with fail
  refine (hdRk_any L hsg Ag _ (1) _ (by omega) (by omega) hLl MG_18.out).mono ?_
  rintro e w' ⟨rfl, rfl⟩
  rw [HK1.out]
  go_wp2_with fail
  refine (hdT_any ts.length Lg _ k1 _ (by omega) (by omega) MI_18.out).mono ?_
  rintro e w' ⟨rfl, rfl⟩
  rw [HK2.out]
  go_wp2_with fail
  refine (toRack_any xss A c _ hm0 hxm0 (HR0.out.keep HB_18.out)).mono ?_
  rintro e w19 ⟨rfl, ⟨gsT0, hR⟩, hb⟩
  have HB_19 : Hid (Below w.heap.size w w19) := HB_18.out.trans (hb.mono HB_18.out.size)
  have HV_19 : Hid (Below w3.heap.size w3 w19) := HV_18.out.trans (hb.mono HV_18.out.size)
  have MG_19 : Hid (MkdN w19 Ag hsg (L) 1) := MG_18.out.below hb
  have MI_19 : Hid (MkdT w19 Lg ts.length k1) := MI_18.out.below hb
  clear hb HB_18 HV_18 MG_18 MI_18
  have T0_19 : Hid (RsN w19 w18.heap.size 44 30 wcells xss gsT0) := hR
  clear hR
  go_wp2_with fail
  refine (toBottleS_any bs B d _ hmy (HRy.out.keep HB_19.out)).mono ?_
  rintro e w20 ⟨rfl, hR, hb⟩
  have HB_20 : Hid (Below w.heap.size w w20) := HB_19.out.trans (hb.mono HB_19.out.size)
  have HV_20 : Hid (Below w3.heap.size w3 w20) := HV_19.out.trans (hb.mono HV_19.out.size)
  have MG_20 : Hid (MkdN w20 Ag hsg (L) 1) := MG_19.out.below hb
  have MI_20 : Hid (MkdT w20 Lg ts.length k1) := MI_19.out.below hb
  have T0_20 : Hid (RsN w20 w18.heap.size 44 30 wcells xss gsT0) := T0_19.out.keep hb
  clear hb HB_19 HV_19 MG_19 MI_19 T0_19
  have T1_20 : Hid (Rs w20 w19.heap.size 28 bcells bs) := hR
  clear hR
  go_wp2_with fail
  refine (HI.out _ _ _ _ _ T0_20.out.rdK (Rs.rd T1_20.out (Blk.lt T1_20.out)) (HE.out.below HB_20.out (Nat.le_refl _))).mono ?_
  rintro e w21 ⟨A2, c2, hs2, L2, lc2, rfl, hN, hM, -, hb⟩
  clear T0_20
  clear T1_20
  have HB_21 : Hid (Below w.heap.size w w21) := HB_20.out.trans (hb.mono HB_20.out.size)
  have HV_21 : Hid (Below w3.heap.size w3 w21) := HV_20.out.trans (hb.mono HV_20.out.size)
  have MG_21 : Hid (MkdN w21 Ag hsg (L) 1) := MG_20.out.below hb
  have MI_21 : Hid (MkdT w21 Lg ts.length k1) := MI_20.out.below hb
  clear hb HB_20 HV_20 MG_20 MI_20
  have HN_21 := Lib.hid hN
  have HL_21 := Lib.hid hM
  clear hN hM
  go_wp2_with fail
  refine (eqRack_same L _ _ _ _ _ hLl HLx.out (HN_21.out.rd wcells_length) (RV.out.keep HV_21.out)).mono ?_
  rintro e w22 ⟨rfl, hb⟩
  have HB_22 : Hid (Below w.heap.size w w22) := HB_21.out.trans (hb.mono HB_21.out.size)
  have HV_22 : Hid (Below w3.heap.size w3 w22) := HV_21.out.trans (hb.mono HV_21.out.size)
  have MG_22 : Hid (MkdN w22 Ag hsg (L) 1) := MG_21.out.below hb
  have MI_22 : Hid (MkdT w22 Lg ts.length k1) := MI_21.out.below hb
  have HN_22 : Hid (OwnN w22 w20.heap.size 44 30 3 wcells A2 c2 hs2 (L)) := HN_21.out.keep hb
  have HL_22 : Hid (w22.ownsRow w20.heap.size 30 3 (.slice L2 ts.length lc2) ts.length (ts.flatMap wcells)) := own_keep' HL_21.out hb
  clear hb HB_21 HV_21 MG_21 MI_21 HN_21 HL_21
  go_wp2_with fail
  refine (eqStoredS_same ts _ _ _ _ _ (by omega) (own_rd2 wcells_length HL_22.out) (RU.out.keep HV_22.out)).mono ?_
  rintro e w23 ⟨rfl, hb⟩
  have HB_23 : Hid (Below w.heap.size w w23) := HB_22.out.trans (hb.mono HB_22.out.size)
  have HV_23 : Hid (Below w3.heap.size w3 w23) := HV_22.out.trans (hb.mono HV_22.out.size)
  have MG_23 : Hid (MkdN w23 Ag hsg (L) 1) := MG_22.out.below hb
  have MI_23 : Hid (MkdT w23 Lg ts.length k1) := MI_22.out.below hb
  have HN_23 : Hid (OwnN w23 w20.heap.size 44 30 3 wcells A2 c2 hs2 (L)) := HN_22.out.keep hb
  have HL_23 : Hid (w23.ownsRow w20.heap.size 30 3 (.slice L2 ts.length lc2) ts.length (ts.flatMap wcells)) := own_keep' HL_22.out hb
  clear hb HB_22 HV_22 MG_22 MI_22 HN_22 HL_22
  go_wp2_with fail
  refine (hdRk_any L hsg Ag _ (1) _ (by omega) (by omega) hLl MG_23.out).mono ?_
  rintro e w' ⟨rfl, rfl⟩
  rw [HK1.out]
  go_wp2_with fail
  refine (hdT_any ts.length Lg _ k1 _ (by omega) (by omega) MI_23.out).mono ?_
  rintro e w' ⟨rfl, rfl⟩
  rw [HK2.out]
  go_wp2
  go_ret
  exact ⟨rfl, HB_23.out⟩
end Go.Proofs.YtmfdgpinohbckaaDoor
