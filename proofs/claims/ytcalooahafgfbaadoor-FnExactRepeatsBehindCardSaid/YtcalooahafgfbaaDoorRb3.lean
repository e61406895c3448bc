/-
  RepeatsBehind: the program's contract. Condition: the walkers read, their numbers fit their kinds, not more than 1048576; the sentinel errors lie as the row lists them.
-/
import Derived.Test.YtcalooahafgfbaaDoorRb2
import Derived.Test.YtcalooahafgfbaaDoorYq
import Derived.Test.YtcalooahafgfbaaDoorYh
namespace Go.Proofs.YtcalooahafgfbaaDoor
open Go.ChangeShapes Go.WideShapes Go.ChangeAt Go.RowKit Go.Deep

theorem wrap_rb {x : Int} (h : 0 ≤ x ∧ x ≤ 19000000) : IntKind.i64.wrap x = x ∧ wrap64 x = x := ⟨IntWalk.i64_in _ ⟨by omega, by omega⟩, IntWalk.wrap64_in _ ⟨by omega, by omega⟩⟩
theorem rb_mul {k L : Nat} (hk : k ≤ 8) (hL : L ≤ 1000000) : k * L ≤ 8000000 := by
  have := Nat.mul_le_mul hk hL; omega

set_option maxRecDepth 100000 in
set_option maxHeartbeats 8000000 in
theorem repeatsBehind_any (N : Nat) (hN1 : 1 ≤ N) (hN60 : N ≤ 60) (l : List Wal) (hv : ∀ x ∈ l, vOk N x = true) (hl : l.length ≤ 8) (hL : lcmA l ≤ 1000000) (ks : List KW) (hkl : ks.map (·.1) = l) (Ak : Option Addr) (ck : Nat) (w : World) (hs : ∀ s ∈ ks, okW N w s) (hkr : Rd w w.heap.size (kcw N) Ak ks) :
    Calls Tryd.prog 14 #[.int .i64 N, .int .i64 (lcmA l : Nat), .slice Ak ks.length ck] w fun e w' => e = .returned (.int .i64 ((rbK N l * lcmA l : Nat) : Int)) ∧ Below w.heap.size w w' := by
  obtain ⟨i0, hi, hz0, hz1, hz2⟩ := info_parts Tryd.infoY
  have HS0 : Hid (∀ s ∈ ks, okW N w s ∧ s.2 < w.heap.size) := fun s h => ⟨hs s h, (hs s h).lt⟩
  have HKr := Lib.hid hkr
  have HVk := Lib.hid hv
  have HEf : Hid (∀ x ∈ l, 1 ≤ x.ev ∧ x.fi ≤ 10000) := fun x h => by
    have := vOk_out (hv x h)
    exact ⟨this.2.1.1, this.1.2⟩
  clear hs hkr hv
  have hn0 : (0 : Int) ≤ (N : Int) := Int.natCast_nonneg _
  obtain ⟨L, hLL⟩ : ∃ L, lcmA l = L := ⟨_, rfl⟩
  rw [hLL] at hL ⊢
  have HLL := Lib.hid hLL
  have HL6 := Lib.hid hL
  have HN60 := Lib.hid hN60
  have hLi : (0 : Int) ≤ (L : Int) ∧ (L : Int) ≤ 1000000 := by omega
  clear hLL
  go_enter Tryd.func14, Tryd.ntmps14
  go_wp2_with (refine wpList_make_full _ rfl (.tmp 9) (.tmp 9) 31 rfl w.heap.size 5 i0 _ 1 Tryd.underlying31 hi hz0 hz1 .i64 .i64 _ _ N rfl rfl rfl rfl (by rw [hz2]; omega) (by unfold maxLen; omega) (Nat.le_refl _) ?_; intro w2 hown hg)
  have hO2 : w2.ownsRow w.heap.size 5 1 (.slice (some ⟨w.heap.size, 0, none⟩) N N) N ((rbZ N).flatMap ycells) := by
    have := hown
    rw [made_rows ycells_length 0 (Value.int IntKind.u8 0).cells rfl (by omega)] at this
    exact this
  have hB2 : Below w.heap.size w w2 := (Below.refl _ w).grown hg (Nat.le_refl _) (fun _ h => by cases h)
  have hs2 : ∀ s ∈ ks, okW N w2 s ∧ s.2 < w.heap.size := fun s h => ⟨(HS0.out s h).1.keep hB2, (HS0.out s h).2⟩
  obtain ⟨b, hb⟩ : ∃ b, b = w.heap.size := ⟨_, rfl⟩
  have htn := turnAll_any N hN60 l HVk.out ks hkl hl 10001 (10000 + (L : Int)) ⟨by omega, by omega⟩ ⟨by omega, by omega⟩ (rbZ N) (by rw [rbZ, List.length_replicate]) (rbZ_in N) w.heap.size (some ⟨w.heap.size, 0, none⟩) Ak N ck w2 hB2.size hs2 (HKr.out.below (Nat.le_refl _) hB2) hO2
  rw [← rbR_zero N l, show (10000 + (L : Int)) = 10001 - 1 + ((lcmA l : Nat) : Int) from by rw [HLL.out]; omega, rb_turn HEf.out (by omega) 0] at htn
  rw [show (10001 - 1 + ((lcmA l : Nat) : Int)) = 10000 + (L : Int) from by rw [HLL.out]; omega] at htn
  have HTn := Lib.hid htn
  have HB2 := Lib.hid hB2
  have HS2 := Lib.hid hs2
  obtain ⟨hp1, hp2⟩ := wrap_rb (x := 10000 + (L : Int)) (by omega)
  clear hown hg hi hz0 hz1 hz2 htn hB2 hs2 hO2
  go_wp2_with fail
  refine HTn.out.mono ?_
  rintro e w3 ⟨rfl, hO3, hb3, hg3⟩
  have HO3 := Lib.hid hO3
  have HB3 : Hid (Below w.heap.size w w3) := HB2.out.trans hb3
  clear hO3 hb3 hg3 HTn HB2 HS2 hp1 hp2
  go_wp2_with fail
  go_loopw [8] (fun v8 wr => ∃ (k P : Nat), (1 ≤ k ∧ k ≤ 8) ∧ P = k * L ∧ v8 = .int .i64 (P : Int) ∧ (∀ j, 1 ≤ j → j < k → rbU N l j = false) ∧ wr.ownsRow w.heap.size 5 1 (.slice (some ⟨w.heap.size, 0, none⟩) N N) N ((rbR N l k).flatMap ycells) ∧ Below w.heap.size w wr) (fun v _ => 8 * L - (intOf v).toNat)
  case atStart => exact ⟨1, L, ⟨by omega, by omega⟩, by omega, rfl, fun j h1 h2 => by omega, HO3.out, HB3.out⟩
  case round =>
    clear HO3 HB3
    obtain ⟨k, P, hk, hP, rfl, hU, hO, hB⟩ := hrel
    obtain ⟨wa, rfl⟩ : ∃ u, u = wr := ⟨_, rfl⟩
    have HK := Lib.hid hk
    have HU := Lib.hid hU
    have HO := Lib.hid hO
    have HB := Lib.hid hB
    have HP := Lib.hid hP
    have hP8 : P ≤ 8000000 := by rw [hP]; exact rb_mul hk.2 HL6.out
    have hup := isUpright_any (rbR N l k) (by rw [rbR_len]; omega) (rbR_in N l k) (some ⟨w.heap.size, 0, none⟩) N wa (by rw [rbR_len]; have := HN60.out; omega) (own_rd2c hO (rbR_len N l k))
    rw [rbR_len, show upB (rbR N l k) = rbU N l k from rfl] at hup
    have HUp := Lib.hid hup
    clear hk hP hU hO hB hup
    have hP0 : (0 : Int) ≤ (P : Int) := Int.natCast_nonneg _
    go_wp2_with fail
    refine HUp.out.mono ?_
    rintro e w5 ⟨rfl, rfl⟩
    cases hu : rbU N l k with
    | true =>
      have hkk := rbK_is HK.out.1 HK.out.2 hu HU.out
      have HKk : Hid (rbK N l * L = P) := by show _ = _; rw [hkk, HP.out]
      clear hkk
      go_wp2
      go_ret
      exact ⟨by (rw [HKk.out]; first | done | rfl), HB.out⟩
    | false =>
      have hk8 : k < 8 := by
        rcases Nat.lt_or_ge k 8 with h | h
        · exact h
        · exfalso
          obtain rfl : k = 8 := by have := HK.out.2; omega
          rw [rbU_eight] at hu; cases hu
      have hP7 : P ≤ 7000000 := by rw [HP.out]; have := Nat.mul_le_mul (show k ≤ 7 by omega) HL6.out; omega
      have HPn : Hid (P + L = (k + 1) * L) := by show _ = _; rw [HP.out, Nat.succ_mul]
      have HKn : Hid (1 ≤ k + 1 ∧ k + 1 ≤ 8) := by show _ ∧ _; omega
      have HUn : Hid (∀ j, 1 ≤ j → j < k + 1 → rbU N l j = false) := fun j h1 h2 => by
        by_cases e : j = k
        · subst e; exact hu
        · exact HU.out j h1 (by omega)
      have hs9 : ∀ s ∈ ks, okW N wa s ∧ s.2 < w.heap.size := fun s h => ⟨(HS0.out s h).1.keep HB.out, (HS0.out s h).2⟩
      have htn := turnAll_any N HN60.out l HVk.out ks hkl hl (10000 + (P : Int) + 1) (10000 + (P : Int) + (L : Int)) ⟨by omega, by omega⟩ ⟨by omega, by omega⟩ (rbR N l k) (rbR_len N l k) (rbR_in N l k) w.heap.size (some ⟨w.heap.size, 0, none⟩) Ak N ck wa HB.out.size hs9 (HKr.out.below (Nat.le_refl _) HB.out) HO.out
      rw [show (10000 + (P : Int) + (L : Int)) = (10000 + (P : Int) + 1) - 1 + ((lcmA l : Nat) : Int) from by rw [HLL.out]; omega, rb_turn HEf.out (by omega) k] at htn
      rw [show ((10000 + (P : Int) + 1) - 1 + ((lcmA l : Nat) : Int)) = 10000 + (P : Int) + (L : Int) from by rw [HLL.out]; omega] at htn
      have HTn := Lib.hid htn
      have HM : Hid (8 * L - (P + L) < 8 * L - P) := by
        have h7 : P + L ≤ 8 * L := by rw [HPn.out]; exact Nat.mul_le_mul_right L (by omega)
        have hLp : 0 < L := by have := lcmTo_pos (fun x h => (HEf.out x h).1) l.length (Nat.le_refl _); rw [show lcmTo l l.length = lcmA l from rfl, HLL.out] at this; omega
        show _ < _; omega
      have HPc : Hid (((P + L : Nat) : Int) = (P : Int) + (L : Int)) := by show _ = _; omega
      have z1 : 0 ≤ 10000 + (P : Int) ∧ 10000 + (P : Int) ≤ 19000000 := by omega
      have z2 : 0 ≤ 10000 + (P : Int) + 1 ∧ 10000 + (P : Int) + 1 ≤ 19000000 := by omega
      have z3 : 0 ≤ 10000 + (P : Int) + (L : Int) ∧ 10000 + (P : Int) + (L : Int) ≤ 19000000 := by omega
      have z4 : 0 ≤ (P : Int) + (L : Int) ∧ (P : Int) + (L : Int) ≤ 19000000 := by omega
      obtain ⟨q1, q2⟩ := wrap_rb z1
      obtain ⟨q3, q4⟩ := wrap_rb z2
      obtain ⟨q5, q6⟩ := wrap_rb z3
      obtain ⟨q7, q8⟩ := wrap_rb z4
      clear z1 z2 z3 z4
      clear hu hk8 hs9 htn
      go_wp2_with fail
      refine HTn.out.mono ?_
      rintro e w6 ⟨rfl, hO6, hb6, hg6⟩
      have HO6 := Lib.hid hO6
      have HB6 : Hid (Below w.heap.size w w6) := HB.out.trans hb6
      clear hO6 hb6 hg6 HTn q1 q2 q3 q4 q5 q6
      go_wp2
      go_roundw
      case rel => exact ⟨k + 1, P + L, HKn.out, HPn.out, by rw [HPc.out], HUn.out, HO6.out, HB6.out⟩
      case measure =>
        have h1 := HM.out
        clear q7 q8
        simp only [intOf]
        omega

set_option maxRecDepth 100000 in
set_option maxHeartbeats 4000000 in
theorem implRepeats_any (n : Int) (hn : wfI6 n) (l : List Wal) (hwf : ∀ x ∈ l, wfV x) (A : Option Addr) (c : Nat) (ad : Nat → Addr) (w : World) (hl : l.length ≤ 1048576) (hr : Rd w w.heap.size vcells A l) (hE : EW 7 w ad) :
    Calls Tryd.prog 7 #[.int .i64 n, .slice A l.length c] w fun e w' => e = .returned (.tuple #[.int .i64 (rbN n l), .int .i64 (aeC n l)]) ∧ Below w.heap.size w w' := by
  have HR := Lib.hid hr
  have HAw := Lib.hid (implAllWalk_any n hn l hwf A c ad w hl hr hE)
  clear hr hwf hE
  go_enter Tryd.func7, Tryd.ntmps7
  go_wp2_with fail
  refine HAw.out.mono ?_
  rintro e w1 ⟨rfl, hb⟩
  have HB1 := Lib.hid hb
  clear hb HAw
  by_cases h0 : ¬ aeC n l = 0
  · have E : Hid (rbN n l = 0) := by show _ = _; rw [rbN, if_neg h0]
    obtain ⟨cd, hcd⟩ : ∃ cd, aeC n l = cd := ⟨_, rfl⟩
    have HCd := Lib.hid hcd
    rw [hcd] at h0 ⊢
    have hb0 : (cd == 0) = false := by simpa using h0
    clear hcd
    go_wp2
    go_ret2
    exact ⟨by (rw [E.out, HCd.out]; rfl), HB1.out⟩
  have h0 : aeC n l = 0 := Classical.not_not.1 h0
  obtain ⟨hv, hA6, hAn⟩ := aeC_vs h0
  have HC0 := Lib.hid h0
  obtain ⟨hl8, hev⟩ := vsOk_ev hv
  have hnn : 1 ≤ n ∧ n ≤ 60 := by simp only [vsOk, Bool.and_eq_true, decide_eq_true_eq] at hv; exact hv.1
  obtain ⟨N, rfl⟩ : ∃ N : Nat, n = N := ⟨n.toNat, by omega⟩
  have hN1 : 1 ≤ N := by omega
  have hN60 : N ≤ 60 := by omega
  have HVk : Hid (∀ x ∈ l, vOk N x = true) := fun x h => rb_walker hv h
  rw [h0, hAn]
  have E : Hid (rbN (N : Int) l = ((rbK N l * lcmA l : Nat) : Int)) := by show _ = _; rw [rbN, if_pos h0, show (N : Int).toNat = N from by omega]
  clear h0 hv hAn hev hnn hn
  go_wp2_with fail
  refine (allWalks_any N hN1 hN60 l HVk.out A c w1 hl8 (HR.out.keep HB1.out)).mono ?_
  rintro e w2 ⟨Ak, ck, ks, rfl, hOk, hkl, hok, hb2⟩
  have HB2 : Hid (Below w.heap.size w w2) := HB1.out.trans (hb2.mono HB1.out.size)
  have HRb := Lib.hid (repeatsBehind_any N hN1 hN60 l HVk.out hl8 hA6 ks hkl Ak ck w2 hok (own_rd2 (kcw_length N) hOk))
  clear hOk hkl hok hb2
  go_wp2_with fail
  refine HRb.out.mono ?_
  rintro e w3 ⟨rfl, hb3⟩
  have HB3 : Hid (Below w.heap.size w w3) := HB2.out.trans (hb3.mono HB2.out.size)
  clear hb3
  obtain ⟨R, hR⟩ : ∃ R : Int, ((rbK N l * lcmA l : Nat) : Int) = R := ⟨_, rfl⟩
  rw [hR]
  have HRr := Lib.hid hR
  clear hR
  go_wp2
  go_ret2
  exact ⟨by (rw [E.out, HC0.out, HRr.out]; first | done | rfl), HB3.out⟩

end Go.Proofs.YtcalooahafgfbaaDoor
