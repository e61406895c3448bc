/-
  BlindNumbers: the program's contract. Condition: the sentinel errors lie as the row lists them.
-/
import Derived.Test.YtajnkkiabjiplaaDoorTb7
import Derived.Test.YtajnkkiabjiplaaDoorFn4
namespace Go.Proofs.YtajnkkiabjiplaaDoor
open Go.ChangeShapes Go.WideShapes Go.ChangeAt Go.RowKit Go.Deep

set_option maxHeartbeats 1000000 in
theorem commonDivisor_some (a0 : Int) (ha : wfI6 a0) (w : World) :
    Calls Tryd.prog 37 #[.int .i64 a0, .int .i64 900] w fun e w' => (∃ d : Int, e = .returned (.int .i64 d)) ∧ Below w.heap.size w w' := by
  go_enter Tryd.func37, Tryd.ntmps37
  go_wp2_with fail
  go_loopw [0, 1] (fun u v wr => ∃ (a b : Int), (-9223372036854775808 ≤ a ∧ a ≤ 9223372036854775807) ∧ (-900 ≤ b ∧ b ≤ 900) ∧ u = .int .i64 a ∧ v = .int .i64 b ∧ Below w.heap.size w wr) (fun _ v _ => (intOf v).natAbs)
  case atStart => exact ⟨a0, 900, ha, by omega, rfl, rfl, Below.refl _ _⟩
  case round =>
    obtain ⟨a, b, ha, hb, rfl, rfl, hB⟩ := hrel
    have HB := Lib.hid hB
    clear hB
    by_cases hz : b = 0
    · subst hz
      go_wp2
      go_ret
      exact ⟨⟨_, rfl⟩, HB.out⟩
    · have hb2 : (b == 0) = false := by simpa using hz
      have hlt : (Int.tmod a b).natAbs < b.natAbs := by
        rw [Int.natAbs_tmod]; exact Nat.mod_lt _ (by omega)
      obtain ⟨r, hr⟩ : ∃ r, Int.tmod a b = r := ⟨_, rfl⟩
      rw [hr] at hlt
      have hr2 : -900 ≤ r ∧ r ≤ 900 := by omega
      have hw1 : IntKind.i64.wrap r = r := IntWalk.i64_in _ ⟨by omega, by omega⟩
      have hw2 : wrap64 r = r := IntWalk.wrap64_in _ ⟨by omega, by omega⟩
      have HL := Lib.hid hlt
      clear hlt
      go_wp2_with fail
      go_region
      go_wp2
      go_roundw
      case rel => exact ⟨b, r, ⟨by omega, by omega⟩, hr2, rfl, rfl, by first | exact HB.out | exact HB.out.drew⟩
      case measure => have := HL.out; simp [intOf]; omega
theorem checkStep_any (s : Int) (hs : wfI6 s) (ad : Nat → Addr) (w : World) (hE : EW 5 w ad) :
    Calls Tryd.prog 32 #[.int .i64 s] w fun e w' => (∃ b : Bool, e = .returned (erO ad (chk 2 b)) ∧ (1 ≤ s → s ≤ 899 → b = decide (Nat.gcd 900 s.toNat ≤ 1))) ∧ Below w.heap.size w w' := by
  have HE := Lib.hid hE
  clear hE
  have HC : Hid (Calls Tryd.prog 37 #[.int .i64 s, .int .i64 900] w fun e w' => (∃ d : Int, e = .returned (.int .i64 d) ∧ (1 ≤ s → s ≤ 899 → d = (Nat.gcd 900 s.toNat : Nat))) ∧ Below w.heap.size w w') := by
    show Calls _ _ _ _ _
    by_cases h : 1 ≤ s ∧ s ≤ 899
    · have := commonDivisor_any s.toNat 900 (by omega) (by omega) w
      rw [show ((s.toNat : Nat) : Int) = s from by omega, show ((900 : Nat) : Int) = 900 from rfl, Nat.gcd_comm] at this
      refine this.mono ?_
      rintro e w1 ⟨rfl, hb⟩
      exact ⟨⟨_, rfl, fun _ _ => rfl⟩, hb⟩
    · refine (commonDivisor_some s hs w).mono ?_
      rintro e w1 ⟨⟨d, rfl⟩, hb⟩
      exact ⟨⟨d, rfl, fun h1 h2 => absurd ⟨h1, h2⟩ h⟩, hb⟩
  go_enter Tryd.func32, Tryd.ntmps32
  go_wp2_with fail
  refine HC.out.mono ?_
  rintro e w1 ⟨⟨d, rfl, hd⟩, hb⟩
  have HB := Lib.hid hb
  have HD := Lib.hid hd
  have c2 : w1.cell? ⟨2, 0, none⟩ = some (.iface 68 (.pointer (some (ad 2)))) := (HE.out.below hb (Nat.le_refl _)).cell 2 (by omega)
  clear hb hd HC
  by_cases h1 : 1 < d
  · go_wp2
    go_ret
    exact ⟨⟨false, rfl, fun q1 q2 => by have := HD.out q1 q2; rw [eq_comm, decide_eq_false_iff_not]; omega⟩, HB.out⟩
  · go_wp2
    go_ret
    exact ⟨⟨true, rfl, fun q1 q2 => by have := HD.out q1 q2; rw [eq_comm, decide_eq_true_eq]; omega⟩, HB.out⟩
theorem bn_first (b0 b1 b2 b3 : Bool) : (((b0 && b1) && b2) = false → firstO [chk 0 b0, chk 0 b1, chk 0 b2, chk 2 b3] = some 0) ∧ (((b0 && b1) && b2) = true → firstO [chk 0 b0, chk 0 b1, chk 0 b2, chk 2 b3] = chk 2 b3) := by
  cases b0 <;> cases b1 <;> cases b2 <;> cases b3 <;> refine ⟨fun h => ?_, fun h => ?_⟩ <;> first | rfl | cases h

set_option maxRecDepth 100000 in
set_option maxHeartbeats 4000000 in
theorem implBlind_any (n s f : Int) (hs : wfI6 s) (ad : Nat → Addr) (w : World) (hE : EW 5 w ad) :
    Calls Tryd.prog 12 #[.int .i64 n, .int .i64 s, .int .i64 f] w fun e w' => ∃ v, e = .returned (.tuple #[v, .int .i64 (bnC n s f)]) ∧ w'.ownsRow w.heap.size 2 1 v (bnA n s f).length ((bnA n s f).flatMap icells) ∧ Below w.heap.size w w' := by
  obtain ⟨i0, hi, hz0, hz1, hz2⟩ := info_parts Tryd.info64
  have HI := Lib.hid hi
  have HZ0 := Lib.hid hz0
  have HZ1 := Lib.hid hz1
  have HZ2 := Lib.hid hz2
  clear hi hz0 hz1 hz2
  have HE := Lib.hid hE
  clear hE
  go_enter Tryd.func12, Tryd.ntmps12
  go_wp2_with fail
  refine (checkSamples_any n ad _ (HE.out.cell 0 (by omega))).mono ?_
  rintro e w1 ⟨rfl, rfl⟩
  obtain ⟨v0, hv0⟩ : ∃ v, erO ad (chk 0 (decide (1 ≤ n) && decide (n ≤ 8))) = v := ⟨_, rfl⟩
  have HV0 := Lib.hid hv0
  have P0 : Hid (isE v0) := by show isE v0; rw [← hv0]; exact erO_isE _ _
  rw [hv0]
  clear hv0
  go_wp2_with fail
  refine (checkWithinC_any s 1 899 ad _ (HE.out.cell 0 (by omega))).mono ?_
  rintro e w1 ⟨rfl, rfl⟩
  obtain ⟨v1, hv1⟩ : ∃ v, erO ad (chk 0 (decide (1 ≤ s) && decide (s ≤ 899))) = v := ⟨_, rfl⟩
  have HV1 := Lib.hid hv1
  have P1 : Hid (isE v1) := by show isE v1; rw [← hv1]; exact erO_isE _ _
  rw [hv1]
  clear hv1
  go_wp2_with fail
  refine (checkWithinC_any f 0 899 ad _ (HE.out.cell 0 (by omega))).mono ?_
  rintro e w1 ⟨rfl, rfl⟩
  obtain ⟨v2, hv2⟩ : ∃ v, erO ad (chk 0 (decide (0 ≤ f) && decide (f ≤ 899))) = v := ⟨_, rfl⟩
  have HV2 := Lib.hid hv2
  have P2 : Hid (isE v2) := by show isE v2; rw [← hv2]; exact erO_isE _ _
  rw [hv2]
  clear hv2
  go_wp2_with fail
  refine (checkStep_any s hs ad _ HE.out).mono ?_
  rintro e w2 ⟨⟨b3, rfl, hb3⟩, hb⟩
  have HB2 := Lib.hid hb
  have HB3 := Lib.hid hb3
  clear hb hb3
  obtain ⟨v3, hv3⟩ : ∃ v, erO ad (chk 2 b3) = v := ⟨_, rfl⟩
  have HV3 := Lib.hid hv3
  have P3 : Hid (isE v3) := by show isE v3; rw [← hv3]; exact erO_isE _ _
  rw [hv3]
  clear hv3
  go_wp2_with (refine wpList_fourErrs rfl (.tmp 12) (.tmp 14) (.tmp 16) (.tmp 18) rfl P0.out P1.out P2.out P3.out rfl rfl rfl rfl ?_)
  have q0 := new_cells4 w2 v0 v1 v2 v3 41
  rw [← HV0.out, ← HV1.out, ← HV2.out, ← HV3.out] at q0 ⊢
  refine (firstErr4_O ad _ _ _ _ _ _ _ q0.1 q0.2.1 q0.2.2.1 q0.2.2.2).mono ?_
  rintro e w9 ⟨rfl, rfl⟩
  rw [HV0.out, HV1.out, HV2.out, HV3.out]
  have L2 : Below w.heap.size w (w2.alloc (.cells #[v0, v1, v2, v3] 41)) := HB2.out.alloc HB2.out.size _
  obtain ⟨w3, hw3⟩ : ∃ w3, w2.alloc (.cells #[v0, v1, v2, v3] 41) = w3 := ⟨_, rfl⟩
  rw [hw3] at L2 ⊢
  have M2 := Lib.hid L2
  have HF := Lib.hid (bn_first (decide (1 ≤ n) && decide (n ≤ 8)) (decide (1 ≤ s) && decide (s ≤ 899)) (decide (0 ≤ f) && decide (f ≤ 899)) b3)
  clear q0 hw3 L2 HB2 HV0 HV1 HV2 HV3 P0 P1 P2 P3
  cases hR : bnR n s f
  · have E := Lib.hid (bnC_rng hR)
    rw [HF.out.1 hR, erO_some]
    clear hR
    go_wp2_with fail
    refine (codeOf_0 (HE.out.below M2.out (Nat.le_refl _))).mono ?_
    rintro e w4 ⟨rfl, rfl⟩
    go_wp2
    go_ret2
    refine ⟨_, by (rw [E.out.1]; first | done | rfl), ?_, M2.out⟩
    rw [E.out.2]
    exact nil_own7 _ _
  rw [HF.out.2 hR]
  have HOk := Lib.hid hR
  have hs1 : 1 ≤ s ∧ s ≤ 899 := by have := hR; simp only [bnR, Bool.and_eq_true, wi_iff] at this; exact this.1.2
  have hn1 : 1 ≤ n ∧ n ≤ 8 := by have := hR; simp only [bnR, Bool.and_eq_true, wi_iff] at this; exact this.1.1
  have HB4 : Hid (b3 = decide (Nat.gcd 900 s.toNat ≤ 1)) := HB3.out hs1.1 hs1.2
  clear hR HB3 HF
  cases b3
  · have E := Lib.hid (bnC_st HOk.out (by have := HB4.out; rw [eq_comm, decide_eq_false_iff_not] at this; exact this))
    rw [chk_no, erO_some]
    go_wp2_with fail
    refine (codeOf_2 (HE.out.below M2.out (Nat.le_refl _))).mono ?_
    rintro e w4 ⟨rfl, rfl⟩
    go_wp2
    go_ret2
    refine ⟨_, by (rw [E.out.1]; first | done | rfl), ?_, M2.out⟩
    rw [E.out.2]
    exact nil_own7 _ _
  have E := Lib.hid (bnC_ok HOk.out (by have := HB4.out; rw [eq_comm, decide_eq_true_eq] at this; exact this))
  rw [chk_yes, erO_none]
  have HO2 : Hid (w3.ownsRow w3.heap.size 2 1 (.slice none 0 0) 0 ((bnU s f 0).flatMap icells)) := nil_own7 _ _
  go_wp2_with fail
  go_loopw [9, 26] (fun v i wr => ∃ (k : Nat) (A1 : Option Addr) (c1 : Nat), (k : Int) ≤ n ∧ i = .int .i64 k ∧ v = .slice A1 k c1 ∧ wr.ownsRow w3.heap.size 2 1 (.slice A1 k c1) k ((bnU s f k).flatMap icells) ∧ Below w.heap.size w wr ∧ w3.heap.size ≤ wr.heap.size)
    (fun _ i _ => n.toNat - (intOf i).toNat)
  case atStart => exact ⟨0, _, _, by omega, rfl, rfl, HO2.out, M2.out, Nat.le_refl _⟩
  case round =>
    clear HO2
    obtain ⟨k, A1, c1, hk, rfl, rfl, hO, hB, hbs⟩ := hrel
    have HO := Lib.hid hO
    have HB := Lib.hid hB
    clear hO hB
    have hk0 : (0 : Int) ≤ (k : Int) := Int.natCast_nonneg _
    by_cases hlt : (k : Int) < n
    · obtain ⟨p, q, r, t, e1, e2, e3, e4, e5, e6, b1, b2, b3⟩ := bn_num HOk.out hlt
      have HSt : Hid (bnU s f (k + 1) = bnU s f k ++ [t]) := by show _ = _; rw [bnU_succ, e6]
      have u1 : IntKind.i64.wrap p = p := IntWalk.i64_in _ ⟨by omega, by omega⟩
      have u2 : wrap64 p = p := IntWalk.wrap64_in _ ⟨by omega, by omega⟩
      have u3 : IntKind.i64.wrap q = q := IntWalk.i64_in _ ⟨by omega, by omega⟩
      have u4 : wrap64 q = q := IntWalk.wrap64_in _ ⟨by omega, by omega⟩
      have u5 : IntKind.i64.wrap r = r := IntWalk.i64_in _ ⟨by omega, by omega⟩
      have u6 : wrap64 r = r := IntWalk.wrap64_in _ ⟨by omega, by omega⟩
      have u7 : IntKind.i64.wrap t = t := IntWalk.i64_in _ ⟨by omega, by omega⟩
      have u8 : wrap64 t = t := IntWalk.wrap64_in _ ⟨by omega, by omega⟩
      have hkn : k ≤ 8 := by omega
      clear e6
      go_wp2_with (at_builtin; refine wpList_append_own _ rfl (.tmp 29) (.tmp 37) 29 rfl w3.heap.size 2 i0 (.int .i64 0) 1 8 Tryd.underlying29 HI.out HZ0.out HZ1.out HZ2.out rfl (by decide) _ _ _ rfl (HO.out.alloc _) ⟨wr.heap.size, 0, none⟩ 1 1 [.int .i64 t] rfl rfl ?c1 ?c2 ?c3 ?c4 ?c5 ?_)
      case c1 => exact cell_one_new _ _ _
      case c2 => simp [Value.oneCell']
      case c3 => unfold maxLen; omega
      case c4 => omega
      case c5 => simp; omega
      intro v' w8 hown' hgrow _
      have hown8 : w8.ownsRow w3.heap.size 2 1 v' (bnU s f (k + 1)).length ((bnU s f (k + 1)).flatMap icells) := by rw [HSt.out, List.length_append, List.flatMap_append, bnU_len]; exact hown'
      obtain ⟨A8, c8, rfl, -, -⟩ := own_rd icells_length hown8
      rw [bnU_len] at hown8 ⊢
      have HO8 := Lib.hid hown8
      have HB8 : Hid (Below w.heap.size w w8) := (HB.out.alloc HB.out.size _).grown hgrow (by have := HB.out.size; simp; omega) (fun r e => Nat.le_trans M2.out.size (HO.out.lt r e).1)
      have HZ8 : Hid (w3.heap.size ≤ w8.heap.size) := by show _ ≤ _; have := hgrow.size; simp at this; omega
      clear hown' hgrow hown8 e1 e2 e3 e4 e5 u1 u2 u3 u4 u5 u6 u7 u8
      go_wp2
      go_roundw
      case rel => exact ⟨k + 1, A8, c8, by omega, by go_num, by first | rfl | simp, by simpa using HO8.out, HB8.out, HZ8.out⟩
      case measure => simp [intOf]; omega
    · have hkn : k = n.toNat := by omega
      have HKn := Lib.hid hkn
      clear hkn
      go_wp2
      go_ret2
      refine ⟨_, by (rw [E.out.1]; first | done | rfl), ?_, HB.out⟩
      rw [E.out.2, bnU_len, ← HKn.out]
      exact own_base HO.out M2.out.size
end Go.Proofs.YtajnkkiabjiplaaDoor
