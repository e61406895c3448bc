/-
  The contracts of AllWalkEvery, of the model and of the program. Condition: the walkers' numbers fit their kinds; the sentinel errors lie as the row lists them (the program's).
-/
import Derived.Test.YtcalooahafgfbaaDoorYf
namespace Go.Proofs.YtcalooahafgfbaaDoor
open Go.ChangeShapes Go.WideShapes Go.ChangeAt Go.RowKit Go.Deep

theorem evN_yes {l : List Wal} (h : evB l = true) : evN l = lcmA l := by rw [evN, if_pos (of_decide_eq_true h)]
theorem evN_no {l : List Wal} (h : evB l = false) : evN l = 0 := by rw [evN, if_neg (of_decide_eq_false h)]
theorem aeC_inv {n : Int} {l : List Wal} (h : vsOk n l = false) : aeC n l = 1 ∧ aeN n l = 0 := by
  have : aeC n l = 1 := by simp [aeC, h]
  exact ⟨this, by rw [aeN, if_neg (by omega)]⟩
theorem aeC_big {n : Int} {l : List Wal} (h : vsOk n l = true) (hb : evB l = false) : aeC n l = 3 ∧ aeN n l = 0 := by
  have h1 := of_decide_eq_false hb
  have : aeC n l = 3 := by simp only [aeC, h, if_true]; rw [if_neg h1]
  exact ⟨this, by rw [aeN, if_neg (by omega)]⟩
theorem aeC_ok {n : Int} {l : List Wal} (h : vsOk n l = true) (hb : evB l = true) : aeC n l = 0 ∧ aeN n l = lcmA l := by
  have h1 := of_decide_eq_true hb
  have : aeC n l = 0 := by simp only [aeC, h, if_true]; rw [if_pos h1]
  exact ⟨this, by rw [aeN, if_pos this]⟩
theorem vsOk_ev {n : Int} {l : List Wal} (h : vsOk n l = true) : l.length ≤ 8 ∧ ∀ x ∈ l, 1 ≤ x.ev ∧ x.ev ≤ 100 :=
  ⟨(vsOk_out h).2.1, fun x hx => (vOk_out ((vsOk_out h).2.2 x hx)).2.1⟩
set_option maxHeartbeats 2000000 in
theorem specAllWalk_any (n : Int) (hn : wfI6 n) (l : List Wal) (hwf : ∀ x ∈ l, wfV x) (A : Option Addr) (c : Nat) (w : World) (hl : l.length ≤ 1048576) (hr : Rd w w.heap.size vcells A l) :
    Calls Tryd.prog 9 #[.int .i64 n, .slice A l.length c] w fun e w' => e = .returned (.tuple #[.int .i64 (aeN n l), .int .i64 (aeC n l)]) ∧ Below w.heap.size w w' := by
  have HR := Lib.hid hr
  clear hr
  go_enter Tryd.func9, Tryd.ntmps9
  go_wp2_with fail
  refine (l05Asked_any n hn l hwf true A c w hl HR.out).mono ?_
  rintro e w1 ⟨rfl, hb⟩
  have HB := Lib.hid hb
  clear hb
  cases hv : vsOk n l
  · have HC : Hid (akV n l true = 1) := by show akV n l true = 1; simp [akV, hv]
    have E1 := Lib.hid (aeC_inv hv)
    rw [HC.out]
    clear hv HC
    go_wp2
    go_ret2
    exact ⟨by (rw [E1.out.1, E1.out.2]; first | done | rfl), HB.out⟩
  have HC : Hid (akV n l true = 0) := by show akV n l true = 0; simp [akV, hv]
  have HV := Lib.hid hv
  rw [HC.out]
  clear hv HC
  go_wp2_with fail
  refine (l05Every_any l (vsOk_ev HV.out).2 A c _ (vsOk_ev HV.out).1 (HR.out.keep HB.out)).mono ?_
  rintro e w2 ⟨rfl, hb⟩
  have HB2 : Hid (Below w.heap.size w w2) := HB.out.trans (hb.mono HB.out.size)
  clear hb
  cases he : evB l
  · have E1 := Lib.hid (aeC_big HV.out he)
    obtain ⟨ev, hev⟩ : ∃ ev, evN l = ev := ⟨_, rfl⟩
    rw [hev]
    clear he hev
    go_wp2
    go_ret2
    exact ⟨by (rw [E1.out.1, E1.out.2]; first | done | rfl), HB2.out⟩
  · have E1 := Lib.hid (aeC_ok HV.out he)
    have E2 := Lib.hid (evN_yes he)
    obtain ⟨ev, hev⟩ : ∃ ev, evN l = ev := ⟨_, rfl⟩
    have HEv := Lib.hid hev
    rw [hev]
    clear he hev
    go_wp2
    go_ret2
    exact ⟨by (rw [E1.out.1, E1.out.2, ← E2.out, HEv.out]; first | done | rfl), HB2.out⟩

set_option maxHeartbeats 2000000 in
theorem allWalkEvery_any (l : List Wal) (hv : ∀ x ∈ l, 1 ≤ x.ev ∧ x.ev ≤ 100) (A : Option Addr) (c : Nat) (ad : Nat → Addr) (w : World) (hl : l.length ≤ 8) (hr : Rd w w.heap.size vcells A l) (hE : EW 7 w ad) :
    Calls Tryd.prog 22 #[.slice A l.length c] w fun e w' => e = .returned (.tuple #[.int .i64 (evN l), erO ad (chk 1 (evB l))]) ∧ Below w.heap.size w w' := by
  have HR := Lib.hid hr
  have HV := Lib.hid hv
  have HE := Lib.hid hE
  clear hr hv hE
  go_enter Tryd.func22, Tryd.ntmps22
  go_wp2_with fail
  go_loopw [4, 10] (fun a i wr => ∃ (k : Nat), k ≤ l.length ∧ i = .int .i64 k ∧ a = .int .i64 (lcmTo l k : Nat) ∧ Below w.heap.size w wr) (fun _ i _ => l.length - (intOf i).toNat)
  case atStart => exact ⟨0, by omega, rfl, rfl, Below.refl _ _⟩
  case round =>
    obtain ⟨k, hk, rfl, rfl, hB⟩ := hrel
    have HB := Lib.hid hB
    clear hB
    have h100 : lcmTo l k ≤ 10000000000000000 := Nat.le_trans (lcmTo_le HV.out k hk) (Nat.le_trans (Nat.pow_le_pow_right (by decide) (by omega : k ≤ 8)) (by decide))
    by_cases hlt : k < l.length
    · obtain ⟨⟨fi, e0, st, sp, co, tu⟩, hx⟩ : ∃ x, l[k]? = some x := ⟨_, List.getElem?_eq_getElem hlt⟩
      obtain ⟨b, o, rfl, hbl, hrow⟩ := (HR.out.below (Nat.le_refl _) HB.out).at_ vcells_length hx
      obtain ⟨d0, d1, d2, d3, d4, d5⟩ := rowV hrow
      have hxv : 1 ≤ e0 ∧ e0 ≤ 100 := HV.out _ (List.mem_of_getElem? hx)
      have hpos := lcmTo_pos (l := l) (fun x hx => (HV.out x hx).1) k hk
      have hs : lcmTo l (k + 1) = Nat.lcm (lcmTo l k) e0.toNat := lcmTo_succ hx
      obtain ⟨m, hm0⟩ : ∃ m, lcmTo l k = m := ⟨_, rfl⟩
      obtain ⟨ev, hev⟩ : ∃ ev : Nat, e0 = ev := ⟨e0.toNat, by omega⟩
      rw [hm0] at h100 hpos hs ⊢
      have h18 : m ≤ 1000000000000000000 := Nat.le_trans h100 (by decide)
      have h19 : ev ≤ 1000000000000000000 := by omega
      have HC : Hid (∀ w, Calls Tryd.prog 30 #[.int .i64 m, .int .i64 ev] w fun e w' => e = .returned (.int .i64 (Nat.gcd m ev : Nat)) ∧ Below w.heap.size w w') := fun w => commonDivisor_any m ev h18 h19 w
      dsimp only at d0 d1 d2 d3 d4 d5
      rw [hev] at hxv hs d1
      rw [Int.toNat_natCast] at hs
      obtain ⟨m', hm'⟩ : ∃ m', lcmTo l (k + 1) = m' := ⟨_, rfl⟩
      have hk1 : k + 1 ≤ l.length := by omega
      have hle : m' ≤ 10000000000000000 := by rw [← hm']; exact Nat.le_trans (lcmTo_le HV.out (k + 1) hk1) (Nat.le_trans (Nat.pow_le_pow_right (by decide) (by omega : k + 1 ≤ 8)) (by decide))
      rw [hm'] at hs
      have hg := div_gcd_mul m ev
      rw [← hs] at hg
      obtain ⟨g, hg0⟩ : ∃ g, Nat.gcd m ev = g := ⟨_, rfl⟩
      rw [hg0] at HC
      have hgp : 0 < g := by rw [← hg0]; exact Nat.gcd_pos_of_pos_left _ (by omega)
      have hgl : g ≤ m := by rw [← hg0]; exact Nat.le_of_dvd (by omega) (Nat.gcd_dvd_left _ _)
      obtain ⟨q, hq⟩ : ∃ q, m / g = q := ⟨_, rfl⟩
      rw [hg0, hq] at hg
      have hql : q ≤ m := by rw [← hq]; exact Nat.div_le_self _ _
      have HM' := Lib.hid hm'
      have hk0 : (0 : Int) ≤ (k : Int) := Int.natCast_nonneg _
      have hk8 : (k : Int) < l.length := by omega
      have hv1 : IntKind.i64.wrap (ev : Int) = ev := IntWalk.i64_in _ ⟨by omega, by omega⟩
      have hv2 : wrap64 (ev : Int) = ev := IntWalk.wrap64_in _ ⟨by omega, by omega⟩
      have hgz : ((g : Int) == 0) = false := by simp; omega
      have hgz2 : ¬ (g : Int) = 0 := by omega
      have hm0' : (0 : Int) ≤ (m : Int) := Int.natCast_nonneg _
      have hd1 : (m : Int) / (g : Int) = (q : Int) := by rw [← hq]; simp
      have hd2 : Int.tdiv (m : Int) (g : Int) = (q : Int) := by rw [Int.tdiv_eq_ediv_of_nonneg hm0', hd1]
      have hq1 : IntKind.i64.wrap (q : Int) = q := IntWalk.i64_in _ ⟨by omega, by omega⟩
      have hq2 : wrap64 (q : Int) = q := IntWalk.wrap64_in _ ⟨by omega, by omega⟩
      obtain ⟨p, hpe⟩ : ∃ p : Int, (m' : Int) = p := ⟨_, rfl⟩
      have hp : (q : Int) * (ev : Int) = p := by rw [← hpe, ← hg]; simp
      have hp1 : IntKind.i64.wrap p = p := IntWalk.i64_in _ ⟨by omega, by omega⟩
      have hp2 : wrap64 p = p := IntWalk.wrap64_in _ ⟨by omega, by omega⟩
      have HPE := Lib.hid hpe
      have HB1 : Hid (Below w.heap.size w (wr.alloc (.cells #[.int .i16 fi, .int .i16 ev, .int .i16 st, .int .i16 sp, .int .i16 co, .int .i8 tu] 36))) := HB.out.alloc HB.out.size _
      clear hx hrow hm0 hm' hs hle hq hg hev hg0 hpe h18 h19
      go_wp2_with fail
      refine (HC.out _).mono ?_
      rintro e w1 ⟨rfl, hb1⟩
      have HB2 : Hid (Below w.heap.size w w1) := HB1.out.trans (hb1.mono HB1.out.size)
      clear hb1 HC d0 d1 d2 d3 d4 d5
      go_wp2
      go_roundw
      case rel => exact ⟨k + 1, hk1, by clear hd1 hd2 hp; go_num, by rw [HM'.out, HPE.out], HB2.out⟩
      case measure => clear hd1 hd2 hp; simp [intOf]; omega
    · obtain rfl : k = l.length := by omega
      have c1 : wr.cell? ⟨2, 0, none⟩ = some (.iface 89 (.pointer (some (ad 1)))) := (HE.out.below HB.out (Nat.le_refl _)).cell 1 (by omega)
      cases he : evB l
      · have h1 := of_decide_eq_false he
        have h2 : (1000000 : Int) < lcmTo l l.length := by unfold lcmA at h1; omega
        have E1 := Lib.hid he
        have E2 := Lib.hid (evN_no he)
        obtain ⟨m, hm⟩ : ∃ m : Nat, lcmTo l l.length = m := ⟨_, rfl⟩
        rw [hm] at h2 ⊢
        clear he h1 hm
        go_wp2_with fail
        go_region
        go_wp2
        go_ret2
        exact ⟨by (rw [E2.out, E1.out]; first | done | rfl), by first | exact HB.out | exact HB.out.drew⟩
      · have h1 := of_decide_eq_true he
        have h2 : (lcmTo l l.length : Int) ≤ 1000000 := by unfold lcmA at h1; omega
        have E1 := Lib.hid he
        have E2 : Hid (evN l = lcmTo l l.length) := by show _ = _; rw [evN_yes he]; rfl
        obtain ⟨m, hm⟩ : ∃ m : Nat, lcmTo l l.length = m := ⟨_, rfl⟩
        rw [hm] at h2 ⊢
        rw [hm] at E2
        clear he h1 hm
        go_wp2
        go_ret2
        exact ⟨by (rw [E2.out, E1.out]; first | done | rfl), HB.out⟩

set_option maxHeartbeats 2000000 in
theorem implAllWalk_any (n : Int) (hn : wfI6 n) (l : List Wal) (hwf : ∀ x ∈ l, wfV x) (A : Option Addr) (c : Nat) (ad : Nat → Addr) (w : World) (hl : l.length ≤ 1048576) (hr : Rd w w.heap.size vcells A l) (hE : EW 7 w ad) :
    Calls Tryd.prog 13 #[.int .i64 n, .slice A l.length c] w fun e w' => e = .returned (.tuple #[.int .i64 (aeN n l), .int .i64 (aeC n l)]) ∧ Below w.heap.size w w' := by
  have HR := Lib.hid hr
  have HE := Lib.hid hE
  clear hr hE
  go_enter Tryd.func13, Tryd.ntmps13
  go_wp2_with fail
  refine (checkWalkers_any n hn l hwf A c ad w hl HR.out HE.out).mono ?_
  rintro e w1 ⟨rfl, hb⟩
  have HB := Lib.hid hb
  clear hb
  cases hv : vsOk n l
  · have E1 := Lib.hid (aeC_inv hv)
    rw [chk_no, erO_some]
    clear hv
    go_wp2_with fail
    refine (codeOf_O (HE.out.below HB.out (Nat.le_refl _)) 5 (by omega)).mono ?_
    rintro e w2 ⟨rfl, rfl⟩
    go_wp2
    go_ret2
    exact ⟨by (rw [E1.out.1, E1.out.2]; first | done | rfl), HB.out⟩
  have HV := Lib.hid hv
  rw [chk_yes, erO_none]
  clear hv
  go_wp2_with fail
  refine (allWalkEvery_any l (vsOk_ev HV.out).2 A c ad _ (vsOk_ev HV.out).1 (HR.out.keep HB.out) (HE.out.below HB.out (Nat.le_refl _))).mono ?_
  rintro e w2 ⟨rfl, hb⟩
  have HB2 : Hid (Below w.heap.size w w2) := HB.out.trans (hb.mono HB.out.size)
  clear hb
  obtain ⟨ev, hev⟩ : ∃ ev, evN l = ev := ⟨_, rfl⟩
  have HEv := Lib.hid hev
  rw [hev]
  cases he : evB l
  · have E1 := Lib.hid (aeC_big HV.out he)
    have E2 := Lib.hid (evN_no he)
    rw [chk_no, erO_some]
    clear he hev
    go_wp2_with fail
    refine (codeOf_O (HE.out.below HB2.out (Nat.le_refl _)) 1 (by omega)).mono ?_
    rintro e w3 ⟨rfl, rfl⟩
    go_wp2
    go_ret2
    exact ⟨by (rw [E1.out.1, E1.out.2, ← HEv.out, E2.out]; first | done | rfl), HB2.out⟩
  · have E1 := Lib.hid (aeC_ok HV.out he)
    have E2 := Lib.hid (evN_yes he)
    rw [chk_yes, erO_none]
    clear he hev
    go_wp2_with fail
    refine (codeOf_nil _).mono ?_
    rintro e w3 ⟨rfl, rfl⟩
    go_wp2
    go_ret2
    exact ⟨by (rw [E1.out.1, E1.out.2, ← E2.out, HEv.out]; first | done | rfl), HB2.out⟩
end Go.Proofs.YtcalooahafgfbaaDoor
