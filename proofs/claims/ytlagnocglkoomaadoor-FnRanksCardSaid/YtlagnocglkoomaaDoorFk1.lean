/-
  FnRanks: for all bytes the law returns true, and they read as before. No condition but that the sentinel errors hold what the program's text lays (tied).
-/
import Derived.Test.YtlagnocglkoomaaDoorCards
import Derived.Test.YtlagnocglkoomaaDoorTie
import Derived.Test.YtlagnocglkoomaaDoorG
import Derived.Test.YtlagnocglkoomaaDoorDk1
import Derived.Test.YtlagnocglkoomaaDoorFk0
import Derived.Test.YtlagnocglkoomaaDoorSd2
import Derived.Test.YtlagnocglkoomaaDoorTr4
import Derived.Test.YtlagnocglkoomaaDoorTs
import Derived.SevenTiedAt
import Derived.Deep.CutRange
import Derived.Deep.DeepCutAuto
namespace Go.Proofs.YtlagnocglkoomaaDoor
open Go.ChangeShapes Go.WideShapes Go.ChangeAt Go.RowKit Go.Deep

theorem big_any (A : Option Addr) (n c : Nat) (hn : n ≤ 9223372036854775807) (w : World) : Calls Tryd.prog 4 #[.slice A n c] w fun e w' => e = .returned (.bool (decide (4096 < (n : Int)))) ∧ w = w' := by
  by_cases h : 4096 < (n : Int)
  · rw [decide_eq_true h]
    go_enter Tryd.func4, Tryd.ntmps4
    go_wp2
    go_ret
    exact ⟨by first | rfl | simp [h], rfl⟩
  · rw [decide_eq_false h]
    go_enter Tryd.func4, Tryd.ntmps4
    go_wp2
    go_ret
    exact ⟨by first | rfl | simp [h], rfl⟩
theorem sameTables_any (m m2 : List (List Int)) (A B : Option Addr) (c d : Nat) (w : World) (hl : m.length ≤ 1048576) (hx : ∀ xs ∈ m, xs.length ≤ 1048576) (hl2 : m2.length ≤ 1048576) (hx2 : ∀ xs ∈ m2, xs.length ≤ 1048576) (hA : RdN w w.heap.size icells A m) (hB : RdN w w.heap.size icells B m2) :
    Calls Tryd.prog 14 #[.slice A m.length c, .slice B m2.length d] w fun e w' => e = .returned (.bool (decide (m = m2))) ∧ Below w.heap.size w w' := by
  have HC := Lib.hid (l07Same_any m m2 A B c d w hl hx hl2 hx2 hA hB)
  clear hA hB
  go_enter Tryd.func14, Tryd.ntmps14
  go_wp2_with fail
  refine HC.out.mono ?_
  rintro e w1 ⟨rfl, hb⟩
  have HB := Lib.hid hb
  clear hb HC
  go_wp2
  go_ret
  exact ⟨rfl, HB.out⟩
theorem sameNumbers_any (m m2 : List Int) (A B : Option Addr) (c d : Nat) (w : World) (hl : m.length ≤ 1048576) (hl2 : m2.length ≤ 1048576) (hA : Rd w w.heap.size icells A m) (hB : Rd w w.heap.size icells B m2) :
    Calls Tryd.prog 15 #[.slice A m.length c, .slice B m2.length d] w fun e w' => e = .returned (.bool (decide (m = m2))) ∧ Below w.heap.size w w' := by
  have HC := Lib.hid (l00Same_any m m2 A B c d w hl hl2 hA hB)
  clear hA hB
  go_enter Tryd.func15, Tryd.ntmps15
  go_wp2_with fail
  refine HC.out.mono ?_
  rintro e w1 ⟨rfl, hb⟩
  have HB := Lib.hid hb
  clear hb HC
  go_wp2
  go_ret
  exact ⟨rfl, HB.out⟩
theorem sd_order (s : List Int) {N : Nat} (h1 : 1 ≤ N) (h8 : N ≤ 8) : ioB N (soL s N) = true := by
  have hp := soL_perm s N
  have hl : (soL s N).length = N := soL_len s N
  rw [ioB, Bool.and_eq_true]
  refine ⟨by simp [wi]; omega, ?_⟩
  rw [orB_iff]
  refine ⟨by rw [hl], fun x hx => ?_, ?_⟩
  · have := iota_mem.1 (hp.mem_iff.1 hx); omega
  · exact hp.nodup_iff.2 (iota_nodup N)
theorem sd_two {s : List Int} {N i : Nat} (h8 : N ≤ 8) (hi : 0 < i) {a b : Int} (ha : (soL s N)[i - 1]? = some a) (hb : (soL s N)[i]? = some b) : (0 ≤ a ∧ a < N) ∧ (0 ≤ b ∧ b < N) ∧ (s.getD a.toNat 0 < s.getD b.toNat 0 ∨ (s.getD a.toNat 0 = s.getD b.toNat 0 ∧ a ≤ b)) := by
  have hp := soL_perm s N
  have ma := iota_mem.1 (hp.mem_iff.1 (List.mem_of_getElem? ha))
  have mb := iota_mem.1 (hp.mem_iff.1 (List.mem_of_getElem? hb))
  have := soL_srt s N (i - 1) i (soK s a) (soK s b) (by omega) (by rw [List.getElem?_map, ha]; rfl) (by rw [List.getElem?_map, hb]; rfl)
  unfold soK at this
  refine ⟨ma, mb, ?_⟩
  omega

theorem lm_p {N k M : Nat} (hN : N ≤ 6) (hk : k ≤ N) (hM : M ≤ 5) {P2 P3 P4 P5 Q : Int} (h2 : (N : Int) * 2 * k = P2) (h4 : (N : Int) * (N + 1) = P4) (h3 : P2 * M = P3) (h5 : P4 * M = P5) (hQ : (P3 - P5) * (P3 - P5) = Q) :
    (0 ≤ P2 ∧ P2 ≤ 72) ∧ (0 ≤ P3 ∧ P3 ≤ 360) ∧ (0 ≤ P5 ∧ P5 ≤ 210) ∧ 0 ≤ Q ∧ Q ≤ 200000 := by
  have a2 : 0 ≤ P2 ∧ P2 ≤ 72 := by
    rw [← h2]
    have := Int.mul_nonneg (show (0 : Int) ≤ (N : Int) * 2 by omega) (show (0 : Int) ≤ (k : Int) by omega)
    have := Int.mul_le_mul (show (N : Int) * 2 ≤ 12 by omega) (show (k : Int) ≤ 6 by omega) (by omega) (by omega)
    omega
  have a4 : 0 ≤ P4 ∧ P4 ≤ 42 := by
    rw [← h4]
    have := Int.mul_nonneg (show (0 : Int) ≤ (N : Int) by omega) (show (0 : Int) ≤ (N : Int) + 1 by omega)
    have := Int.mul_le_mul (show (N : Int) ≤ 6 by omega) (show (N : Int) + 1 ≤ 7 by omega) (by omega) (by omega)
    omega
  have a3 : 0 ≤ P3 ∧ P3 ≤ 360 := by
    rw [← h3]
    have := Int.mul_nonneg a2.1 (show (0 : Int) ≤ (M : Int) by omega)
    have := Int.mul_le_mul a2.2 (show (M : Int) ≤ 5 by omega) (by omega) (by omega)
    omega
  have a5 : 0 ≤ P5 ∧ P5 ≤ 210 := by
    rw [← h5]
    have := Int.mul_nonneg a4.1 (show (0 : Int) ≤ (M : Int) by omega)
    have := Int.mul_le_mul a4.2 (show (M : Int) ≤ 5 by omega) (by omega) (by omega)
    omega
  have aQ := sq_b (a := P3 - P5) (by omega)
  have aQ2 : Q ≤ 200000 := by
    rw [← hQ]
    have := Int.mul_nonneg (show 0 ≤ 400 - (P3 - P5) by omega) (show 0 ≤ 400 + (P3 - P5) by omega)
    rw [Int.sub_mul, Int.mul_add, Int.mul_add, Int.mul_comm (P3 - P5) 400] at this
    omega
  rw [hQ] at aQ
  exact ⟨a2, a3, a5, aQ.1, aQ2⟩
theorem lm_b {N M : Nat} (hN : N ≤ 6) (hM : M ≤ 5) : ∀ k : Nat, k ≤ N → 0 ≤ lmTo N M k ∧ lmTo N M k ≤ 200000 * k
  | 0, _ => by simp [lmTo]
  | k + 1, h => by
    have ih := lm_b hN hM k (by omega)
    have := lm_p (N := N) (k := k + 1) (M := M) hN h hM rfl rfl rfl rfl rfl
    have e : (((k + 1 : Nat) : Int)) = (k : Int) + 1 := by omega
    rw [lmTo, lmO, ← e]
    omega

set_option maxRecDepth 100000 in
set_option maxHeartbeats 16000000 in
theorem ranksLaw_any (xs1 xs2 : List Int) (A1 A2 : Option Addr) (c1 c2 : Nat) (ad : Nat → Addr) (w : World) (hl1 : xs1.length ≤ 9223372036854775807) (hl2 : xs2.length ≤ 9223372036854775807) (hw1 : ∀ x ∈ xs1, wfY x) (hr1 : Rd w w.heap.size ycells A1 xs1) (hE : EW 7 w ad) :
    Calls Tryd.prog 3 #[.slice A1 xs1.length c1, .slice A2 xs2.length c2] w (Good w) := by
  have HR1_0 := Lib.hid hr1
  have HE_0 := Lib.hid hE
  have HB_0 : Hid (Below w.heap.size w w) := Below.refl _ _
  have HW1 := Lib.hid hw1
  clear hr1 hE hw1
  by_cases hb1 : 4096 < (xs1.length : Int)
  · go_enter Tryd.func3, Tryd.ntmps3
    go_wp2_with fail
    refine (big_any A1 xs1.length c1 hl1 _).mono ?_
    rintro e w1 ⟨rfl, rfl⟩
    rw [decide_eq_true hb1]
    go_wp2
    go_ret
    exact ⟨rfl, HB_0.out⟩
  by_cases hb2 : 4096 < (xs2.length : Int)
  · go_enter Tryd.func3, Tryd.ntmps3
    go_wp2_with fail
    refine (big_any A1 xs1.length c1 hl1 _).mono ?_
    rintro e w1 ⟨rfl, rfl⟩
    rw [decide_eq_false (by omega)]
    go_wp2_with fail
    refine (big_any A2 xs2.length c2 hl2 _).mono ?_
    rintro e w1 ⟨rfl, rfl⟩
    rw [decide_eq_true hb2]
    go_wp2
    go_ret
    exact ⟨rfl, HB_0.out⟩
  go_enter Tryd.func3, Tryd.ntmps3
  go_wp2_with fail
  refine (big_any A1 xs1.length c1 hl1 _).mono ?_
  rintro e w1 ⟨rfl, rfl⟩
  rw [decide_eq_false (by omega)]
  go_wp2_with fail
  refine (big_any A2 xs2.length c2 hl2 _).mono ?_
  rintro e w1 ⟨rfl, rfl⟩
  rw [decide_eq_false (by omega)]
  have hx4 : xs1.length ≤ 4096 := by omega
  clear hl1 hl2 hb1 hb2
  go_wp2_with fail
  refine (p6Marks_any xs1 HW1.out hx4 A1 c1 w HR1_0.out).mono ?_
  rintro e w1 ⟨N, m, Am, cm, ⟨hN1, hN6⟩, hmok, rfl, hM, hb⟩
  have hm5 := hmok.1
  have hrow : ∀ ys ∈ m, ys.length = N := fun ys h => (hmok.2 ys h).1
  have hmk : mkOk (N : Int) m = true := mkOk_iff.2 ⟨⟨by omega, by omega⟩, by omega, fun ys h => mkRow_iff.2 ⟨by rw [hrow ys h], fun x hx => by have := (hmok.2 ys h).2 x hx; omega⟩⟩
  obtain ⟨hC, hK, hD⟩ := mkC_yes hmk
  have hO : sdA (N : Int) m = soL (rsA N m) N := by rw [sdA_yes hmk]; rfl
  have hF : spN (N : Int) m = spTo N (suTo (rsA N m) (rsA N m).length) (rsA N m) (rsA N m).length := spN_yes hmk
  have hKl : (rsA (N : Int) m).length = N := by rw [hK, rsL_len]; rfl
  have hK2 : rsA (N : Int) m = rsL N m m.length := by rw [hK]; rfl
  have hDl : (rkA (N : Int) m).length = m.length := by rw [hD, rkLs_len (Nat.le_refl _)]
  have hOl : (sdA (N : Int) m).length = N := by rw [hO, soL_len]
  have hFl : spN (N : Int) m ≤ lmTo N m.length N := by rw [hF, hKl, hK2]; exact far_le N m hrow
  have hF0 : 0 ≤ spN (N : Int) m ∧ spN (N : Int) m ≤ 800000000 := by
    have hb := spTo_b (n := (N : Int)) (a := suTo (rsA N m) (rsA N m).length) (xs := rsA N m) ⟨by omega, by omega⟩ (by
      have := suTo_b (xs := rsA N m) (M := 204) (by omega) (fun x hx => rsA_mem hx) (rsA N m).length (Nat.le_refl _)
      rw [hKl] at this ⊢; omega) (fun x hx => rsA_mem hx) (rsA N m).length (Nat.le_refl _)
    rw [hF]; rw [hKl] at hb ⊢; omega
  obtain ⟨D, hDD⟩ : ∃ D, rkA (N : Int) m = D := ⟨_, rfl⟩
  obtain ⟨K, hKK⟩ : ∃ D, rsA (N : Int) m = D := ⟨_, rfl⟩
  obtain ⟨O, hOO⟩ : ∃ D, sdA (N : Int) m = D := ⟨_, rfl⟩
  obtain ⟨F, hFF⟩ : ∃ D, spN (N : Int) m = D := ⟨_, rfl⟩
  have hDx : ∀ ys ∈ D, ys.length ≤ 1048576 := by rw [← hDD]; exact rkA_each N m
  have hmx : ∀ ys ∈ m, ys.length ≤ 1048576 := fun ys h => by rw [hrow ys h]; omega
  have C1 : Hid (∀ W, RdN W W.heap.size icells Am m → EW 7 W ad → Calls Tryd.prog 6 #[.int .i64 N, .slice Am m.length cm] W fun e w' => ∃ A' c', e = .returned (.tuple #[.slice A' D.length c', .int .i64 0]) ∧ RdN w' w'.heap.size icells A' D ∧ Below W.heap.size W w') := fun W h1 h2 => by
    refine (implRanksOf_any N m Am cm ad W (by omega) hmx h1 h2).mono ?_
    rintro e w' ⟨A', c', hs, he, ho, hb⟩
    rw [hC, hDD] at he
    rw [hDD] at ho
    exact ⟨A', c', he, ho.rd icells_length, hb⟩
  have C2 : Hid (∀ W, RdN W W.heap.size icells Am m → Calls Tryd.prog 7 #[.int .i64 N, .slice Am m.length cm] W fun e w' => ∃ A' c', e = .returned (.tuple #[.slice A' D.length c', .int .i64 0]) ∧ RdN w' w'.heap.size icells A' D ∧ Below W.heap.size W w') := fun W h1 => by
    refine (specRanksOf_any N m Am cm W (by omega) hmx h1).mono ?_
    rintro e w' ⟨A', c', he, ho, hb⟩
    rw [hC, hDD] at he
    rw [hDD] at ho
    exact ⟨A', c', he, ho, hb⟩
  have C3 : Hid (∀ W, RdN W W.heap.size icells Am m → EW 7 W ad → Calls Tryd.prog 8 #[.int .i64 N, .slice Am m.length cm] W fun e w' => ∃ A' c', e = .returned (.tuple #[.slice A' K.length c', .int .i64 0]) ∧ Rd w' w'.heap.size icells A' K ∧ Below W.heap.size W w') := fun W h1 h2 => by
    refine (implRankSums_any N m Am cm ad W (by omega) hmx h1 h2).mono ?_
    rintro e w' ⟨v, he, ho, hb⟩
    rw [hC] at he
    rw [hKK] at ho
    obtain ⟨A', c', rfl, -, hrd⟩ := own_rd icells_length ho
    exact ⟨A', c', he, hrd, hb⟩
  have C4 : Hid (∀ W, RdN W W.heap.size icells Am m → Calls Tryd.prog 9 #[.int .i64 N, .slice Am m.length cm] W fun e w' => ∃ A' c', e = .returned (.tuple #[.slice A' K.length c', .int .i64 0]) ∧ Rd w' w'.heap.size icells A' K ∧ Below W.heap.size W w') := fun W h1 => by
    refine (specRankSums_any N m Am cm W (by omega) hmx h1).mono ?_
    rintro e w' ⟨v, he, ho, hb⟩
    rw [hC] at he
    rw [hKK] at ho
    obtain ⟨A', c', rfl, -, hrd⟩ := own_rd icells_length ho
    exact ⟨A', c', he, hrd, hb⟩
  have C5 : Hid (∀ W, RdN W W.heap.size icells Am m → EW 7 W ad → Calls Tryd.prog 10 #[.int .i64 N, .slice Am m.length cm] W fun e w' => ∃ A' c', e = .returned (.tuple #[.slice A' O.length c', .int .i64 0]) ∧ Rd w' w'.heap.size icells A' O ∧ Below W.heap.size W w') := fun W h1 h2 => by
    refine (implSumOrder_any N m Am cm ad W (by omega) hmx h1 h2).mono ?_
    rintro e w' ⟨v, he, ho, hb⟩
    rw [hC] at he
    rw [hOO] at ho
    obtain ⟨A', c', rfl, -, hrd⟩ := own_rd icells_length ho
    exact ⟨A', c', he, hrd, hb⟩
  have C6 : Hid (∀ W, RdN W W.heap.size icells Am m → Calls Tryd.prog 11 #[.int .i64 N, .slice Am m.length cm] W fun e w' => ∃ A' c', e = .returned (.tuple #[.slice A' O.length c', .int .i64 0]) ∧ Rd w' w'.heap.size icells A' O ∧ Below W.heap.size W w') := fun W h1 => by
    refine (specSumOrder_any N m Am cm W (by omega) hmx h1).mono ?_
    rintro e w' ⟨v, he, ho, hb⟩
    rw [hC] at he
    rw [hOO] at ho
    obtain ⟨A', c', rfl, -, hrd⟩ := own_rd icells_length ho
    exact ⟨A', c', he, hrd, hb⟩
  have C7 : Hid (∀ W, RdN W W.heap.size icells Am m → EW 7 W ad → Calls Tryd.prog 12 #[.int .i64 N, .slice Am m.length cm] W fun e w' => e = .returned (.tuple #[.int .i64 F, .int .i64 0]) ∧ Below W.heap.size W w') := fun W h1 h2 => by
    have := implSpread_any N m Am cm ad W (by omega) hmx h1 h2
    rw [hC, hFF] at this
    exact this
  have C8 : Hid (∀ W, RdN W W.heap.size icells Am m → Calls Tryd.prog 13 #[.int .i64 N, .slice Am m.length cm] W fun e w' => e = .returned (.tuple #[.int .i64 F, .int .i64 0]) ∧ Below W.heap.size W w') := fun W h1 => by
    have := specSpread_any N m Am cm W (by omega) hmx h1
    rw [hC, hFF] at this
    exact this
  rw [hDD] at hDl hD
  rw [hKK] at hKl hK2 hO
  rw [hOO] at hO hOl
  rw [hFF] at hFl hF0
  have hIo : ioB N O = true := by rw [hO]; exact sd_order K hN1 (by omega)
  obtain ⟨hF0, hF9⟩ := hF0
  have HD := Lib.hid hD
  have HK2 := Lib.hid hK2
  have HO := Lib.hid hO
  have HDl := Lib.hid hDl
  have HKl := Lib.hid hKl
  have HOl := Lib.hid hOl
  have HFl := Lib.hid hFl
  have HIo := Lib.hid hIo
  have HDx := Lib.hid hDx
  have HRow := Lib.hid hrow
  clear hK hF hmok hmk hC hD hK2 hO hDl hKl hOl hFl hIo hDx hmx hrow hDD hKK hOO hFF
  have HB_1 : Hid (Below w.heap.size w w1) := HB_0.out.trans (hb.mono HB_0.out.size)
  have HE_1 : Hid (EW 7 w1 ad) := HE_0.out.below hb (Nat.le_refl _)
  clear hb HB_0 HE_0
  have HM_1 : Hid (RdN w1 w1.heap.size icells Am m) := hM
  clear hM HR1_0
  go_wp2_with fail
  refine (C1.out _ HM_1.out HE_1.out).mono ?_
  rintro e w2 ⟨B0, b0, rfl, hV, hb⟩
  have HB_2 : Hid (Below w.heap.size w w2) := HB_1.out.trans (hb.mono HB_1.out.size)
  have HE_2 : Hid (EW 7 w2 ad) := HE_1.out.below hb (Nat.le_refl _)
  have HM_2 : Hid (RdN w2 w2.heap.size icells Am m) := HM_1.out.keep hb
  clear hb HB_1 HE_1 HM_1
  have HV0_2 : Hid (RdN w2 w2.heap.size icells B0 D) := hV
  clear hV
  go_wp2_with fail
  refine (C2.out _ HM_2.out).mono ?_
  rintro e w3 ⟨B1, b1, rfl, hV, hb⟩
  have HB_3 : Hid (Below w.heap.size w w3) := HB_2.out.trans (hb.mono HB_2.out.size)
  have HE_3 : Hid (EW 7 w3 ad) := HE_2.out.below hb (Nat.le_refl _)
  have HM_3 : Hid (RdN w3 w3.heap.size icells Am m) := HM_2.out.keep hb
  have HV0_3 : Hid (RdN w3 w3.heap.size icells B0 D) := HV0_2.out.keep hb
  clear hb HB_2 HE_2 HM_2 HV0_2
  have HV1_3 : Hid (RdN w3 w3.heap.size icells B1 D) := hV
  clear hV
  go_wp2_with fail
  refine (C3.out _ HM_3.out HE_3.out).mono ?_
  rintro e w4 ⟨B2, b2, rfl, hV, hb⟩
  have HB_4 : Hid (Below w.heap.size w w4) := HB_3.out.trans (hb.mono HB_3.out.size)
  have HE_4 : Hid (EW 7 w4 ad) := HE_3.out.below hb (Nat.le_refl _)
  have HM_4 : Hid (RdN w4 w4.heap.size icells Am m) := HM_3.out.keep hb
  have HV0_4 : Hid (RdN w4 w4.heap.size icells B0 D) := HV0_3.out.keep hb
  have HV1_4 : Hid (RdN w4 w4.heap.size icells B1 D) := HV1_3.out.keep hb
  clear hb HB_3 HE_3 HM_3 HV0_3 HV1_3
  have HV2_4 : Hid (Rd w4 w4.heap.size icells B2 K) := hV
  clear hV
  go_wp2_with fail
  refine (C4.out _ HM_4.out).mono ?_
  rintro e w5 ⟨B3, b3, rfl, hV, hb⟩
  have HB_5 : Hid (Below w.heap.size w w5) := HB_4.out.trans (hb.mono HB_4.out.size)
  have HE_5 : Hid (EW 7 w5 ad) := HE_4.out.below hb (Nat.le_refl _)
  have HM_5 : Hid (RdN w5 w5.heap.size icells Am m) := HM_4.out.keep hb
  have HV0_5 : Hid (RdN w5 w5.heap.size icells B0 D) := HV0_4.out.keep hb
  have HV1_5 : Hid (RdN w5 w5.heap.size icells B1 D) := HV1_4.out.keep hb
  have HV2_5 : Hid (Rd w5 w5.heap.size icells B2 K) := HV2_4.out.keep hb
  clear hb HB_4 HE_4 HM_4 HV0_4 HV1_4 HV2_4
  have HV3_5 : Hid (Rd w5 w5.heap.size icells B3 K) := hV
  clear hV
  go_wp2_with fail
  refine (C5.out _ HM_5.out HE_5.out).mono ?_
  rintro e w6 ⟨B4, b4, rfl, hV, hb⟩
  have HB_6 : Hid (Below w.heap.size w w6) := HB_5.out.trans (hb.mono HB_5.out.size)
  have HE_6 : Hid (EW 7 w6 ad) := HE_5.out.below hb (Nat.le_refl _)
  have HM_6 : Hid (RdN w6 w6.heap.size icells Am m) := HM_5.out.keep hb
  have HV0_6 : Hid (RdN w6 w6.heap.size icells B0 D) := HV0_5.out.keep hb
  have HV1_6 : Hid (RdN w6 w6.heap.size icells B1 D) := HV1_5.out.keep hb
  have HV2_6 : Hid (Rd w6 w6.heap.size icells B2 K) := HV2_5.out.keep hb
  have HV3_6 : Hid (Rd w6 w6.heap.size icells B3 K) := HV3_5.out.keep hb
  clear hb HB_5 HE_5 HM_5 HV0_5 HV1_5 HV2_5 HV3_5
  have HV4_6 : Hid (Rd w6 w6.heap.size icells B4 O) := hV
  clear hV
  go_wp2_with fail
  refine (C6.out _ HM_6.out).mono ?_
  rintro e w7 ⟨B5, b5, rfl, hV, hb⟩
  have HB_7 : Hid (Below w.heap.size w w7) := HB_6.out.trans (hb.mono HB_6.out.size)
  have HE_7 : Hid (EW 7 w7 ad) := HE_6.out.below hb (Nat.le_refl _)
  have HM_7 : Hid (RdN w7 w7.heap.size icells Am m) := HM_6.out.keep hb
  have HV0_7 : Hid (RdN w7 w7.heap.size icells B0 D) := HV0_6.out.keep hb
  have HV1_7 : Hid (RdN w7 w7.heap.size icells B1 D) := HV1_6.out.keep hb
  have HV2_7 : Hid (Rd w7 w7.heap.size icells B2 K) := HV2_6.out.keep hb
  have HV3_7 : Hid (Rd w7 w7.heap.size icells B3 K) := HV3_6.out.keep hb
  have HV4_7 : Hid (Rd w7 w7.heap.size icells B4 O) := HV4_6.out.keep hb
  clear hb HB_6 HE_6 HM_6 HV0_6 HV1_6 HV2_6 HV3_6 HV4_6
  have HV5_7 : Hid (Rd w7 w7.heap.size icells B5 O) := hV
  clear hV
  go_wp2_with fail
  refine (C7.out _ HM_7.out HE_7.out).mono ?_
  rintro e w8 ⟨rfl, hb⟩
  have HB_8 : Hid (Below w.heap.size w w8) := HB_7.out.trans (hb.mono HB_7.out.size)
  have HE_8 : Hid (EW 7 w8 ad) := HE_7.out.below hb (Nat.le_refl _)
  have HM_8 : Hid (RdN w8 w8.heap.size icells Am m) := HM_7.out.keep hb
  have HV0_8 : Hid (RdN w8 w8.heap.size icells B0 D) := HV0_7.out.keep hb
  have HV1_8 : Hid (RdN w8 w8.heap.size icells B1 D) := HV1_7.out.keep hb
  have HV2_8 : Hid (Rd w8 w8.heap.size icells B2 K) := HV2_7.out.keep hb
  have HV3_8 : Hid (Rd w8 w8.heap.size icells B3 K) := HV3_7.out.keep hb
  have HV4_8 : Hid (Rd w8 w8.heap.size icells B4 O) := HV4_7.out.keep hb
  have HV5_8 : Hid (Rd w8 w8.heap.size icells B5 O) := HV5_7.out.keep hb
  clear hb HB_7 HE_7 HM_7 HV0_7 HV1_7 HV2_7 HV3_7 HV4_7 HV5_7
  go_wp2_with fail
  refine (C8.out _ HM_8.out).mono ?_
  rintro e w9 ⟨rfl, hb⟩
  have HB_9 : Hid (Below w.heap.size w w9) := HB_8.out.trans (hb.mono HB_8.out.size)
  have HE_9 : Hid (EW 7 w9 ad) := HE_8.out.below hb (Nat.le_refl _)
  have HM_9 : Hid (RdN w9 w9.heap.size icells Am m) := HM_8.out.keep hb
  have HV0_9 : Hid (RdN w9 w9.heap.size icells B0 D) := HV0_8.out.keep hb
  have HV1_9 : Hid (RdN w9 w9.heap.size icells B1 D) := HV1_8.out.keep hb
  have HV2_9 : Hid (Rd w9 w9.heap.size icells B2 K) := HV2_8.out.keep hb
  have HV3_9 : Hid (Rd w9 w9.heap.size icells B3 K) := HV3_8.out.keep hb
  have HV4_9 : Hid (Rd w9 w9.heap.size icells B4 O) := HV4_8.out.keep hb
  have HV5_9 : Hid (Rd w9 w9.heap.size icells B5 O) := HV5_8.out.keep hb
  clear hb HB_8 HE_8 HM_8 HV0_8 HV1_8 HV2_8 HV3_8 HV4_8 HV5_8
  clear C1 C2 C3 C4 C5 C6 C7 C8
  have hq1 : ((D.length : Nat) : Int) = m.length := by have := HDl.out; omega
  have hq2 : ((K.length : Nat) : Int) = N := by have := HKl.out; omega
  have hq3 : ((D.length : Int) != (m.length : Int)) = false := by simp; omega
  have hq4 : ((K.length : Int) != (N : Int)) = false := by simp; omega
  have hq5 : ((0 : Int) != 0) = false := rfl
  have hq6 : (F != F) = false := by simp
  have hq7 : ¬ F < 0 := by omega
  have HQ1 := Lib.hid hq1
  have HQ2 := Lib.hid hq2
  clear hq1 hq2
  go_upto_region 12 with fail
  go_cut [173] from 94 to 173 (fun s wx => s = .bool false ∧ Below w9.heap.size w9 wx)
  case first => as_aux_lemma =>
    have HZ_9 : Hid (Below w9.heap.size w9 w9) := Below.refl _ _
    go_wp2_with fail
    refine (sameTables_any D D B0 B1 b0 b1 _ (by have := HDl.out; omega) HDx.out (by have := HDl.out; omega) HDx.out HV0_9.out HV1_9.out).mono ?_
    rintro e z1 ⟨rfl, hb⟩
    rw [decide_eq_true (rfl : D = D)]
    have HB_10 : Hid (Below w.heap.size w z1) := HB_9.out.trans (hb.mono HB_9.out.size)
    have HE_10 : Hid (EW 7 z1 ad) := HE_9.out.below hb (Nat.le_refl _)
    have HM_10 : Hid (RdN z1 z1.heap.size icells Am m) := HM_9.out.keep hb
    have HV0_10 : Hid (RdN z1 z1.heap.size icells B0 D) := HV0_9.out.keep hb
    have HV1_10 : Hid (RdN z1 z1.heap.size icells B1 D) := HV1_9.out.keep hb
    have HV2_10 : Hid (Rd z1 z1.heap.size icells B2 K) := HV2_9.out.keep hb
    have HV3_10 : Hid (Rd z1 z1.heap.size icells B3 K) := HV3_9.out.keep hb
    have HV4_10 : Hid (Rd z1 z1.heap.size icells B4 O) := HV4_9.out.keep hb
    have HV5_10 : Hid (Rd z1 z1.heap.size icells B5 O) := HV5_9.out.keep hb
    have HZ_10 : Hid (Below w9.heap.size w9 z1) := HZ_9.out.trans (hb.mono HZ_9.out.size)
    clear hb HB_9 HE_9 HM_9 HV0_9 HV1_9 HV2_9 HV3_9 HV4_9 HV5_9 HZ_9
    go_wp2_with fail
    refine (sameNumbers_any K K B2 B3 b2 b3 _ (by have := HKl.out; omega) (by have := HKl.out; omega) HV2_10.out HV3_10.out).mono ?_
    rintro e z2 ⟨rfl, hb⟩
    rw [decide_eq_true (rfl : K = K)]
    have HB_11 : Hid (Below w.heap.size w z2) := HB_10.out.trans (hb.mono HB_10.out.size)
    have HE_11 : Hid (EW 7 z2 ad) := HE_10.out.below hb (Nat.le_refl _)
    have HM_11 : Hid (RdN z2 z2.heap.size icells Am m) := HM_10.out.keep hb
    have HV0_11 : Hid (RdN z2 z2.heap.size icells B0 D) := HV0_10.out.keep hb
    have HV1_11 : Hid (RdN z2 z2.heap.size icells B1 D) := HV1_10.out.keep hb
    have HV2_11 : Hid (Rd z2 z2.heap.size icells B2 K) := HV2_10.out.keep hb
    have HV3_11 : Hid (Rd z2 z2.heap.size icells B3 K) := HV3_10.out.keep hb
    have HV4_11 : Hid (Rd z2 z2.heap.size icells B4 O) := HV4_10.out.keep hb
    have HV5_11 : Hid (Rd z2 z2.heap.size icells B5 O) := HV5_10.out.keep hb
    have HZ_11 : Hid (Below w9.heap.size w9 z2) := HZ_10.out.trans (hb.mono HZ_10.out.size)
    clear hb HB_10 HE_10 HM_10 HV0_10 HV1_10 HV2_10 HV3_10 HV4_10 HV5_10 HZ_10
    go_wp2_with fail
    refine (sameNumbers_any O O B4 B5 b4 b5 _ (by have := HOl.out; omega) (by have := HOl.out; omega) HV4_11.out HV5_11.out).mono ?_
    rintro e z3 ⟨rfl, hb⟩
    rw [decide_eq_true (rfl : O = O)]
    have HB_12 : Hid (Below w.heap.size w z3) := HB_11.out.trans (hb.mono HB_11.out.size)
    have HE_12 : Hid (EW 7 z3 ad) := HE_11.out.below hb (Nat.le_refl _)
    have HM_12 : Hid (RdN z3 z3.heap.size icells Am m) := HM_11.out.keep hb
    have HV0_12 : Hid (RdN z3 z3.heap.size icells B0 D) := HV0_11.out.keep hb
    have HV1_12 : Hid (RdN z3 z3.heap.size icells B1 D) := HV1_11.out.keep hb
    have HV2_12 : Hid (Rd z3 z3.heap.size icells B2 K) := HV2_11.out.keep hb
    have HV3_12 : Hid (Rd z3 z3.heap.size icells B3 K) := HV3_11.out.keep hb
    have HV4_12 : Hid (Rd z3 z3.heap.size icells B4 O) := HV4_11.out.keep hb
    have HV5_12 : Hid (Rd z3 z3.heap.size icells B5 O) := HV5_11.out.keep hb
    have HZ_12 : Hid (Below w9.heap.size w9 z3) := HZ_11.out.trans (hb.mono HZ_11.out.size)
    clear hb HB_11 HE_11 HM_11 HV0_11 HV1_11 HV2_11 HV3_11 HV4_11 HV5_11 HZ_11
    go_wp2_with fail
    refine (implIsOrder_any N O B5 b5 ad _ (by have := HOl.out; omega) HV5_12.out (HE_12.out.cell 0 (by omega))).mono ?_
    rintro e z4 ⟨rfl, hb⟩
    rw [HIo.out]
    have HB_13 : Hid (Below w.heap.size w z4) := HB_12.out.trans (hb.mono HB_12.out.size)
    have HE_13 : Hid (EW 7 z4 ad) := HE_12.out.below hb (Nat.le_refl _)
    have HM_13 : Hid (RdN z4 z4.heap.size icells Am m) := HM_12.out.keep hb
    have HV0_13 : Hid (RdN z4 z4.heap.size icells B0 D) := HV0_12.out.keep hb
    have HV1_13 : Hid (RdN z4 z4.heap.size icells B1 D) := HV1_12.out.keep hb
    have HV2_13 : Hid (Rd z4 z4.heap.size icells B2 K) := HV2_12.out.keep hb
    have HV3_13 : Hid (Rd z4 z4.heap.size icells B3 K) := HV3_12.out.keep hb
    have HV4_13 : Hid (Rd z4 z4.heap.size icells B4 O) := HV4_12.out.keep hb
    have HV5_13 : Hid (Rd z4 z4.heap.size icells B5 O) := HV5_12.out.keep hb
    have HZ_13 : Hid (Below w9.heap.size w9 z4) := HZ_12.out.trans (hb.mono HZ_12.out.size)
    clear hb HB_12 HE_12 HM_12 HV0_12 HV1_12 HV2_12 HV3_12 HV4_12 HV5_12 HZ_12
    go_wp2_with fail
    go_meet
    exact ⟨by first | rfl | simp [hq7], HZ_13.out⟩
  clear hq3 hq4 hq5 hq6 hq7
  obtain ⟨rfl, hb⟩ := hcut
  obtain ⟨z4, hz4⟩ : ∃ v, v = wc := ⟨_, rfl⟩
  subst hz4
  have HB_10 : Hid (Below w.heap.size w z4) := HB_9.out.trans (hb.mono HB_9.out.size)
  have HE_10 : Hid (EW 7 z4 ad) := HE_9.out.below hb (Nat.le_refl _)
  have HM_10 : Hid (RdN z4 z4.heap.size icells Am m) := HM_9.out.keep hb
  have HV0_10 : Hid (RdN z4 z4.heap.size icells B0 D) := HV0_9.out.keep hb
  have HV1_10 : Hid (RdN z4 z4.heap.size icells B1 D) := HV1_9.out.keep hb
  have HV2_10 : Hid (Rd z4 z4.heap.size icells B2 K) := HV2_9.out.keep hb
  have HV3_10 : Hid (Rd z4 z4.heap.size icells B3 K) := HV3_9.out.keep hb
  have HV4_10 : Hid (Rd z4 z4.heap.size icells B4 O) := HV4_9.out.keep hb
  have HV5_10 : Hid (Rd z4 z4.heap.size icells B5 O) := HV5_9.out.keep hb
  clear hb HB_9 HE_9 HM_9 HV0_9 HV1_9 HV2_9 HV3_9 HV4_9 HV5_9
  clear HV0_10
  clear HV2_10
  clear HV4_10
  obtain ⟨i0, hi, hz0, hz1, hz2⟩ := info_parts Tryd.info64
  go_wp2_with (refine wpList_make_full _ rfl (.tmp 174) (.tmp 174) 30 rfl z4.heap.size 2 i0 _ 1 Tryd.underlying30 hi hz0 hz1 .i64 .i64 _ _ N rfl rfl rfl rfl (by rw [hz2]; omega) (by unfold maxLen; omega) (Nat.le_refl _) ?_; intro wm hown hg)
  have hR0 : Rs wm z4.heap.size 2 icells (List.replicate N 0) := by
    have := blk_of_make hown
    rw [made_rows icells_length 0 (Value.int IntKind.i64 0).cells rfl (by omega)] at this
    exact this
  have hb : Below z4.heap.size z4 wm := (Below.refl _ z4).grown hg (Nat.le_refl _) (fun _ h => by cases h)
  rw [← rsL_zero N m] at hR0
  have HR0 := Lib.hid hR0
  have HBm := Lib.hid hb
  have HZ4 : Hid (z4.heap.size < wm.heap.size) := HR0.out.lt
  clear hR0 hown hg hi hz0 hz1 hz2 hb
  have HRb : Hid (∀ (i t : Nat), t ≤ m.length → 0 ≤ rsTo m i t ∧ rsTo m i t ≤ 17 * (t : Int)) := fun i t => rsTo_b (fun xs h => by have := HRow.out xs h; omega) i t
  obtain ⟨Pn, hPn⟩ : ∃ P : Int, (N : Int) * ((N : Int) + 1) = P := ⟨_, rfl⟩
  have hPb : 2 ≤ Pn ∧ Pn ≤ 42 := by
    rw [← hPn]
    obtain rfl | rfl | rfl | rfl | rfl | rfl : N = 1 ∨ N = 2 ∨ N = 3 ∨ N = 4 ∨ N = 5 ∨ N = 6 := by omega
    all_goals decide
  obtain ⟨hP2, hP42⟩ := hPb
  have HPn := Lib.hid hPn
  clear hPn
  go_wp2_with fail
  go_loopw [24] (fun i wr => ∃ (t : Nat), t ≤ m.length ∧ i = .int .i64 t ∧ Rs wr z4.heap.size 2 icells (rsL N m t) ∧ Below z4.heap.size z4 wr)
    (fun i _ => m.length - (intOf i).toNat)
  case atStart => exact ⟨0, by omega, rfl, HR0.out, HBm.out⟩
  case round => as_aux_lemma =>
    clear HR0 HBm HZ4
    obtain ⟨t, ht, rfl, hS, hB⟩ := hrel
    obtain ⟨wa, rfl⟩ : ∃ u, u = wr := ⟨_, rfl⟩
    have HS := Lib.hid hS
    have HB := Lib.hid hB
    clear hS hB
    have ht0 : (0 : Int) ≤ (t : Int) := Int.natCast_nonneg _
    have HQd : Hid (D.length = m.length) := by have := HQ1.out; show _ = _; omega
    by_cases hlt : t < m.length
    · as_aux_lemma =>
      obtain ⟨ys, hys⟩ : ∃ x, m[t]? = some x := ⟨_, List.getElem?_eq_getElem hlt⟩
      have ht8 : (t : Int) < m.length := by omega
      have htD : (t : Int) < D.length := by have := HQd.out; omega
      have HXs := Lib.hid hys
      have HXn : Hid (ys.length = N) := HRow.out ys (List.mem_of_getElem? hys)
      have HDt : Hid (D[t]? = some (rkL ys)) := by
        show _ = _
        rw [HD.out]; exact rkLs_all_at hys
      have HS0 : Hid (Rs wa z4.heap.size 2 icells (rsM N m t 0)) := by show Rs _ _ _ _ _; rw [rsM_zero]; exact HS.out
      clear hys
      go_wp2_with fail
      go_loopw [25, 26] (fun s j wr2 => ∃ (q : Nat), q ≤ N ∧ j = .int .i64 q ∧ s = .int .i64 (fkS (fun i => (rkL ys).getD i 0) q) ∧ Rs wr2 z4.heap.size 2 icells (rsM N m t q) ∧ Below z4.heap.size z4 wr2)
        (fun _ j _ => N - (intOf j).toNat)
      case atStart => exact ⟨0, by omega, rfl, rfl, HS0.out, HB.out⟩
      case round => as_aux_lemma =>
        clear HS0 HS HB
        obtain ⟨q, hq, rfl, rfl, hS, hB⟩ := hrel
        obtain ⟨wb, rfl⟩ : ∃ u, u = wr := ⟨_, rfl⟩
        have HS := Lib.hid hS
        have HB := Lib.hid hB
        clear hS hB
        have hq0 : (0 : Int) ≤ (q : Int) := Int.natCast_nonneg _
        obtain ⟨sv, hsv⟩ : ∃ v, fkS (fun i => (rkL ys).getD i 0) q = v := ⟨_, rfl⟩
        have HSv := Lib.hid hsv
        have hsb : 0 ≤ sv ∧ sv ≤ 200 := by
          rw [← hsv]
          have h1 := fk_sN_le (n := q) (f := fun _ => 0) (g := fun i => (rkL ys).getD i 0) (fun i hi => by have := rk_bnd (xs := ys) (i := i) (by rw [HXn.out]; omega); show 0 ≤ (rkL ys).getD i 0; omega)
          have h2 := fk_sN_le (n := q) (f := fun i => (rkL ys).getD i 0) (g := fun _ => 12) (fun i hi => by have := rk_bnd (xs := ys) (i := i) (by rw [HXn.out]; omega); have := HXn.out; show (rkL ys).getD i 0 ≤ 12; omega)
          rw [fk_sN_const] at h1 h2
          omega
        obtain ⟨hs0, hs9⟩ := hsb
        rw [hsv]
        clear hsv
        by_cases hlt2 : q < N
        · as_aux_lemma =>
          have hq8 : (q : Int) < N := by omega
          obtain ⟨x, hx⟩ : ∃ x, ys[q]? = some x := ⟨_, List.getElem?_eq_getElem (by rw [HXn.out]; exact hlt2)⟩
          have HSu := Lib.hid (rsTo_succ HXs.out hx)
          have hat := rkL_at hx
          have hgd : ys.getD q 0 = x := by rw [List.getD_eq_getElem?_getD, hx]; rfl
          have hrd : (rkL ys).getD q 0 = rkTo ys x ys.length := by rw [List.getD_eq_getElem?_getD, hat]; rfl
          have hrb := rk_bnd (xs := ys) (i := q) (by rw [HXn.out]; exact hlt2)
          have hxl := HXn.out
          rw [hrd] at hrb
          have hsb := HRb.out q t (by omega)
          obtain ⟨bD, oD, aD, cD, hBe, hbD, hcD, hrD⟩ := (HV1_10.out.below (Nat.le_refl _) HB.out).at_ HDt.out
          subst hBe
          obtain ⟨b3, o3, rfl, hb3, hrow⟩ := hrD.at_ icells_length hat
          have e1 := rowI hrow
          have e2 : wb.cell? ⟨z4.heap.size, q, none⟩ = some (.int .i64 (rsTo m q t)) := by
            have h9 : (rsM N m t q)[q]? = some (rsTo m q t) := by rw [rsM_at hlt2, if_neg (by omega)]
            have := rowI (range_row icells_length (Rs.range HS.out) h9)
            simpa using this
          have e3 := Blk.frozen HS.out q
          have hrl : (rkL ys).length = N := by rw [rkL_len, HXn.out]
          obtain ⟨s, hs⟩ : ∃ s, rsTo m q t = s := ⟨_, rfl⟩
          obtain ⟨rv, hr⟩ : ∃ r, rkTo ys x ys.length = r := ⟨_, rfl⟩
          rw [hr] at e1 HSu hrd hrb
          rw [hrl] at hcD
          rw [hs] at e2 hsb HSu
          have u1 : IntKind.i64.wrap (s + rv) = s + rv := IntWalk.i64_in _ ⟨by omega, by omega⟩
          have u2 : wrap64 (s + rv) = s + rv := IntWalk.wrap64_in _ ⟨by omega, by omega⟩
          have HSn : Hid (fkS (fun i => (rkL ys).getD i 0) (q + 1) = sv + rv) := by show _ = _; rw [fkS, HSv.out, hrd]
          have HNx : Hid (Rs (wb.setCell ⟨z4.heap.size, q, none⟩ (.int .i64 (s + rv))) z4.heap.size 2 icells (rsM N m t (q + 1))) := by
            show Rs _ _ _ _ _
            rw [← rsM_step hlt2, HSu.out]
            exact rs_setI HS.out (by rw [rsM_len]; exact hlt2) _
          have HNb : Hid (Below z4.heap.size z4 (wb.setCell ⟨z4.heap.size, q, none⟩ (.int .i64 (s + rv)))) := HB.out.setCell (p := ⟨z4.heap.size, q, none⟩) (Nat.le_refl _) _
          have HX := Lib.hid hx
          have HGd := Lib.hid hgd
          have HRd := Lib.hid hrd
          have HRb2 := Lib.hid hrb
          have HRv := Lib.hid hr
          obtain ⟨hv0, hv9⟩ : 2 ≤ rv ∧ rv ≤ 12 := by omega
          clear hx hat hrow hrD hs hr hrl hsb hgd hrd hxl hrb
          go_wp2_with fail
          go_region
          go_wp2_with fail
          clear e1 e2 e3 u1 u2 hcD
          go_loopw [27] (fun k wr3 => ∃ (p : Nat), p ≤ N ∧ k = .int .i64 p ∧ Rs wr3 z4.heap.size 2 icells (rsM N m t (q + 1)) ∧ Below z4.heap.size z4 wr3)
            (fun k _ => N - (intOf k).toNat)
          case atStart => exact ⟨0, by omega, rfl, by first | exact HNx.out | exact HNx.out.drew, by first | exact HNb.out | exact HNb.out.drew⟩
          case round =>
            clear HNx HNb HS HB
            obtain ⟨p, hp, rfl, hS, hB⟩ := hrel
            obtain ⟨wc, rfl⟩ : ∃ u, u = wr := ⟨_, rfl⟩
            have HS := Lib.hid hS
            have HB := Lib.hid hB
            clear hS hB
            have hp0 : (0 : Int) ≤ (p : Int) := Int.natCast_nonneg _
            by_cases hlt3 : p < N
            · as_aux_lemma =>
              have hp8 : (p : Int) < N := by omega
              have hqy : (q : Int) < N := by omega
              obtain ⟨y, hy⟩ : ∃ x, ys[p]? = some x := ⟨_, List.getElem?_eq_getElem (by rw [HXn.out]; exact hlt3)⟩
              have hgy : ys.getD p 0 = y := by rw [List.getD_eq_getElem?_getD, hy]; rfl
              have hay : (rkL ys).getD p 0 = rkTo ys y ys.length := by rw [List.getD_eq_getElem?_getD, rkL_at hy]; rfl
              have htwo := rk_two (xs := ys) (i := q) (k := p) (by rw [HXn.out]; exact hlt2) (by rw [HXn.out]; exact hlt3)
              rw [HGd.out, hgy, HRd.out, hay] at htwo
              obtain ⟨bM, oM, aM, cM, hMe, hbM, hcM, hrM⟩ := (HM_10.out.below (Nat.le_refl _) HB.out).at_ HXs.out
              subst hMe
              obtain ⟨b4, o4, rfl, hb4, hrow4⟩ := hrM.at_ icells_length HX.out
              obtain ⟨b5, o5, eA, hb5, hrow5⟩ := hrM.at_ icells_length hy
              obtain ⟨rfl, rfl⟩ : b4 = b5 ∧ o4 = o5 := by simpa using eA
              obtain ⟨b6, o6, a6, c6, hDe, hb6, hc6, hr6⟩ := (HV1_10.out.below (Nat.le_refl _) HB.out).at_ HDt.out
              cases hDe
              obtain ⟨b7, o7, hA7, hb7, hrow7⟩ := hr6.at_ icells_length (rkL_at HX.out)
              subst hA7
              obtain ⟨b8, o8, eB, hb8, hrow8⟩ := hr6.at_ icells_length (rkL_at hy)
              obtain ⟨rfl, rfl⟩ : b7 = b8 ∧ o7 = o8 := by simpa using eB
              have e1 := rowI hrow4
              have e2 := rowI hrow5
              have e3 := rowI hrow7
              have e4 := rowI hrow8
              have hxl := HXn.out
              rw [rkL_len, hxl] at hc6
              rw [hxl] at hcM
              obtain ⟨rq, hrq⟩ : ∃ r, rv = r := ⟨_, rfl⟩
              obtain ⟨rp, hrp⟩ : ∃ r, rkTo ys y ys.length = r := ⟨_, rfl⟩
              have hrb := HRb2.out
              rw [HRv.out, hrq] at e3
              rw [hrq] at htwo
              rw [hrp] at e4 htwo
              rw [hrq] at hrb
              have hsz := HB.out.size
              have L1 : Hid (∀ w', Below wc.heap.size wc w' → w'.cell? ⟨bM, oM + t, none⟩ = some (.slice (some ⟨b4, o4, none⟩) N cM) ∧ w'.cell? ⟨b4, o4 + q, none⟩ = some (.int .i64 x) ∧ w'.cell? ⟨b4, o4 + p, none⟩ = some (.int .i64 y)) := fun w' h => ⟨(h.cell (p := ⟨bM, oM + t, none⟩) (by show bM < _; omega)).trans hcM, (h.cell (p := ⟨b4, o4 + q, none⟩) (by show b4 < _; omega)).trans e1, (h.cell (p := ⟨b4, o4 + p, none⟩) (by show b4 < _; omega)).trans e2⟩
              have L2 : Hid (∀ w', Below wc.heap.size wc w' → w'.cell? ⟨bD, oD + t, none⟩ = some (.slice (some ⟨b7, o7, none⟩) N c6) ∧ w'.cell? ⟨b7, o7 + q, none⟩ = some (.int .i64 rq) ∧ w'.cell? ⟨b7, o7 + p, none⟩ = some (.int .i64 rp)) := fun w' h => ⟨(h.cell (p := ⟨bD, oD + t, none⟩) (by show bD < _; omega)).trans hc6, (h.cell (p := ⟨b7, o7 + q, none⟩) (by show b7 < _; omega)).trans e3, (h.cell (p := ⟨b7, o7 + p, none⟩) (by show b7 < _; omega)).trans e4⟩
              obtain ⟨hr2, hr12⟩ : 2 ≤ rq ∧ rq ≤ 2 * (N : Int) := by rw [hxl] at hrb; exact hrb
              have hn2a : ¬ rq < 2 := by omega
              have hn2b : ¬ 2 * (N : Int) < rq := by omega
              have HTwo := Lib.hid htwo
              clear hy hgy hay htwo hcM hrM hrow4 hrow5 eA hc6 hr6 hrow7 hrow8 eB e1 e2 e3 e4 hrq hrp hrb hxl hsz
              have h2N : IntKind.i64.wrap (2 * (N : Int)) = 2 * (N : Int) := IntWalk.i64_in _ ⟨by omega, by omega⟩
              have h2M : wrap64 (2 * (N : Int)) = 2 * (N : Int) := IntWalk.wrap64_in _ ⟨by omega, by omega⟩
              by_cases hxy : y < x
              · have hrr : rq < rp := HTwo.out.1 hxy
                go_wp2_with fail
                refine wp_region_held_drew (S := fun w' => Below wc.heap.size wc w') (by kernel_rfl) (Below.refl _ _).drew (fun hHeld => ?_)
                refine wpAnyH_take (i := 0) (v := .slice (some ⟨bM, oM, none⟩) m.length cm) rfl (by kernel_rfl) (by kernel_rfl) (by kernel_rfl) (fun _ _ _ h => h) (Or.inl ⟨by rfl, fun w' h => by (go_simp <;> omega)⟩) (by assumption) ?_
                try simp only [Act.put, List.getElem_toArray, List.getElem_cons_zero, List.getElem_cons_succ, List.setIfInBounds_toArray, List.set_cons_zero, List.set_cons_succ]
                refine wpAnyH_take (i := 1) (v := .int .i64 t) rfl (by kernel_rfl) (by kernel_rfl) (by kernel_rfl) (fun _ _ _ h => h) (Or.inl ⟨by rfl, fun w' h => by (go_simp <;> omega)⟩) (by assumption) ?_
                try simp only [Act.put, List.getElem_toArray, List.getElem_cons_zero, List.getElem_cons_succ, List.setIfInBounds_toArray, List.set_cons_zero, List.set_cons_succ]
                refine wpAnyH_take (i := 2) (v := .pointer (some ⟨bM, oM + t, none⟩)) rfl (by kernel_rfl) (by kernel_rfl) (by kernel_rfl) (fun _ _ _ h => h) (Or.inl ⟨by rfl, fun w' h => by (go_simp <;> omega)⟩) (by assumption) ?_
                try simp only [Act.put, List.getElem_toArray, List.getElem_cons_zero, List.getElem_cons_succ, List.setIfInBounds_toArray, List.set_cons_zero, List.set_cons_succ]
                refine wpAnyH_take (i := 3) (v := .slice (some ⟨b4, o4, none⟩) N cM) rfl (by kernel_rfl) (by kernel_rfl) (by kernel_rfl) (fun _ _ _ h => h) (Or.inl ⟨by rfl, fun w' h => by (have g0 := (L1.out w' h).1; (go_simp <;> omega))⟩) (by assumption) ?_
                try simp only [Act.put, List.getElem_toArray, List.getElem_cons_zero, List.getElem_cons_succ, List.setIfInBounds_toArray, List.set_cons_zero, List.set_cons_succ]
                refine wpAnyH_take (i := 4) (v := .int .i64 q) rfl (by kernel_rfl) (by kernel_rfl) (by kernel_rfl) (fun _ _ _ h => h) (Or.inl ⟨by rfl, fun w' h => by (go_simp <;> omega)⟩) (by assumption) ?_
                try simp only [Act.put, List.getElem_toArray, List.getElem_cons_zero, List.getElem_cons_succ, List.setIfInBounds_toArray, List.set_cons_zero, List.set_cons_succ]
                refine wpAnyH_take (i := 5) (v := .pointer (some ⟨b4, o4 + q, none⟩)) rfl (by kernel_rfl) (by kernel_rfl) (by kernel_rfl) (fun _ _ _ h => h) (Or.inl ⟨by rfl, fun w' h => by (go_simp <;> omega)⟩) (by assumption) ?_
                try simp only [Act.put, List.getElem_toArray, List.getElem_cons_zero, List.getElem_cons_succ, List.setIfInBounds_toArray, List.set_cons_zero, List.set_cons_succ]
                refine wpAnyH_take (i := 6) (v := .int .i64 x) rfl (by kernel_rfl) (by kernel_rfl) (by kernel_rfl) (fun _ _ _ h => h) (Or.inl ⟨by rfl, fun w' h => by (have g0 := (L1.out w' h).2.1; (go_simp <;> omega))⟩) (by assumption) ?_
                try simp only [Act.put, List.getElem_toArray, List.getElem_cons_zero, List.getElem_cons_succ, List.setIfInBounds_toArray, List.set_cons_zero, List.set_cons_succ]
                refine wpAnyH_take (i := 7) (v := .slice (some ⟨bM, oM, none⟩) m.length cm) rfl (by kernel_rfl) (by kernel_rfl) (by kernel_rfl) (fun _ _ _ h => h) (Or.inl ⟨by rfl, fun w' h => by (go_simp <;> omega)⟩) (by assumption) ?_
                try simp only [Act.put, List.getElem_toArray, List.getElem_cons_zero, List.getElem_cons_succ, List.setIfInBounds_toArray, List.set_cons_zero, List.set_cons_succ]
                refine wpAnyH_take (i := 8) (v := .int .i64 t) rfl (by kernel_rfl) (by kernel_rfl) (by kernel_rfl) (fun _ _ _ h => h) (Or.inl ⟨by rfl, fun w' h => by (go_simp <;> omega)⟩) (by assumption) ?_
                try simp only [Act.put, List.getElem_toArray, List.getElem_cons_zero, List.getElem_cons_succ, List.setIfInBounds_toArray, List.set_cons_zero, List.set_cons_succ]
                refine wpAnyH_take (i := 9) (v := .pointer (some ⟨bM, oM + t, none⟩)) rfl (by kernel_rfl) (by kernel_rfl) (by kernel_rfl) (fun _ _ _ h => h) (Or.inl ⟨by rfl, fun w' h => by (go_simp <;> omega)⟩) (by assumption) ?_
                try simp only [Act.put, List.getElem_toArray, List.getElem_cons_zero, List.getElem_cons_succ, List.setIfInBounds_toArray, List.set_cons_zero, List.set_cons_succ]
                refine wpAnyH_take (i := 10) (v := .slice (some ⟨b4, o4, none⟩) N cM) rfl (by kernel_rfl) (by kernel_rfl) (by kernel_rfl) (fun _ _ _ h => h) (Or.inl ⟨by rfl, fun w' h => by (have g0 := (L1.out w' h).1; (go_simp <;> omega))⟩) (by assumption) ?_
                try simp only [Act.put, List.getElem_toArray, List.getElem_cons_zero, List.getElem_cons_succ, List.setIfInBounds_toArray, List.set_cons_zero, List.set_cons_succ]
                refine wpAnyH_take (i := 11) (v := .int .i64 p) rfl (by kernel_rfl) (by kernel_rfl) (by kernel_rfl) (fun _ _ _ h => h) (Or.inl ⟨by rfl, fun w' h => by (go_simp <;> omega)⟩) (by assumption) ?_
                try simp only [Act.put, List.getElem_toArray, List.getElem_cons_zero, List.getElem_cons_succ, List.setIfInBounds_toArray, List.set_cons_zero, List.set_cons_succ]
                refine wpAnyH_take (i := 12) (v := .pointer (some ⟨b4, o4 + p, none⟩)) rfl (by kernel_rfl) (by kernel_rfl) (by kernel_rfl) (fun _ _ _ h => h) (Or.inl ⟨by rfl, fun w' h => by (go_simp <;> omega)⟩) (by assumption) ?_
                try simp only [Act.put, List.getElem_toArray, List.getElem_cons_zero, List.getElem_cons_succ, List.setIfInBounds_toArray, List.set_cons_zero, List.set_cons_succ]
                refine wpAnyH_take (i := 13) (v := .int .i64 y) rfl (by kernel_rfl) (by kernel_rfl) (by kernel_rfl) (fun _ _ _ h => h) (Or.inl ⟨by rfl, fun w' h => by (have g0 := (L1.out w' h).2.2; (go_simp <;> omega))⟩) (by assumption) ?_
                try simp only [Act.put, List.getElem_toArray, List.getElem_cons_zero, List.getElem_cons_succ, List.setIfInBounds_toArray, List.set_cons_zero, List.set_cons_succ]
                refine wpAnyH_take (i := 14) (v := .bool true) rfl (by kernel_rfl) (by kernel_rfl) (by kernel_rfl) (fun _ _ _ h => h) (Or.inl ⟨by rfl, fun w' h => by (go_simp <;> omega)⟩) (by assumption) ?_
                try simp only [Act.put, List.getElem_toArray, List.getElem_cons_zero, List.getElem_cons_succ, List.setIfInBounds_toArray, List.set_cons_zero, List.set_cons_succ]
                refine wpAnyH_take (i := 15) (v := .slice (some ⟨bD, oD, none⟩) D.length b1) rfl (by kernel_rfl) (by kernel_rfl) (by kernel_rfl) (fun _ _ _ h => h) (Or.inl ⟨by rfl, fun w' h => by (go_simp <;> omega)⟩) (by assumption) ?_
                try simp only [Act.put, List.getElem_toArray, List.getElem_cons_zero, List.getElem_cons_succ, List.setIfInBounds_toArray, List.set_cons_zero, List.set_cons_succ]
                refine wpAnyH_take (i := 16) (v := .int .i64 t) rfl (by kernel_rfl) (by kernel_rfl) (by kernel_rfl) (fun _ _ _ h => h) (Or.inl ⟨by rfl, fun w' h => by (go_simp <;> omega)⟩) (by assumption) ?_
                try simp only [Act.put, List.getElem_toArray, List.getElem_cons_zero, List.getElem_cons_succ, List.setIfInBounds_toArray, List.set_cons_zero, List.set_cons_succ]
                refine wpAnyH_take (i := 17) (v := .pointer (some ⟨bD, oD + t, none⟩)) rfl (by kernel_rfl) (by kernel_rfl) (by kernel_rfl) (fun _ _ _ h => h) (Or.inl ⟨by rfl, fun w' h => by (go_simp <;> omega)⟩) (by assumption) ?_
                try simp only [Act.put, List.getElem_toArray, List.getElem_cons_zero, List.getElem_cons_succ, List.setIfInBounds_toArray, List.set_cons_zero, List.set_cons_succ]
                refine wpAnyH_take (i := 18) (v := .slice (some ⟨b7, o7, none⟩) N c6) rfl (by kernel_rfl) (by kernel_rfl) (by kernel_rfl) (fun _ _ _ h => h) (Or.inl ⟨by rfl, fun w' h => by (have g0 := (L2.out w' h).1; (go_simp <;> omega))⟩) (by assumption) ?_
                try simp only [Act.put, List.getElem_toArray, List.getElem_cons_zero, List.getElem_cons_succ, List.setIfInBounds_toArray, List.set_cons_zero, List.set_cons_succ]
                refine wpAnyH_take (i := 19) (v := .int .i64 q) rfl (by kernel_rfl) (by kernel_rfl) (by kernel_rfl) (fun _ _ _ h => h) (Or.inl ⟨by rfl, fun w' h => by (go_simp <;> omega)⟩) (by assumption) ?_
                try simp only [Act.put, List.getElem_toArray, List.getElem_cons_zero, List.getElem_cons_succ, List.setIfInBounds_toArray, List.set_cons_zero, List.set_cons_succ]
                refine wpAnyH_take (i := 20) (v := .pointer (some ⟨b7, o7 + q, none⟩)) rfl (by kernel_rfl) (by kernel_rfl) (by kernel_rfl) (fun _ _ _ h => h) (Or.inl ⟨by rfl, fun w' h => by (go_simp <;> omega)⟩) (by assumption) ?_
                try simp only [Act.put, List.getElem_toArray, List.getElem_cons_zero, List.getElem_cons_succ, List.setIfInBounds_toArray, List.set_cons_zero, List.set_cons_succ]
                refine wpAnyH_take (i := 21) (v := .int .i64 rq) rfl (by kernel_rfl) (by kernel_rfl) (by kernel_rfl) (fun _ _ _ h => h) (Or.inl ⟨by rfl, fun w' h => by (have g0 := (L2.out w' h).2.1; (go_simp <;> omega))⟩) (by assumption) ?_
                try simp only [Act.put, List.getElem_toArray, List.getElem_cons_zero, List.getElem_cons_succ, List.setIfInBounds_toArray, List.set_cons_zero, List.set_cons_succ]
                refine wpAnyH_take (i := 22) (v := .slice (some ⟨bD, oD, none⟩) D.length b1) rfl (by kernel_rfl) (by kernel_rfl) (by kernel_rfl) (fun _ _ _ h => h) (Or.inl ⟨by rfl, fun w' h => by (go_simp <;> omega)⟩) (by assumption) ?_
                try simp only [Act.put, List.getElem_toArray, List.getElem_cons_zero, List.getElem_cons_succ, List.setIfInBounds_toArray, List.set_cons_zero, List.set_cons_succ]
                refine wpAnyH_take (i := 23) (v := .int .i64 t) rfl (by kernel_rfl) (by kernel_rfl) (by kernel_rfl) (fun _ _ _ h => h) (Or.inl ⟨by rfl, fun w' h => by (go_simp <;> omega)⟩) (by assumption) ?_
                try simp only [Act.put, List.getElem_toArray, List.getElem_cons_zero, List.getElem_cons_succ, List.setIfInBounds_toArray, List.set_cons_zero, List.set_cons_succ]
                refine wpAnyH_take (i := 24) (v := .pointer (some ⟨bD, oD + t, none⟩)) rfl (by kernel_rfl) (by kernel_rfl) (by kernel_rfl) (fun _ _ _ h => h) (Or.inl ⟨by rfl, fun w' h => by (go_simp <;> omega)⟩) (by assumption) ?_
                try simp only [Act.put, List.getElem_toArray, List.getElem_cons_zero, List.getElem_cons_succ, List.setIfInBounds_toArray, List.set_cons_zero, List.set_cons_succ]
                refine wpAnyH_take (i := 25) (v := .slice (some ⟨b7, o7, none⟩) N c6) rfl (by kernel_rfl) (by kernel_rfl) (by kernel_rfl) (fun _ _ _ h => h) (Or.inl ⟨by rfl, fun w' h => by (have g0 := (L2.out w' h).1; (go_simp <;> omega))⟩) (by assumption) ?_
                try simp only [Act.put, List.getElem_toArray, List.getElem_cons_zero, List.getElem_cons_succ, List.setIfInBounds_toArray, List.set_cons_zero, List.set_cons_succ]
                refine wpAnyH_take (i := 26) (v := .int .i64 p) rfl (by kernel_rfl) (by kernel_rfl) (by kernel_rfl) (fun _ _ _ h => h) (Or.inl ⟨by rfl, fun w' h => by (go_simp <;> omega)⟩) (by assumption) ?_
                try simp only [Act.put, List.getElem_toArray, List.getElem_cons_zero, List.getElem_cons_succ, List.setIfInBounds_toArray, List.set_cons_zero, List.set_cons_succ]
                refine wpAnyH_take (i := 27) (v := .pointer (some ⟨b7, o7 + p, none⟩)) rfl (by kernel_rfl) (by kernel_rfl) (by kernel_rfl) (fun _ _ _ h => h) (Or.inl ⟨by rfl, fun w' h => by (go_simp <;> omega)⟩) (by assumption) ?_
                try simp only [Act.put, List.getElem_toArray, List.getElem_cons_zero, List.getElem_cons_succ, List.setIfInBounds_toArray, List.set_cons_zero, List.set_cons_succ]
                refine wpAnyH_take (i := 28) (v := .int .i64 rp) rfl (by kernel_rfl) (by kernel_rfl) (by kernel_rfl) (fun _ _ _ h => h) (Or.inl ⟨by rfl, fun w' h => by (have g0 := (L2.out w' h).2.2; (go_simp <;> omega))⟩) (by assumption) ?_
                try simp only [Act.put, List.getElem_toArray, List.getElem_cons_zero, List.getElem_cons_succ, List.setIfInBounds_toArray, List.set_cons_zero, List.set_cons_succ]
                refine wpAnyH_take (i := 29) (v := .bool true) rfl (by kernel_rfl) (by kernel_rfl) (by kernel_rfl) (fun _ _ _ h => h) (Or.inl ⟨by rfl, fun w' h => by (go_simp <;> omega)⟩) (by assumption) ?_
                try simp only [Act.put, List.getElem_toArray, List.getElem_cons_zero, List.getElem_cons_succ, List.setIfInBounds_toArray, List.set_cons_zero, List.set_cons_succ]
                refine wpAnyH_take (i := 30) (v := .bool false) rfl (by kernel_rfl) (by kernel_rfl) (by kernel_rfl) (fun _ _ _ h => h) (Or.inl ⟨by rfl, fun w' h => by (go_simp <;> omega)⟩) (by assumption) ?_
                try simp only [Act.put, List.getElem_toArray, List.getElem_cons_zero, List.getElem_cons_succ, List.setIfInBounds_toArray, List.set_cons_zero, List.set_cons_succ]
                refine wpAnyH_take (i := 31) (v := .bool false) rfl (by kernel_rfl) (by kernel_rfl) (by kernel_rfl) (fun _ _ _ h => h) (Or.inl ⟨by rfl, fun w' h => by (go_simp <;> omega)⟩) (by assumption) ?_
                try simp only [Act.put, List.getElem_toArray, List.getElem_cons_zero, List.getElem_cons_succ, List.setIfInBounds_toArray, List.set_cons_zero, List.set_cons_succ]
                refine wpAnyH_take (i := 32) (v := .slice (some ⟨bD, oD, none⟩) D.length b1) rfl (by kernel_rfl) (by kernel_rfl) (by kernel_rfl) (fun _ _ _ h => h) (Or.inl ⟨by rfl, fun w' h => by (go_simp <;> omega)⟩) (by assumption) ?_
                try simp only [Act.put, List.getElem_toArray, List.getElem_cons_zero, List.getElem_cons_succ, List.setIfInBounds_toArray, List.set_cons_zero, List.set_cons_succ]
                refine wpAnyH_take (i := 33) (v := .int .i64 t) rfl (by kernel_rfl) (by kernel_rfl) (by kernel_rfl) (fun _ _ _ h => h) (Or.inl ⟨by rfl, fun w' h => by (go_simp <;> omega)⟩) (by assumption) ?_
                try simp only [Act.put, List.getElem_toArray, List.getElem_cons_zero, List.getElem_cons_succ, List.setIfInBounds_toArray, List.set_cons_zero, List.set_cons_succ]
                refine wpAnyH_take (i := 34) (v := .pointer (some ⟨bD, oD + t, none⟩)) rfl (by kernel_rfl) (by kernel_rfl) (by kernel_rfl) (fun _ _ _ h => h) (Or.inl ⟨by rfl, fun w' h => by (go_simp <;> omega)⟩) (by assumption) ?_
                try simp only [Act.put, List.getElem_toArray, List.getElem_cons_zero, List.getElem_cons_succ, List.setIfInBounds_toArray, List.set_cons_zero, List.set_cons_succ]
                refine wpAnyH_take (i := 35) (v := .slice (some ⟨b7, o7, none⟩) N c6) rfl (by kernel_rfl) (by kernel_rfl) (by kernel_rfl) (fun _ _ _ h => h) (Or.inl ⟨by rfl, fun w' h => by (have g0 := (L2.out w' h).1; (go_simp <;> omega))⟩) (by assumption) ?_
                try simp only [Act.put, List.getElem_toArray, List.getElem_cons_zero, List.getElem_cons_succ, List.setIfInBounds_toArray, List.set_cons_zero, List.set_cons_succ]
                refine wpAnyH_take (i := 36) (v := .int .i64 q) rfl (by kernel_rfl) (by kernel_rfl) (by kernel_rfl) (fun _ _ _ h => h) (Or.inl ⟨by rfl, fun w' h => by (go_simp <;> omega)⟩) (by assumption) ?_
                try simp only [Act.put, List.getElem_toArray, List.getElem_cons_zero, List.getElem_cons_succ, List.setIfInBounds_toArray, List.set_cons_zero, List.set_cons_succ]
                refine wpAnyH_take (i := 37) (v := .pointer (some ⟨b7, o7 + q, none⟩)) rfl (by kernel_rfl) (by kernel_rfl) (by kernel_rfl) (fun _ _ _ h => h) (Or.inl ⟨by rfl, fun w' h => by (go_simp <;> omega)⟩) (by assumption) ?_
                try simp only [Act.put, List.getElem_toArray, List.getElem_cons_zero, List.getElem_cons_succ, List.setIfInBounds_toArray, List.set_cons_zero, List.set_cons_succ]
                refine wpAnyH_take (i := 38) (v := .int .i64 rq) rfl (by kernel_rfl) (by kernel_rfl) (by kernel_rfl) (fun _ _ _ h => h) (Or.inl ⟨by rfl, fun w' h => by (have g0 := (L2.out w' h).2.1; (go_simp <;> omega))⟩) (by assumption) ?_
                try simp only [Act.put, List.getElem_toArray, List.getElem_cons_zero, List.getElem_cons_succ, List.setIfInBounds_toArray, List.set_cons_zero, List.set_cons_succ]
                refine wpAnyH_take (i := 39) (v := .bool false) rfl (by kernel_rfl) (by kernel_rfl) (by kernel_rfl) (fun _ _ _ h => h) (Or.inl ⟨by rfl, fun w' h => by (go_simp <;> omega)⟩) (by assumption) ?_
                try simp only [Act.put, List.getElem_toArray, List.getElem_cons_zero, List.getElem_cons_succ, List.setIfInBounds_toArray, List.set_cons_zero, List.set_cons_succ]
                refine wpAnyH_take (i := 40) (v := .bool false) rfl (by kernel_rfl) (by kernel_rfl) (by kernel_rfl) (fun _ _ _ h => h) (Or.inl ⟨by rfl, fun w' h => by (go_simp <;> omega)⟩) (by assumption) ?_
                try simp only [Act.put, List.getElem_toArray, List.getElem_cons_zero, List.getElem_cons_succ, List.setIfInBounds_toArray, List.set_cons_zero, List.set_cons_succ]
                refine wpAnyH_take (i := 41) (v := .bool false) rfl (by kernel_rfl) (by kernel_rfl) (by kernel_rfl) (fun _ _ _ h => h) (Or.inl ⟨by rfl, fun w' h => by (go_simp <;> omega)⟩) (by assumption) ?_
                try simp only [Act.put, List.getElem_toArray, List.getElem_cons_zero, List.getElem_cons_succ, List.setIfInBounds_toArray, List.set_cons_zero, List.set_cons_succ]
                refine wpAnyH_take (i := 42) (v := .slice (some ⟨bD, oD, none⟩) D.length b1) rfl (by kernel_rfl) (by kernel_rfl) (by kernel_rfl) (fun _ _ _ h => h) (Or.inl ⟨by rfl, fun w' h => by (go_simp <;> omega)⟩) (by assumption) ?_
                try simp only [Act.put, List.getElem_toArray, List.getElem_cons_zero, List.getElem_cons_succ, List.setIfInBounds_toArray, List.set_cons_zero, List.set_cons_succ]
                refine wpAnyH_take (i := 43) (v := .int .i64 t) rfl (by kernel_rfl) (by kernel_rfl) (by kernel_rfl) (fun _ _ _ h => h) (Or.inl ⟨by rfl, fun w' h => by (go_simp <;> omega)⟩) (by assumption) ?_
                try simp only [Act.put, List.getElem_toArray, List.getElem_cons_zero, List.getElem_cons_succ, List.setIfInBounds_toArray, List.set_cons_zero, List.set_cons_succ]
                refine wpAnyH_take (i := 44) (v := .pointer (some ⟨bD, oD + t, none⟩)) rfl (by kernel_rfl) (by kernel_rfl) (by kernel_rfl) (fun _ _ _ h => h) (Or.inl ⟨by rfl, fun w' h => by (go_simp <;> omega)⟩) (by assumption) ?_
                try simp only [Act.put, List.getElem_toArray, List.getElem_cons_zero, List.getElem_cons_succ, List.setIfInBounds_toArray, List.set_cons_zero, List.set_cons_succ]
                refine wpAnyH_take (i := 45) (v := .slice (some ⟨b7, o7, none⟩) N c6) rfl (by kernel_rfl) (by kernel_rfl) (by kernel_rfl) (fun _ _ _ h => h) (Or.inl ⟨by rfl, fun w' h => by (have g0 := (L2.out w' h).1; (go_simp <;> omega))⟩) (by assumption) ?_
                try simp only [Act.put, List.getElem_toArray, List.getElem_cons_zero, List.getElem_cons_succ, List.setIfInBounds_toArray, List.set_cons_zero, List.set_cons_succ]
                refine wpAnyH_take (i := 46) (v := .int .i64 q) rfl (by kernel_rfl) (by kernel_rfl) (by kernel_rfl) (fun _ _ _ h => h) (Or.inl ⟨by rfl, fun w' h => by (go_simp <;> omega)⟩) (by assumption) ?_
                try simp only [Act.put, List.getElem_toArray, List.getElem_cons_zero, List.getElem_cons_succ, List.setIfInBounds_toArray, List.set_cons_zero, List.set_cons_succ]
                refine wpAnyH_take (i := 47) (v := .pointer (some ⟨b7, o7 + q, none⟩)) rfl (by kernel_rfl) (by kernel_rfl) (by kernel_rfl) (fun _ _ _ h => h) (Or.inl ⟨by rfl, fun w' h => by (go_simp <;> omega)⟩) (by assumption) ?_
                try simp only [Act.put, List.getElem_toArray, List.getElem_cons_zero, List.getElem_cons_succ, List.setIfInBounds_toArray, List.set_cons_zero, List.set_cons_succ]
                refine wpAnyH_take (i := 48) (v := .int .i64 rq) rfl (by kernel_rfl) (by kernel_rfl) (by kernel_rfl) (fun _ _ _ h => h) (Or.inl ⟨by rfl, fun w' h => by (have g0 := (L2.out w' h).2.1; (go_simp <;> omega))⟩) (by assumption) ?_
                try simp only [Act.put, List.getElem_toArray, List.getElem_cons_zero, List.getElem_cons_succ, List.setIfInBounds_toArray, List.set_cons_zero, List.set_cons_succ]
                refine wpAnyH_take (i := 49) (v := .int .i64 N) rfl (by kernel_rfl) (by kernel_rfl) (by kernel_rfl) (fun _ _ _ h => h) (Or.inl ⟨by rfl, fun w' h => by (go_simp <;> omega)⟩) (by assumption) ?_
                try simp only [Act.put, List.getElem_toArray, List.getElem_cons_zero, List.getElem_cons_succ, List.setIfInBounds_toArray, List.set_cons_zero, List.set_cons_succ]
                refine wpAnyH_take (i := 50) (v := .int .i64 (2 * (N : Int))) rfl (by kernel_rfl) (by kernel_rfl) (by kernel_rfl) (fun _ _ _ h => h) (Or.inl ⟨by rfl, fun w' h => by (go_simp <;> omega)⟩) (by assumption) ?_
                try simp only [Act.put, List.getElem_toArray, List.getElem_cons_zero, List.getElem_cons_succ, List.setIfInBounds_toArray, List.set_cons_zero, List.set_cons_succ]
                refine wpAnyH_take (i := 51) (v := .bool false) rfl (by kernel_rfl) (by kernel_rfl) (by kernel_rfl) (fun _ _ _ h => h) (Or.inl ⟨by rfl, fun w' h => by (go_simp <;> omega)⟩) (by assumption) ?_
                try simp only [Act.put, List.getElem_toArray, List.getElem_cons_zero, List.getElem_cons_succ, List.setIfInBounds_toArray, List.set_cons_zero, List.set_cons_succ]
                refine wpAnyH_take (i := 52) (v := .bool false) rfl (by kernel_rfl) (by kernel_rfl) (by kernel_rfl) (fun _ _ _ h => h) (Or.inl ⟨by rfl, fun w' h => by (go_simp <;> omega)⟩) (by assumption) ?_
                try simp only [Act.put, List.getElem_toArray, List.getElem_cons_zero, List.getElem_cons_succ, List.setIfInBounds_toArray, List.set_cons_zero, List.set_cons_succ]
                refine wpAnyH_done (by kernel_rfl) ?_ _
                try simp only [Act.put, List.getElem_toArray, List.getElem_cons_zero, List.getElem_cons_succ, List.setIfInBounds_toArray, List.set_cons_zero, List.set_cons_succ]
                have hb := hHeld
                clear hHeld
                clear h2N h2M
                go_wp2
                go_roundw
                case rel => exact ⟨p + 1, by omega, by go_num, HS.out.drew, HB.out.drew⟩
                case measure => simp [intOf]; omega
              · have hrr : ¬ rq < rp := fun h => hxy (HTwo.out.2 h)
                go_wp2_with fail
                refine wp_region_held_drew (S := fun w' => Below wc.heap.size wc w') (by kernel_rfl) (Below.refl _ _).drew (fun hHeld => ?_)
                refine wpAnyH_take (i := 0) (v := .slice (some ⟨bM, oM, none⟩) m.length cm) rfl (by kernel_rfl) (by kernel_rfl) (by kernel_rfl) (fun _ _ _ h => h) (Or.inl ⟨by rfl, fun w' h => by (go_simp <;> omega)⟩) (by assumption) ?_
                try simp only [Act.put, List.getElem_toArray, List.getElem_cons_zero, List.getElem_cons_succ, List.setIfInBounds_toArray, List.set_cons_zero, List.set_cons_succ]
                refine wpAnyH_take (i := 1) (v := .int .i64 t) rfl (by kernel_rfl) (by kernel_rfl) (by kernel_rfl) (fun _ _ _ h => h) (Or.inl ⟨by rfl, fun w' h => by (go_simp <;> omega)⟩) (by assumption) ?_
                try simp only [Act.put, List.getElem_toArray, List.getElem_cons_zero, List.getElem_cons_succ, List.setIfInBounds_toArray, List.set_cons_zero, List.set_cons_succ]
                refine wpAnyH_take (i := 2) (v := .pointer (some ⟨bM, oM + t, none⟩)) rfl (by kernel_rfl) (by kernel_rfl) (by kernel_rfl) (fun _ _ _ h => h) (Or.inl ⟨by rfl, fun w' h => by (go_simp <;> omega)⟩) (by assumption) ?_
                try simp only [Act.put, List.getElem_toArray, List.getElem_cons_zero, List.getElem_cons_succ, List.setIfInBounds_toArray, List.set_cons_zero, List.set_cons_succ]
                refine wpAnyH_take (i := 3) (v := .slice (some ⟨b4, o4, none⟩) N cM) rfl (by kernel_rfl) (by kernel_rfl) (by kernel_rfl) (fun _ _ _ h => h) (Or.inl ⟨by rfl, fun w' h => by (have g0 := (L1.out w' h).1; (go_simp <;> omega))⟩) (by assumption) ?_
                try simp only [Act.put, List.getElem_toArray, List.getElem_cons_zero, List.getElem_cons_succ, List.setIfInBounds_toArray, List.set_cons_zero, List.set_cons_succ]
                refine wpAnyH_take (i := 4) (v := .int .i64 q) rfl (by kernel_rfl) (by kernel_rfl) (by kernel_rfl) (fun _ _ _ h => h) (Or.inl ⟨by rfl, fun w' h => by (go_simp <;> omega)⟩) (by assumption) ?_
                try simp only [Act.put, List.getElem_toArray, List.getElem_cons_zero, List.getElem_cons_succ, List.setIfInBounds_toArray, List.set_cons_zero, List.set_cons_succ]
                refine wpAnyH_take (i := 5) (v := .pointer (some ⟨b4, o4 + q, none⟩)) rfl (by kernel_rfl) (by kernel_rfl) (by kernel_rfl) (fun _ _ _ h => h) (Or.inl ⟨by rfl, fun w' h => by (go_simp <;> omega)⟩) (by assumption) ?_
                try simp only [Act.put, List.getElem_toArray, List.getElem_cons_zero, List.getElem_cons_succ, List.setIfInBounds_toArray, List.set_cons_zero, List.set_cons_succ]
                refine wpAnyH_take (i := 6) (v := .int .i64 x) rfl (by kernel_rfl) (by kernel_rfl) (by kernel_rfl) (fun _ _ _ h => h) (Or.inl ⟨by rfl, fun w' h => by (have g0 := (L1.out w' h).2.1; (go_simp <;> omega))⟩) (by assumption) ?_
                try simp only [Act.put, List.getElem_toArray, List.getElem_cons_zero, List.getElem_cons_succ, List.setIfInBounds_toArray, List.set_cons_zero, List.set_cons_succ]
                refine wpAnyH_take (i := 7) (v := .slice (some ⟨bM, oM, none⟩) m.length cm) rfl (by kernel_rfl) (by kernel_rfl) (by kernel_rfl) (fun _ _ _ h => h) (Or.inl ⟨by rfl, fun w' h => by (go_simp <;> omega)⟩) (by assumption) ?_
                try simp only [Act.put, List.getElem_toArray, List.getElem_cons_zero, List.getElem_cons_succ, List.setIfInBounds_toArray, List.set_cons_zero, List.set_cons_succ]
                refine wpAnyH_take (i := 8) (v := .int .i64 t) rfl (by kernel_rfl) (by kernel_rfl) (by kernel_rfl) (fun _ _ _ h => h) (Or.inl ⟨by rfl, fun w' h => by (go_simp <;> omega)⟩) (by assumption) ?_
                try simp only [Act.put, List.getElem_toArray, List.getElem_cons_zero, List.getElem_cons_succ, List.setIfInBounds_toArray, List.set_cons_zero, List.set_cons_succ]
                refine wpAnyH_take (i := 9) (v := .pointer (some ⟨bM, oM + t, none⟩)) rfl (by kernel_rfl) (by kernel_rfl) (by kernel_rfl) (fun _ _ _ h => h) (Or.inl ⟨by rfl, fun w' h => by (go_simp <;> omega)⟩) (by assumption) ?_
                try simp only [Act.put, List.getElem_toArray, List.getElem_cons_zero, List.getElem_cons_succ, List.setIfInBounds_toArray, List.set_cons_zero, List.set_cons_succ]
                refine wpAnyH_take (i := 10) (v := .slice (some ⟨b4, o4, none⟩) N cM) rfl (by kernel_rfl) (by kernel_rfl) (by kernel_rfl) (fun _ _ _ h => h) (Or.inl ⟨by rfl, fun w' h => by (have g0 := (L1.out w' h).1; (go_simp <;> omega))⟩) (by assumption) ?_
                try simp only [Act.put, List.getElem_toArray, List.getElem_cons_zero, List.getElem_cons_succ, List.setIfInBounds_toArray, List.set_cons_zero, List.set_cons_succ]
                refine wpAnyH_take (i := 11) (v := .int .i64 p) rfl (by kernel_rfl) (by kernel_rfl) (by kernel_rfl) (fun _ _ _ h => h) (Or.inl ⟨by rfl, fun w' h => by (go_simp <;> omega)⟩) (by assumption) ?_
                try simp only [Act.put, List.getElem_toArray, List.getElem_cons_zero, List.getElem_cons_succ, List.setIfInBounds_toArray, List.set_cons_zero, List.set_cons_succ]
                refine wpAnyH_take (i := 12) (v := .pointer (some ⟨b4, o4 + p, none⟩)) rfl (by kernel_rfl) (by kernel_rfl) (by kernel_rfl) (fun _ _ _ h => h) (Or.inl ⟨by rfl, fun w' h => by (go_simp <;> omega)⟩) (by assumption) ?_
                try simp only [Act.put, List.getElem_toArray, List.getElem_cons_zero, List.getElem_cons_succ, List.setIfInBounds_toArray, List.set_cons_zero, List.set_cons_succ]
                refine wpAnyH_take (i := 13) (v := .int .i64 y) rfl (by kernel_rfl) (by kernel_rfl) (by kernel_rfl) (fun _ _ _ h => h) (Or.inl ⟨by rfl, fun w' h => by (have g0 := (L1.out w' h).2.2; (go_simp <;> omega))⟩) (by assumption) ?_
                try simp only [Act.put, List.getElem_toArray, List.getElem_cons_zero, List.getElem_cons_succ, List.setIfInBounds_toArray, List.set_cons_zero, List.set_cons_succ]
                refine wpAnyH_take (i := 14) (v := .bool false) rfl (by kernel_rfl) (by kernel_rfl) (by kernel_rfl) (fun _ _ _ h => h) (Or.inl ⟨by rfl, fun w' h => by (go_simp <;> omega)⟩) (by assumption) ?_
                try simp only [Act.put, List.getElem_toArray, List.getElem_cons_zero, List.getElem_cons_succ, List.setIfInBounds_toArray, List.set_cons_zero, List.set_cons_succ]
                refine wpAnyH_take (i := 15) (v := .slice (some ⟨bD, oD, none⟩) D.length b1) rfl (by kernel_rfl) (by kernel_rfl) (by kernel_rfl) (fun _ _ _ h => h) (Or.inl ⟨by rfl, fun w' h => by (go_simp <;> omega)⟩) (by assumption) ?_
                try simp only [Act.put, List.getElem_toArray, List.getElem_cons_zero, List.getElem_cons_succ, List.setIfInBounds_toArray, List.set_cons_zero, List.set_cons_succ]
                refine wpAnyH_take (i := 16) (v := .int .i64 t) rfl (by kernel_rfl) (by kernel_rfl) (by kernel_rfl) (fun _ _ _ h => h) (Or.inl ⟨by rfl, fun w' h => by (go_simp <;> omega)⟩) (by assumption) ?_
                try simp only [Act.put, List.getElem_toArray, List.getElem_cons_zero, List.getElem_cons_succ, List.setIfInBounds_toArray, List.set_cons_zero, List.set_cons_succ]
                refine wpAnyH_take (i := 17) (v := .pointer (some ⟨bD, oD + t, none⟩)) rfl (by kernel_rfl) (by kernel_rfl) (by kernel_rfl) (fun _ _ _ h => h) (Or.inl ⟨by rfl, fun w' h => by (go_simp <;> omega)⟩) (by assumption) ?_
                try simp only [Act.put, List.getElem_toArray, List.getElem_cons_zero, List.getElem_cons_succ, List.setIfInBounds_toArray, List.set_cons_zero, List.set_cons_succ]
                refine wpAnyH_take (i := 18) (v := .slice (some ⟨b7, o7, none⟩) N c6) rfl (by kernel_rfl) (by kernel_rfl) (by kernel_rfl) (fun _ _ _ h => h) (Or.inl ⟨by rfl, fun w' h => by (have g0 := (L2.out w' h).1; (go_simp <;> omega))⟩) (by assumption) ?_
                try simp only [Act.put, List.getElem_toArray, List.getElem_cons_zero, List.getElem_cons_succ, List.setIfInBounds_toArray, List.set_cons_zero, List.set_cons_succ]
                refine wpAnyH_take (i := 19) (v := .int .i64 q) rfl (by kernel_rfl) (by kernel_rfl) (by kernel_rfl) (fun _ _ _ h => h) (Or.inl ⟨by rfl, fun w' h => by (go_simp <;> omega)⟩) (by assumption) ?_
                try simp only [Act.put, List.getElem_toArray, List.getElem_cons_zero, List.getElem_cons_succ, List.setIfInBounds_toArray, List.set_cons_zero, List.set_cons_succ]
                refine wpAnyH_take (i := 20) (v := .pointer (some ⟨b7, o7 + q, none⟩)) rfl (by kernel_rfl) (by kernel_rfl) (by kernel_rfl) (fun _ _ _ h => h) (Or.inl ⟨by rfl, fun w' h => by (go_simp <;> omega)⟩) (by assumption) ?_
                try simp only [Act.put, List.getElem_toArray, List.getElem_cons_zero, List.getElem_cons_succ, List.setIfInBounds_toArray, List.set_cons_zero, List.set_cons_succ]
                refine wpAnyH_take (i := 21) (v := .int .i64 rq) rfl (by kernel_rfl) (by kernel_rfl) (by kernel_rfl) (fun _ _ _ h => h) (Or.inl ⟨by rfl, fun w' h => by (have g0 := (L2.out w' h).2.1; (go_simp <;> omega))⟩) (by assumption) ?_
                try simp only [Act.put, List.getElem_toArray, List.getElem_cons_zero, List.getElem_cons_succ, List.setIfInBounds_toArray, List.set_cons_zero, List.set_cons_succ]
                refine wpAnyH_take (i := 22) (v := .slice (some ⟨bD, oD, none⟩) D.length b1) rfl (by kernel_rfl) (by kernel_rfl) (by kernel_rfl) (fun _ _ _ h => h) (Or.inl ⟨by rfl, fun w' h => by (go_simp <;> omega)⟩) (by assumption) ?_
                try simp only [Act.put, List.getElem_toArray, List.getElem_cons_zero, List.getElem_cons_succ, List.setIfInBounds_toArray, List.set_cons_zero, List.set_cons_succ]
                refine wpAnyH_take (i := 23) (v := .int .i64 t) rfl (by kernel_rfl) (by kernel_rfl) (by kernel_rfl) (fun _ _ _ h => h) (Or.inl ⟨by rfl, fun w' h => by (go_simp <;> omega)⟩) (by assumption) ?_
                try simp only [Act.put, List.getElem_toArray, List.getElem_cons_zero, List.getElem_cons_succ, List.setIfInBounds_toArray, List.set_cons_zero, List.set_cons_succ]
                refine wpAnyH_take (i := 24) (v := .pointer (some ⟨bD, oD + t, none⟩)) rfl (by kernel_rfl) (by kernel_rfl) (by kernel_rfl) (fun _ _ _ h => h) (Or.inl ⟨by rfl, fun w' h => by (go_simp <;> omega)⟩) (by assumption) ?_
                try simp only [Act.put, List.getElem_toArray, List.getElem_cons_zero, List.getElem_cons_succ, List.setIfInBounds_toArray, List.set_cons_zero, List.set_cons_succ]
                refine wpAnyH_take (i := 25) (v := .slice (some ⟨b7, o7, none⟩) N c6) rfl (by kernel_rfl) (by kernel_rfl) (by kernel_rfl) (fun _ _ _ h => h) (Or.inl ⟨by rfl, fun w' h => by (have g0 := (L2.out w' h).1; (go_simp <;> omega))⟩) (by assumption) ?_
                try simp only [Act.put, List.getElem_toArray, List.getElem_cons_zero, List.getElem_cons_succ, List.setIfInBounds_toArray, List.set_cons_zero, List.set_cons_succ]
                refine wpAnyH_take (i := 26) (v := .int .i64 p) rfl (by kernel_rfl) (by kernel_rfl) (by kernel_rfl) (fun _ _ _ h => h) (Or.inl ⟨by rfl, fun w' h => by (go_simp <;> omega)⟩) (by assumption) ?_
                try simp only [Act.put, List.getElem_toArray, List.getElem_cons_zero, List.getElem_cons_succ, List.setIfInBounds_toArray, List.set_cons_zero, List.set_cons_succ]
                refine wpAnyH_take (i := 27) (v := .pointer (some ⟨b7, o7 + p, none⟩)) rfl (by kernel_rfl) (by kernel_rfl) (by kernel_rfl) (fun _ _ _ h => h) (Or.inl ⟨by rfl, fun w' h => by (go_simp <;> omega)⟩) (by assumption) ?_
                try simp only [Act.put, List.getElem_toArray, List.getElem_cons_zero, List.getElem_cons_succ, List.setIfInBounds_toArray, List.set_cons_zero, List.set_cons_succ]
                refine wpAnyH_take (i := 28) (v := .int .i64 rp) rfl (by kernel_rfl) (by kernel_rfl) (by kernel_rfl) (fun _ _ _ h => h) (Or.inl ⟨by rfl, fun w' h => by (have g0 := (L2.out w' h).2.2; (go_simp <;> omega))⟩) (by assumption) ?_
                try simp only [Act.put, List.getElem_toArray, List.getElem_cons_zero, List.getElem_cons_succ, List.setIfInBounds_toArray, List.set_cons_zero, List.set_cons_succ]
                refine wpAnyH_take (i := 29) (v := .bool false) rfl (by kernel_rfl) (by kernel_rfl) (by kernel_rfl) (fun _ _ _ h => h) (Or.inl ⟨by rfl, fun w' h => by (go_simp <;> omega)⟩) (by assumption) ?_
                try simp only [Act.put, List.getElem_toArray, List.getElem_cons_zero, List.getElem_cons_succ, List.setIfInBounds_toArray, List.set_cons_zero, List.set_cons_succ]
                refine wpAnyH_take (i := 30) (v := .bool false) rfl (by kernel_rfl) (by kernel_rfl) (by kernel_rfl) (fun _ _ _ h => h) (Or.inl ⟨by rfl, fun w' h => by (go_simp <;> omega)⟩) (by assumption) ?_
                try simp only [Act.put, List.getElem_toArray, List.getElem_cons_zero, List.getElem_cons_succ, List.setIfInBounds_toArray, List.set_cons_zero, List.set_cons_succ]
                refine wpAnyH_take (i := 31) (v := .bool false) rfl (by kernel_rfl) (by kernel_rfl) (by kernel_rfl) (fun _ _ _ h => h) (Or.inl ⟨by rfl, fun w' h => by (go_simp <;> omega)⟩) (by assumption) ?_
                try simp only [Act.put, List.getElem_toArray, List.getElem_cons_zero, List.getElem_cons_succ, List.setIfInBounds_toArray, List.set_cons_zero, List.set_cons_succ]
                refine wpAnyH_take (i := 32) (v := .slice (some ⟨bD, oD, none⟩) D.length b1) rfl (by kernel_rfl) (by kernel_rfl) (by kernel_rfl) (fun _ _ _ h => h) (Or.inl ⟨by rfl, fun w' h => by (go_simp <;> omega)⟩) (by assumption) ?_
                try simp only [Act.put, List.getElem_toArray, List.getElem_cons_zero, List.getElem_cons_succ, List.setIfInBounds_toArray, List.set_cons_zero, List.set_cons_succ]
                refine wpAnyH_take (i := 33) (v := .int .i64 t) rfl (by kernel_rfl) (by kernel_rfl) (by kernel_rfl) (fun _ _ _ h => h) (Or.inl ⟨by rfl, fun w' h => by (go_simp <;> omega)⟩) (by assumption) ?_
                try simp only [Act.put, List.getElem_toArray, List.getElem_cons_zero, List.getElem_cons_succ, List.setIfInBounds_toArray, List.set_cons_zero, List.set_cons_succ]
                refine wpAnyH_take (i := 34) (v := .pointer (some ⟨bD, oD + t, none⟩)) rfl (by kernel_rfl) (by kernel_rfl) (by kernel_rfl) (fun _ _ _ h => h) (Or.inl ⟨by rfl, fun w' h => by (go_simp <;> omega)⟩) (by assumption) ?_
                try simp only [Act.put, List.getElem_toArray, List.getElem_cons_zero, List.getElem_cons_succ, List.setIfInBounds_toArray, List.set_cons_zero, List.set_cons_succ]
                refine wpAnyH_take (i := 35) (v := .slice (some ⟨b7, o7, none⟩) N c6) rfl (by kernel_rfl) (by kernel_rfl) (by kernel_rfl) (fun _ _ _ h => h) (Or.inl ⟨by rfl, fun w' h => by (have g0 := (L2.out w' h).1; (go_simp <;> omega))⟩) (by assumption) ?_
                try simp only [Act.put, List.getElem_toArray, List.getElem_cons_zero, List.getElem_cons_succ, List.setIfInBounds_toArray, List.set_cons_zero, List.set_cons_succ]
                refine wpAnyH_take (i := 36) (v := .int .i64 q) rfl (by kernel_rfl) (by kernel_rfl) (by kernel_rfl) (fun _ _ _ h => h) (Or.inl ⟨by rfl, fun w' h => by (go_simp <;> omega)⟩) (by assumption) ?_
                try simp only [Act.put, List.getElem_toArray, List.getElem_cons_zero, List.getElem_cons_succ, List.setIfInBounds_toArray, List.set_cons_zero, List.set_cons_succ]
                refine wpAnyH_take (i := 37) (v := .pointer (some ⟨b7, o7 + q, none⟩)) rfl (by kernel_rfl) (by kernel_rfl) (by kernel_rfl) (fun _ _ _ h => h) (Or.inl ⟨by rfl, fun w' h => by (go_simp <;> omega)⟩) (by assumption) ?_
                try simp only [Act.put, List.getElem_toArray, List.getElem_cons_zero, List.getElem_cons_succ, List.setIfInBounds_toArray, List.set_cons_zero, List.set_cons_succ]
                refine wpAnyH_take (i := 38) (v := .int .i64 rq) rfl (by kernel_rfl) (by kernel_rfl) (by kernel_rfl) (fun _ _ _ h => h) (Or.inl ⟨by rfl, fun w' h => by (have g0 := (L2.out w' h).2.1; (go_simp <;> omega))⟩) (by assumption) ?_
                try simp only [Act.put, List.getElem_toArray, List.getElem_cons_zero, List.getElem_cons_succ, List.setIfInBounds_toArray, List.set_cons_zero, List.set_cons_succ]
                refine wpAnyH_take (i := 39) (v := .bool false) rfl (by kernel_rfl) (by kernel_rfl) (by kernel_rfl) (fun _ _ _ h => h) (Or.inl ⟨by rfl, fun w' h => by (go_simp <;> omega)⟩) (by assumption) ?_
                try simp only [Act.put, List.getElem_toArray, List.getElem_cons_zero, List.getElem_cons_succ, List.setIfInBounds_toArray, List.set_cons_zero, List.set_cons_succ]
                refine wpAnyH_take (i := 40) (v := .bool false) rfl (by kernel_rfl) (by kernel_rfl) (by kernel_rfl) (fun _ _ _ h => h) (Or.inl ⟨by rfl, fun w' h => by (go_simp <;> omega)⟩) (by assumption) ?_
                try simp only [Act.put, List.getElem_toArray, List.getElem_cons_zero, List.getElem_cons_succ, List.setIfInBounds_toArray, List.set_cons_zero, List.set_cons_succ]
                refine wpAnyH_take (i := 41) (v := .bool false) rfl (by kernel_rfl) (by kernel_rfl) (by kernel_rfl) (fun _ _ _ h => h) (Or.inl ⟨by rfl, fun w' h => by (go_simp <;> omega)⟩) (by assumption) ?_
                try simp only [Act.put, List.getElem_toArray, List.getElem_cons_zero, List.getElem_cons_succ, List.setIfInBounds_toArray, List.set_cons_zero, List.set_cons_succ]
                refine wpAnyH_take (i := 42) (v := .slice (some ⟨bD, oD, none⟩) D.length b1) rfl (by kernel_rfl) (by kernel_rfl) (by kernel_rfl) (fun _ _ _ h => h) (Or.inl ⟨by rfl, fun w' h => by (go_simp <;> omega)⟩) (by assumption) ?_
                try simp only [Act.put, List.getElem_toArray, List.getElem_cons_zero, List.getElem_cons_succ, List.setIfInBounds_toArray, List.set_cons_zero, List.set_cons_succ]
                refine wpAnyH_take (i := 43) (v := .int .i64 t) rfl (by kernel_rfl) (by kernel_rfl) (by kernel_rfl) (fun _ _ _ h => h) (Or.inl ⟨by rfl, fun w' h => by (go_simp <;> omega)⟩) (by assumption) ?_
                try simp only [Act.put, List.getElem_toArray, List.getElem_cons_zero, List.getElem_cons_succ, List.setIfInBounds_toArray, List.set_cons_zero, List.set_cons_succ]
                refine wpAnyH_take (i := 44) (v := .pointer (some ⟨bD, oD + t, none⟩)) rfl (by kernel_rfl) (by kernel_rfl) (by kernel_rfl) (fun _ _ _ h => h) (Or.inl ⟨by rfl, fun w' h => by (go_simp <;> omega)⟩) (by assumption) ?_
                try simp only [Act.put, List.getElem_toArray, List.getElem_cons_zero, List.getElem_cons_succ, List.setIfInBounds_toArray, List.set_cons_zero, List.set_cons_succ]
                refine wpAnyH_take (i := 45) (v := .slice (some ⟨b7, o7, none⟩) N c6) rfl (by kernel_rfl) (by kernel_rfl) (by kernel_rfl) (fun _ _ _ h => h) (Or.inl ⟨by rfl, fun w' h => by (have g0 := (L2.out w' h).1; (go_simp <;> omega))⟩) (by assumption) ?_
                try simp only [Act.put, List.getElem_toArray, List.getElem_cons_zero, List.getElem_cons_succ, List.setIfInBounds_toArray, List.set_cons_zero, List.set_cons_succ]
                refine wpAnyH_take (i := 46) (v := .int .i64 q) rfl (by kernel_rfl) (by kernel_rfl) (by kernel_rfl) (fun _ _ _ h => h) (Or.inl ⟨by rfl, fun w' h => by (go_simp <;> omega)⟩) (by assumption) ?_
                try simp only [Act.put, List.getElem_toArray, List.getElem_cons_zero, List.getElem_cons_succ, List.setIfInBounds_toArray, List.set_cons_zero, List.set_cons_succ]
                refine wpAnyH_take (i := 47) (v := .pointer (some ⟨b7, o7 + q, none⟩)) rfl (by kernel_rfl) (by kernel_rfl) (by kernel_rfl) (fun _ _ _ h => h) (Or.inl ⟨by rfl, fun w' h => by (go_simp <;> omega)⟩) (by assumption) ?_
                try simp only [Act.put, List.getElem_toArray, List.getElem_cons_zero, List.getElem_cons_succ, List.setIfInBounds_toArray, List.set_cons_zero, List.set_cons_succ]
                refine wpAnyH_take (i := 48) (v := .int .i64 rq) rfl (by kernel_rfl) (by kernel_rfl) (by kernel_rfl) (fun _ _ _ h => h) (Or.inl ⟨by rfl, fun w' h => by (have g0 := (L2.out w' h).2.1; (go_simp <;> omega))⟩) (by assumption) ?_
                try simp only [Act.put, List.getElem_toArray, List.getElem_cons_zero, List.getElem_cons_succ, List.setIfInBounds_toArray, List.set_cons_zero, List.set_cons_succ]
                refine wpAnyH_take (i := 49) (v := .int .i64 N) rfl (by kernel_rfl) (by kernel_rfl) (by kernel_rfl) (fun _ _ _ h => h) (Or.inl ⟨by rfl, fun w' h => by (go_simp <;> omega)⟩) (by assumption) ?_
                try simp only [Act.put, List.getElem_toArray, List.getElem_cons_zero, List.getElem_cons_succ, List.setIfInBounds_toArray, List.set_cons_zero, List.set_cons_succ]
                refine wpAnyH_take (i := 50) (v := .int .i64 (2 * (N : Int))) rfl (by kernel_rfl) (by kernel_rfl) (by kernel_rfl) (fun _ _ _ h => h) (Or.inl ⟨by rfl, fun w' h => by (go_simp <;> omega)⟩) (by assumption) ?_
                try simp only [Act.put, List.getElem_toArray, List.getElem_cons_zero, List.getElem_cons_succ, List.setIfInBounds_toArray, List.set_cons_zero, List.set_cons_succ]
                refine wpAnyH_take (i := 51) (v := .bool false) rfl (by kernel_rfl) (by kernel_rfl) (by kernel_rfl) (fun _ _ _ h => h) (Or.inl ⟨by rfl, fun w' h => by (go_simp <;> omega)⟩) (by assumption) ?_
                try simp only [Act.put, List.getElem_toArray, List.getElem_cons_zero, List.getElem_cons_succ, List.setIfInBounds_toArray, List.set_cons_zero, List.set_cons_succ]
                refine wpAnyH_take (i := 52) (v := .bool false) rfl (by kernel_rfl) (by kernel_rfl) (by kernel_rfl) (fun _ _ _ h => h) (Or.inl ⟨by rfl, fun w' h => by (go_simp <;> omega)⟩) (by assumption) ?_
                try simp only [Act.put, List.getElem_toArray, List.getElem_cons_zero, List.getElem_cons_succ, List.setIfInBounds_toArray, List.set_cons_zero, List.set_cons_succ]
                refine wpAnyH_done (by kernel_rfl) ?_ _
                try simp only [Act.put, List.getElem_toArray, List.getElem_cons_zero, List.getElem_cons_succ, List.setIfInBounds_toArray, List.set_cons_zero, List.set_cons_succ]
                have hb := hHeld
                clear hHeld
                clear h2N h2M
                go_wp2
                go_roundw
                case rel => exact ⟨p + 1, by omega, by go_num, HS.out.drew, HB.out.drew⟩
                case measure => simp [intOf]; omega
            · obtain rfl : p = N := by omega
              go_wp2
              go_roundw
              case rel => exact ⟨q + 1, by omega, by go_num, by rw [HSn.out], HS.out, HB.out⟩
              case measure => simp [intOf]; omega
        · obtain rfl : q = N := by omega
          have hPe : sv = Pn := by
            have h1 := rk_sum ys
            rw [HXn.out, HSv.out, HPn.out] at h1
            exact h1
          subst hPe
          have HSx : Hid (Rs wb z4.heap.size 2 icells (rsL q m (t + 1))) := by show Rs _ _ _ _ _; rw [← rsM_all]; exact HS.out
          have x5 : IntKind.i64.wrap ((q : Int) * ((q : Int) + 1)) = sv := by rw [HPn.out]; exact IntWalk.i64_in _ ⟨by omega, by omega⟩
          have x6 : wrap64 ((q : Int) * ((q : Int) + 1)) = sv := by rw [HPn.out]; exact IntWalk.wrap64_in _ ⟨by omega, by omega⟩
          have x7 : (sv != sv) = false := by simp
          go_wp2
          clear x5 x6 x7
          go_roundw
          case rel => exact ⟨t + 1, by omega, by go_num, HSx.out, HB.out⟩
          case measure => simp [intOf]; omega
    · as_aux_lemma =>
      obtain rfl : t = m.length := by omega
      have hnl : ¬ ((m.length : Nat) : Int) < D.length := by have := HQd.out; omega
      have HKs : Hid (K = rsL N m m.length) := HK2.out
      have HRd : Hid (Rd wa wa.heap.size icells (some ⟨z4.heap.size, 0, none⟩) K) := by show Rd _ _ _ _ _; rw [HKs.out]; exact HS.out.rd HS.out.lt
      have HV3a : Hid (Rd wa wa.heap.size icells B3 K) := (HV3_10.out.below (Nat.le_refl _) HB.out).more HB.out.size
      have HV5a : Hid (Rd wa wa.heap.size icells B5 O) := (HV5_10.out.below (Nat.le_refl _) HB.out).more HB.out.size
      have HBa : Hid (Below w.heap.size w wa) := HB_10.out.trans (HB.out.mono HB_10.out.size)
      have hKN : K.length = N := by have := HQ2.out; omega
      have HSn := Lib.hid (sameNumbers_any K K (some ⟨z4.heap.size, 0, none⟩) B3 N b3 wa (by omega) (by omega) HRd.out HV3a.out)
      rw [hKN, decide_eq_true (rfl : K = K)] at HSn
      go_wp2_with fail
      refine HSn.out.mono ?_
      rintro e wd ⟨rfl, hb⟩
      have HV3b := Lib.hid (HV3a.out.keep hb)
      have HV5b := Lib.hid (HV5a.out.keep hb)
      have HBb : Hid (Below w.heap.size w wd) := HBa.out.trans (hb.mono HBa.out.size)
      clear hb HSn HRd HV3a HV5a HBa HS HB
      have HKN := Lib.hid hKN
      clear hKN
      go_wp2_with fail
      go_loopw [28] (fun i wr => ∃ (j : Nat), j + 1 ≤ N ∧ i = .int .i64 ((j + 1 : Nat) : Int) ∧ Below wd.heap.size wd wr)
        (fun i _ => N - (intOf i).toNat)
      case atStart => exact ⟨0, by omega, rfl, Below.refl _ _⟩
      case round => as_aux_lemma =>
        obtain ⟨j, hj, rfl, hB⟩ := hrel
        obtain ⟨we, rfl⟩ : ∃ u, u = wr := ⟨_, rfl⟩
        have HB := Lib.hid hB
        clear hB
        obtain ⟨i, hi⟩ : ∃ i, j + 1 = i := ⟨_, rfl⟩
        rw [hi]
        have hj0 : (0 : Int) ≤ (j : Int) := Int.natCast_nonneg _
        have hi0 : (0 : Int) ≤ (i : Int) := Int.natCast_nonneg _
        by_cases hlt : i < N
        · have hi8 : (i : Int) < N := by omega
          have hOl : O.length = N := HOl.out
          obtain ⟨a, ha⟩ : ∃ x, O[j]? = some x := ⟨_, List.getElem?_eq_getElem (by omega)⟩
          obtain ⟨b, hb⟩ : ∃ x, O[i]? = some x := ⟨_, List.getElem?_eq_getElem (by omega)⟩
          have hts := sd_two (s := K) (N := N) (i := i) (by omega) (by omega) (by rw [← HO.out, ← hi, Nat.add_sub_cancel]; exact ha) (by rw [← HO.out]; exact hb)
          obtain ⟨⟨ha0, ha1⟩, ⟨hb0, hb1⟩, hab⟩ := hts
          obtain ⟨an, rfl⟩ : ∃ n : Nat, a = (n : Int) := ⟨a.toNat, by omega⟩
          obtain ⟨bn, rfl⟩ : ∃ n : Nat, b = (n : Int) := ⟨b.toNat, by omega⟩
          have hKl := HKN.out
          obtain ⟨ka, hka⟩ : ∃ x, K[an]? = some x := ⟨_, List.getElem?_eq_getElem (by omega)⟩
          obtain ⟨kb, hkb⟩ : ∃ x, K[bn]? = some x := ⟨_, List.getElem?_eq_getElem (by omega)⟩
          rw [Int.toNat_natCast, Int.toNat_natCast, List.getD_eq_getElem?_getD, List.getD_eq_getElem?_getD, hka, hkb, Option.getD_some, Option.getD_some] at hab
          obtain ⟨b1', o1, h1e, hb1l, hrow1⟩ := (HV5b.out.keep HB.out).at_ icells_length ha
          subst h1e
          obtain ⟨b2', o2, h2e, hb2l, hrow2⟩ := (HV5b.out.keep HB.out).at_ icells_length hb
          cases h2e
          obtain ⟨b3', o3', h3e, hb3l, hrow3⟩ := (HV3b.out.keep HB.out).at_ icells_length hka
          subst h3e
          obtain ⟨b4', o4', h4e, hb4l, hrow4⟩ := (HV3b.out.keep HB.out).at_ icells_length hkb
          cases h4e
          have e1 := rowI hrow1
          have e2 := rowI hrow2
          have e3 := rowI hrow3
          have e4 := rowI hrow4
          have L1 : Hid (∀ w', Below we.heap.size we w' → w'.cell? ⟨b3', o3' + an, none⟩ = some (.int .i64 ka) ∧ w'.cell? ⟨b3', o3' + bn, none⟩ = some (.int .i64 kb)) := fun w' h => ⟨(h.cell (p := ⟨b3', o3' + an, none⟩) hb3l).trans e3, (h.cell (p := ⟨b3', o3' + bn, none⟩) hb3l).trans e4⟩
          have hm1 : IntKind.i64.wrap ((i : Int) - 1) = (j : Int) := by rw [show (i : Int) - 1 = j from by omega]; exact IntWalk.i64_in _ ⟨by omega, by omega⟩
          have hm2 : wrap64 ((i : Int) - 1) = (j : Int) := by rw [show (i : Int) - 1 = j from by omega]; exact IntWalk.wrap64_in _ ⟨by omega, by omega⟩
          have hm3 : (i : Int) - 1 = (j : Int) := by omega
          have hj8 : (j : Int) < O.length := by omega
          have hi7 : (i : Int) < O.length := by omega
          have han : (an : Int) < K.length := by omega
          have hbn : (bn : Int) < K.length := by omega
          have hi9 : i ≤ 6 := by omega
          have HI := Lib.hid hi
          have HAB := Lib.hid hab
          clear ha hb hka hkb hrow1 hrow2 hrow3 hrow4 hi hOl hKl hab
          go_wp2_with fail
          clear hm1 hm2 hm3 e1 e2 e3 e4
          have hna : ¬ kb < ka := by rcases HAB.out with h | h <;> omega
          by_cases heq : ka = kb
          · as_aux_lemma =>
            have he2 : (ka == kb) = true := by simpa using heq
            have hnb : ¬ (bn : Int) < an := by rcases HAB.out with h | h <;> omega
            have HEq := Lib.hid heq
            clear heq
            refine wp_region_held_drew (S := fun w' => Below we.heap.size we w') (by kernel_rfl) (Below.refl _ _).drew (fun hHeld => ?_)
            refine wpAnyH_take (i := 0) (v := .slice (some ⟨b3', o3', none⟩) N b3) rfl (by kernel_rfl) (by kernel_rfl) (by kernel_rfl) (fun _ _ _ h => h) (Or.inl ⟨by rfl, fun w' h => by (go_simp <;> omega)⟩) (by assumption) ?_
            try simp only [Act.put, List.getElem_toArray, List.getElem_cons_zero, List.getElem_cons_succ, List.setIfInBounds_toArray, List.set_cons_zero, List.set_cons_succ]
            refine wpAnyH_take (i := 1) (v := .int .i64 an) rfl (by kernel_rfl) (by kernel_rfl) (by kernel_rfl) (fun _ _ _ h => h) (Or.inl ⟨by rfl, fun w' h => by (go_simp <;> omega)⟩) (by assumption) ?_
            try simp only [Act.put, List.getElem_toArray, List.getElem_cons_zero, List.getElem_cons_succ, List.setIfInBounds_toArray, List.set_cons_zero, List.set_cons_succ]
            refine wpAnyH_take (i := 2) (v := .pointer (some ⟨b3', o3' + an, none⟩)) rfl (by kernel_rfl) (by kernel_rfl) (by kernel_rfl) (fun _ _ _ h => h) (Or.inl ⟨by rfl, fun w' h => by (go_simp <;> omega)⟩) (by assumption) ?_
            try simp only [Act.put, List.getElem_toArray, List.getElem_cons_zero, List.getElem_cons_succ, List.setIfInBounds_toArray, List.set_cons_zero, List.set_cons_succ]
            refine wpAnyH_take (i := 3) (v := .int .i64 ka) rfl (by kernel_rfl) (by kernel_rfl) (by kernel_rfl) (fun _ _ _ h => h) (Or.inl ⟨by rfl, fun w' h => by (have g0 := (L1.out w' h).1; (go_simp <;> omega))⟩) (by assumption) ?_
            try simp only [Act.put, List.getElem_toArray, List.getElem_cons_zero, List.getElem_cons_succ, List.setIfInBounds_toArray, List.set_cons_zero, List.set_cons_succ]
            refine wpAnyH_take (i := 4) (v := .slice (some ⟨b3', o3', none⟩) N b3) rfl (by kernel_rfl) (by kernel_rfl) (by kernel_rfl) (fun _ _ _ h => h) (Or.inl ⟨by rfl, fun w' h => by (go_simp <;> omega)⟩) (by assumption) ?_
            try simp only [Act.put, List.getElem_toArray, List.getElem_cons_zero, List.getElem_cons_succ, List.setIfInBounds_toArray, List.set_cons_zero, List.set_cons_succ]
            refine wpAnyH_take (i := 5) (v := .int .i64 bn) rfl (by kernel_rfl) (by kernel_rfl) (by kernel_rfl) (fun _ _ _ h => h) (Or.inl ⟨by rfl, fun w' h => by (go_simp <;> omega)⟩) (by assumption) ?_
            try simp only [Act.put, List.getElem_toArray, List.getElem_cons_zero, List.getElem_cons_succ, List.setIfInBounds_toArray, List.set_cons_zero, List.set_cons_succ]
            refine wpAnyH_take (i := 6) (v := .pointer (some ⟨b3', o3' + bn, none⟩)) rfl (by kernel_rfl) (by kernel_rfl) (by kernel_rfl) (fun _ _ _ h => h) (Or.inl ⟨by rfl, fun w' h => by (go_simp <;> omega)⟩) (by assumption) ?_
            try simp only [Act.put, List.getElem_toArray, List.getElem_cons_zero, List.getElem_cons_succ, List.setIfInBounds_toArray, List.set_cons_zero, List.set_cons_succ]
            refine wpAnyH_take (i := 7) (v := .int .i64 kb) rfl (by kernel_rfl) (by kernel_rfl) (by kernel_rfl) (fun _ _ _ h => h) (Or.inl ⟨by rfl, fun w' h => by (have g0 := (L1.out w' h).2; (go_simp <;> omega))⟩) (by assumption) ?_
            try simp only [Act.put, List.getElem_toArray, List.getElem_cons_zero, List.getElem_cons_succ, List.setIfInBounds_toArray, List.set_cons_zero, List.set_cons_succ]
            refine wpAnyH_take (i := 8) (v := .bool false) rfl (by kernel_rfl) (by kernel_rfl) (by kernel_rfl) (fun _ _ _ h => h) (Or.inl ⟨by rfl, fun w' h => by (go_simp <;> omega)⟩) (by assumption) ?_
            try simp only [Act.put, List.getElem_toArray, List.getElem_cons_zero, List.getElem_cons_succ, List.setIfInBounds_toArray, List.set_cons_zero, List.set_cons_succ]
            refine wpAnyH_take (i := 9) (v := .bool false) rfl (by kernel_rfl) (by kernel_rfl) (by kernel_rfl) (fun _ _ _ h => h) (Or.inl ⟨by rfl, fun w' h => by (go_simp <;> omega)⟩) (by assumption) ?_
            try simp only [Act.put, List.getElem_toArray, List.getElem_cons_zero, List.getElem_cons_succ, List.setIfInBounds_toArray, List.set_cons_zero, List.set_cons_succ]
            refine wpAnyH_take (i := 10) (v := .slice (some ⟨b3', o3', none⟩) N b3) rfl (by kernel_rfl) (by kernel_rfl) (by kernel_rfl) (fun _ _ _ h => h) (Or.inl ⟨by rfl, fun w' h => by (go_simp <;> omega)⟩) (by assumption) ?_
            try simp only [Act.put, List.getElem_toArray, List.getElem_cons_zero, List.getElem_cons_succ, List.setIfInBounds_toArray, List.set_cons_zero, List.set_cons_succ]
            refine wpAnyH_take (i := 11) (v := .int .i64 an) rfl (by kernel_rfl) (by kernel_rfl) (by kernel_rfl) (fun _ _ _ h => h) (Or.inl ⟨by rfl, fun w' h => by (go_simp <;> omega)⟩) (by assumption) ?_
            try simp only [Act.put, List.getElem_toArray, List.getElem_cons_zero, List.getElem_cons_succ, List.setIfInBounds_toArray, List.set_cons_zero, List.set_cons_succ]
            refine wpAnyH_take (i := 12) (v := .pointer (some ⟨b3', o3' + an, none⟩)) rfl (by kernel_rfl) (by kernel_rfl) (by kernel_rfl) (fun _ _ _ h => h) (Or.inl ⟨by rfl, fun w' h => by (go_simp <;> omega)⟩) (by assumption) ?_
            try simp only [Act.put, List.getElem_toArray, List.getElem_cons_zero, List.getElem_cons_succ, List.setIfInBounds_toArray, List.set_cons_zero, List.set_cons_succ]
            refine wpAnyH_take (i := 13) (v := .int .i64 ka) rfl (by kernel_rfl) (by kernel_rfl) (by kernel_rfl) (fun _ _ _ h => h) (Or.inl ⟨by rfl, fun w' h => by (have g0 := (L1.out w' h).1; (go_simp <;> omega))⟩) (by assumption) ?_
            try simp only [Act.put, List.getElem_toArray, List.getElem_cons_zero, List.getElem_cons_succ, List.setIfInBounds_toArray, List.set_cons_zero, List.set_cons_succ]
            refine wpAnyH_take (i := 14) (v := .slice (some ⟨b3', o3', none⟩) N b3) rfl (by kernel_rfl) (by kernel_rfl) (by kernel_rfl) (fun _ _ _ h => h) (Or.inl ⟨by rfl, fun w' h => by (go_simp <;> omega)⟩) (by assumption) ?_
            try simp only [Act.put, List.getElem_toArray, List.getElem_cons_zero, List.getElem_cons_succ, List.setIfInBounds_toArray, List.set_cons_zero, List.set_cons_succ]
            refine wpAnyH_take (i := 15) (v := .int .i64 bn) rfl (by kernel_rfl) (by kernel_rfl) (by kernel_rfl) (fun _ _ _ h => h) (Or.inl ⟨by rfl, fun w' h => by (go_simp <;> omega)⟩) (by assumption) ?_
            try simp only [Act.put, List.getElem_toArray, List.getElem_cons_zero, List.getElem_cons_succ, List.setIfInBounds_toArray, List.set_cons_zero, List.set_cons_succ]
            refine wpAnyH_take (i := 16) (v := .pointer (some ⟨b3', o3' + bn, none⟩)) rfl (by kernel_rfl) (by kernel_rfl) (by kernel_rfl) (fun _ _ _ h => h) (Or.inl ⟨by rfl, fun w' h => by (go_simp <;> omega)⟩) (by assumption) ?_
            try simp only [Act.put, List.getElem_toArray, List.getElem_cons_zero, List.getElem_cons_succ, List.setIfInBounds_toArray, List.set_cons_zero, List.set_cons_succ]
            refine wpAnyH_take (i := 17) (v := .int .i64 kb) rfl (by kernel_rfl) (by kernel_rfl) (by kernel_rfl) (fun _ _ _ h => h) (Or.inl ⟨by rfl, fun w' h => by (have g0 := (L1.out w' h).2; (go_simp <;> omega))⟩) (by assumption) ?_
            try simp only [Act.put, List.getElem_toArray, List.getElem_cons_zero, List.getElem_cons_succ, List.setIfInBounds_toArray, List.set_cons_zero, List.set_cons_succ]
            refine wpAnyH_take (i := 18) (v := .bool true) rfl (by kernel_rfl) (by kernel_rfl) (by kernel_rfl) (fun _ _ _ h => h) (Or.inl ⟨by rfl, fun w' h => by (go_simp <;> omega)⟩) (by assumption) ?_
            try simp only [Act.put, List.getElem_toArray, List.getElem_cons_zero, List.getElem_cons_succ, List.setIfInBounds_toArray, List.set_cons_zero, List.set_cons_succ]
            refine wpAnyH_take (i := 19) (v := .bool true) rfl (by kernel_rfl) (by kernel_rfl) (by kernel_rfl) (fun _ _ _ h => h) (Or.inl ⟨by rfl, fun w' h => by (go_simp <;> omega)⟩) (by assumption) ?_
            try simp only [Act.put, List.getElem_toArray, List.getElem_cons_zero, List.getElem_cons_succ, List.setIfInBounds_toArray, List.set_cons_zero, List.set_cons_succ]
            refine wpAnyH_take (i := 20) (v := .int .i64 an) rfl (by kernel_rfl) (by kernel_rfl) (by kernel_rfl) (fun _ _ _ h => h) (Or.inl ⟨by rfl, fun w' h => by (go_simp <;> omega)⟩) (by assumption) ?_
            try simp only [Act.put, List.getElem_toArray, List.getElem_cons_zero, List.getElem_cons_succ, List.setIfInBounds_toArray, List.set_cons_zero, List.set_cons_succ]
            refine wpAnyH_take (i := 21) (v := .int .i64 bn) rfl (by kernel_rfl) (by kernel_rfl) (by kernel_rfl) (fun _ _ _ h => h) (Or.inl ⟨by rfl, fun w' h => by (go_simp <;> omega)⟩) (by assumption) ?_
            try simp only [Act.put, List.getElem_toArray, List.getElem_cons_zero, List.getElem_cons_succ, List.setIfInBounds_toArray, List.set_cons_zero, List.set_cons_succ]
            refine wpAnyH_take (i := 22) (v := .bool false) rfl (by kernel_rfl) (by kernel_rfl) (by kernel_rfl) (fun _ _ _ h => h) (Or.inl ⟨by rfl, fun w' h => by (go_simp <;> omega)⟩) (by assumption) ?_
            try simp only [Act.put, List.getElem_toArray, List.getElem_cons_zero, List.getElem_cons_succ, List.setIfInBounds_toArray, List.set_cons_zero, List.set_cons_succ]
            refine wpAnyH_take (i := 23) (v := .bool false) rfl (by kernel_rfl) (by kernel_rfl) (by kernel_rfl) (fun _ _ _ h => h) (Or.inl ⟨by rfl, fun w' h => by (go_simp <;> omega)⟩) (by assumption) ?_
            try simp only [Act.put, List.getElem_toArray, List.getElem_cons_zero, List.getElem_cons_succ, List.setIfInBounds_toArray, List.set_cons_zero, List.set_cons_succ]
            refine wpAnyH_take (i := 24) (v := .bool false) rfl (by kernel_rfl) (by kernel_rfl) (by kernel_rfl) (fun _ _ _ h => h) (Or.inl ⟨by rfl, fun w' h => by (go_simp <;> omega)⟩) (by assumption) ?_
            try simp only [Act.put, List.getElem_toArray, List.getElem_cons_zero, List.getElem_cons_succ, List.setIfInBounds_toArray, List.set_cons_zero, List.set_cons_succ]
            refine wpAnyH_done (by kernel_rfl) ?_ _
            try simp only [Act.put, List.getElem_toArray, List.getElem_cons_zero, List.getElem_cons_succ, List.setIfInBounds_toArray, List.set_cons_zero, List.set_cons_succ]
            have hb := hHeld
            clear hHeld
            go_wp2
            go_roundw
            case rel => exact ⟨j + 1, by have := HI.out; omega, by have := HI.out; first | (rw [← this]; go_num) | go_num, HB.out.drew⟩
            case measure => have := HI.out; simp [intOf]; omega
          · as_aux_lemma =>
            have he2 : (ka == kb) = false := by simpa using heq
            clear heq
            refine wp_region_held_drew (S := fun w' => Below we.heap.size we w') (by kernel_rfl) (Below.refl _ _).drew (fun hHeld => ?_)
            refine wpAnyH_take (i := 0) (v := .slice (some ⟨b3', o3', none⟩) N b3) rfl (by kernel_rfl) (by kernel_rfl) (by kernel_rfl) (fun _ _ _ h => h) (Or.inl ⟨by rfl, fun w' h => by (go_simp <;> omega)⟩) (by assumption) ?_
            try simp only [Act.put, List.getElem_toArray, List.getElem_cons_zero, List.getElem_cons_succ, List.setIfInBounds_toArray, List.set_cons_zero, List.set_cons_succ]
            refine wpAnyH_take (i := 1) (v := .int .i64 an) rfl (by kernel_rfl) (by kernel_rfl) (by kernel_rfl) (fun _ _ _ h => h) (Or.inl ⟨by rfl, fun w' h => by (go_simp <;> omega)⟩) (by assumption) ?_
            try simp only [Act.put, List.getElem_toArray, List.getElem_cons_zero, List.getElem_cons_succ, List.setIfInBounds_toArray, List.set_cons_zero, List.set_cons_succ]
            refine wpAnyH_take (i := 2) (v := .pointer (some ⟨b3', o3' + an, none⟩)) rfl (by kernel_rfl) (by kernel_rfl) (by kernel_rfl) (fun _ _ _ h => h) (Or.inl ⟨by rfl, fun w' h => by (go_simp <;> omega)⟩) (by assumption) ?_
            try simp only [Act.put, List.getElem_toArray, List.getElem_cons_zero, List.getElem_cons_succ, List.setIfInBounds_toArray, List.set_cons_zero, List.set_cons_succ]
            refine wpAnyH_take (i := 3) (v := .int .i64 ka) rfl (by kernel_rfl) (by kernel_rfl) (by kernel_rfl) (fun _ _ _ h => h) (Or.inl ⟨by rfl, fun w' h => by (have g0 := (L1.out w' h).1; (go_simp <;> omega))⟩) (by assumption) ?_
            try simp only [Act.put, List.getElem_toArray, List.getElem_cons_zero, List.getElem_cons_succ, List.setIfInBounds_toArray, List.set_cons_zero, List.set_cons_succ]
            refine wpAnyH_take (i := 4) (v := .slice (some ⟨b3', o3', none⟩) N b3) rfl (by kernel_rfl) (by kernel_rfl) (by kernel_rfl) (fun _ _ _ h => h) (Or.inl ⟨by rfl, fun w' h => by (go_simp <;> omega)⟩) (by assumption) ?_
            try simp only [Act.put, List.getElem_toArray, List.getElem_cons_zero, List.getElem_cons_succ, List.setIfInBounds_toArray, List.set_cons_zero, List.set_cons_succ]
            refine wpAnyH_take (i := 5) (v := .int .i64 bn) rfl (by kernel_rfl) (by kernel_rfl) (by kernel_rfl) (fun _ _ _ h => h) (Or.inl ⟨by rfl, fun w' h => by (go_simp <;> omega)⟩) (by assumption) ?_
            try simp only [Act.put, List.getElem_toArray, List.getElem_cons_zero, List.getElem_cons_succ, List.setIfInBounds_toArray, List.set_cons_zero, List.set_cons_succ]
            refine wpAnyH_take (i := 6) (v := .pointer (some ⟨b3', o3' + bn, none⟩)) rfl (by kernel_rfl) (by kernel_rfl) (by kernel_rfl) (fun _ _ _ h => h) (Or.inl ⟨by rfl, fun w' h => by (go_simp <;> omega)⟩) (by assumption) ?_
            try simp only [Act.put, List.getElem_toArray, List.getElem_cons_zero, List.getElem_cons_succ, List.setIfInBounds_toArray, List.set_cons_zero, List.set_cons_succ]
            refine wpAnyH_take (i := 7) (v := .int .i64 kb) rfl (by kernel_rfl) (by kernel_rfl) (by kernel_rfl) (fun _ _ _ h => h) (Or.inl ⟨by rfl, fun w' h => by (have g0 := (L1.out w' h).2; (go_simp <;> omega))⟩) (by assumption) ?_
            try simp only [Act.put, List.getElem_toArray, List.getElem_cons_zero, List.getElem_cons_succ, List.setIfInBounds_toArray, List.set_cons_zero, List.set_cons_succ]
            refine wpAnyH_take (i := 8) (v := .bool false) rfl (by kernel_rfl) (by kernel_rfl) (by kernel_rfl) (fun _ _ _ h => h) (Or.inl ⟨by rfl, fun w' h => by (go_simp <;> omega)⟩) (by assumption) ?_
            try simp only [Act.put, List.getElem_toArray, List.getElem_cons_zero, List.getElem_cons_succ, List.setIfInBounds_toArray, List.set_cons_zero, List.set_cons_succ]
            refine wpAnyH_take (i := 9) (v := .bool false) rfl (by kernel_rfl) (by kernel_rfl) (by kernel_rfl) (fun _ _ _ h => h) (Or.inl ⟨by rfl, fun w' h => by (go_simp <;> omega)⟩) (by assumption) ?_
            try simp only [Act.put, List.getElem_toArray, List.getElem_cons_zero, List.getElem_cons_succ, List.setIfInBounds_toArray, List.set_cons_zero, List.set_cons_succ]
            refine wpAnyH_take (i := 10) (v := .slice (some ⟨b3', o3', none⟩) N b3) rfl (by kernel_rfl) (by kernel_rfl) (by kernel_rfl) (fun _ _ _ h => h) (Or.inl ⟨by rfl, fun w' h => by (go_simp <;> omega)⟩) (by assumption) ?_
            try simp only [Act.put, List.getElem_toArray, List.getElem_cons_zero, List.getElem_cons_succ, List.setIfInBounds_toArray, List.set_cons_zero, List.set_cons_succ]
            refine wpAnyH_take (i := 11) (v := .int .i64 an) rfl (by kernel_rfl) (by kernel_rfl) (by kernel_rfl) (fun _ _ _ h => h) (Or.inl ⟨by rfl, fun w' h => by (go_simp <;> omega)⟩) (by assumption) ?_
            try simp only [Act.put, List.getElem_toArray, List.getElem_cons_zero, List.getElem_cons_succ, List.setIfInBounds_toArray, List.set_cons_zero, List.set_cons_succ]
            refine wpAnyH_take (i := 12) (v := .pointer (some ⟨b3', o3' + an, none⟩)) rfl (by kernel_rfl) (by kernel_rfl) (by kernel_rfl) (fun _ _ _ h => h) (Or.inl ⟨by rfl, fun w' h => by (go_simp <;> omega)⟩) (by assumption) ?_
            try simp only [Act.put, List.getElem_toArray, List.getElem_cons_zero, List.getElem_cons_succ, List.setIfInBounds_toArray, List.set_cons_zero, List.set_cons_succ]
            refine wpAnyH_take (i := 13) (v := .int .i64 ka) rfl (by kernel_rfl) (by kernel_rfl) (by kernel_rfl) (fun _ _ _ h => h) (Or.inl ⟨by rfl, fun w' h => by (have g0 := (L1.out w' h).1; (go_simp <;> omega))⟩) (by assumption) ?_
            try simp only [Act.put, List.getElem_toArray, List.getElem_cons_zero, List.getElem_cons_succ, List.setIfInBounds_toArray, List.set_cons_zero, List.set_cons_succ]
            refine wpAnyH_take (i := 14) (v := .slice (some ⟨b3', o3', none⟩) N b3) rfl (by kernel_rfl) (by kernel_rfl) (by kernel_rfl) (fun _ _ _ h => h) (Or.inl ⟨by rfl, fun w' h => by (go_simp <;> omega)⟩) (by assumption) ?_
            try simp only [Act.put, List.getElem_toArray, List.getElem_cons_zero, List.getElem_cons_succ, List.setIfInBounds_toArray, List.set_cons_zero, List.set_cons_succ]
            refine wpAnyH_take (i := 15) (v := .int .i64 bn) rfl (by kernel_rfl) (by kernel_rfl) (by kernel_rfl) (fun _ _ _ h => h) (Or.inl ⟨by rfl, fun w' h => by (go_simp <;> omega)⟩) (by assumption) ?_
            try simp only [Act.put, List.getElem_toArray, List.getElem_cons_zero, List.getElem_cons_succ, List.setIfInBounds_toArray, List.set_cons_zero, List.set_cons_succ]
            refine wpAnyH_take (i := 16) (v := .pointer (some ⟨b3', o3' + bn, none⟩)) rfl (by kernel_rfl) (by kernel_rfl) (by kernel_rfl) (fun _ _ _ h => h) (Or.inl ⟨by rfl, fun w' h => by (go_simp <;> omega)⟩) (by assumption) ?_
            try simp only [Act.put, List.getElem_toArray, List.getElem_cons_zero, List.getElem_cons_succ, List.setIfInBounds_toArray, List.set_cons_zero, List.set_cons_succ]
            refine wpAnyH_take (i := 17) (v := .int .i64 kb) rfl (by kernel_rfl) (by kernel_rfl) (by kernel_rfl) (fun _ _ _ h => h) (Or.inl ⟨by rfl, fun w' h => by (have g0 := (L1.out w' h).2; (go_simp <;> omega))⟩) (by assumption) ?_
            try simp only [Act.put, List.getElem_toArray, List.getElem_cons_zero, List.getElem_cons_succ, List.setIfInBounds_toArray, List.set_cons_zero, List.set_cons_succ]
            refine wpAnyH_take (i := 18) (v := .bool false) rfl (by kernel_rfl) (by kernel_rfl) (by kernel_rfl) (fun _ _ _ h => h) (Or.inl ⟨by rfl, fun w' h => by (go_simp <;> omega)⟩) (by assumption) ?_
            try simp only [Act.put, List.getElem_toArray, List.getElem_cons_zero, List.getElem_cons_succ, List.setIfInBounds_toArray, List.set_cons_zero, List.set_cons_succ]
            refine wpAnyH_take (i := 19) (v := .bool false) rfl (by kernel_rfl) (by kernel_rfl) (by kernel_rfl) (fun _ _ _ h => h) (Or.inl ⟨by rfl, fun w' h => by (go_simp <;> omega)⟩) (by assumption) ?_
            try simp only [Act.put, List.getElem_toArray, List.getElem_cons_zero, List.getElem_cons_succ, List.setIfInBounds_toArray, List.set_cons_zero, List.set_cons_succ]
            refine wpAnyH_take (i := 20) (v := undef) rfl (by kernel_rfl) (by kernel_rfl) (by kernel_rfl) (fun _ _ _ h => h) (Or.inr ⟨by rfl, rfl⟩) (by assumption) ?_
            try simp only [Act.put, List.getElem_toArray, List.getElem_cons_zero, List.getElem_cons_succ, List.setIfInBounds_toArray, List.set_cons_zero, List.set_cons_succ]
            refine wpAnyH_take (i := 21) (v := undef) rfl (by kernel_rfl) (by kernel_rfl) (by kernel_rfl) (fun _ _ _ h => h) (Or.inr ⟨by rfl, rfl⟩) (by assumption) ?_
            try simp only [Act.put, List.getElem_toArray, List.getElem_cons_zero, List.getElem_cons_succ, List.setIfInBounds_toArray, List.set_cons_zero, List.set_cons_succ]
            refine wpAnyH_take (i := 22) (v := undef) rfl (by kernel_rfl) (by kernel_rfl) (by kernel_rfl) (fun _ _ _ h => h) (Or.inr ⟨by rfl, rfl⟩) (by assumption) ?_
            try simp only [Act.put, List.getElem_toArray, List.getElem_cons_zero, List.getElem_cons_succ, List.setIfInBounds_toArray, List.set_cons_zero, List.set_cons_succ]
            refine wpAnyH_take (i := 23) (v := .bool false) rfl (by kernel_rfl) (by kernel_rfl) (by kernel_rfl) (fun _ _ _ h => h) (Or.inl ⟨by rfl, fun w' h => by (go_simp <;> omega)⟩) (by assumption) ?_
            try simp only [Act.put, List.getElem_toArray, List.getElem_cons_zero, List.getElem_cons_succ, List.setIfInBounds_toArray, List.set_cons_zero, List.set_cons_succ]
            refine wpAnyH_take (i := 24) (v := .bool false) rfl (by kernel_rfl) (by kernel_rfl) (by kernel_rfl) (fun _ _ _ h => h) (Or.inl ⟨by rfl, fun w' h => by (go_simp <;> omega)⟩) (by assumption) ?_
            try simp only [Act.put, List.getElem_toArray, List.getElem_cons_zero, List.getElem_cons_succ, List.setIfInBounds_toArray, List.set_cons_zero, List.set_cons_succ]
            refine wpAnyH_done (by kernel_rfl) ?_ _
            try simp only [Act.put, List.getElem_toArray, List.getElem_cons_zero, List.getElem_cons_succ, List.setIfInBounds_toArray, List.set_cons_zero, List.set_cons_succ]
            have hb := hHeld
            clear hHeld
            go_wp2
            go_roundw
            case rel => exact ⟨j + 1, by have := HI.out; omega, by have := HI.out; first | (rw [← this]; go_num) | go_num, HB.out.drew⟩
            case measure => have := HI.out; simp [intOf]; omega
        · as_aux_lemma =>
          obtain rfl : i = N := by omega
          have hHi := hi
          have HBc : Hid (Below w.heap.size w we) := HBb.out.trans (HB.out.mono HBb.out.size)
          clear HB HBb hi hHi
          obtain ⟨M, hM⟩ : ∃ M : Nat, m.length = M := ⟨_, rfl⟩
          have HMm := Lib.hid hM
          rw [hM]
          have hM5 : M ≤ 5 := by omega
          have HFl2 : Hid (F ≤ lmTo i M i) := by show _ ≤ _; have := HFl.out; rw [hM] at this; exact this
          clear hM
          go_wp2_with fail
          go_loopw [32, 33] (fun l k wr => ∃ (j : Nat), j ≤ i ∧ k = .int .i64 ((j + 1 : Nat) : Int) ∧ l = .int .i64 (lmTo i M j) ∧ Below we.heap.size we wr)
            (fun _ k _ => i + 2 - (intOf k).toNat)
          case atStart => exact ⟨0, by omega, rfl, rfl, Below.refl _ _⟩
          case round => as_aux_lemma =>
            obtain ⟨q, hq, rfl, rfl, hB⟩ := hrel
            obtain ⟨wf, rfl⟩ : ∃ u, u = wr := ⟨_, rfl⟩
            have HB := Lib.hid hB
            clear hB
            obtain ⟨k, hk⟩ : ∃ k, q + 1 = k := ⟨_, rfl⟩
            rw [hk]
            have HKk := Lib.hid hk
            have hk1 : 1 ≤ k := by omega
            have hkI : (1 : Int) ≤ k := by omega
            have hb := lm_b (N := i) (M := M) (by omega) (by omega) q (by omega)
            obtain ⟨lv, hlv⟩ : ∃ v, lmTo i M q = v := ⟨_, rfl⟩
            have HLv := Lib.hid hlv
            rw [hlv] at hb ⊢
            obtain ⟨hb0, hb1⟩ := hb
            clear hlv hk
            by_cases hlt5 : k ≤ i
            · obtain ⟨P2, hP2⟩ : ∃ P : Int, (i : Int) * 2 * (k : Int) = P := ⟨_, rfl⟩
              obtain ⟨P3, hP3⟩ : ∃ P : Int, P2 * (M : Int) = P := ⟨_, rfl⟩
              obtain ⟨P5, hP5⟩ : ∃ P : Int, Pn * (M : Int) = P := ⟨_, rfl⟩
              obtain ⟨Q, hQ⟩ : ∃ P : Int, (P3 - P5) * (P3 - P5) = P := ⟨_, rfl⟩
              have hbs := lm_p (N := i) (k := k) (M := M) (by omega) (by omega) (by omega) hP2 HPn.out hP3 hP5 hQ
              obtain ⟨⟨p20, p21⟩, ⟨p30, p31⟩, ⟨p50, p51⟩, q0, q1⟩ := hbs
              have hle5 : (k : Int) ≤ i := by omega
              have HNx : Hid (lmTo i M (q + 1) = lv + Q) := by
                show _ = _
                rw [lmTo, HLv.out, lmO]
                have : ((q : Int) + 1) = (k : Int) := by have := HKk.out; omega
                rw [this, hP2, hP3, HPn.out, hP5, hQ]
              have x1 : IntKind.i64.wrap ((i : Int) * 2 * (k : Int)) = P2 := by rw [hP2]; exact IntWalk.i64_in _ ⟨by omega, by omega⟩
              have x2 : wrap64 ((i : Int) * 2 * (k : Int)) = P2 := by rw [hP2]; exact IntWalk.wrap64_in _ ⟨by omega, by omega⟩
              have x3 : IntKind.i64.wrap (P2 * (M : Int)) = P3 := by rw [hP3]; exact IntWalk.i64_in _ ⟨by omega, by omega⟩
              have x4 : wrap64 (P2 * (M : Int)) = P3 := by rw [hP3]; exact IntWalk.wrap64_in _ ⟨by omega, by omega⟩
              have x5 : IntKind.i64.wrap ((i : Int) * ((i : Int) + 1)) = Pn := by rw [HPn.out]; exact IntWalk.i64_in _ ⟨by omega, by omega⟩
              have x6 : wrap64 ((i : Int) * ((i : Int) + 1)) = Pn := by rw [HPn.out]; exact IntWalk.wrap64_in _ ⟨by omega, by omega⟩
              have x7 : IntKind.i64.wrap (Pn * (M : Int)) = P5 := by rw [hP5]; exact IntWalk.i64_in _ ⟨by omega, by omega⟩
              have x8 : wrap64 (Pn * (M : Int)) = P5 := by rw [hP5]; exact IntWalk.wrap64_in _ ⟨by omega, by omega⟩
              have x9 : IntKind.i64.wrap ((P3 - P5) * (P3 - P5)) = Q := by rw [hQ]; exact IntWalk.i64_in _ ⟨by omega, by omega⟩
              have x10 : wrap64 ((P3 - P5) * (P3 - P5)) = Q := by rw [hQ]; exact IntWalk.wrap64_in _ ⟨by omega, by omega⟩
              clear hP2 hP3 hP5 hQ
              go_wp2
              clear x1 x2 x3 x4 x5 x6 x7 x8 x9 x10
              go_roundw
              case rel => exact ⟨q + 1, by have := HKk.out; omega, by have := HKk.out; first | (rw [← this]; go_num) | go_num, by rw [HNx.out], HB.out⟩
              case measure => have := HKk.out; simp [intOf]; omega
            · have hqi : q = i := by have := HKk.out; omega
              have hle5 : ¬ (k : Int) ≤ i := by omega
              have hfin : F ≤ lv := by rw [← HLv.out, hqi]; exact HFl2.out
              clear hqi
              go_wp2
              go_ret
              exact ⟨by first | rfl | simp [hfin], HBc.out.trans (HB.out.mono HBc.out.size)⟩
end Go.Proofs.YtlagnocglkoomaaDoor
