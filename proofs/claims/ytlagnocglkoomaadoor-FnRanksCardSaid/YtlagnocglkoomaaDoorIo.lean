/-
  IsOrder: the contracts, of the model and of the program. Condition: the sentinel errors lie as the row lists them (the program's).
-/
import Derived.Test.YtlagnocglkoomaaDoorVs7
import Derived.Test.YtlagnocglkoomaaDoorGk
import Derived.Test.YtlagnocglkoomaaDoorTv
import Derived.Test.YtlagnocglkoomaaDoorTs0
import Derived.Test.YtlagnocglkoomaaDoorRg
namespace Go.Proofs.YtlagnocglkoomaaDoor
open Go.ChangeShapes Go.WideShapes Go.ChangeAt Go.RowKit Go.Deep

theorem bit_facts : ∀ N : Fin 9, ∀ k : Fin 9, k < N → (0 : Int) < ((2 : Int) ^ N.val - 1) / 2 ^ k.val ∧ bits BinOp.and IntKind.i64 (((2 : Int) ^ N.val - 1) / 2 ^ k.val) 1 = 1 := by decide
theorem bit_end : ∀ N : Fin 9, ((2 : Int) ^ N.val - 1) / 2 ^ N.val ≤ (0 : Int) := by decide
theorem pow_b : ∀ N : Fin 9, (1 : Int) ≤ (2 : Int) ^ N.val ∧ (2 : Int) ^ N.val ≤ 256 := by decide
theorem setOf_any (N : Nat) (hN : N ≤ 8) (w : World) : Calls Tryd.prog 28 #[.int .i64 N] w fun e w' => e = .returned (.int .i64 (2 ^ N - 1)) ∧ w = w' := by
  have h0 : (0 : Int) ≤ (N : Int) := Int.natCast_nonneg _
  have hb := pow_b ⟨N, by omega⟩
  dsimp only at hb
  obtain ⟨p, hp⟩ : ∃ p, (2 : Int) ^ N = p := ⟨_, rfl⟩
  rw [hp] at hb ⊢
  have u1 : IntKind.i64.wrap p = p := IntWalk.i64_in _ ⟨by omega, by omega⟩
  have u2 : wrap64 p = p := IntWalk.wrap64_in _ ⟨by omega, by omega⟩
  have u3 : IntKind.i64.wrap (p - 1) = p - 1 := IntWalk.i64_in _ ⟨by omega, by omega⟩
  have u4 : wrap64 (p - 1) = p - 1 := IntWalk.wrap64_in _ ⟨by omega, by omega⟩
  go_enter Tryd.func28, Tryd.ntmps28
  go_wp2
  go_ret
  exact ⟨by (simp only [hp, u2, u4]; first | done | rfl), rfl⟩
theorem nil_ownS (w : World) (b : Nat) : w.ownsRow b 2 1 (.slice none 0 0) 0 ((iota 0).flatMap icells) := ⟨rfl, .inl ⟨rfl, rfl⟩⟩
set_option maxRecDepth 100000 in
set_option maxHeartbeats 4000000 in
theorem samplesAll_any (N : Nat) (hN : N ≤ 8) (w : World) : Calls Tryd.prog 27 #[.int .i64 (2 ^ N - 1)] w fun e w' => ∃ A' c', e = .returned (.slice A' N c') ∧ w'.ownsRow w.heap.size 2 1 (.slice A' N c') N ((iota N).flatMap icells) ∧ Below w.heap.size w w' := by
  obtain ⟨i0, hi, hz0, hz1, hz2⟩ := info_parts Tryd.info64
  have HI := Lib.hid hi
  have HZ0 := Lib.hid hz0
  have HZ1 := Lib.hid hz1
  have HZ2 := Lib.hid hz2
  clear hi hz0 hz1 hz2
  have HF : Hid (∀ k : Nat, k < N → (0 : Int) < ((2 : Int) ^ N - 1) / 2 ^ k ∧ bits BinOp.and IntKind.i64 (((2 : Int) ^ N - 1) / 2 ^ k) 1 = 1) := fun k hk => bit_facts ⟨N, by omega⟩ ⟨k, by omega⟩ hk
  have HE : Hid (((2 : Int) ^ N - 1) / 2 ^ N ≤ (0 : Int)) := bit_end ⟨N, by omega⟩
  obtain ⟨S, hS⟩ : ∃ S : Int, (2 : Int) ^ N - 1 = S := ⟨_, rfl⟩
  rw [hS] at HF HE ⊢
  have HO0 : Hid (w.ownsRow w.heap.size 2 1 (.slice none 0 0) 0 ((iota 0).flatMap icells)) := nil_ownS _ _
  clear hS
  go_enter Tryd.func27, Tryd.ntmps27
  go_wp2_with fail
  go_loopw [3, 4] (fun v i wr => ∃ (k : Nat) (A1 : Option Addr) (c1 : Nat), k ≤ N ∧ i = .int .i64 k ∧ v = .slice A1 k c1 ∧ wr.ownsRow w.heap.size 2 1 (.slice A1 k c1) k ((iota k).flatMap icells) ∧ Below w.heap.size w wr)
    (fun _ i _ => N - (intOf i).toNat)
  case atStart => exact ⟨0, _, _, by omega, rfl, rfl, HO0.out, Below.refl _ _⟩
  case round =>
    clear HO0
    obtain ⟨k, A1, c1, hk, rfl, rfl, hO, hB⟩ := hrel
    have HO := Lib.hid hO
    have HB := Lib.hid hB
    clear hO hB
    have hk0 : (0 : Int) ≤ (k : Int) := Int.natCast_nonneg _
    by_cases hlt : k < N
    · obtain ⟨hf1, hf2⟩ := HF.out k hlt
      obtain ⟨q, hq⟩ : ∃ q, S / 2 ^ k = q := ⟨_, rfl⟩
      rw [hq] at hf1 hf2
      have HSt : Hid (iota (k + 1) = iota k ++ [(k : Int)]) := iota_succ k
      go_wp2_with (at_builtin; refine wpList_append_own _ rfl (.tmp 16) (.tmp 18) 30 rfl w.heap.size 2 i0 (.int .i64 0) 1 8 Tryd.underlying30 HI.out HZ0.out HZ1.out HZ2.out rfl (by decide) _ _ _ rfl (HO.out.alloc _) ⟨wr.heap.size, 0, none⟩ 1 1 [.int .i64 k] rfl rfl ?f1 ?f2 ?f3 ?f4 ?f5 ?_)
      case f1 => exact cell_one_new _ _ _
      case f2 => simp [Value.oneCell']
      case f3 => unfold maxLen; omega
      case f4 => omega
      case f5 => have := HB.out.size; simp; omega
      intro v' w8 hown' hgrow _
      have hown8 : w8.ownsRow w.heap.size 2 1 v' (iota (k + 1)).length ((iota (k + 1)).flatMap icells) := by rw [HSt.out, List.length_append, List.flatMap_append, iota_len]; exact hown'
      obtain ⟨A8, c8, rfl, -, -⟩ := own_rd icells_length hown8
      rw [iota_len] at hown8 ⊢
      have HO8 := Lib.hid hown8
      have HB8 : Hid (Below w.heap.size w w8) := (HB.out.alloc HB.out.size _).grown hgrow (by have := HB.out.size; simp; omega) (fun r e => (HO.out.lt r e).1)
      clear hown' hgrow hown8 hf1 hf2 hq
      go_wp2
      go_roundw
      case rel => exact ⟨k + 1, A8, c8, by omega, by go_num, by first | rfl | simp, by simpa using HO8.out, HB8.out⟩
      case measure => simp [intOf]; omega
    · obtain rfl : k = N := by omega
      have he := HE.out
      go_wp2
      go_ret
      exact ⟨_, _, rfl, HO.out, HB.out⟩

theorem valuesI_any (A : Option Addr) (n c : Nat) (w : World) :
    Calls Tryd.prog 38 #[.slice A n c] w fun e w' => e = .returned (.func (.func 53) #[] #[.pointer (some ⟨w.heap.size, 0, none⟩)]) ∧ w' = w.alloc (.cells #[.slice A n c] 30) := by
  go_enter Tryd.func38, Tryd.ntmps38
  go_wp2
  go_ret
  exact ⟨rfl, rfl⟩
set_option maxRecDepth 100000 in
set_option maxHeartbeats 4000000 in
/-- c0: the error for ranges lies there. -/
theorem implIsOrder_any (n : Int) (xs : List Int) (A : Option Addr) (c : Nat) (ad : Nat → Addr) (w : World) (hl : xs.length ≤ 1048576) (hr : Rd w w.heap.size icells A xs) (c0 : w.cell? ⟨1, 0, none⟩ = some (.iface 121 (.pointer (some (ad 0))))) :
    Calls Tryd.prog 16 #[.int .i64 n, .slice A xs.length c] w fun e w' => e = .returned (.bool (ioB n xs)) ∧ Below w.heap.size w w' := by
  have HR := Lib.hid hr
  have HC0 := Lib.hid (checkSamples_any n ad w c0)
  clear hr c0
  have hx0 : (0 : Int) ≤ (xs.length : Int) := Int.natCast_nonneg _
  rw [show (decide ((1 : Int) ≤ n) && decide (n ≤ 8)) = wi 1 8 n from rfl] at HC0
  cases h0 : wi 1 8 n
  · have HV : Hid (ioB n xs = false) := by show _ = _; rw [ioB, h0]; rfl
    rw [h0, chk_no, erO_some] at HC0
    clear h0
    go_enter Tryd.func16, Tryd.ntmps16
    go_wp2_with fail
    refine HC0.out.mono ?_
    rintro e w1 ⟨rfl, rfl⟩
    go_wp2
    go_ret
    exact ⟨ret_bool HV.out.symm, Below.refl _ _⟩
  have hn := wi_iff.1 h0
  have HV0 : Hid (ioB n xs = orB n xs) := by show _ = _; rw [ioB, h0]; rfl
  rw [h0, chk_yes, erO_none] at HC0
  clear h0
  by_cases hne : (xs.length : Int) = n
  rotate_left
  · have hne' : ((xs.length : Int) == n) = false := by simpa using hne
    have HV : Hid (ioB n xs = false) := by show _ = _; rw [HV0.out]; exact orB_len hne
    go_enter Tryd.func16, Tryd.ntmps16
    go_wp2_with fail
    refine HC0.out.mono ?_
    rintro e w1 ⟨rfl, rfl⟩
    go_wp2
    go_ret
    exact ⟨ret_bool HV.out.symm, Below.refl _ _⟩
  obtain ⟨N, hN⟩ : ∃ N : Nat, xs.length = N := ⟨_, rfl⟩
  have hnN : n = (N : Int) := by omega
  subst hnN
  have hne' : (((N : Nat) : Int) == ((N : Nat) : Int)) = true := by simp
  have hB1 : Below w.heap.size w (w.alloc (.cells #[.slice A N c] 30)) := (Below.refl _ _).alloc (Nat.le_refl _) _
  have HS := Lib.hid (sortedI_any w.heap.size A c xs (by omega) (by omega) (w.alloc (.cells #[.slice A N c] 30)) (by simp) (by rw [hN]; exact (Blk.new w 30 #[.slice A N c]).cell 0) (HR.out.keep hB1))
  have HB1 := Lib.hid hB1
  have HN := Lib.hid hN
  rw [hN]
  clear hB1 hne hN
  go_enter Tryd.func16, Tryd.ntmps16
  go_wp2_with fail
  refine HC0.out.mono ?_
  rintro e w1 ⟨rfl, rfl⟩
  clear HC0
  go_wp2_with fail
  refine (valuesI_any A N c _).mono ?_
  rintro e w1 ⟨rfl, rfl⟩
  go_wp2_with fail
  refine HS.out.mono ?_
  rintro e w2 ⟨g, cap, Y, rfl, hp, hs, hO, hb⟩
  have HB2 : Hid (Below w.heap.size w w2) := HB1.out.trans (hb.mono HB1.out.size)
  have HYl : Hid (Y.length = N) := by show _ = _; rw [hp.length_eq]; exact HN.out
  have HY : Hid (decide (Y = iota N) = orB N xs) := by
    show _ = _
    have := srt_iota hp hs
    rw [hp.length_eq, HN.out] at this
    exact this
  have HYr : Hid (Rd w2 w2.heap.size icells (some ⟨g, 0, none⟩) Y) := own_rd2 icells_length (hO.own (Nat.le_refl g))
  clear hp hs hO hb HS HB1
  go_wp2_with fail
  refine (setOf_any N (by omega) _).mono ?_
  rintro e w3 ⟨rfl, rfl⟩
  go_wp2_with fail
  refine (samplesAll_any N (by omega) _).mono ?_
  rintro e w3 ⟨A3, c3, rfl, hO3, hb3⟩
  have HB3 : Hid (Below w.heap.size w w3) := HB2.out.trans (hb3.mono HB2.out.size)
  have hI : w3.ownsRow w2.heap.size 2 1 (.slice A3 (iota N).length c3) (iota N).length ((iota N).flatMap icells) := by rw [iota_len]; exact hO3
  have hR3 := own_rd2 icells_length hI
  have HE := Lib.hid (sliceEqual_any Y (iota N) (some ⟨g, 0, none⟩) A3 cap c3 w3 (by rw [HYl.out]; omega) (by rw [iota_len]; omega) (HYr.out.keep hb3) hR3)
  rw [HY.out, iota_len] at HE
  clear hO3 hb3 hI hR3 HB2 HYr
  obtain ⟨v, hv⟩ : ∃ v, orB N xs = v := ⟨_, rfl⟩
  rw [hv] at HE HV0
  clear hv
  go_wp2_with fail
  refine HE.out.mono ?_
  rintro e w4 ⟨rfl, hb⟩
  have HB4 : Hid (Below w.heap.size w w4) := HB3.out.trans (hb.mono HB3.out.size)
  clear hb
  go_wp2
  go_ret
  exact ⟨ret_bool HV0.out.symm, HB4.out⟩
end Go.Proofs.YtlagnocglkoomaaDoor
