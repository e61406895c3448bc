/-
  BlindNumbers: the contracts, of the model and of the program. Condition: the sentinel errors lie as the row lists them (the program's).
-/
import Derived.Test.YtajnkkiabjiplaaDoorTv
import Derived.Test.YtajnkkiabjiplaaDoorGc
import Derived.Test.YtajnkkiabjiplaaDoorOw
namespace Go.Proofs.YtajnkkiabjiplaaDoor
open Go.ChangeShapes Go.WideShapes Go.ChangeAt Go.RowKit Go.Deep

theorem nil_own7 (w : World) (b : Nat) : w.ownsRow b 2 1 (.slice none 0 0) ([] : List Int).length (([] : List Int).flatMap icells) := ⟨rfl, .inl ⟨rfl, rfl⟩⟩
theorem empty_own7 (w : World) (b : Nat) (hb : b ≤ w.heap.size) : (w.alloc (.cells #[] 2)).ownsRow b 2 1 (.slice (some ⟨w.heap.size, 0, none⟩) 0 0) ([] : List Int).length (([] : List Int).flatMap icells) :=
  ⟨rfl, .inr ⟨w.heap.size, 0, #[], rfl, hb, heap_alloc_new w _, Nat.le_refl _, by unfold maxLen; omega, by simp, by simp⟩⟩
/-- One number of the list. -/
theorem bn_num {n s f : Int} (h : bnR n s f = true) {k : Nat} (hk : (k : Int) < n) :
    ∃ p q r t : Int, (k : Int) * s = p ∧ f + p = q ∧ Int.tmod q 900 = r ∧ q % 900 = r ∧ 100 + r = t ∧ t = 100 + (f + (k : Int) * s) % 900 ∧ (0 ≤ p ∧ p ≤ 7192) ∧ (0 ≤ q ∧ q ≤ 8091) ∧ (0 ≤ r ∧ r ≤ 899) := by
  simp only [bnR, Bool.and_eq_true, wi_iff] at h
  obtain ⟨⟨hn, hs⟩, hf⟩ := h
  have h1 : 0 ≤ (k : Int) * s := Int.mul_nonneg (by omega) (by omega)
  have h2 : (k : Int) * s ≤ 8 * 899 := Int.mul_le_mul (by omega) hs.2 (by omega) (by omega)
  have h3 := Int.emod_nonneg (f + (k : Int) * s) (show (900 : Int) ≠ 0 by omega)
  have h4 := Int.emod_lt_of_pos (f + (k : Int) * s) (show (0 : Int) < 900 by omega)
  exact ⟨_, _, _, _, rfl, rfl, Int.tmod_eq_emod_of_nonneg (by omega), rfl, rfl, rfl, ⟨h1, by omega⟩, ⟨by omega, by omega⟩, h3, by omega⟩

set_option maxRecDepth 100000 in
set_option maxHeartbeats 4000000 in
theorem specBlind_any (n s f : Int) (w : World) :
    Calls Tryd.prog 11 #[.int .i64 n, .int .i64 s, .int .i64 f] w fun e w' => ∃ v, e = .returned (.tuple #[v, .int .i64 (bnC n s f)]) ∧ w'.ownsRow w.heap.size 2 1 v (bnA n s f).length ((bnA n s f).flatMap icells) ∧ Below w.heap.size w w' := by
  obtain ⟨i0, hi, hz0, hz1, hz2⟩ := info_parts Tryd.info64
  have HI := Lib.hid hi
  have HZ0 := Lib.hid hz0
  have HZ1 := Lib.hid hz1
  have HZ2 := Lib.hid hz2
  clear hi hz0 hz1 hz2
  obtain ⟨W1, hW1⟩ : ∃ W, w.alloc (.cells #[] 2) = W := ⟨_, rfl⟩
  have HB1 : Hid (Below w.heap.size w W1) := by show Below _ _ _; rw [← hW1]; exact (Below.refl _ w).alloc (Nat.le_refl _) _
  have HO1 : Hid (W1.ownsRow w.heap.size 2 1 (.slice (some ⟨w.heap.size, 0, none⟩) 0 0) ([] : List Int).length (([] : List Int).flatMap icells)) := by show W1.ownsRow _ _ _ _ _ _; rw [← hW1]; exact empty_own7 w _ (Nat.le_refl _)
  have bad : ∀ {W : World}, W1 = W → bnR n s f = false → (bnC n s f = 2 ∧ bnA n s f = []) := fun _ h => bnC_rng h
  go_enter Tryd.func11, Tryd.ntmps11
  go_wp2_with fail
  clear hW1
  refine (l07Samples_any n _).mono ?_
  rintro e w1 ⟨rfl, rfl⟩
  cases h0 : wi 1 8 n
  · have E := Lib.hid (bnC_rng (n := n) (st := s) (fi := f) (by rw [bnR, h0]; rfl))
    clear h0 bad
    go_wp2
    go_ret2
    exact ⟨_, by (rw [E.out.1]; first | done | rfl), by rw [E.out.2]; exact HO1.out, HB1.out⟩
  have H0 := Lib.hid h0
  clear h0 bad
  go_wp2_with fail
  refine (l00In_any _ _ _ _).mono ?_
  rintro e w1 ⟨rfl, rfl⟩
  rw [show (decide ((1 : Int) ≤ s) && decide (s ≤ 899)) = wi 1 899 s from rfl]
  cases h1 : wi 1 899 s
  · have E := Lib.hid (bnC_rng (n := n) (st := s) (fi := f) (by rw [bnR, h1, Bool.and_false]; rfl))
    clear h1
    go_wp2
    go_ret2
    exact ⟨_, by (rw [E.out.1]; first | done | rfl), by rw [E.out.2]; exact HO1.out, HB1.out⟩
  have H1 := Lib.hid h1
  clear h1
  go_wp2_with fail
  refine (l00In_any _ _ _ _).mono ?_
  rintro e w1 ⟨rfl, rfl⟩
  rw [show (decide ((0 : Int) ≤ f) && decide (f ≤ 899)) = wi 0 899 f from rfl]
  cases h2 : wi 0 899 f
  · have E := Lib.hid (bnC_rng (n := n) (st := s) (fi := f) (by rw [bnR, h2, Bool.and_false]))
    clear h2
    go_wp2
    go_ret2
    exact ⟨_, by (rw [E.out.1]; first | done | rfl), by rw [E.out.2]; exact HO1.out, HB1.out⟩
  have HOk : Hid (bnR n s f = true) := by show _ = _; rw [bnR, H0.out, H1.out, h2]; rfl
  have hs1 := (wi_iff.1 H1.out)
  have hn1 := (wi_iff.1 H0.out)
  clear h2 H0 H1
  obtain ⟨g, hg⟩ : ∃ g : Nat, Nat.gcd 900 s.toNat = g := ⟨_, rfl⟩
  have HC := Lib.hid (l05Common_any 900 s.toNat (by omega) (by omega) W1)
  rw [hg, show ((s.toNat : Nat) : Int) = s from by omega] at HC
  have HG := Lib.hid hg
  clear hg
  go_wp2_with fail
  refine HC.out.mono ?_
  rintro e w2 ⟨rfl, hb2⟩
  have HB2 : Hid (Below w.heap.size w w2) := HB1.out.trans (hb2.mono HB1.out.size)
  have HO2 : Hid (w2.ownsRow w.heap.size 2 1 (.slice (some ⟨w.heap.size, 0, none⟩) 0 0) ([] : List Int).length (([] : List Int).flatMap icells)) := own_keep' HO1.out hb2
  clear hb2 HB1 HO1
  by_cases hgg : (1 : Int) < (g : Int)
  · have E := Lib.hid (bnC_st HOk.out (by rw [HG.out]; omega))
    go_wp2
    go_ret2
    exact ⟨_, by (rw [E.out.1]; first | done | rfl), by rw [E.out.2]; exact HO2.out, HB2.out⟩
  have E := Lib.hid (bnC_ok HOk.out (by rw [HG.out]; omega))
  have HZ : Hid (w.heap.size ≤ w2.heap.size) := HB2.out.size
  go_wp2_with fail
  go_loopw [8, 9] (fun v i wr => ∃ (k : Nat) (A1 : Option Addr) (c1 : Nat), (k : Int) ≤ n ∧ i = .int .i64 k ∧ v = .slice A1 k c1 ∧ wr.ownsRow w.heap.size 2 1 (.slice A1 k c1) k ((bnU s f k).flatMap icells) ∧ Below w.heap.size w wr ∧ w.heap.size ≤ wr.heap.size)
    (fun _ i _ => n.toNat - (intOf i).toNat)
  case atStart => exact ⟨0, _, _, by omega, rfl, rfl, HO2.out, HB2.out, HZ.out⟩
  case round =>
    clear HO2 HB2 HZ
    obtain ⟨k, A1, c1, hk, rfl, rfl, hO, hB, hbs⟩ := hrel
    have HO := Lib.hid hO
    have HB := Lib.hid hB
    clear hO hB
    have hk0 : (0 : Int) ≤ (k : Int) := Int.natCast_nonneg _
    by_cases hlt : (k : Int) < n
    · obtain ⟨p, q, r, t, e1, e2, e3, e4, e5, e6, b1, b2, b3⟩ := bn_num HOk.out hlt
      have HSt : Hid (bnU s f (k + 1) = bnU s f k ++ [t]) := by show _ = _; rw [bnU_succ, e6]
      have u1 : IntKind.i64.wrap p = p := IntWalk.i64_in _ ⟨by omega, by omega⟩
      have u2 : wrap64 p = p := IntWalk.wrap64_in _ ⟨by omega, by omega⟩
      have u3 : IntKind.i64.wrap q = q := IntWalk.i64_in _ ⟨by omega, by omega⟩
      have u4 : wrap64 q = q := IntWalk.wrap64_in _ ⟨by omega, by omega⟩
      have u5 : IntKind.i64.wrap r = r := IntWalk.i64_in _ ⟨by omega, by omega⟩
      have u6 : wrap64 r = r := IntWalk.wrap64_in _ ⟨by omega, by omega⟩
      have u7 : IntKind.i64.wrap t = t := IntWalk.i64_in _ ⟨by omega, by omega⟩
      have u8 : wrap64 t = t := IntWalk.wrap64_in _ ⟨by omega, by omega⟩
      have hkn : k ≤ 8 := by omega
      clear e6
      go_wp2_with (at_builtin; refine wpList_append_own _ rfl (.tmp 34) (.tmp 42) 29 rfl w.heap.size 2 i0 (.int .i64 0) 1 8 Tryd.underlying29 HI.out HZ0.out HZ1.out HZ2.out rfl (by decide) _ _ _ rfl (HO.out.alloc _) ⟨wr.heap.size, 0, none⟩ 1 1 [.int .i64 t] rfl rfl ?c1 ?c2 ?c3 ?c4 ?c5 ?_)
      case c1 => exact cell_one_new _ _ _
      case c2 => simp [Value.oneCell']
      case c3 => unfold maxLen; omega
      case c4 => omega
      case c5 => simp; omega
      intro v' w8 hown' hgrow _
      have hown8 : w8.ownsRow w.heap.size 2 1 v' (bnU s f (k + 1)).length ((bnU s f (k + 1)).flatMap icells) := by rw [HSt.out, List.length_append, List.flatMap_append, bnU_len]; exact hown'
      obtain ⟨A8, c8, rfl, -, -⟩ := own_rd icells_length hown8
      rw [bnU_len] at hown8 ⊢
      have HO8 := Lib.hid hown8
      have HB8 : Hid (Below w.heap.size w w8) := (HB.out.alloc HB.out.size _).grown hgrow (by have := HB.out.size; simp; omega) (fun r e => Nat.le_trans (Below.refl w.heap.size w).size (HO.out.lt r e).1)
      have HZ8 : Hid (w.heap.size ≤ w8.heap.size) := by show _ ≤ _; have := hgrow.size; simp at this; omega
      clear hown' hgrow hown8 e1 e2 e3 e4 e5 u1 u2 u3 u4 u5 u6 u7 u8
      go_wp2
      go_roundw
      case rel => exact ⟨k + 1, A8, c8, by omega, by go_num, by first | rfl | simp, by simpa using HO8.out, HB8.out, HZ8.out⟩
      case measure => simp [intOf]; omega
    · have hkn : k = n.toNat := by omega
      have HKn := Lib.hid hkn
      clear hkn
      go_wp2
      go_ret2
      refine ⟨_, by (rw [E.out.1]; first | done | rfl), ?_, HB.out⟩
      rw [E.out.2, bnU_len, ← HKn.out]
      exact HO.out
end Go.Proofs.YtajnkkiabjiplaaDoor
