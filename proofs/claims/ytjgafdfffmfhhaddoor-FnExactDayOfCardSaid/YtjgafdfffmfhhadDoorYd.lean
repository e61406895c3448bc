/-
  Spans of days: the program's checkSpan, the model's l05From and l05Span. Condition: the sentinel errors lie as the row lists them (the program's).
-/
import Derived.Test.YtjgafdfffmfhhadDoorYa
import Derived.Test.YtjgafdfffmfhhadDoorYu
namespace Go.Proofs.YtjgafdfffmfhhadDoor
open Go.ChangeShapes Go.WideShapes Go.ChangeAt Go.RowKit Go.Deep

def spB (f t : Int) : Bool := inS f && inS t && decide (f ≤ t)
def spO (f t : Int) : Option Nat := firstO [chk 0 (inS f), chk 0 (inS t), chk 0 (decide (0 ≤ f) && decide (f ≤ t)), chk 1 (decide (t - f + 1 ≤ 400))]
/-- The code of a span behind a code. -/
def spC (cd f t : Int) : Int := if cd = 0 then (if t - f + 1 ≤ 400 then 0 else 3) else cd
theorem inS_out {d : Int} (h : inS d = true) : 0 ≤ d ∧ d ≤ 10000 := by simpa [inS] using h
theorem spB_out {f t : Int} (h : spB f t = true) : (0 ≤ f ∧ f ≤ 10000) ∧ (0 ≤ t ∧ t ≤ 10000) ∧ f ≤ t := by
  simp only [spB, Bool.and_eq_true, decide_eq_true_eq] at h
  exact ⟨inS_out h.1.1, inS_out h.1.2, h.2⟩
theorem spO_no {f t : Int} (h : spB f t = false) : spO f t = some 0 := by
  cases hf : inS f
  · simp [spO, hf, chk, firstO]
  cases ht : inS t
  · simp [spO, hf, ht, chk, firstO]
  have hl : decide (f ≤ t) = false := by simpa [spB, hf, ht] using h
  simp [spO, hf, ht, hl, chk, firstO]
theorem spO_yes {f t : Int} (h : spB f t = true) : spO f t = chk 1 (decide (t - f + 1 ≤ 400)) := by
  obtain ⟨hf, ht, hl⟩ := spB_out h
  have h1 : inS f = true := by simp [inS, hf]
  have h2 : inS t = true := by simp [inS, ht]
  have h3 : (decide (0 ≤ f) && decide (f ≤ t)) = true := by simp [hf.1, hl]
  rw [spO, h1, h2, h3]
  cases decide (t - f + 1 ≤ 400) <;> rfl
theorem spO_lt {f t : Int} : ∀ i, spO f t = some i → i < 7 := by
  refine firstO_lt ?_
  simp only [List.mem_cons, List.not_mem_nil, or_false]
  rintro o (rfl | rfl | rfl | rfl) <;> exact chk_lt (by omega)

set_option maxRecDepth 100000 in
set_option maxHeartbeats 2000000 in
theorem checkSpan_any (f t : Int) (ad : Nat → Addr) (w : World) (hE : EW 7 w ad) :
    Calls Tryd.prog 94 #[.int .i64 f, .int .i64 t] w fun e w' => e = .returned (erO ad (spO f t)) ∧ Below w.heap.size w w' := by
  have HE := Lib.hid hE
  clear hE
  go_enter Tryd.func94, Tryd.ntmps94
  go_wp2_with fail
  refine (checkDay_any f ad _ HE.out).mono ?_
  rintro e w1 ⟨rfl, rfl⟩
  obtain ⟨v0, hv0⟩ : ∃ v, erO ad (chk 0 (inS f)) = v := ⟨_, rfl⟩
  have HV0 := Lib.hid hv0
  have P0 : Hid (isE v0) := by show isE v0; rw [← hv0]; exact erO_isE _ _
  rw [hv0]
  clear hv0
  go_wp2_with fail
  refine (checkDay_any t ad _ HE.out).mono ?_
  rintro e w2 ⟨rfl, rfl⟩
  obtain ⟨v1, hv1⟩ : ∃ v, erO ad (chk 0 (inS t)) = v := ⟨_, rfl⟩
  have HV1 := Lib.hid hv1
  have P1 : Hid (isE v1) := by show isE v1; rw [← hv1]; exact erO_isE _ _
  rw [hv1]
  clear hv1
  go_wp2_with fail
  refine (checkWithin_any f 0 t ad _ HE.out).mono ?_
  rintro e w3 ⟨rfl, rfl⟩
  obtain ⟨v2, hv2⟩ : ∃ v, erO ad (chk 0 (decide (0 ≤ f) && decide (f ≤ t))) = v := ⟨_, rfl⟩
  have HV2 := Lib.hid hv2
  have P2 : Hid (isE v2) := by show isE v2; rw [← hv2]; exact erO_isE _ _
  rw [hv2]
  clear hv2
  go_wp2_with (refine wpList_threeErrs rfl (.tmp 7) (.tmp 9) (.tmp 12) rfl P0.out P1.out P2.out rfl rfl rfl ?_)
  have q0 := cells3 w v0 v1 v2 82
  have q00 := q0 0 _ rfl
  have q01 := q0 1 _ rfl
  have q02 := q0 2 _ rfl
  rw [← HV0.out, ← HV1.out, ← HV2.out] at q00 q01 q02 ⊢
  refine (firstErr3_O ad _ _ _ _ _ _ q00 q01 q02).mono ?_
  rintro e w9 ⟨rfl, rfl⟩
  rw [HV0.out, HV1.out, HV2.out]
  have L2 : Below w.heap.size w (w.alloc (.cells #[v0, v1, v2] 82)) := (Below.refl _ w).alloc (Nat.le_refl _) _
  obtain ⟨w3, hw3⟩ : ∃ w3, w.alloc (.cells #[v0, v1, v2] 82) = w3 := ⟨_, rfl⟩
  rw [hw3] at L2 ⊢
  have M2 := Lib.hid L2
  have c1 : w3.cell? ⟨2, 0, none⟩ = some (.iface 223 (.pointer (some (ad 1)))) := (HE.out.below L2 (Nat.le_refl _)).cell 1 (by omega)
  clear q0 q00 q01 q02 hw3 L2 HV0 HV1 HV2 P0 P1 P2
  cases hs : spB f t
  · have E : Hid (spO f t = some 0) := spO_no hs
    have hO : firstO [chk 0 (inS f), chk 0 (inS t), chk 0 (decide (0 ≤ f) && decide (f ≤ t))] = some 0 := by
      cases hf : inS f
      · simp [chk, firstO]
      cases ht : inS t
      · simp [chk, firstO]
      have hl : decide (f ≤ t) = false := by simpa [spB, hf, ht] using hs
      simp [hl, chk, firstO]
    rw [hO, erO_some]
    clear hs hO
    go_wp2
    go_ret
    exact ⟨by (rw [E.out]; first | done | rfl), M2.out⟩
  obtain ⟨⟨f0, f1⟩, ⟨t0, t1⟩, hft⟩ := spB_out hs
  have E := Lib.hid (spO_yes hs)
  have hO : firstO [chk 0 (inS f), chk 0 (inS t), chk 0 (decide (0 ≤ f) && decide (f ≤ t))] = none := by
    have h1 : inS f = true := by simp [inS, f0, f1]
    have h2 : inS t = true := by simp [inS, t0, t1]
    rw [h1, h2, decide_eq_true f0, decide_eq_true hft]; rfl
  rw [hO, erO_none]
  have w1 : IntKind.i64.wrap (t - f) = t - f := IntWalk.i64_in _ ⟨by omega, by omega⟩
  have w2 : wrap64 (t - f) = t - f := IntWalk.wrap64_in _ ⟨by omega, by omega⟩
  have w3 : IntKind.i64.wrap (t - f + 1) = t - f + 1 := IntWalk.i64_in _ ⟨by omega, by omega⟩
  have w4 : wrap64 (t - f + 1) = t - f + 1 := IntWalk.wrap64_in _ ⟨by omega, by omega⟩
  clear hs hO
  by_cases h4 : 400 < t - f + 1
  · have E2 : Hid (decide (t - f + 1 ≤ 400) = false) := decide_eq_false (by omega)
    go_wp2
    go_ret
    exact ⟨by (rw [E.out, E2.out]; first | done | rfl), M2.out⟩
  · have h4' : t - f + 1 ≤ 400 := by omega
    have E2 : Hid (decide (t - f + 1 ≤ 400) = true) := decide_eq_true h4'
    go_wp2
    go_ret
    exact ⟨by (rw [E.out, E2.out]; first | done | rfl), M2.out⟩
end Go.Proofs.YtjgafdfffmfhhadDoor
