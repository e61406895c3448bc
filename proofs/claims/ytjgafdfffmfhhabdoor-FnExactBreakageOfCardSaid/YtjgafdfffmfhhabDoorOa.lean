/-
  OutAt: checkPrices, depositOf, and the contracts, of the model and of the program. Condition: numbers fit their kinds; the sentinel errors lie as the row lists them (the program's).
-/
import Derived.Test.YtjgafdfffmfhhabDoorHv
import Derived.Test.YtjgafdfffmfhhabDoorSu
namespace Go.Proofs.YtjgafdfffmfhhabDoor
open Go.ChangeShapes Go.WideShapes Go.ChangeAt Go.RowKit Go.Deep

theorem prOk_iff {p : Pri} : prOk p = true ↔ (0 ≤ p.bo ∧ p.bo ≤ 1000) ∧ (0 ≤ p.ct ∧ p.ct ≤ 1000) := by
  simp only [prOk, Bool.and_eq_true, wi_iff]
theorem mul_in {a b m n : Int} (ha : 0 ≤ a ∧ a ≤ m) (hb : 0 ≤ b ∧ b ≤ n) : 0 ≤ a * b ∧ a * b ≤ m * n :=
  ⟨Int.mul_nonneg ha.1 hb.1, Int.mul_le_mul ha.2 hb.2 hb.1 (by omega)⟩
theorem dep_facts {p : Pri} (hp : prOk p = true) {fu em cr : Int} (hf : 0 ≤ fu ∧ fu ≤ 1000000) (he : 0 ≤ em ∧ em ≤ 1000000) (hc : 0 ≤ cr ∧ cr ≤ 1000000) :
    ∃ s q t d, fu + em = s ∧ s * p.bo = q ∧ cr * p.ct = t ∧ q + t = d ∧ W64' s ∧ W64' q ∧ W64' t ∧ W64' d ∧ (0 ≤ d ∧ d ≤ 3000000000) ∧ (∀ br mo, dep p ⟨fu, em, cr, br, mo⟩ = d) := by
  obtain ⟨hb, ht⟩ := prOk_iff.1 hp
  have h1 := mul_in (a := fu + em) (b := p.bo) (m := 2000000) (n := 1000) ⟨by omega, by omega⟩ hb
  have h2 := mul_in hc ht
  refine ⟨fu + em, (fu + em) * p.bo, cr * p.ct, (fu + em) * p.bo + cr * p.ct, rfl, rfl, rfl, rfl, ?_, ?_, ?_, ?_, ?_, fun _ _ => rfl⟩
  · exact w64' ⟨by omega, by omega⟩
  · generalize (fu + em) * p.bo = x at *; exact w64' ⟨by omega, by omega⟩
  · generalize cr * p.ct = x at *; exact w64' ⟨by omega, by omega⟩
  · generalize (fu + em) * p.bo = x at *; generalize cr * p.ct = y at *; exact w64' ⟨by omega, by omega⟩
  · generalize (fu + em) * p.bo = x at *; generalize cr * p.ct = y at *; omega
def otO (p : Pri) (h : Hol) : Option Nat := firstO [chk 5 (prOk p), chk 0 (hoOk h)]
theorem otO_lt {p : Pri} {h : Hol} : ∀ i, otO p h = some i → i < 7 := by
  refine firstO_lt ?_
  simp only [List.mem_cons, List.not_mem_nil, or_false]
  rintro o (rfl | rfl) <;> exact chk_lt (by omega)
def otC (p : Pri) (h : Hol) : Int := cdO (otO p h)
def otN (p : Pri) (h : Hol) : Int := if otC p h = 0 then dep p h + h.mo else 0
theorem ot_bad {p : Pri} {h : Hol} {i : Nat} (ho : otO p h = some i) : otC p h = cdN i ∧ otN p h = 0 := by
  have h1 : otC p h = cdN i := by rw [otC, ho]; rfl
  exact ⟨h1, by rw [otN, if_neg (by rw [h1]; exact cdN_ne)]⟩
theorem ot_ok {p : Pri} {h : Hol} (ho : otO p h = none) : otC p h = 0 ∧ otN p h = dep p h + h.mo ∧ prOk p = true ∧ hoOk h = true := by
  have h1 : otC p h = 0 := by rw [otC, ho]; rfl
  have h2 : prOk p = true := by
    cases hp : prOk p
    · rw [otO, hp] at ho; cases ho
    · rfl
  refine ⟨h1, by rw [otN, if_pos h1], h2, ?_⟩
  cases hh : hoOk h
  · rw [otO, h2, hh] at ho; cases ho
  · rfl

set_option maxRecDepth 100000 in
set_option maxHeartbeats 4000000 in
theorem specOutAt_any (p : Pri) (hp : wfP p) (h : Hol) (w : World) :
    Calls Tryd.prog 7 #[.agg (pcells p).toArray, .agg (hcells h).toArray] w fun e w' => e = .returned (.tuple #[.int .i64 (otN p h), .int .i64 (otC p h)]) ∧ Below w.heap.size w w' := by
  obtain ⟨bo, ct⟩ := p
  obtain ⟨fu, em, cr, br, mo⟩ := h
  show Calls Tryd.prog 7 #[.agg #[.int .i16 bo, .int .i16 ct], .agg #[.int .i64 fu, .int .i64 em, .int .i64 cr, .int .i64 br, .int .i64 mo]] w _
  obtain ⟨W1, hW1⟩ : ∃ W, w.alloc (.cells #[.int .i16 bo, .int .i16 ct] 29) = W := ⟨_, rfl⟩
  obtain ⟨W2, hW2⟩ : ∃ W, W1.alloc (.cells #[.int .i64 fu, .int .i64 em, .int .i64 cr, .int .i64 br, .int .i64 mo] 31) = W := ⟨_, rfl⟩
  have hb1 : Below w.heap.size w W1 := by rw [← hW1]; exact (Below.refl _ _).alloc (Nat.le_refl _) _
  have hb2 : Below w.heap.size w W2 := by rw [← hW2]; exact hb1.alloc hb1.size _
  have hk1 : Blk W1 w.heap.size 29 #[.int .i16 bo, .int .i16 ct] := by rw [← hW1]; exact Blk.new w _ _
  have hk2 : Blk W2 w.heap.size 29 #[.int .i16 bo, .int .i16 ct] := by rw [← hW2]; exact Blk.keep hk1 ((Below.refl _ _).alloc (Nat.le_refl _) _)
  have hh2 : Blk W2 W1.heap.size 31 #[.int .i64 fu, .int .i64 em, .int .i64 cr, .int .i64 br, .int .i64 mo] := by rw [← hW2]; exact Blk.new W1 _ _
  have HB2 := Lib.hid hb2
  have HK2 := Lib.hid hk2
  have HH2 := Lib.hid hh2
  clear hb1 hb2 hk1 hk2 hh2
  obtain ⟨v0, hv0⟩ : ∃ v, prOk ⟨bo, ct⟩ = v := ⟨_, rfl⟩
  obtain ⟨v1, hv1⟩ : ∃ v, hoOk ⟨fu, em, cr, br, mo⟩ = v := ⟨_, rfl⟩
  have HV0 := Lib.hid hv0
  have HV1 := Lib.hid hv1
  have hW1z : Hid (W1.heap.size < W2.heap.size) := HH2.out.lt
  clear hv0 hv1
  go_enter Tryd.func7, Tryd.ntmps7
  go_wp2_with (refine wpList_load_row rfl 29 (.tmp 2) rfl w.heap.size rfl 29 _ (0, 0) _ HK2.out Tryd.underlying29 rfl Tryd.sizePI ?_)
  clear hW1 hW2
  refine (l06Prices_any ⟨bo, ct⟩ hp _).mono ?_
  rintro e W3 ⟨rfl, hb⟩
  have HB3 : Hid (Below w.heap.size w W3) := HB2.out.trans (hb.mono HB2.out.size)
  have HK3 : Hid (Blk W3 w.heap.size 29 #[.int .i16 bo, .int .i16 ct]) := Blk.keep HK2.out hb
  have HH3 : Hid (Blk W3 W1.heap.size 31 #[.int .i64 fu, .int .i64 em, .int .i64 cr, .int .i64 br, .int .i64 mo]) := Blk.keep HH2.out hb
  clear hb
  rw [HV0.out]
  cases v0
  · have E := Lib.hid (ot_bad (p := ⟨bo, ct⟩) (h := ⟨fu, em, cr, br, mo⟩) (i := 5) (by rw [otO, HV0.out]; rfl))
    go_wp2
    go_ret2
    exact ⟨by (rw [E.out.1, E.out.2]; first | done | rfl), HB3.out⟩
  have HR3 : Hid (W3.rangeAt W1.heap.size 0 (hcells ⟨fu, em, cr, br, mo⟩)) := fun j v hv => by
    rw [Nat.zero_add, HH3.out.cell]; simpa [hcells] using hv
  go_wp2_with fail
  refine (l06Held_any ⟨fu, em, cr, br, mo⟩ _ 0 _ HR3.out).mono ?_
  rintro e w4 ⟨rfl, rfl⟩
  rw [HV1.out]
  cases v1
  · have E := Lib.hid (ot_bad (p := ⟨bo, ct⟩) (h := ⟨fu, em, cr, br, mo⟩) (i := 0) (by rw [otO, HV0.out, HV1.out]; rfl))
    go_wp2
    go_ret2
    exact ⟨by (rw [E.out.1, E.out.2]; first | done | rfl), HB3.out⟩
  have E := Lib.hid (ot_ok (p := ⟨bo, ct⟩) (h := ⟨fu, em, cr, br, mo⟩) (by rw [otO, HV0.out, HV1.out]; rfl))
  obtain ⟨hf, he, hc, -, hmo⟩ := hoOk_iff.1 HV1.out
  obtain ⟨hbo, hct⟩ := prOk_iff.1 HV0.out
  obtain ⟨s, q, t, d, hs, hq, ht, hd, ⟨s1, s2⟩, ⟨q1, q2⟩, ⟨t1, t2⟩, ⟨d1, d2⟩, hd0, hdep⟩ := dep_facts HV0.out hf he hc
  simp only at hf he hc hmo hbo hct hs hq ht hd
  have HDep := Lib.hid (hdep br mo)
  obtain ⟨m1, m2⟩ : W64' (d + mo) := w64' ⟨by omega, by omega⟩
  have x1 : IntKind.i64.wrap bo = bo := IntWalk.i64_in _ ⟨by omega, by omega⟩
  have x2 : wrap64 bo = bo := IntWalk.wrap64_in _ ⟨by omega, by omega⟩
  have x3 : IntKind.i64.wrap ct = ct := IntWalk.i64_in _ ⟨by omega, by omega⟩
  have x4 : wrap64 ct = ct := IntWalk.wrap64_in _ ⟨by omega, by omega⟩
  have k0 : W3.cell? ⟨w.heap.size, 0, none⟩ = some (.int .i16 bo) := HK3.out.cell 0
  have k1 : W3.cell? ⟨w.heap.size, 1, none⟩ = some (.int .i16 ct) := HK3.out.cell 1
  have g0 : W3.cell? ⟨W1.heap.size, 0, none⟩ = some (.int .i64 fu) := HH3.out.cell 0
  have g1 : W3.cell? ⟨W1.heap.size, 1, none⟩ = some (.int .i64 em) := HH3.out.cell 1
  have g2 : W3.cell? ⟨W1.heap.size, 2, none⟩ = some (.int .i64 cr) := HH3.out.cell 2
  have g4 : W3.cell? ⟨W1.heap.size, 4, none⟩ = some (.int .i64 mo) := HH3.out.cell 4
  clear hf he hc hmo hbo hct hd0 hdep
  go_wp2
  go_ret2
  exact ⟨by (rw [E.out.1, E.out.2.1, HDep.out]; first | done | rfl), HB3.out⟩
end Go.Proofs.YtjgafdfffmfhhabDoor
