/-
  Sorting a list of impl.Count of at most 19 elements with order kept among equals: the contracts of the library's functions and of ordered. Condition: the order's contract.
-/
import Derived.Test.YtcdhmlalpjcidaaDoorIs0
import Derived.Test.YtcdhmlalpjcidaaDoorCn1
import Derived.Deep.RegionHeld3
namespace Go.Proofs.YtcdhmlalpjcidaaDoor
open Go.ChangeShapes Go.WideShapes Go.ChangeAt Go.RowKit Go.Deep

theorem keptCc {wb W W' : World} {g o0 o1 o2 o3 o4 o5 : Nat} {v0 v1 v2 v3 v4 v5 : Value} (hg : g < wb.heap.size) (h0 : Below wb.heap.size wb W) (hb : Below W.heap.size W W') (h1 : W.cell? ⟨g, o0, none⟩ = some v0) (h2 : W.cell? ⟨g, o1, none⟩ = some v1) (h3 : W.cell? ⟨g, o2, none⟩ = some v2) (h4 : W.cell? ⟨g, o3, none⟩ = some v3) (h5 : W.cell? ⟨g, o4, none⟩ = some v4) (h6 : W.cell? ⟨g, o5, none⟩ = some v5) :
    W'.cell? ⟨g, o0, none⟩ = some v0 ∧ W'.cell? ⟨g, o1, none⟩ = some v1 ∧ W'.cell? ⟨g, o2, none⟩ = some v2 ∧ W'.cell? ⟨g, o3, none⟩ = some v3 ∧ W'.cell? ⟨g, o4, none⟩ = some v4 ∧ W'.cell? ⟨g, o5, none⟩ = some v5 ∧ Below wb.heap.size wb W' :=
  have lg := Nat.lt_of_lt_of_le hg h0.size
  ⟨(hb.cell lg).trans h1, (hb.cell lg).trans h2, (hb.cell lg).trans h3, (hb.cell lg).trans h4, (hb.cell lg).trans h5, (hb.cell lg).trans h6, h0.trans (hb.mono h0.size)⟩

set_option maxRecDepth 100000 in
set_option maxHeartbeats 4000000 in
theorem insCc_any (cf : Wnt → Wnt → Int) (X : List Wnt) (N : Nat) (hXN : X.length = N) (hN : N ≤ 19) (Bo g cap : Nat) (w : World) (h : OX w g 68 3 ncells X cap)
    (HCf : ∀ a b : Wnt, a ∈ X → b ∈ X → ∀ (W : World), Below g w W → Calls Tryd.prog 66 #[.agg #[.int .u8 a.1.1, .int .i16 a.1.2, .int .i64 a.2], .agg #[.int .u8 b.1.1, .int .i16 b.1.2, .int .i64 b.2], .pointer (some ⟨Bo, 0, none⟩)] W fun e w' => e = .returned (.int .i64 (cf a b)) ∧ Below W.heap.size W w') :
    Calls Tryd.prog 108 #[.slice (some ⟨g, 0, none⟩) N cap, .int .i64 0, .int .i64 N, .func (.func 66) #[] #[.pointer (some ⟨Bo, 0, none⟩)]] w fun e w' => (∃ v, e = .returned v) ∧ OX w' g 68 3 ncells (isL (fun a b => decide (cf a b < 0)) X) cap ∧ Below g w w' := by
  obtain ⟨lt, hlt⟩ : ∃ lt : Wnt → Wnt → Bool, (fun a b => decide (cf a b < 0)) = lt := ⟨_, rfl⟩
  have HLt : Hid (∀ a b, lt a b = decide (cf a b < 0)) := fun a b => by rw [← hlt]
  rw [hlt]
  have H := Lib.hid h
  have HCf := Lib.hid HCf
  have HXN := Lib.hid hXN
  clear h hlt hXN
  have hxl : (0 : Int) ≤ (N : Int) := Int.natCast_nonneg _
  go_enter Tryd.func108, Tryd.ntmps108
  go_wp2_with fail
  go_loopw [8] (fun i wr => ∃ (k : Nat) (Z : List Wnt), 1 ≤ k ∧ (k : Int) ≤ N + 1 ∧ i = .int .i64 k ∧ isO lt X Z k ∧ OX wr g 68 3 ncells Z cap ∧ Below g w wr) (fun i _ => N + 1 - (intOf i).toNat)
  case atStart => exact ⟨1, X, by omega, by omega, rfl, isO.start lt X, H.out, Below.refl _ _⟩
  case round =>
    clear H
    obtain ⟨k, Z, hk1, hk2, rfl, q2, q3, q4⟩ := hrel
    obtain ⟨wa, rfl⟩ : ∃ u, u = wr := ⟨_, rfl⟩
    have Q2 := Lib.hid q2
    have Q3 := Lib.hid q3
    have Q4 := Lib.hid q4
    clear q2 q3 q4
    have hk0 : (0 : Int) ≤ (k : Int) := Int.natCast_nonneg _
    by_cases hlt : k < N
    · have hk8 : (k : Int) < N := by omega
      obtain ⟨x, hx⟩ : ∃ x, X[k]? = some x := ⟨_, List.getElem?_eq_getElem (by rw [HXN.out]; exact hlt)⟩
      have HI0 := Lib.hid (Q2.out.begin hx)
      have HXm := Lib.hid (List.mem_of_getElem? hx)
      clear hx
      go_wp2_with fail
      go_loopw [9] (fun j w2 => ∃ (kk : Nat) (Z2 : List Wnt), kk ≤ k ∧ j = .int .i64 kk ∧ isI lt X Z2 x k kk ∧ OX w2 g 68 3 ncells Z2 cap ∧ Below g w w2) (fun j _ => (intOf j).toNat)
      case atStart => exact ⟨k, Z, Nat.le_refl _, rfl, HI0.out, Q3.out, Q4.out⟩
      case round =>
        clear HI0 Q2 Q3 Q4
        obtain ⟨kk, Z2, hkk, rfl, q2, q3, q4⟩ := hrel
        obtain ⟨wb, rfl⟩ : ∃ u, u = wr := ⟨_, rfl⟩
        have Q2 := Lib.hid q2
        have Q3 := Lib.hid q3
        have Q4 := Lib.hid q4
        have hgl := q3.lt
        have HZl : Hid (Z2.length = N) := q2.len.trans HXN.out
        have hK0 : (0 : Int) ≤ (kk : Int) := Int.natCast_nonneg _
        have hK8 : (kk : Int) < N := by omega
        have HBn := Lib.hid q2.now
        clear q2 q3 q4
        by_cases hz : kk = 0
        · subst hz
          have HD := Lib.hid (Q2.out.done (.inl rfl))
          go_wp2_with fail
          go_region
          go_wp2
          go_roundw
          case rel => exact ⟨k + 1, Z2, by omega, by omega, by go_num, HD.out, by first | exact Q3.out | exact Q3.out.below (Below.refl _ _).drew hgl, by first | exact Q4.out | exact Q4.out.drew⟩
          case measure => simp [intOf]; omega
        · obtain ⟨m, hm⟩ : ∃ m, m + 1 = kk := ⟨kk - 1, by omega⟩
          obtain ⟨a, ha⟩ : ∃ q, Z2[m]? = some q := ⟨_, List.getElem?_eq_getElem (by rw [HZl.out]; omega)⟩
          have HAm := Lib.hid (Q2.out.mem ha)
          obtain ⟨⟨x1, x2⟩, x3⟩ := x
          obtain ⟨⟨a1, a2⟩, a3⟩ := a
          have c0 : wb.cell? ⟨g, kk * 3, none⟩ = some (.int .u8 x1) := Q3.out.cell ncells_length HBn.out (f := 0) rfl
          have c1 : wb.cell? ⟨g, kk * 3 + 1, none⟩ = some (.int .i16 x2) := Q3.out.cell ncells_length HBn.out (f := 1) rfl
          have c2 : wb.cell? ⟨g, kk * 3 + 2, none⟩ = some (.int .i64 x3) := Q3.out.cell ncells_length HBn.out (f := 2) rfl
          have d0 : wb.cell? ⟨g, m * 3, none⟩ = some (.int .u8 a1) := Q3.out.cell ncells_length ha (f := 0) rfl
          have d1 : wb.cell? ⟨g, m * 3 + 1, none⟩ = some (.int .i16 a2) := Q3.out.cell ncells_length ha (f := 1) rfl
          have d2 : wb.cell? ⟨g, m * 3 + 2, none⟩ = some (.int .i64 a3) := Q3.out.cell ncells_length ha (f := 2) rfl
          have hM0 : (0 : Int) ≤ (m : Int) := Int.natCast_nonneg _
          have hM8 : (m : Int) < N := by omega
          have hKp : (0 : Int) < (kk : Int) := by omega
          have hKn : 0 < kk := by omega
          have hKs : (kk : Int) - 1 = m := by omega
          have hKw : IntKind.i64.wrap (m : Int) = m := IntWalk.i64_in _ ⟨by omega, by omega⟩
          have hKw2 : wrap64 (m : Int) = m := IntWalk.wrap64_in _ ⟨by omega, by omega⟩
          have hs0 : Below wb.heap.size wb wb := Below.refl _ _
          have ha' : Z2[kk - 1]? = some ((a1, a2), a3) := by rw [← hm]; exact ha
          have HAB := Lib.hid ha'
          have HAm2 := Lib.hid ha
          have HM : Hid (m + 1 = kk) := hm
          have hmk : m ≠ kk := by omega
          have hcl := HLt.out ((x1, x2), x3) ((a1, a2), a3)
          obtain ⟨d, hd⟩ : ∃ d, cf ((x1, x2), x3) ((a1, a2), a3) = d := ⟨_, rfl⟩
          have HCa : Hid (∀ (W : World), Below wb.heap.size wb W → Calls Tryd.prog 66 #[.agg #[.int .u8 x1, .int .i16 x2, .int .i64 x3], .agg #[.int .u8 a1, .int .i16 a2, .int .i64 a3], .pointer (some ⟨Bo, 0, none⟩)] W fun e w' => e = .returned (.int .i64 d) ∧ Below W.heap.size W w') := fun W hW => by
            have h1 := HCf.out ((x1, x2), x3) ((a1, a2), a3) HXm.out HAm.out W (Q4.out.trans (hW.mono (Nat.le_of_lt hgl)))
            rw [hd] at h1
            exact h1
          rw [hd] at hcl
          have HCl := Lib.hid hcl
          clear ha hz hm ha' hcl hd
          by_cases hneg2 : d < 0
          · have HSt : Hid (isI lt X ((Z2.set kk ((a1, a2), a3)).set m ((x1, x2), x3)) ((x1, x2), x3) k m) := by
              show isI _ _ _ _ _ _
              have h1 := Q2.out
              rw [← HM.out] at h1 ⊢
              exact h1.swap HAm2.out (by rw [HCl.out]; exact decide_eq_true hneg2)
            go_wp2_with fail
            go_region_held3 (fun w' => w'.cell? ⟨g, kk * 3, none⟩ = some (.int .u8 x1) ∧ w'.cell? ⟨g, kk * 3 + 1, none⟩ = some (.int .i16 x2) ∧ w'.cell? ⟨g, kk * 3 + 2, none⟩ = some (.int .i64 x3) ∧ w'.cell? ⟨g, m * 3, none⟩ = some (.int .u8 a1) ∧ w'.cell? ⟨g, m * 3 + 1, none⟩ = some (.int .i16 a2) ∧ w'.cell? ⟨g, m * 3 + 2, none⟩ = some (.int .i64 a3) ∧ Below wb.heap.size wb w') ((refine ⟨?_, ?_, ?_, ?_, ?_, ?_, ?_⟩ <;> (first | assumption | exact Below.drew ‹_› | (simp [*]; done))))
              (first
                | (go_at_call 66; refine (HCa.out _ (by first | assumption | exact Below.drew (by assumption))).mono ?_; rintro e w3 ⟨rfl, hb⟩; obtain ⟨r0, r1, r2, r3, r4, r5, r6⟩ := keptCc (g := g) (o0 := kk * 3) (o1 := kk * 3 + 1) (o2 := kk * 3 + 2) (o3 := m * 3) (o4 := m * 3 + 1) (o5 := m * 3 + 2) hgl (by first | assumption | exact Below.drew (by assumption)) hb (by assumption) (by assumption) (by assumption) (by assumption) (by assumption) (by assumption)))
            have HR : Hid (Below wb.heap.size wb w3) := (by assumption : Below wb.heap.size wb w3)
            have D1 : OX w3 g 68 3 ncells Z2 cap := Q3.out.below HR.out hgl
            have D3 : Below g w w3 := Q4.out.trans (HR.out.mono (Nat.le_of_lt hgl))
            have D2 : OX w3.drew g 68 3 ncells Z2 cap := D1
            have r1 : w3.drew.rangeAt g (m * 3) (ncells ((a1, a2), a3)) := D2.range ncells_length HAm2.out
            have r2 : w3.drew.rangeAt g (kk * 3) (ncells ((x1, x2), x3)) := D2.range ncells_length HBn.out
            have m1 : OX (w3.drew.setCells g (kk * 3) (ncells ((a1, a2), a3))) g 68 3 ncells (Z2.set kk ((a1, a2), a3)) cap := D2.set ncells_length (k := kk) (by rw [HZl.out]; omega) ((a1, a2), a3)
            have t1 : w3.drew.there g (kk * 3) (ncells ((a1, a2), a3)).toArray.size := D2.there (k := kk) (by rw [HZl.out]; omega)
            have t2 : (w3.drew.setCells g (kk * 3) (ncells ((a1, a2), a3))).there g (m * 3) (ncells ((x1, x2), x3)).toArray.size := m1.there (k := m) (by rw [List.length_set, HZl.out]; omega)
            have m2 : OX ((w3.drew.setCells g (kk * 3) (ncells ((a1, a2), a3))).setCells g (m * 3) (ncells ((x1, x2), x3))) g 68 3 ncells ((Z2.set kk ((a1, a2), a3)).set m ((x1, x2), x3)) cap := m1.set ncells_length (k := m) (by rw [List.length_set, HZl.out]; omega) ((x1, x2), x3)
            have mb2 : Below g w ((w3.drew.setCells g (kk * 3) (ncells ((a1, a2), a3))).setCells g (m * 3) (ncells ((x1, x2), x3))) := Below.setCells (Below.setCells D3.drew _ _ _ (Nat.le_refl _)) _ _ _ (Nat.le_refl _)
            have R1 := Lib.hid r1
            have R2 := Lib.hid r2
            have T1 := Lib.hid t1
            have T2 := Lib.hid t2
            have M2 := Lib.hid m2
            have MB2 := Lib.hid mb2
            clear D1 D2 D3 r1 r2 t1 t2 m1 m2 mb2 hs0 hneg2 HR hb c0 d0 c1 d1 c2 d2
            go_wp2_with fail
            refine wp_region_any (by kernel_rfl) ?_
            try (change wpAny _ _ _ _ _ _ _ (World.drew _))
            refine wpAny_take (i := 0) (v := .slice (some ⟨g, 0, none⟩) N cap) rfl (by kernel_rfl) (by kernel_rfl) (by kernel_rfl) (fun _ _ _ h => h) (Or.inl ⟨by rfl, fun w' => by go_simp⟩) ?_
            try simp only [Act.put, List.getElem_toArray, List.getElem_cons_zero, List.getElem_cons_succ, List.setIfInBounds_toArray, List.set_cons_zero, List.set_cons_succ]
            refine wpAny_take (i := 1) (v := .int .i64 kk) rfl (by kernel_rfl) (by kernel_rfl) (by kernel_rfl) (fun _ _ _ h => h) (Or.inl ⟨by rfl, fun w' => by go_simp⟩) ?_
            try simp only [Act.put, List.getElem_toArray, List.getElem_cons_zero, List.getElem_cons_succ, List.setIfInBounds_toArray, List.set_cons_zero, List.set_cons_succ]
            refine wpAny_take (i := 2) (v := .slice (some ⟨g, 0, none⟩) N cap) rfl (by kernel_rfl) (by kernel_rfl) (by kernel_rfl) (fun _ _ _ h => h) (Or.inl ⟨by rfl, fun w' => by go_simp⟩) ?_
            try simp only [Act.put, List.getElem_toArray, List.getElem_cons_zero, List.getElem_cons_succ, List.setIfInBounds_toArray, List.set_cons_zero, List.set_cons_succ]
            refine wpAny_take (i := 3) (v := .int .i64 kk) rfl (by kernel_rfl) (by kernel_rfl) (by kernel_rfl) (fun _ _ _ h => h) (Or.inl ⟨by rfl, fun w' => by go_simp⟩) ?_
            try simp only [Act.put, List.getElem_toArray, List.getElem_cons_zero, List.getElem_cons_succ, List.setIfInBounds_toArray, List.set_cons_zero, List.set_cons_succ]
            refine wpAny_take (i := 4) (v := .int .i64 m) rfl (by kernel_rfl) (by kernel_rfl) (by kernel_rfl) (fun _ _ _ h => h) (Or.inl ⟨by rfl, fun w' => by go_simp⟩) ?_
            try simp only [Act.put, List.getElem_toArray, List.getElem_cons_zero, List.getElem_cons_succ, List.setIfInBounds_toArray, List.set_cons_zero, List.set_cons_succ]
            refine wpAny_take (i := 5) (v := .slice (some ⟨g, 0, none⟩) N cap) rfl (by kernel_rfl) (by kernel_rfl) (by kernel_rfl) (fun _ _ _ h => h) (Or.inl ⟨by rfl, fun w' => by go_simp⟩) ?_
            try simp only [Act.put, List.getElem_toArray, List.getElem_cons_zero, List.getElem_cons_succ, List.setIfInBounds_toArray, List.set_cons_zero, List.set_cons_succ]
            refine wpAny_take (i := 6) (v := .int .i64 kk) rfl (by kernel_rfl) (by kernel_rfl) (by kernel_rfl) (fun _ _ _ h => h) (Or.inl ⟨by rfl, fun w' => by go_simp⟩) ?_
            try simp only [Act.put, List.getElem_toArray, List.getElem_cons_zero, List.getElem_cons_succ, List.setIfInBounds_toArray, List.set_cons_zero, List.set_cons_succ]
            refine wpAny_take (i := 7) (v := .int .i64 m) rfl (by kernel_rfl) (by kernel_rfl) (by kernel_rfl) (fun _ _ _ h => h) (Or.inl ⟨by rfl, fun w' => by go_simp⟩) ?_
            try simp only [Act.put, List.getElem_toArray, List.getElem_cons_zero, List.getElem_cons_succ, List.setIfInBounds_toArray, List.set_cons_zero, List.set_cons_succ]
            refine wpAny_take (i := 8) (v := .pointer (some ⟨g, m * 3, none⟩)) rfl (by kernel_rfl) (by kernel_rfl) (by kernel_rfl) (fun _ _ _ h => h) (Or.inl ⟨by rfl, fun w' => by go_simp⟩) ?_
            try simp only [Act.put, List.getElem_toArray, List.getElem_cons_zero, List.getElem_cons_succ, List.setIfInBounds_toArray, List.set_cons_zero, List.set_cons_succ]
            refine wpAny_take (i := 10) (v := .slice (some ⟨g, 0, none⟩) N cap) rfl (by kernel_rfl) (by kernel_rfl) (by kernel_rfl) (fun _ _ _ h => h) (Or.inl ⟨by rfl, fun w' => by go_simp⟩) ?_
            try simp only [Act.put, List.getElem_toArray, List.getElem_cons_zero, List.getElem_cons_succ, List.setIfInBounds_toArray, List.set_cons_zero, List.set_cons_succ]
            refine wpAny_take (i := 11) (v := .int .i64 kk) rfl (by kernel_rfl) (by kernel_rfl) (by kernel_rfl) (fun _ _ _ h => h) (Or.inl ⟨by rfl, fun w' => by go_simp⟩) ?_
            try simp only [Act.put, List.getElem_toArray, List.getElem_cons_zero, List.getElem_cons_succ, List.setIfInBounds_toArray, List.set_cons_zero, List.set_cons_succ]
            refine wpAny_take (i := 12) (v := .pointer (some ⟨g, kk * 3, none⟩)) rfl (by kernel_rfl) (by kernel_rfl) (by kernel_rfl) (fun _ _ _ h => h) (Or.inl ⟨by rfl, fun w' => by go_simp⟩) ?_
            try simp only [Act.put, List.getElem_toArray, List.getElem_cons_zero, List.getElem_cons_succ, List.setIfInBounds_toArray, List.set_cons_zero, List.set_cons_succ]
            obtain ⟨D0, hD0⟩ : ∃ D0, w3.drew = D0 := ⟨_, rfl⟩
            rw [hD0] at R1 R2 T1 T2 M2 MB2 ⊢
            clear hD0
            refine wpAny_ready (rs := [9, 13]) (by kernel_rfl) (by simp) ?_
            refine AllReady.cons rfl (fun K hK => ?_) (AllReady.cons rfl (fun K hK => ?_) AllReady.nil)
            · skip
              refine if_wanted rfl (wp_load_mid 68 (.tmp 45) rfl g (m * 3) rfl (ncells ((a1, a2), a3)) _ (R1.out) Tryd.underlying68 rfl Tryd.sizeCt ?_)
              refine hK _ _ ?_
              clear hK K
              try simp only [Act.put, List.getElem_toArray, List.getElem_cons_zero, List.getElem_cons_succ, List.setIfInBounds_toArray, List.set_cons_zero, List.set_cons_succ]
              refine wpAny_ready (rs := [13]) (by kernel_rfl) (by simp) ?_
              refine AllReady.cons rfl (fun K hK => ?_) AllReady.nil
              refine if_wanted rfl (wp_load_mid 68 (.tmp 49) rfl g (kk * 3) rfl (ncells ((x1, x2), x3)) _ (R2.out) Tryd.underlying68 rfl Tryd.sizeCt ?_)
              refine hK _ _ ?_
              clear hK K
              try simp only [Act.put, List.getElem_toArray, List.getElem_cons_zero, List.getElem_cons_succ, List.setIfInBounds_toArray, List.set_cons_zero, List.set_cons_succ]
              refine wpAny_take (i := 14) (v := .pointer (some ⟨g, kk * 3, none⟩)) rfl (by kernel_rfl) (by kernel_rfl) (by kernel_rfl) (fun _ _ _ h => h) (Or.inl ⟨by rfl, fun w' => by go_simp⟩) ?_
              try simp only [Act.put, List.getElem_toArray, List.getElem_cons_zero, List.getElem_cons_succ, List.setIfInBounds_toArray, List.set_cons_zero, List.set_cons_succ]
              refine wpAny_ready (rs := [15]) (by kernel_rfl) (by simp) ?_
              refine AllReady.cons rfl (fun K hK => ?_) AllReady.nil
              refine if_wanted rfl (wp_store_mid 68 (.tmp 51) (.tmp 46) rfl g (kk * 3) (ncells ((a1, a2), a3)).toArray rfl rfl (T1.out) Tryd.sizeCt (ncells_one _) ?_)
              refine hK _ _ ?_
              clear hK K
              try simp only [Act.put, List.getElem_toArray, List.getElem_cons_zero, List.getElem_cons_succ, List.setIfInBounds_toArray, List.set_cons_zero, List.set_cons_succ]
              refine wpAny_take (i := 16) (v := .pointer (some ⟨g, m * 3, none⟩)) rfl (by kernel_rfl) (by kernel_rfl) (by kernel_rfl) (fun _ _ _ h => h) (Or.inl ⟨by rfl, fun w' => by go_simp⟩) ?_
              try simp only [Act.put, List.getElem_toArray, List.getElem_cons_zero, List.getElem_cons_succ, List.setIfInBounds_toArray, List.set_cons_zero, List.set_cons_succ]
              refine wpAny_ready (rs := [17]) (by kernel_rfl) (by simp) ?_
              refine AllReady.cons rfl (fun K hK => ?_) AllReady.nil
              refine if_wanted rfl (wp_store_mid 68 (.tmp 52) (.tmp 50) rfl g (m * 3) (ncells ((x1, x2), x3)).toArray rfl rfl (T2.out) Tryd.sizeCt (ncells_one _) ?_)
              refine hK _ _ ?_
              clear hK K
              try simp only [Act.put, List.getElem_toArray, List.getElem_cons_zero, List.getElem_cons_succ, List.setIfInBounds_toArray, List.set_cons_zero, List.set_cons_succ]
              refine wpAny_done (by kernel_rfl) ?_ _
              try simp only [Act.put, List.getElem_toArray, List.getElem_cons_zero, List.getElem_cons_succ, List.setIfInBounds_toArray, List.set_cons_zero, List.set_cons_succ]
              go_wp2
              go_roundw
              case rel => exact ⟨m, (Z2.set kk ((a1, a2), a3)).set m ((x1, x2), x3), by have := HM.out; omega, by go_num, HSt.out, M2.out, MB2.out⟩
              case measure => simp [intOf]; have := HM.out; omega
            · skip
              refine if_wanted rfl (wp_load_mid 68 (.tmp 49) rfl g (kk * 3) rfl (ncells ((x1, x2), x3)) _ (R2.out) Tryd.underlying68 rfl Tryd.sizeCt ?_)
              refine hK _ _ ?_
              clear hK K
              try simp only [Act.put, List.getElem_toArray, List.getElem_cons_zero, List.getElem_cons_succ, List.setIfInBounds_toArray, List.set_cons_zero, List.set_cons_succ]
              refine wpAny_ready (rs := [9]) (by kernel_rfl) (by simp) ?_
              refine AllReady.cons rfl (fun K hK => ?_) AllReady.nil
              refine if_wanted rfl (wp_load_mid 68 (.tmp 45) rfl g (m * 3) rfl (ncells ((a1, a2), a3)) _ (R1.out) Tryd.underlying68 rfl Tryd.sizeCt ?_)
              refine hK _ _ ?_
              clear hK K
              try simp only [Act.put, List.getElem_toArray, List.getElem_cons_zero, List.getElem_cons_succ, List.setIfInBounds_toArray, List.set_cons_zero, List.set_cons_succ]
              refine wpAny_take (i := 14) (v := .pointer (some ⟨g, kk * 3, none⟩)) rfl (by kernel_rfl) (by kernel_rfl) (by kernel_rfl) (fun _ _ _ h => h) (Or.inl ⟨by rfl, fun w' => by go_simp⟩) ?_
              try simp only [Act.put, List.getElem_toArray, List.getElem_cons_zero, List.getElem_cons_succ, List.setIfInBounds_toArray, List.set_cons_zero, List.set_cons_succ]
              refine wpAny_ready (rs := [15]) (by kernel_rfl) (by simp) ?_
              refine AllReady.cons rfl (fun K hK => ?_) AllReady.nil
              refine if_wanted rfl (wp_store_mid 68 (.tmp 51) (.tmp 46) rfl g (kk * 3) (ncells ((a1, a2), a3)).toArray rfl rfl (T1.out) Tryd.sizeCt (ncells_one _) ?_)
              refine hK _ _ ?_
              clear hK K
              try simp only [Act.put, List.getElem_toArray, List.getElem_cons_zero, List.getElem_cons_succ, List.setIfInBounds_toArray, List.set_cons_zero, List.set_cons_succ]
              refine wpAny_take (i := 16) (v := .pointer (some ⟨g, m * 3, none⟩)) rfl (by kernel_rfl) (by kernel_rfl) (by kernel_rfl) (fun _ _ _ h => h) (Or.inl ⟨by rfl, fun w' => by go_simp⟩) ?_
              try simp only [Act.put, List.getElem_toArray, List.getElem_cons_zero, List.getElem_cons_succ, List.setIfInBounds_toArray, List.set_cons_zero, List.set_cons_succ]
              refine wpAny_ready (rs := [17]) (by kernel_rfl) (by simp) ?_
              refine AllReady.cons rfl (fun K hK => ?_) AllReady.nil
              refine if_wanted rfl (wp_store_mid 68 (.tmp 52) (.tmp 50) rfl g (m * 3) (ncells ((x1, x2), x3)).toArray rfl rfl (T2.out) Tryd.sizeCt (ncells_one _) ?_)
              refine hK _ _ ?_
              clear hK K
              try simp only [Act.put, List.getElem_toArray, List.getElem_cons_zero, List.getElem_cons_succ, List.setIfInBounds_toArray, List.set_cons_zero, List.set_cons_succ]
              refine wpAny_done (by kernel_rfl) ?_ _
              try simp only [Act.put, List.getElem_toArray, List.getElem_cons_zero, List.getElem_cons_succ, List.setIfInBounds_toArray, List.set_cons_zero, List.set_cons_succ]
              go_wp2
              go_roundw
              case rel => exact ⟨m, (Z2.set kk ((a1, a2), a3)).set m ((x1, x2), x3), by have := HM.out; omega, by go_num, HSt.out, M2.out, MB2.out⟩
              case measure => simp [intOf]; have := HM.out; omega
          · have HD : Hid (isO lt X Z2 (k + 1)) := Q2.out.done (.inr (fun y hy => by
              obtain rfl := Option.some.inj (HAB.out.symm.trans hy)
              rw [HCl.out]; exact decide_eq_false hneg2))
            go_wp2_with fail
            go_region_held3 (fun w' => w'.cell? ⟨g, kk * 3, none⟩ = some (.int .u8 x1) ∧ w'.cell? ⟨g, kk * 3 + 1, none⟩ = some (.int .i16 x2) ∧ w'.cell? ⟨g, kk * 3 + 2, none⟩ = some (.int .i64 x3) ∧ w'.cell? ⟨g, m * 3, none⟩ = some (.int .u8 a1) ∧ w'.cell? ⟨g, m * 3 + 1, none⟩ = some (.int .i16 a2) ∧ w'.cell? ⟨g, m * 3 + 2, none⟩ = some (.int .i64 a3) ∧ Below wb.heap.size wb w') ((refine ⟨?_, ?_, ?_, ?_, ?_, ?_, ?_⟩ <;> (first | assumption | exact Below.drew ‹_› | (simp [*]; done))))
              (first
                | (go_at_call 66; refine (HCa.out _ (by first | assumption | exact Below.drew (by assumption))).mono ?_; rintro e w3 ⟨rfl, hb⟩; obtain ⟨r0, r1, r2, r3, r4, r5, r6⟩ := keptCc (g := g) (o0 := kk * 3) (o1 := kk * 3 + 1) (o2 := kk * 3 + 2) (o3 := m * 3) (o4 := m * 3 + 1) (o5 := m * 3 + 2) hgl (by first | assumption | exact Below.drew (by assumption)) hb (by assumption) (by assumption) (by assumption) (by assumption) (by assumption) (by assumption)))
            have HR : Hid (Below wb.heap.size wb w3) := (by assumption : Below wb.heap.size wb w3)
            go_wp2
            go_roundw
            case rel => exact ⟨k + 1, Z2, by omega, by omega, by go_num, HD.out, Q3.out.below HR.out hgl, Q4.out.trans (HR.out.mono (Nat.le_of_lt hgl))⟩
            case measure => simp [intOf]; omega
    · have hge : ¬ (k : Int) < N := by omega
      have HA : Hid (Z = isL lt X) := Q2.out.all (by rw [HXN.out]; omega)
      go_wp2
      go_end0
      exact ⟨⟨_, rfl⟩, by rw [← HA.out]; exact Q3.out, Q4.out⟩

set_option maxRecDepth 100000 in
set_option maxHeartbeats 4000000 in
theorem stableCc_any (Z : List Wnt) (N : Nat) (hN : N ≤ 19) (Bo g cap : Nat) (w : World)
    (HI : Calls Tryd.prog 108 #[.slice (some ⟨g, 0, none⟩) N cap, .int .i64 0, .int .i64 N, .func (.func 66) #[] #[.pointer (some ⟨Bo, 0, none⟩)]] w fun e w' => (∃ v, e = .returned v) ∧ OX w' g 68 3 ncells Z cap ∧ Below g w w') :
    Calls Tryd.prog 65 #[.slice (some ⟨g, 0, none⟩) N cap, .func (.func 66) #[] #[.pointer (some ⟨Bo, 0, none⟩)]] w fun e w' => (∃ v, e = .returned v) ∧ OX w' g 68 3 ncells Z cap ∧ Below g w w' := by
  have HI := Lib.hid HI
  have hxl : (0 : Int) ≤ (N : Int) := Int.natCast_nonneg _
  have hx20 : ¬ (20 : Int) ≤ (N : Int) := by omega
  have hx20' : ¬ (20 : Int) < (N : Int) := by omega
  have HS : Calls Tryd.prog 91 #[.slice (some ⟨g, 0, none⟩) N cap, .int .i64 N, .func (.func 66) #[] #[.pointer (some ⟨Bo, 0, none⟩)]] w fun e w' => (∃ v, e = .returned v) ∧ OX w' g 68 3 ncells Z cap ∧ Below g w w' := by
    go_enter Tryd.func91, Tryd.ntmps91
    go_wp2_with fail
    refine wp_loop_rounds 1 ?_
    rw [rounds_succ]
    go_wp2_with fail
    refine HI.out.mono ?_
    rintro e w1 ⟨⟨v, rfl⟩, h1, h2⟩
    have H1 := Lib.hid h1
    have H2 := Lib.hid h2
    clear h1 h2 HI
    go_wp2_with fail
    refine wp_loop_rounds 1 ?_
    rw [rounds_succ]
    go_wp2
    go_end0
    exact ⟨⟨_, rfl⟩, H1.out, H2.out⟩
  have HS := Lib.hid HS
  clear HI
  go_enter Tryd.func65, Tryd.ntmps65
  go_wp2_with fail
  refine HS.out.mono ?_
  rintro e w1 ⟨⟨v, rfl⟩, h1, h2⟩
  have H1 := Lib.hid h1
  have H2 := Lib.hid h2
  clear h1 h2 HS
  go_wp2
  go_end0
  exact ⟨⟨_, rfl⟩, H1.out, H2.out⟩

set_option maxRecDepth 100000 in
set_option maxHeartbeats 4000000 in
theorem stableNilCc_any (Bo : Nat) (w : World) :
    Calls Tryd.prog 65 #[.slice none 0 0, .func (.func 66) #[] #[.pointer (some ⟨Bo, 0, none⟩)]] w fun e w' => (∃ v, e = .returned v) ∧ Below w.heap.size w w' := by
  have HI : Hid (Calls Tryd.prog 108 #[.slice none 0 0, .int .i64 0, .int .i64 0, .func (.func 66) #[] #[.pointer (some ⟨Bo, 0, none⟩)]] w fun e w' => (∃ v, e = .returned v) ∧ w = w') := by
    show Calls _ _ _ _ _
    go_enter Tryd.func108, Tryd.ntmps108
    go_wp2_with fail
    refine wp_loop_rounds 1 ?_
    rw [rounds_succ]
    go_wp2
    go_end0
    exact ⟨⟨_, rfl⟩, rfl⟩
  have HS : Hid (Calls Tryd.prog 91 #[.slice none 0 0, .int .i64 0, .func (.func 66) #[] #[.pointer (some ⟨Bo, 0, none⟩)]] w fun e w' => (∃ v, e = .returned v) ∧ w = w') := by
    show Calls _ _ _ _ _
    go_enter Tryd.func91, Tryd.ntmps91
    go_wp2_with fail
    refine wp_loop_rounds 1 ?_
    rw [rounds_succ]
    go_wp2_with fail
    refine HI.out.mono ?_
    rintro e w1 ⟨⟨v, rfl⟩, rfl⟩
    clear HI
    go_wp2_with fail
    refine wp_loop_rounds 1 ?_
    rw [rounds_succ]
    go_wp2
    go_end0
    exact ⟨⟨_, rfl⟩, rfl⟩
  clear HI
  go_enter Tryd.func65, Tryd.ntmps65
  go_wp2_with fail
  refine HS.out.mono ?_
  rintro e w1 ⟨⟨v, rfl⟩, rfl⟩
  clear HS
  go_wp2
  go_end0
  exact ⟨⟨_, rfl⟩, Below.refl _ _⟩

set_option maxRecDepth 100000 in
set_option maxHeartbeats 2000000 in
theorem byOrdCc_any (d : Int) (hd : -100000 ≤ d ∧ d ≤ 100000) (a b : Wnt) (Bo : Nat) (w : World) (hc : w.cell? ⟨Bo, 0, none⟩ = some (.func (.func 62) #[] #[]))
    (HC : ∀ w, Calls Tryd.prog 62 #[.agg #[.int .u8 a.1.1, .int .i16 a.1.2, .int .i64 a.2], .agg #[.int .u8 b.1.1, .int .i16 b.1.2, .int .i64 b.2]] w fun e w' => e = .returned (.int .i64 d) ∧ Below w.heap.size w w') :
    Calls Tryd.prog 66 #[.agg #[.int .u8 a.1.1, .int .i16 a.1.2, .int .i64 a.2], .agg #[.int .u8 b.1.1, .int .i16 b.1.2, .int .i64 b.2], .pointer (some ⟨Bo, 0, none⟩)] w fun e w' => e = .returned (.int .i64 d) ∧ Below w.heap.size w w' := by
  have HC := Lib.hid HC
  obtain ⟨⟨x1, x2⟩, x3⟩ := a
  obtain ⟨⟨a1, a2⟩, a3⟩ := b
  have u1 : IntKind.i64.wrap d = d := IntWalk.i64_in _ ⟨by omega, by omega⟩
  have u2 : wrap64 d = d := IntWalk.wrap64_in _ ⟨by omega, by omega⟩
  show Calls Tryd.prog 66 #[.agg #[.int .u8 x1, .int .i16 x2, .int .i64 x3], .agg #[.int .u8 a1, .int .i16 a2, .int .i64 a3], .pointer (some ⟨Bo, 0, none⟩)] w _
  have hBo := block_lt_of_cell hc
  obtain ⟨W0, hW0⟩ : ∃ W0, (w.alloc (.cells #[.int .u8 x1, .int .i16 x2, .int .i64 x3] 68)).alloc (.cells #[.int .u8 a1, .int .i16 a2, .int .i64 a3] 68) = W0 := ⟨_, rfl⟩
  have hB : Below w.heap.size w W0 := by rw [← hW0]; exact ((Below.refl _ w).alloc (Nat.le_refl _) _).alloc (by simp) _
  have hc0 : W0.cell? ⟨Bo, 0, none⟩ = some (.func (.func 62) #[] #[]) := (hB.cell (p := ⟨Bo, 0, none⟩) hBo).trans hc
  have hK1 : Blk W0 w.heap.size 68 #[.int .u8 x1, .int .i16 x2, .int .i64 x3] := by rw [← hW0]; exact (Blk.new w _ _).alloc _
  have hK2 : Blk W0 (w.heap.size + 1) 68 #[.int .u8 a1, .int .i16 a2, .int .i64 a3] := by rw [← hW0]; exact Blk.new' (by simp) rfl
  have x0_1 : W0.cell? ⟨w.heap.size, 0, none⟩ = some (.int .u8 x1) := hK1.cell 0
  have x1_1 : W0.cell? ⟨w.heap.size, 1, none⟩ = some (.int .i16 x2) := hK1.cell 1
  have x2_1 : W0.cell? ⟨w.heap.size, 2, none⟩ = some (.int .i64 x3) := hK1.cell 2
  have x0_2 : W0.cell? ⟨w.heap.size + 1, 0, none⟩ = some (.int .u8 a1) := hK2.cell 0
  have x1_2 : W0.cell? ⟨w.heap.size + 1, 1, none⟩ = some (.int .i16 a2) := hK2.cell 1
  have x2_2 : W0.cell? ⟨w.heap.size + 1, 2, none⟩ = some (.int .i64 a3) := hK2.cell 2
  have HB0 := Lib.hid hB
  clear hB hK1 hK2 hc
  go_enter Tryd.func66, Tryd.ntmps66
  go_wp2_with fail
  refine (HC.out _).mono ?_
  rintro e w1 ⟨rfl, hb⟩
  have HB := Lib.hid (HB0.out.trans (hb.mono HB0.out.size))
  clear hb HC
  go_wp2
  go_ret
  exact ⟨by first | rfl | simp [u1, u2], HB.out⟩

set_option maxRecDepth 100000 in
set_option maxHeartbeats 4000000 in
theorem orderedCc_any (cf : Wnt → Wnt → Int) (X : List Wnt) (N : Nat) (hXN : X.length = N) (hN : N ≤ 19) (hcf : ∀ a b, a ∈ X → b ∈ X → -100000 ≤ cf a b ∧ cf a b ≤ 100000)
    (HC : ∀ a b, a ∈ X → b ∈ X → ∀ w, Calls Tryd.prog 62 #[.agg #[.int .u8 a.1.1, .int .i16 a.1.2, .int .i64 a.2], .agg #[.int .u8 b.1.1, .int .i16 b.1.2, .int .i64 b.2]] w fun e w' => e = .returned (.int .i64 (cf a b)) ∧ Below w.heap.size w w')
    (Al : Option Addr) (cl : Nat) (w : World) (hrl : Rd w w.heap.size ncells Al X)
    (HClone : ∀ W : World, Below w.heap.size w W → Calls Tryd.prog 64 #[.slice Al N cl] W fun e w' => ∃ A' c', e = .returned (.slice A' N c') ∧ w'.ownsRow W.heap.size 68 3 (.slice A' N c') N (X.flatMap ncells) ∧ Below W.heap.size W w') :
    Calls Tryd.prog 40 #[.slice Al N cl, .func (.func 62) #[] #[]] w fun e w' => ∃ A' c', e = .returned (.slice A' N c') ∧ w'.ownsRow w.heap.size 68 3 (.slice A' N c') N ((isL (fun a b => decide (cf a b < 0)) X).flatMap ncells) ∧ Below w.heap.size w w' := by
  have HC := Lib.hid HC
  have Hcf := Lib.hid hcf
  have HXN := Lib.hid hXN
  obtain ⟨W, hW⟩ : ∃ W, w.alloc (.cells #[.func (.func 62) #[] #[]] 76) = W := ⟨_, rfl⟩
  have hB0 : Below w.heap.size w W := by rw [← hW]; exact (Below.refl _ _).alloc (Nat.le_refl _) _
  have hK : Blk W w.heap.size 76 #[.func (.func 62) #[] #[]] := by rw [← hW]; exact Blk.new w _ _
  have hK1 : W.cell? ⟨w.heap.size, 0, none⟩ = some (.func (.func 62) #[] #[]) := Blk.cell hK 0
  have hlt0 : w.heap.size < W.heap.size := by rw [← hW]; simp
  have HCl := Lib.hid (HClone W hB0)
  have HB0 := Lib.hid hB0
  have HK1 := Lib.hid hK1
  clear HClone hrl hB0 hK hK1 hcf hXN
  go_enter Tryd.func40, Tryd.ntmps40
  go_wp2_with fail
  refine HCl.out.mono ?_
  rintro e w1 ⟨A1, c1, rfl, hO, hb⟩
  have HB1 := Lib.hid (HB0.out.trans (hb.mono HB0.out.size))
  have hO' : w1.ownsRow W.heap.size 68 3 (.slice A1 N c1) X.length (X.flatMap ncells) := by rw [HXN.out]; exact hO
  obtain ⟨hv, h0⟩ | ⟨g, cap, hv, hg, hOX⟩ := OX.of hO'
  · simp only [Value.slice.injEq] at hv
    obtain ⟨rfl, rfl, rfl⟩ := hv
    subst h0
    have HSt : Hid (Calls Tryd.prog 65 #[.slice none 0 0, .func (.func 66) #[] #[.pointer (some ⟨w.heap.size, 0, none⟩)]] w1 fun e w' => (∃ v, e = .returned v) ∧ Below w1.heap.size w1 w') := stableNilCc_any w.heap.size w1
    clear hO hO' hb hW HCl
    go_wp2_with fail
    refine HSt.out.mono ?_
    rintro e w2 ⟨⟨v, rfl⟩, h4⟩
    have HB2 := Lib.hid (HB1.out.trans (h4.mono HB1.out.size))
    clear h4 HSt
    go_wp2
    go_ret
    exact ⟨none, 0, rfl, ⟨rfl, .inl ⟨rfl, rfl⟩⟩, HB2.out⟩
  rw [HXN.out] at hv
  simp only [Value.slice.injEq, true_and] at hv
  obtain ⟨rfl, rfl⟩ := hv
  have hbW := hb
  have HSt := Lib.hid (stableCc_any _ N hN w.heap.size g c1 w1 (insCc_any cf X N HXN.out hN w.heap.size g c1 w1 hOX (fun a b ha hb W2 hW2 => by
    refine byOrdCc_any _ (Hcf.out a b ha hb) a b w.heap.size W2 ?_ (HC.out a b ha hb)
    exact (hW2.cell (p := ⟨w.heap.size, 0, none⟩) (by show w.heap.size < g; omega)).trans ((hbW.cell (p := ⟨w.heap.size, 0, none⟩) hlt0).trans HK1.out))))
  have hgw : w.heap.size ≤ g := by omega
  clear hO hO' hOX hb hbW hW HCl
  go_wp2_with fail
  refine HSt.out.mono ?_
  rintro e w2 ⟨⟨v, rfl⟩, h3, h4⟩
  have HB2 := Lib.hid (HB1.out.trans (h4.mono hgw))
  have HOw := Lib.hid (h3.own ncells_length hgw)
  have HLn : Hid ((isL (fun a b => decide (cf a b < 0)) X).length = N) := (isL_len _ X).trans HXN.out
  rw [HLn.out] at HOw
  clear h3 h4 HSt
  go_wp2
  go_ret
  exact ⟨_, _, rfl, HOw.out, HB2.out⟩
end Go.Proofs.YtcdhmlalpjcidaaDoor
