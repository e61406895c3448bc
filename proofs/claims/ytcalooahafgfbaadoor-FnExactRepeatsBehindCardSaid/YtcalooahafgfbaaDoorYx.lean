/-
  The visits of a walk: the model's l05Visits, the program's walksOf. Condition: a valid walker of at most 60 bottles.
-/
import Derived.Test.YtcalooahafgfbaaDoorYu
import Derived.Test.YtcalooahafgfbaaDoorLi
namespace Go.Proofs.YtcalooahafgfbaaDoor
open Go.ChangeShapes Go.WideShapes Go.ChangeAt Go.RowKit Go.Deep

theorem bump_get {v : List Int} {i : Nat} {a : Int} (h : v[i]? = some a) : bump v i = v.set i (a + 1) := by
  rw [bump, List.getD_eq_getElem?_getD, h]; rfl
theorem vat_int {n : Nat} (hn : 0 < n) (st sp k : Nat) : ∃ u : Int, ((vat n st sp k : Nat) : Int) + sp ≥ 0 ∧ (((vat n st sp k : Nat) : Int) + sp) % n = u ∧ Int.tmod (((vat n st sp k : Nat) : Int) + sp) n = u ∧ 0 ≤ u ∧ u < n ∧ u = ((vat n st sp (k + 1) : Nat) : Int) := by
  have h0 : ((vat n st sp k : Nat) : Int) + sp ≥ 0 := by omega
  have h1 : (((vat n st sp k : Nat) : Int) + sp) % n = ((vat n st sp (k + 1) : Nat) : Int) := by rw [vat_succ]; simp
  have h2 := vat_lt hn st sp (k + 1)
  exact ⟨_, h0, h1, by rw [Int.tmod_eq_emod_of_nonneg h0, h1], Int.natCast_nonneg _, Int.ofNat_lt.2 h2, rfl⟩
theorem icells_set {W : World} {g i : Nat} {v : List Int} {a : Int} (hR : Rs W g 2 icells v) (hi : v[i]? = some a) : Rs (W.setCell ⟨g, i, none⟩ (.int .i64 (a + 1))) g 2 icells (bump v i) := by
  rw [bump_get hi]
  have := Rs.set_ icells_length hR (k := i) (List.getElem?_eq_some_iff.1 hi).1 (a + 1)
  rw [Nat.mul_one] at this
  exact this
theorem icells_cell {W : World} {g i : Nat} {v : List Int} {a : Int} (hR : Rs W g 2 icells v) (hi : v[i]? = some a) : W.cell? ⟨g, i, none⟩ = some (.int .i64 a) := by
  have := rowI (range_row icells_length (Rs.range hR) hi)
  simpa using this

set_option maxRecDepth 100000 in
set_option maxHeartbeats 2000000 in
theorem l05Visits_any (n : Nat) (h1 : 1 ≤ n) (h60 : n ≤ 60) (x : Wal) (hx : vOk n x = true) (w : World) :
    Calls Tryd.prog 19 #[.int .i64 n, .agg (vcells x).toArray] w fun e w' => ∃ g, w.heap.size ≤ g ∧ e = .returned (.slice (some ⟨g, 0, none⟩) n n) ∧ Rs w' g 2 icells (vis n x) ∧ Below w.heap.size w w' := by
  have hxo := vOk_out hx
  obtain ⟨fi, ev, st, sp, co, tu⟩ := x
  simp only at hxo
  obtain ⟨⟨f0, f1⟩, ⟨e0, e1⟩, ⟨s0, s1⟩, ⟨p0, p1⟩, ⟨c0, c1⟩, t0, t1⟩ := hxo
  clear hx
  obtain ⟨stN, hst⟩ : ∃ m : Nat, st = m := ⟨st.toNat, by omega⟩
  obtain ⟨spN, hsp⟩ : ∃ m : Nat, sp = m := ⟨sp.toNat, by omega⟩
  obtain ⟨coN, hco⟩ : ∃ m : Nat, co = m := ⟨co.toNat, by omega⟩
  subst hst; subst hco
  have HSP := Lib.hid hsp
  clear hsp
  show Calls Tryd.prog 19 #[.int .i64 n, .agg #[.int .i16 fi, .int .i16 ev, .int .i16 stN, .int .i16 sp, .int .i16 coN, .int .i8 tu]] w _
  obtain ⟨i0, hi, hz0, hz1, hz2⟩ := info_parts Tryd.info64
  have hK0 : Blk (w.alloc (.cells #[.int .i16 fi, .int .i16 ev, .int .i16 stN, .int .i16 sp, .int .i16 coN, .int .i8 tu] 36)) w.heap.size 36 #[.int .i16 fi, .int .i16 ev, .int .i16 stN, .int .i16 sp, .int .i16 coN, .int .i8 tu] := Blk.new w _ _
  have hB0 : Below w.heap.size w (w.alloc (.cells #[.int .i16 fi, .int .i16 ev, .int .i16 stN, .int .i16 sp, .int .i16 coN, .int .i8 tu] 36)) := (Below.refl _ w).alloc (Nat.le_refl _) _
  obtain ⟨W1, hW1⟩ : ∃ W1, w.alloc (.cells #[.int .i16 fi, .int .i16 ev, .int .i16 stN, .int .i16 sp, .int .i16 coN, .int .i8 tu] 36) = W1 := ⟨_, rfl⟩
  rw [hW1] at hK0 hB0
  have HK0 := Lib.hid hK0
  have HB0 := Lib.hid hB0
  clear hK0 hB0
  go_enter Tryd.func19, Tryd.ntmps19
  go_wp2_with (refine wpList_make_full _ rfl (.tmp 8) (.tmp 8) 47 rfl W1.heap.size 2 i0 _ 1 Tryd.underlying47 hi hz0 hz1 .i64 .i64 _ _ n rfl rfl rfl rfl (by rw [hz2]; omega) (by unfold maxLen; omega) (Nat.le_refl _) ?_; intro w1 hown hg; have hBm : Below W1.heap.size W1 w1 := (Below.refl _ W1).grown hg (Nat.le_refl _) (fun _ h => by cases h); have hK1 := HK0.out.keep hBm; have d2' : w1.cell? ⟨w.heap.size, 2, none⟩ = some (.int .i16 stN) := Blk.cell hK1 2)
  have hR0 : Rs w1 W1.heap.size 2 icells (List.replicate n 0) := by
    have := blk_of_make hown
    rw [made_rows icells_length 0 (Value.int IntKind.i64 0).cells rfl (by omega)] at this
    exact this
  have hB1 : Below w.heap.size w w1 := HB0.out.trans (hBm.mono HB0.out.size)
  have HR0 := Lib.hid hR0
  have HK1 := Lib.hid hK1
  have HB1 := Lib.hid hB1
  have HS : Hid (w.heap.size < W1.heap.size) := HK0.out.lt
  clear hR0 hBm hK1 hB1 hown hg hi hz0 hz1 hz2 hW1 HK0
  have HV : Hid (vis n ⟨fi, ev, stN, sp, coN, tu⟩ = visTo n stN spN coN) := by show vis n _ = _; simp [vis, HSP.out]
  have hv0 := vat_zero (n := n) (st := stN) (by omega) spN
  have hn0 : (0 : Int) < (n : Int) := by omega
  have hnz : ¬ (n : Int) = 0 := by omega
  have hnz2 : ((n : Int) == 0) = false := by simp; omega
  go_loopw [6, 7] (fun a i wr => ∃ (k : Nat), k ≤ coN ∧ i = .int .i16 k ∧ a = .int .i64 (vat n stN spN k : Nat) ∧ Rs wr W1.heap.size 2 icells (visTo n stN spN k) ∧ Blk wr w.heap.size 36 #[.int .i16 fi, .int .i16 ev, .int .i16 stN, .int .i16 sp, .int .i16 coN, .int .i8 tu] ∧ Below w.heap.size w wr) (fun _ i _ => coN - (intOf i).toNat)
  case atStart => exact ⟨0, by omega, rfl, by rw [hv0], HR0.out, HK1.out, HB1.out⟩
  case round =>
    clear HR0 HK1 HB1 d2'
    obtain ⟨k, hk, rfl, rfl, hR, hK, hB⟩ := hrel
    have d3 : wr.cell? ⟨w.heap.size, 3, none⟩ = some (.int .i16 sp) := Blk.cell hK 3
    have d4 : wr.cell? ⟨w.heap.size, 4, none⟩ = some (.int .i16 coN) := Blk.cell hK 4
    have HR := Lib.hid hR
    have HK := Lib.hid hK
    have HB := Lib.hid hB
    clear hR hK hB
    by_cases hlt : k < coN
    · have hvl := vat_lt (n := n) (by omega) stN spN k
      obtain ⟨u, hs0, hm1, hm2, hu0, hu1, hu⟩ := vat_int (n := n) (by omega) stN spN k
      have hlen := visTo_len n stN spN k
      have hin := visTo_in n stN spN k (vat n stN spN k)
      obtain ⟨a, ha⟩ : ∃ a, (visTo n stN spN k)[vat n stN spN k]? = some a := ⟨_, List.getElem?_eq_getElem (by omega)⟩
      rw [List.getD_eq_getElem?_getD, ha, Option.getD_some] at hin
      have c1 := icells_cell HR.out ha
      have c2 := Blk.frozen HR.out (vat n stN spN k)
      have HA := Lib.hid ha
      obtain ⟨v, hv⟩ : ∃ v, vat n stN spN k = v := ⟨_, rfl⟩
      rw [hv] at hvl c1 c2 hs0 hm1 hm2 ⊢
      rw [← HSP.out] at hs0 hm1 hm2
      have HV2 := Lib.hid hv
      have hk0 : (0 : Int) ≤ (k : Int) := Int.natCast_nonneg _
      have hk8 : (k : Int) < coN := by omega
      have hvv0 : (0 : Int) ≤ (v : Int) := Int.natCast_nonneg _
      have hvv1 : (v : Int) < n := by omega
      have hne : W1.heap.size ≠ w.heap.size := by have := HS.out; omega
      have w1 : IntKind.i64.wrap (a + 1) = a + 1 := IntWalk.i64_in _ ⟨by omega, by omega⟩
      have w2 : wrap64 (a + 1) = a + 1 := IntWalk.wrap64_in _ ⟨by omega, by omega⟩
      have w3 : IntKind.i64.wrap ((v : Int) + sp) = v + sp := IntWalk.i64_in _ ⟨by omega, by omega⟩
      have w4 : wrap64 ((v : Int) + sp) = v + sp := IntWalk.wrap64_in _ ⟨by omega, by omega⟩
      have w5 : IntKind.i16.wrap ((k : Int) + 1) = k + 1 := IntWalk.i16_in _ ⟨by omega, by omega⟩
      have w6 : IntKind.i64.wrap u = u := IntWalk.i64_in _ ⟨by clear hm1 hm2; omega, by clear hm1 hm2; omega⟩
      have w7 : wrap64 u = u := IntWalk.wrap64_in _ ⟨by clear hm1 hm2; omega, by clear hm1 hm2; omega⟩
      have HU := Lib.hid hu
      have d3' : (wr.setCell ⟨W1.heap.size, v, none⟩ (.int .i64 (a + 1))).cell? ⟨w.heap.size, 3, none⟩ = some (.int .i16 sp) := Blk.cell (HK.out.far (p := ⟨W1.heap.size, v, none⟩) (Ne.symm hne) _) 3
      clear ha hv hu hin hlen
      go_wp2
      go_roundw
      case rel => exact ⟨k + 1, by omega, by go_num, by rw [HU.out], by rw [visTo, HV2.out]; exact icells_set HR.out (by rw [← HV2.out]; exact HA.out), HK.out.far (p := ⟨W1.heap.size, v, none⟩) (Ne.symm hne) _, HB.out.setCell (p := ⟨W1.heap.size, v, none⟩) (Nat.le_of_lt HS.out) _⟩
      case measure => simp [intOf]; omega
    · obtain rfl : k = coN := by omega
      go_wp2
      go_ret
      exact ⟨_, Nat.le_of_lt HS.out, rfl, by rw [HV.out]; exact HR.out, HB.out⟩

/-- The walks of a walker as cells: the walker, its days, its visits. -/
def kcellsV (x : Wal) (g n : Nat) : List Value := [.int .i16 x.fi, .int .i16 x.ev, .int .i16 x.st, .int .i16 x.sp, .int .i16 x.co, .int .i8 x.tu, .int .i64 x.fi, .int .i64 x.ev, .slice (some ⟨g, 0, none⟩) n n]
theorem Tryd.sizeWKS : (Tryd.prog.info? 60).map (·.size) = some 9 := by kernel_rfl
theorem vat_int3 {n : Nat} (hn : 0 < n) {st sp : Int} {stN spN : Nat} (hst : st = stN) (hsp : sp = spN) (hs : st ≤ 60) (hp : sp ≤ 60) {k : Nat} (hk : k ≤ 60) : ∃ p : Int, (k : Int) * sp = p ∧ 0 ≤ p ∧ p ≤ 3600 ∧ (st + p) % n = ((vat n stN spN k : Nat) : Int) ∧ Int.tmod (st + p) n = ((vat n stN spN k : Nat) : Int) := by
  subst hst; subst hsp
  have h0 : (0 : Int) ≤ (k : Int) * spN := Int.mul_nonneg (by omega) (by omega)
  have h1 : k * spN ≤ 60 * 60 := Nat.mul_le_mul hk (by omega)
  have h2 : (k : Int) * spN ≤ 3600 := by have : ((k * spN : Nat) : Int) ≤ ((60 * 60 : Nat) : Int) := Int.ofNat_le.2 h1; simpa using this
  have h3 : ((stN : Int) + (k : Int) * spN) % n = ((vat n stN spN k : Nat) : Int) := by unfold vat; simp
  exact ⟨_, rfl, h0, h2, h3, by rw [Int.tmod_eq_emod_of_nonneg (by omega), h3]⟩

set_option maxRecDepth 100000 in
set_option maxHeartbeats 4000000 in
theorem walksOf_any (n : Nat) (h1 : 1 ≤ n) (h60 : n ≤ 60) (x : Wal) (hx : vOk n x = true) (w : World) :
    Calls Tryd.prog 25 #[.int .i64 n, .agg (vcells x).toArray] w fun e w' => ∃ g, w.heap.size ≤ g ∧ e = .returned (.agg (kcellsV x g n).toArray) ∧ Rs w' g 2 icells (vis n x) ∧ Below w.heap.size w w' := by
  have hxo := vOk_out hx
  obtain ⟨fi, ev, st, sp, co, tu⟩ := x
  simp only at hxo
  obtain ⟨⟨f0, f1⟩, ⟨e0, e1⟩, ⟨s0, s1⟩, ⟨p0, p1⟩, ⟨c0, c1⟩, t0, t1⟩ := hxo
  clear hx
  obtain ⟨stN, hst⟩ : ∃ m : Nat, st = m := ⟨st.toNat, by omega⟩
  obtain ⟨spN, hsp⟩ : ∃ m : Nat, sp = m := ⟨sp.toNat, by omega⟩
  obtain ⟨coN, hco⟩ : ∃ m : Nat, co = m := ⟨co.toNat, by omega⟩
  subst hco
  have HST := Lib.hid hst
  have HSP := Lib.hid hsp
  clear hsp hst
  show Calls Tryd.prog 25 #[.int .i64 n, .agg #[.int .i16 fi, .int .i16 ev, .int .i16 st, .int .i16 sp, .int .i16 coN, .int .i8 tu]] w _
  obtain ⟨i0, hi, hz0, hz1, hz2⟩ := info_parts Tryd.info64
  have hB0 : Below w.heap.size w ((w.alloc (.cells #[.int .i16 fi, .int .i16 ev, .int .i16 st, .int .i16 sp, .int .i16 coN, .int .i8 tu] 36)).alloc (.cells #[.int .i16 0, .int .i16 0, .int .i16 0, .int .i16 0, .int .i16 0, .int .i8 0, .int .i64 0, .int .i64 0, .slice none 0 0] 60)) := ((Below.refl _ w).alloc (Nat.le_refl _) _).alloc (by simp) _
  have hK0 : Blk ((w.alloc (.cells #[.int .i16 fi, .int .i16 ev, .int .i16 st, .int .i16 sp, .int .i16 coN, .int .i8 tu] 36)).alloc (.cells #[.int .i16 0, .int .i16 0, .int .i16 0, .int .i16 0, .int .i16 0, .int .i8 0, .int .i64 0, .int .i64 0, .slice none 0 0] 60)) w.heap.size 36 #[.int .i16 fi, .int .i16 ev, .int .i16 st, .int .i16 sp, .int .i16 coN, .int .i8 tu] := heap_alloc2_old w _ _
  have hR0 : Blk ((w.alloc (.cells #[.int .i16 fi, .int .i16 ev, .int .i16 st, .int .i16 sp, .int .i16 coN, .int .i8 tu] 36)).alloc (.cells #[.int .i16 0, .int .i16 0, .int .i16 0, .int .i16 0, .int .i16 0, .int .i8 0, .int .i64 0, .int .i64 0, .slice none 0 0] 60)) (w.heap.size + 1) 60 #[.int .i16 0, .int .i16 0, .int .i16 0, .int .i16 0, .int .i16 0, .int .i8 0, .int .i64 0, .int .i64 0, .slice none 0 0] := heap_alloc2_new w _ _
  obtain ⟨W2, hW2⟩ : ∃ W2, (w.alloc (.cells #[.int .i16 fi, .int .i16 ev, .int .i16 st, .int .i16 sp, .int .i16 coN, .int .i8 tu] 36)).alloc (.cells #[.int .i16 0, .int .i16 0, .int .i16 0, .int .i16 0, .int .i16 0, .int .i8 0, .int .i64 0, .int .i64 0, .slice none 0 0] 60) = W2 := ⟨_, rfl⟩
  rw [hW2] at hB0 hK0 hR0
  have HK0 := Lib.hid hK0
  have HR0 := Lib.hid hR0
  have HB0 := Lib.hid hB0
  clear hK0 hB0 hR0
  go_enter Tryd.func25, Tryd.ntmps25
  go_wp2_with (refine wpList_make_full _ rfl (.tmp 7) (.tmp 7) 47 rfl W2.heap.size 2 i0 _ 1 Tryd.underlying47 hi hz0 hz1 .i64 .i64 _ _ n rfl rfl rfl rfl (by rw [hz2]; omega) (by unfold maxLen; omega) (Nat.le_refl _) ?_; intro w1 hown hg; have hBm : Below W2.heap.size W2 w1 := (Below.refl _ W2).grown hg (Nat.le_refl _) (fun _ h => by cases h); have hK1 := HK0.out.keep hBm; have d4' : w1.cell? ⟨w.heap.size, 4, none⟩ = some (.int .i16 coN) := Blk.cell hK1 4)
  have hV0 : Rs w1 W2.heap.size 2 icells (List.replicate n 0) := by
    have := blk_of_make hown
    rw [made_rows icells_length 0 (Value.int IntKind.i64 0).cells rfl (by omega)] at this
    exact this
  have hR1 := HR0.out.keep hBm
  have hB1 : Below w.heap.size w w1 := HB0.out.trans (hBm.mono HB0.out.size)
  have HV0 := Lib.hid hV0
  have HK1 := Lib.hid hK1
  have HR1 := Lib.hid hR1
  have HB1 := Lib.hid hB1
  have HS : Hid (w.heap.size + 1 < W2.heap.size) := HR0.out.lt
  have HV : Hid (vis n ⟨fi, ev, st, sp, coN, tu⟩ = visTo n stN spN coN) := by show vis n _ = _; simp [vis, HSP.out, HST.out]
  have hn0 : (0 : Int) < (n : Int) := by omega
  have hnz : ¬ (n : Int) = 0 := by omega
  have hnz2 : ((n : Int) == 0) = false := by simp; omega
  clear hV0 hBm hK1 hR1 hB1 hown hg hi hz0 hz1 hz2 hW2 HK0 HR0
  go_loopw [12] (fun i wr => ∃ (k : Nat), k ≤ coN ∧ i = .int .i64 k ∧ Rs wr W2.heap.size 2 icells (visTo n stN spN k) ∧ Blk wr w.heap.size 36 #[.int .i16 fi, .int .i16 ev, .int .i16 st, .int .i16 sp, .int .i16 coN, .int .i8 tu] ∧ Blk wr (w.heap.size + 1) 60 #[.int .i16 0, .int .i16 0, .int .i16 0, .int .i16 0, .int .i16 0, .int .i8 0, .int .i64 0, .int .i64 0, .slice none 0 0] ∧ Below w.heap.size w wr) (fun i _ => coN - (intOf i).toNat)
  case atStart => exact ⟨0, by omega, rfl, HV0.out, HK1.out, HR1.out, HB1.out⟩
  case round =>
    clear HV0 HK1 HR1 HB1 d4'
    obtain ⟨k, hk, rfl, hR, hK, hZ, hB⟩ := hrel
    have HR := Lib.hid hR
    have HK := Lib.hid hK
    have HZ := Lib.hid hZ
    have HB := Lib.hid hB
    by_cases hlt : k < coN
    · have d2 : wr.cell? ⟨w.heap.size, 2, none⟩ = some (.int .i16 st) := Blk.cell hK 2
      have d3 : wr.cell? ⟨w.heap.size, 3, none⟩ = some (.int .i16 sp) := Blk.cell hK 3
      clear hR hK hZ hB
      have hvl := vat_lt (n := n) (by omega) stN spN k
      obtain ⟨p, hp, hp0, hp1, hm1, hm2⟩ := vat_int3 (n := n) (by omega) HST.out HSP.out (by omega) (by omega) (k := k) (by omega)
      have hlen := visTo_len n stN spN k
      have hin := visTo_in n stN spN k (vat n stN spN k)
      obtain ⟨a, ha⟩ : ∃ a, (visTo n stN spN k)[vat n stN spN k]? = some a := ⟨_, List.getElem?_eq_getElem (by omega)⟩
      rw [List.getD_eq_getElem?_getD, ha, Option.getD_some] at hin
      have c1 := icells_cell HR.out ha
      have c2 := Blk.frozen HR.out (vat n stN spN k)
      have HA := Lib.hid ha
      obtain ⟨v, hv⟩ : ∃ v, vat n stN spN k = v := ⟨_, rfl⟩
      rw [hv] at hvl c1 c2 hm1 hm2
      have HV2 := Lib.hid hv
      have hk0 : (0 : Int) ≤ (k : Int) := Int.natCast_nonneg _
      have hk8 : (k : Int) < coN := by omega
      have hvv0 : (0 : Int) ≤ (v : Int) := Int.natCast_nonneg _
      have hvv1 : (v : Int) < n := by omega
      have hne : W2.heap.size ≠ w.heap.size := by have := HS.out; omega
      have hne2 : W2.heap.size ≠ w.heap.size + 1 := by have := HS.out; omega
      have hge : w.heap.size ≤ W2.heap.size := by have := HS.out; omega
      have w1 : IntKind.i64.wrap (a + 1) = a + 1 := IntWalk.i64_in _ ⟨by clear hm1 hm2; omega, by clear hm1 hm2; omega⟩
      have w2 : wrap64 (a + 1) = a + 1 := IntWalk.wrap64_in _ ⟨by clear hm1 hm2; omega, by clear hm1 hm2; omega⟩
      have w3 : IntKind.i64.wrap p = p := IntWalk.i64_in _ ⟨by clear hm1 hm2; omega, by clear hm1 hm2; omega⟩
      have w4 : wrap64 p = p := IntWalk.wrap64_in _ ⟨by clear hm1 hm2; omega, by clear hm1 hm2; omega⟩
      have w5 : IntKind.i64.wrap (st + p) = st + p := IntWalk.i64_in _ ⟨by clear hm1 hm2; omega, by clear hm1 hm2; omega⟩
      have w6 : wrap64 (st + p) = st + p := IntWalk.wrap64_in _ ⟨by clear hm1 hm2; omega, by clear hm1 hm2; omega⟩
      have w7 : IntKind.i64.wrap (v : Int) = v := IntWalk.i64_in _ ⟨by clear hm1 hm2; omega, by clear hm1 hm2; omega⟩
      have w8 : wrap64 (v : Int) = v := IntWalk.wrap64_in _ ⟨by clear hm1 hm2; omega, by clear hm1 hm2; omega⟩
      have hsp0 : 0 ≤ st + p := by clear hm1 hm2; omega
      clear ha hv hin hlen
      go_wp2
      go_roundw
      case rel => exact ⟨k + 1, by omega, by go_num, by rw [visTo, HV2.out]; exact icells_set HR.out (by rw [← HV2.out]; exact HA.out), HK.out.far (p := ⟨W2.heap.size, v, none⟩) (Ne.symm hne) _, HZ.out.far (p := ⟨W2.heap.size, v, none⟩) (Ne.symm hne2) _, HB.out.setCell (p := ⟨W2.heap.size, v, none⟩) hge _⟩
      case measure => simp [intOf]; omega
    · obtain rfl : k = coN := by omega
      have d0 : wr.cell? ⟨w.heap.size, 0, none⟩ = some (.int .i16 fi) := Blk.cell hK 0
      have d1 : wr.cell? ⟨w.heap.size, 1, none⟩ = some (.int .i16 ev) := Blk.cell hK 1
      have d2 : wr.cell? ⟨w.heap.size, 2, none⟩ = some (.int .i16 st) := Blk.cell hK 2
      have d3 : wr.cell? ⟨w.heap.size, 3, none⟩ = some (.int .i16 sp) := Blk.cell hK 3
      have d4 : wr.cell? ⟨w.heap.size, 4, none⟩ = some (.int .i16 k) := Blk.cell hK 4
      have d5 : wr.cell? ⟨w.heap.size, 5, none⟩ = some (.int .i8 tu) := Blk.cell hK 5
      clear hR hK hZ hB
      go_wp2_with (refine wpList_store_row rfl 60 (.tmp 4) (.tmp 41) rfl (w.heap.size + 1) #[.int .i16 fi, .int .i16 ev, .int .i16 st, .int .i16 sp, .int .i16 k, .int .i8 tu, .int .i64 fi, .int .i64 ev, .slice (some ⟨W2.heap.size, 0, none⟩) n n] rfl rfl 60 _ HZ.out Tryd.sizeWKS rfl (by simp [Value.oneCell']) ?_)
      exact bodyPost_ret (v := .agg #[.int .i16 fi, .int .i16 ev, .int .i16 st, .int .i16 sp, .int .i16 k, .int .i8 tu, .int .i64 fi, .int .i64 ev, .slice (some ⟨W2.heap.size, 0, none⟩) n n]) (results_cell_row rfl _ _ _ 60 _ (0, 0) _ rfl (setRow_heap _ _ _ _ _ _ HZ.out) Tryd.underlying60 rfl Tryd.sizeWKS) rfl ⟨W2.heap.size, by have := HS.out; omega, rfl, by rw [HV.out]; exact (setRow_other _ _ _ _ (by have := HS.out; omega)).trans HR.out, Below.setRow HB.out _ _ (by omega)⟩

theorem Tryd.fieldDays (a b c d e f g h : Int) (s : Option Addr) (n m : Nat) (w : World) : (Instr.field 60 (.agg #[.int .i16 a, .int .i16 b, .int .i16 c, .int .i16 d, .int .i16 e, .int .i8 f, .int .i64 g, .int .i64 h, .slice s n m]) 1).run Tryd.prog w = .ok (.agg #[.int .i64 g, .int .i64 h]) w := by kernel_rfl
theorem Tryd.fieldVisits (a b c d e f g h : Int) (s : Option Addr) (n m : Nat) (w : World) : (Instr.field 60 (.agg #[.int .i16 a, .int .i16 b, .int .i16 c, .int .i16 d, .int .i16 e, .int .i8 f, .int .i64 g, .int .i64 h, .slice s n m]) 2).run Tryd.prog w = .ok (.slice s n m) w := by kernel_rfl
end Go.Proofs.YtcalooahafgfbaaDoor
