/-
  WalkerText: the model's contract. No condition.
-/
import Derived.Test.YtjjdehnpnfdjcaaDoorWt0
namespace Go.Proofs.YtjjdehnpnfdjcaaDoor
open Go.ChangeShapes Go.WideShapes Go.ChangeAt Go.RowKit Go.Deep

/-- A walker lies in a box. -/
def wBox (w : World) (B : Nat) (a b c d e : Nat) (t : Int) : Prop :=
  w.cell? ⟨B, 0, none⟩ = some (.int .i16 a) ∧ w.cell? ⟨B, 1, none⟩ = some (.int .i16 b) ∧ w.cell? ⟨B, 2, none⟩ = some (.int .i16 c) ∧ w.cell? ⟨B, 3, none⟩ = some (.int .i16 d) ∧ w.cell? ⟨B, 4, none⟩ = some (.int .i16 e) ∧ w.cell? ⟨B, 5, none⟩ = some (.int .i8 t)
theorem wBox.keep {w w' : World} {B : Nat} {a b c d e : Nat} {t : Int} (h : wBox w B a b c d e t) {N : Nat} (hb : Below N w w') (hB : B < N) : wBox w' B a b c d e t :=
  ⟨(hb.cell (p := ⟨B, 0, none⟩) hB).trans h.1, (hb.cell (p := ⟨B, 1, none⟩) hB).trans h.2.1, (hb.cell (p := ⟨B, 2, none⟩) hB).trans h.2.2.1, (hb.cell (p := ⟨B, 3, none⟩) hB).trans h.2.2.2.1, (hb.cell (p := ⟨B, 4, none⟩) hB).trans h.2.2.2.2.1, (hb.cell (p := ⟨B, 5, none⟩) hB).trans h.2.2.2.2.2⟩

set_option maxRecDepth 100000 in
set_option maxHeartbeats 1600000 in
theorem specWalkerText_any (x : Wal) (hx : wfV x) (w : World) :
    Calls Tryd.prog 5 #[.agg (vcells x).toArray] w fun e w' => e = .returned (.string (wkA x)) ∧ Below w.heap.size w w' := by
  have hK0 : Blk (w.alloc (.cells (vcells x).toArray 27)) w.heap.size 27 (vcells x).toArray := Blk.new w _ _
  have hB0 : Below w.heap.size w (w.alloc (.cells (vcells x).toArray 27)) := (Below.refl _ w).alloc (Nat.le_refl _) _
  have hC0 : vOk 60 x = true → ∀ (a b c d e : Nat) (t : Int), x = ⟨a, b, c, d, e, t⟩ → wBox (w.alloc (.cells (vcells x).toArray 27)) w.heap.size a b c d e t := by
    rintro - a b c d e t rfl
    simp [wBox, vcells]
  have hs1 : w.heap.size < (w.alloc (.cells (vcells x).toArray 27)).heap.size := by simp
  obtain ⟨W1, hW1⟩ : ∃ W1, w.alloc (.cells (vcells x).toArray 27) = W1 := ⟨_, rfl⟩
  rw [hW1] at hK0 hB0 hC0 hs1
  have HK0 := Lib.hid hK0
  have HB0 := Lib.hid hB0
  have HX := Lib.hid hx
  have HC0 := Lib.hid hC0
  clear hK0 hB0 hx hC0
  go_enter Tryd.func5, Tryd.ntmps5
  go_wp2_with (first | (refine wpList_load_row rfl 27 (.tmp 1) rfl w.heap.size rfl 27 (vcells x).toArray (0, 0) _ HK0.out Tryd.underlying27 rfl (Tryd.sizeVIx x) ?_))
  clear hW1
  refine (l05Walker_any 60 x HX.out (by omega) (by omega) W1).mono ?_
  rintro e w2 ⟨rfl, hb⟩
  have HB2 := Lib.hid (HB0.out.trans (hb.mono HB0.out.size))
  cases h0 : vOk 60 x
  · have E := Lib.hid (wkA_no h0)
    clear h0 hb
    go_wp2
    first | go_ret | skip
    exact ⟨by (rw [E.out]; first | done | rfl), HB2.out⟩
  have E := Lib.hid (wkA_yes h0)
  obtain ⟨⟨a0, a1⟩, ⟨b0, b1⟩, ⟨c0, c1⟩, ⟨d0, d1⟩, ⟨e0, e1⟩, t0, t1⟩ := vOk_out h0
  obtain ⟨fi, ev, st, sp, co, t⟩ := x
  simp only at a0 a1 b0 b1 c0 c1 d0 d1 e0 e1 t0 t1
  obtain ⟨a, rfl⟩ : ∃ a : Nat, fi = a := ⟨fi.toNat, by omega⟩
  obtain ⟨b, rfl⟩ : ∃ a : Nat, ev = a := ⟨ev.toNat, by omega⟩
  obtain ⟨c, rfl⟩ : ∃ a : Nat, st = a := ⟨st.toNat, by omega⟩
  obtain ⟨d, rfl⟩ : ∃ a : Nat, sp = a := ⟨sp.toNat, by omega⟩
  obtain ⟨e, rfl⟩ : ∃ a : Nat, co = a := ⟨co.toNat, by omega⟩
  have hbx := (HC0.out h0 a b c d e t rfl).keep hb hs1
  have hs2 : w.heap.size < w2.heap.size := Nat.lt_of_lt_of_le hs1 hb.size
  have hwa : IntKind.i64.wrap (a : Int) = a := IntWalk.i64_in _ ⟨by omega, by omega⟩
  have hwb : IntKind.i64.wrap (b : Int) = b := IntWalk.i64_in _ ⟨by omega, by omega⟩
  have hwc : IntKind.i64.wrap (c : Int) = c := IntWalk.i64_in _ ⟨by omega, by omega⟩
  have hwd : IntKind.i64.wrap (d : Int) = d := IntWalk.i64_in _ ⟨by omega, by omega⟩
  have hwe : IntKind.i64.wrap (e : Int) = e := IntWalk.i64_in _ ⟨by omega, by omega⟩
  have HDa : Hid (∀ W, Calls Tryd.prog 14 #[.int .i64 a] W fun e w' => e = .returned (.string (decS a)) ∧ Below W.heap.size W w') := fun W => decimal_any a (by omega) W
  have HDb : Hid (∀ W, Calls Tryd.prog 14 #[.int .i64 b] W fun e w' => e = .returned (.string (decS b)) ∧ Below W.heap.size W w') := fun W => decimal_any b (by omega) W
  have HDc : Hid (∀ W, Calls Tryd.prog 14 #[.int .i64 c] W fun e w' => e = .returned (.string (decS c)) ∧ Below W.heap.size W w') := fun W => decimal_any c (by omega) W
  have HDd : Hid (∀ W, Calls Tryd.prog 14 #[.int .i64 d] W fun e w' => e = .returned (.string (decS d)) ∧ Below W.heap.size W w') := fun W => decimal_any d (by omega) W
  have HDe : Hid (∀ W, Calls Tryd.prog 14 #[.int .i64 e] W fun z w' => z = .returned (.string (decS e)) ∧ Below W.heap.size W w') := fun W => decimal_any e (by omega) W
  have hza := decS_size a
  have hzb := decS_size b
  have hzc := decS_size c
  have hzd := decS_size d
  have hze := decS_size e
  have E2 : Hid (wkW ⟨a, b, c, d, e, t⟩ = [decS a, decS b, decS c, decS d, decS e, itW t]) := by show _ = _; simp [wkW, wkN, itW_nat]
  obtain ⟨sa, hsa⟩ : ∃ s, decS a = s := ⟨_, rfl⟩
  obtain ⟨sb, hsb⟩ : ∃ s, decS b = s := ⟨_, rfl⟩
  obtain ⟨sc, hsc⟩ : ∃ s, decS c = s := ⟨_, rfl⟩
  obtain ⟨sd, hsd⟩ : ∃ s, decS d = s := ⟨_, rfl⟩
  obtain ⟨se, hse⟩ : ∃ s, decS e = s := ⟨_, rfl⟩
  rw [hsa] at HDa hza E2
  rw [hsb] at HDb hzb E2
  rw [hsc] at HDc hzc E2
  rw [hsd] at HDd hzd E2
  rw [hse] at HDe hze E2
  have hn1 : ¬ (9223372036854775807 < sa.size + 1) := by omega
  have hn2 : ¬ (9223372036854775807 < sa.size + 1 + sb.size) := by omega
  have hn3 : ¬ (9223372036854775807 < sa.size + 1 + sb.size + 1) := by omega
  have hn4 : ¬ (9223372036854775807 < sa.size + 1 + sb.size + 1 + sc.size) := by omega
  have hn5 : ¬ (9223372036854775807 < sa.size + 1 + sb.size + 1 + sc.size + 1) := by omega
  have hn6 : ¬ (9223372036854775807 < sa.size + 1 + sb.size + 1 + sc.size + 1 + sd.size) := by omega
  clear hb h0 HC0 HK0 HX hsa hsb hsc hsd hse
  go_wp2_with fail
  refine wp_region_held_drew (S := fun w' => Below w2.heap.size w2 w') (by kernel_rfl) (Below.refl _ _).drew (fun hHeld => ?_)
  refine wpAnyH_take (i := 0) (v := .pointer (some ⟨w.heap.size, 0, none⟩)) rfl (by kernel_rfl) (by kernel_rfl) (by kernel_rfl) (fun _ _ _ h => h) (Or.inl ⟨by rfl, fun w' h => by go_simp⟩) (by assumption) ?_
  try simp only [Act.put, List.getElem_toArray, List.getElem_cons_zero, List.getElem_cons_succ, List.setIfInBounds_toArray, List.set_cons_zero, List.set_cons_succ]
  refine wpAnyH_take (i := 1) (v := .int .i16 a) rfl (by kernel_rfl) (by kernel_rfl) (by kernel_rfl) (fun _ _ _ h => h) (Or.inl ⟨by rfl, fun w' h => by have e3 := ((h.cell (p := ⟨w.heap.size, 0, none⟩) hs2).trans hbx.1); go_simp⟩) (by assumption) ?_
  try simp only [Act.put, List.getElem_toArray, List.getElem_cons_zero, List.getElem_cons_succ, List.setIfInBounds_toArray, List.set_cons_zero, List.set_cons_succ]
  refine wpAnyH_take (i := 2) (v := .int .i64 a) rfl (by kernel_rfl) (by kernel_rfl) (by kernel_rfl) (fun _ _ _ h => h) (Or.inl ⟨by rfl, fun w' h => by go_simp⟩) (by assumption) ?_
  try simp only [Act.put, List.getElem_toArray, List.getElem_cons_zero, List.getElem_cons_succ, List.setIfInBounds_toArray, List.set_cons_zero, List.set_cons_succ]
  refine wpAnyH_take (i := 5) (v := .pointer (some ⟨w.heap.size, 1, none⟩)) rfl (by kernel_rfl) (by kernel_rfl) (by kernel_rfl) (fun _ _ _ h => h) (Or.inl ⟨by rfl, fun w' h => by go_simp⟩) (by assumption) ?_
  try simp only [Act.put, List.getElem_toArray, List.getElem_cons_zero, List.getElem_cons_succ, List.setIfInBounds_toArray, List.set_cons_zero, List.set_cons_succ]
  refine wpAnyH_take (i := 6) (v := .int .i16 b) rfl (by kernel_rfl) (by kernel_rfl) (by kernel_rfl) (fun _ _ _ h => h) (Or.inl ⟨by rfl, fun w' h => by have e3 := ((h.cell (p := ⟨w.heap.size, 1, none⟩) hs2).trans hbx.2.1); go_simp⟩) (by assumption) ?_
  try simp only [Act.put, List.getElem_toArray, List.getElem_cons_zero, List.getElem_cons_succ, List.setIfInBounds_toArray, List.set_cons_zero, List.set_cons_succ]
  refine wpAnyH_take (i := 7) (v := .int .i64 b) rfl (by kernel_rfl) (by kernel_rfl) (by kernel_rfl) (fun _ _ _ h => h) (Or.inl ⟨by rfl, fun w' h => by go_simp⟩) (by assumption) ?_
  try simp only [Act.put, List.getElem_toArray, List.getElem_cons_zero, List.getElem_cons_succ, List.setIfInBounds_toArray, List.set_cons_zero, List.set_cons_succ]
  refine wpAnyH_take (i := 11) (v := .pointer (some ⟨w.heap.size, 2, none⟩)) rfl (by kernel_rfl) (by kernel_rfl) (by kernel_rfl) (fun _ _ _ h => h) (Or.inl ⟨by rfl, fun w' h => by go_simp⟩) (by assumption) ?_
  try simp only [Act.put, List.getElem_toArray, List.getElem_cons_zero, List.getElem_cons_succ, List.setIfInBounds_toArray, List.set_cons_zero, List.set_cons_succ]
  refine wpAnyH_take (i := 12) (v := .int .i16 c) rfl (by kernel_rfl) (by kernel_rfl) (by kernel_rfl) (fun _ _ _ h => h) (Or.inl ⟨by rfl, fun w' h => by have e3 := ((h.cell (p := ⟨w.heap.size, 2, none⟩) hs2).trans hbx.2.2.1); go_simp⟩) (by assumption) ?_
  try simp only [Act.put, List.getElem_toArray, List.getElem_cons_zero, List.getElem_cons_succ, List.setIfInBounds_toArray, List.set_cons_zero, List.set_cons_succ]
  refine wpAnyH_take (i := 13) (v := .int .i64 c) rfl (by kernel_rfl) (by kernel_rfl) (by kernel_rfl) (fun _ _ _ h => h) (Or.inl ⟨by rfl, fun w' h => by go_simp⟩) (by assumption) ?_
  try simp only [Act.put, List.getElem_toArray, List.getElem_cons_zero, List.getElem_cons_succ, List.setIfInBounds_toArray, List.set_cons_zero, List.set_cons_succ]
  refine wpAnyH_take (i := 17) (v := .pointer (some ⟨w.heap.size, 3, none⟩)) rfl (by kernel_rfl) (by kernel_rfl) (by kernel_rfl) (fun _ _ _ h => h) (Or.inl ⟨by rfl, fun w' h => by go_simp⟩) (by assumption) ?_
  try simp only [Act.put, List.getElem_toArray, List.getElem_cons_zero, List.getElem_cons_succ, List.setIfInBounds_toArray, List.set_cons_zero, List.set_cons_succ]
  refine wpAnyH_take (i := 18) (v := .int .i16 d) rfl (by kernel_rfl) (by kernel_rfl) (by kernel_rfl) (fun _ _ _ h => h) (Or.inl ⟨by rfl, fun w' h => by have e3 := ((h.cell (p := ⟨w.heap.size, 3, none⟩) hs2).trans hbx.2.2.2.1); go_simp⟩) (by assumption) ?_
  try simp only [Act.put, List.getElem_toArray, List.getElem_cons_zero, List.getElem_cons_succ, List.setIfInBounds_toArray, List.set_cons_zero, List.set_cons_succ]
  refine wpAnyH_take (i := 19) (v := .int .i64 d) rfl (by kernel_rfl) (by kernel_rfl) (by kernel_rfl) (fun _ _ _ h => h) (Or.inl ⟨by rfl, fun w' h => by go_simp⟩) (by assumption) ?_
  try simp only [Act.put, List.getElem_toArray, List.getElem_cons_zero, List.getElem_cons_succ, List.setIfInBounds_toArray, List.set_cons_zero, List.set_cons_succ]
  obtain ⟨D0, hD0⟩ : ∃ D0, w2.drew = D0 := ⟨_, rfl⟩
  rw [hD0] at hHeld ⊢
  clear hD0
  refine wpAnyH_ready (rs := [3]) (by kernel_rfl) (by simp) ?_
  refine AllReadyH.cons rfl (fun K hK => ?_) AllReadyH.nil
  refine if_wanted rfl ?_
  go_simp
  refine (HDa.out _).mono ?_
  rintro z w5 ⟨rfl, hb⟩
  have hH2 : Below w2.heap.size w2 w5 := hHeld.trans (hb.mono hHeld.size)
  clear hb hHeld
  dsimp only
  refine hK.out _ _ hH2 (fun hHeld => ?_)
  clear hK K hH2
  try simp only [Act.put, List.getElem_toArray, List.getElem_cons_zero, List.getElem_cons_succ, List.setIfInBounds_toArray, List.set_cons_zero, List.set_cons_succ]
  refine wpAnyH_take (i := 4) (v := .string (sa ++ ⟨#[47]⟩)) rfl (by kernel_rfl) (by kernel_rfl) (by kernel_rfl) (fun _ _ _ h => h) (Or.inl ⟨by rfl, fun w' h => by go_simp⟩) (by assumption) ?_
  try simp only [Act.put, List.getElem_toArray, List.getElem_cons_zero, List.getElem_cons_succ, List.setIfInBounds_toArray, List.set_cons_zero, List.set_cons_succ]
  refine wpAnyH_ready (rs := [8]) (by kernel_rfl) (by simp) ?_
  refine AllReadyH.cons rfl (fun K hK => ?_) AllReadyH.nil
  refine if_wanted rfl ?_
  go_simp
  refine (HDb.out _).mono ?_
  rintro z w6 ⟨rfl, hb⟩
  have hH2 : Below w2.heap.size w2 w6 := hHeld.trans (hb.mono hHeld.size)
  clear hb hHeld
  dsimp only
  refine hK.out _ _ hH2 (fun hHeld => ?_)
  clear hK K hH2
  try simp only [Act.put, List.getElem_toArray, List.getElem_cons_zero, List.getElem_cons_succ, List.setIfInBounds_toArray, List.set_cons_zero, List.set_cons_succ]
  refine wpAnyH_take (i := 9) (v := .string (sa ++ ⟨#[47]⟩ ++ sb)) rfl (by kernel_rfl) (by kernel_rfl) (by kernel_rfl) (fun _ _ _ h => h) (Or.inl ⟨by rfl, fun w' h => by go_simp⟩) (by assumption) ?_
  try simp only [Act.put, List.getElem_toArray, List.getElem_cons_zero, List.getElem_cons_succ, List.setIfInBounds_toArray, List.set_cons_zero, List.set_cons_succ]
  refine wpAnyH_take (i := 10) (v := .string (sa ++ ⟨#[47]⟩ ++ sb ++ ⟨#[47]⟩)) rfl (by kernel_rfl) (by kernel_rfl) (by kernel_rfl) (fun _ _ _ h => h) (Or.inl ⟨by rfl, fun w' h => by go_simp⟩) (by assumption) ?_
  try simp only [Act.put, List.getElem_toArray, List.getElem_cons_zero, List.getElem_cons_succ, List.setIfInBounds_toArray, List.set_cons_zero, List.set_cons_succ]
  refine wpAnyH_ready (rs := [14]) (by kernel_rfl) (by simp) ?_
  refine AllReadyH.cons rfl (fun K hK => ?_) AllReadyH.nil
  refine if_wanted rfl ?_
  go_simp
  refine (HDc.out _).mono ?_
  rintro z w7 ⟨rfl, hb⟩
  have hH2 : Below w2.heap.size w2 w7 := hHeld.trans (hb.mono hHeld.size)
  clear hb hHeld
  dsimp only
  refine hK.out _ _ hH2 (fun hHeld => ?_)
  clear hK K hH2
  try simp only [Act.put, List.getElem_toArray, List.getElem_cons_zero, List.getElem_cons_succ, List.setIfInBounds_toArray, List.set_cons_zero, List.set_cons_succ]
  refine wpAnyH_take (i := 15) (v := .string (sa ++ ⟨#[47]⟩ ++ sb ++ ⟨#[47]⟩ ++ sc)) rfl (by kernel_rfl) (by kernel_rfl) (by kernel_rfl) (fun _ _ _ h => h) (Or.inl ⟨by rfl, fun w' h => by go_simp⟩) (by assumption) ?_
  try simp only [Act.put, List.getElem_toArray, List.getElem_cons_zero, List.getElem_cons_succ, List.setIfInBounds_toArray, List.set_cons_zero, List.set_cons_succ]
  refine wpAnyH_take (i := 16) (v := .string (sa ++ ⟨#[47]⟩ ++ sb ++ ⟨#[47]⟩ ++ sc ++ ⟨#[47]⟩)) rfl (by kernel_rfl) (by kernel_rfl) (by kernel_rfl) (fun _ _ _ h => h) (Or.inl ⟨by rfl, fun w' h => by go_simp⟩) (by assumption) ?_
  try simp only [Act.put, List.getElem_toArray, List.getElem_cons_zero, List.getElem_cons_succ, List.setIfInBounds_toArray, List.set_cons_zero, List.set_cons_succ]
  refine wpAnyH_ready (rs := [20]) (by kernel_rfl) (by simp) ?_
  refine AllReadyH.cons rfl (fun K hK => ?_) AllReadyH.nil
  refine if_wanted rfl ?_
  go_simp
  refine (HDd.out _).mono ?_
  rintro z W9 ⟨rfl, hb⟩
  have hH2 : Below w2.heap.size w2 W9 := hHeld.trans (hb.mono hHeld.size)
  clear hb hHeld
  dsimp only
  refine hK.out _ _ hH2 (fun hHeld => ?_)
  clear hK K hH2
  try simp only [Act.put, List.getElem_toArray, List.getElem_cons_zero, List.getElem_cons_succ, List.setIfInBounds_toArray, List.set_cons_zero, List.set_cons_succ]
  refine wpAnyH_take (i := 21) (v := .string (sa ++ ⟨#[47]⟩ ++ sb ++ ⟨#[47]⟩ ++ sc ++ ⟨#[47]⟩ ++ sd)) rfl (by kernel_rfl) (by kernel_rfl) (by kernel_rfl) (fun _ _ _ h => h) (Or.inl ⟨by rfl, fun w' h => by go_simp⟩) (by assumption) ?_
  try simp only [Act.put, List.getElem_toArray, List.getElem_cons_zero, List.getElem_cons_succ, List.setIfInBounds_toArray, List.set_cons_zero, List.set_cons_succ]
  refine wpAnyH_ready (rs := [22]) (by kernel_rfl) (by simp) ?_
  refine AllReadyH.cons rfl (fun K hK => ?_) AllReadyH.nil
  refine if_wanted rfl ?_
  refine wp_assign0 (x := .tmp 28) (v := .string (sa ++ ⟨#[47]⟩ ++ sb ++ ⟨#[47]⟩ ++ sc ++ ⟨#[47]⟩ ++ sd)) rfl (by go_simp) ?_
  refine hK.out _ _ hHeld (fun hHeld => ?_)
  clear hK K
  try simp only [Act.put, List.getElem_toArray, List.getElem_cons_zero, List.getElem_cons_succ, List.setIfInBounds_toArray, List.set_cons_zero, List.set_cons_succ]
  refine wpAnyH_done (by kernel_rfl) ?_ _
  try simp only [Act.put, List.getElem_toArray, List.getElem_cons_zero, List.getElem_cons_succ, List.setIfInBounds_toArray, List.set_cons_zero, List.set_cons_succ]
  have hb := hHeld
  clear hHeld
  have HB3 := Lib.hid (HB2.out.trans (hb.mono HB2.out.size))
  have hbx3 := wBox.keep hbx hb hs2
  obtain ⟨-, -, -, -, k4, k5⟩ := hbx3
  have hs3 : w.heap.size < W9.heap.size := Nat.lt_of_lt_of_le hs2 hb.size
  obtain ⟨o3, ho3⟩ : ∃ o, sa ++ ⟨#[47]⟩ ++ sb ++ ⟨#[47]⟩ ++ sc ++ ⟨#[47]⟩ ++ sd = o := ⟨_, rfl⟩
  have hz3 : o3.size = sa.size + 1 + sb.size + 1 + sc.size + 1 + sd.size := by rw [← ho3]; simp only [ByteArray.size_append]; rfl
  rw [ho3]
  have HO3 := Lib.hid ho3
  have hm1 : ¬ (9223372036854775807 < 1 + se.size) := by omega
  have hm2 : ¬ (9223372036854775807 < 1 + se.size + 1) := by omega
  have hm3 : ¬ (9223372036854775807 < o3.size + (1 + se.size + 1)) := by omega
  clear hb hbx ho3 hn1 hn2 hn3 hn4 hn5 hn6 hwa hwb hwc hwd HDa HDb HDc HDd
  go_wp2_with fail
  refine (HDe.out _).mono ?_
  rintro z w3 ⟨rfl, hb3⟩
  have HB4 := Lib.hid (HB3.out.trans (hb3.mono HB3.out.size))
  have k6 : w3.cell? ⟨w.heap.size, 5, none⟩ = some (.int .i8 t) := (hb3.cell (p := ⟨w.heap.size, 5, none⟩) hs3).trans k5
  clear hb3 k4 k5 HB2 HB3 HB0 HDe
  by_cases ht : t < 0
  · obtain ⟨k, hk⟩ : ∃ k : Nat, t = -(k : Int) := ⟨(-t).toNat, by omega⟩
    have hk1 : 0 < k := by omega
    have HF : Hid (wkA ⟨a, b, c, d, e, t⟩ = o3 ++ (⟨#[47]⟩ ++ se ++ ⟨#[47]⟩) ++ ⟨#[45]⟩ ++ decS k) := by
      show _ = _
      rw [E.out, E2.out, ← HO3.out, hk, itW_neg k hk1, wk_join3]
    have HDt : Hid (∀ W, Calls Tryd.prog 14 #[.int .i64 k] W fun z w' => z = .returned (.string (decS k)) ∧ Below W.heap.size W w') := fun W => decimal_any k (by omega) W
    have hwt : IntKind.i64.wrap t = t := IntWalk.i64_in _ ⟨by omega, by omega⟩
    have hwn : IntKind.i64.wrap (-t) = k := by rw [hk, Int.neg_neg]; exact IntWalk.i64_in _ ⟨by omega, by omega⟩
    have hwm : wrap64 (-t) = k := by rw [hk, Int.neg_neg]; exact IntWalk.wrap64_in _ ⟨by omega, by omega⟩
    have hzk := decS_size k
    obtain ⟨sk, hsk⟩ : ∃ s, decS k = s := ⟨_, rfl⟩
    rw [hsk] at HF HDt hzk
    have hm4 : ¬ (9223372036854775807 < o3.size + (1 + se.size + 1) + 1) := by omega
    have hm5 : ¬ (9223372036854775807 < o3.size + (1 + se.size + 1) + 1 + sk.size) := by omega
    clear hsk hk
    go_wp2_with fail
    refine (HDt.out _).mono ?_
    rintro z w4 ⟨rfl, hb4⟩
    have HB5 := Lib.hid (HB4.out.trans (hb4.mono HB4.out.size))
    clear hb4
    go_wp2
    first | go_ret | skip
    exact ⟨by (rw [HF.out]; first | done | rfl), HB5.out⟩
  · obtain ⟨k, hk⟩ : ∃ k : Nat, t = (k : Int) := ⟨t.toNat, by omega⟩
    subst hk
    have HF : Hid (wkA ⟨a, b, c, d, e, k⟩ = o3 ++ (⟨#[47]⟩ ++ se ++ ⟨#[47]⟩) ++ decS k) := by
      show _ = _
      rw [E.out, E2.out, ← HO3.out, itW_nat k, wk_join2]
    have HDt : Hid (∀ W, Calls Tryd.prog 14 #[.int .i64 k] W fun z w' => z = .returned (.string (decS k)) ∧ Below W.heap.size W w') := fun W => decimal_any k (by omega) W
    have hwt : IntKind.i64.wrap (k : Int) = k := IntWalk.i64_in _ ⟨by omega, by omega⟩
    have hzk := decS_size k
    obtain ⟨sk, hsk⟩ : ∃ s, decS k = s := ⟨_, rfl⟩
    rw [hsk] at HF HDt hzk
    have hm6 : ¬ (9223372036854775807 < o3.size + (1 + se.size + 1) + sk.size) := by omega
    clear hsk
    go_wp2_with fail
    refine (HDt.out _).mono ?_
    rintro z w4 ⟨rfl, hb4⟩
    have HB5 := Lib.hid (HB4.out.trans (hb4.mono HB4.out.size))
    clear hb4
    go_wp2
    first | go_ret | skip
    exact ⟨by (rw [HF.out]; first | done | rfl), HB5.out⟩
end Go.Proofs.YtjjdehnpnfdjcaaDoor
