/-
  The contracts of VisitsOf, WalksOn and WalksUntil, of the model and of the program. Condition: the walker's numbers fit their kinds; the sentinel errors lie as the row lists them (the program's).
-/
import Derived.Test.YtjiihdljchaeiabDoorYx
import Derived.Test.YtjiihdljchaeiabDoorYa
import Derived.Test.YtjiihdljchaeiabDoorNp
namespace Go.Proofs.YtjiihdljchaeiabDoor
open Go.ChangeShapes Go.WideShapes Go.ChangeAt Go.RowKit Go.Deep

/-- The list of visits that is told; its code. -/
def voC (n : Int) (x : Wal) : Int := akV n [x] true
def voL (n : Int) (x : Wal) : List Int := if voC n x = 0 then vis n.toNat x else []
theorem vsOk_one {n : Int} {x : Wal} (h : vsOk n [x] = true) : (1 ≤ n ∧ n ≤ 60) ∧ vOk n x = true := by
  have := vsOk_out h
  exact ⟨this.1, this.2.2 x (by simp)⟩
theorem fill_wal (x : Wal) {z : Value} {ie : TypeInfo} (hs : ie.size = 6) :
    Instr.fill (fun i => some (i * ie.size, ie.size)) ((Array.range (1 * ie.size)).map (z.cells[· % z.cells.size]!)) [(0, .agg (vcells x).toArray)] = some (vcells x).toArray := by
  have := Great.fill_whole (s := 6) (by omega) [.agg (vcells x).toArray] ((Array.range (1 * ie.size)).map (z.cells[· % z.cells.size]!)) (by intro v hv; simp only [List.mem_cons, List.not_mem_nil, or_false] at hv; subst hv; rfl) (by simp [hs])
  rw [hs] at this ⊢
  simpa [Value.cells] using this
theorem wp_oneWal {o : Oper} {a : Act} {w : World} {K : Act → World → Prop} {Q : Exit → Act → World → Prop} (x0 : Operand) (ho : o.op = .buildSlice 42 1 #[(0, x0)]) (x : Wal)
    (hx0 : a.eval x0 = .agg (vcells x).toArray) (h : K (a.put o.dst (.slice (some ⟨w.heap.size, 0, none⟩) 1 1)) (w.alloc (.cells (vcells x).toArray 29))) : Oper.wp Tryd.prog o a w K Q := by
  obtain ⟨ie, hie, hzz⟩ := Option.map_eq_some_iff.1 Tryd.infoVI
  simp only [Prod.mk.injEq] at hzz
  refine wp_buildSlice 42 29 1 _ ho _ ie _ Tryd.underlying42 hie hzz.1 (by rw [hzz.2.1]; omega) (by rw [hzz.2.1]; omega) ?_ h
  have := fill_wal x (z := .agg #[.int .i16 0, .int .i16 0, .int .i16 0, .int .i16 0, .int .i16 0, .int .i8 0]) hzz.2.1
  simpa [hx0] using this
theorem wpList_oneWal {ops : Array Oper} {rest : List Oper} {o : Oper} {a : Act} {w : World} {Q : Exit → Act → World → Prop} (hg : o.guard = none) (x0 : Operand) (ho : o.op = .buildSlice 42 1 #[(0, x0)]) (x : Wal)
    (hx0 : a.eval x0 = .agg (vcells x).toArray) (h : wpList Tryd.prog ops Q rest (a.put o.dst (.slice (some ⟨w.heap.size, 0, none⟩) 1 1)) (w.alloc (.cells (vcells x).toArray 29))) : wpList Tryd.prog ops Q (o :: rest) a w :=
  wpList_plain hg fun _ hK => wp_oneWal x0 ho x hx0 (hK _ _ h)
theorem rd_one (x : Wal) (w : World) : Rd (w.alloc (.cells (vcells x).toArray 29)) (w.alloc (.cells (vcells x).toArray 29)).heap.size vcells (some ⟨w.heap.size, 0, none⟩) [x] := by
  have h : Rs (w.alloc (.cells (vcells x).toArray 29)) w.heap.size 29 vcells [x] := by
    have := Blk.new w 29 (vcells x).toArray
    unfold Rs
    simpa using this
  exact h.rd (Blk.lt h)
theorem voL_no {n : Int} {x : Wal} (h : voC n x ≠ 0) : voL n x = [] := if_neg h
theorem voL_yes {n : Int} {x : Wal} (h : voC n x = 0) : voL n x = vis n.toNat x := if_pos h
theorem akV_inv {n : Int} {l : List Wal} {f : Bool} (h : vsOk n l = false) : akV n l f = 1 := by simp [akV, h]
theorem akV_ok {n : Int} {l : List Wal} {f : Bool} (h : vsOk n l = true) : akV n l f = if f = true then 0 else 2 := by simp [akV, h]
theorem nil_own (w : World) (t : TypeId) (b : Nat) : w.ownsRow b t 1 (.slice none 0 0) ([] : List Int).length (([] : List Int).flatMap icells) := ⟨rfl, .inl ⟨rfl, rfl⟩⟩
theorem empty_ownI (w : World) (b : Nat) (hb : b ≤ w.heap.size) : (w.alloc (.cells #[] 2)).ownsRow b 2 1 (.slice (some ⟨w.heap.size, 0, none⟩) 0 0) ([] : List Int).length (([] : List Int).flatMap icells) :=
  ⟨rfl, .inr ⟨w.heap.size, 0, #[], rfl, hb, heap_alloc_new w _, Nat.le_refl _, by unfold maxLen; omega, by simp, by simp⟩⟩

set_option maxHeartbeats 2000000 in
theorem specVisits_any (n : Int) (hn : wfI6 n) (x : Wal) (hx : wfV x) (w : World) :
    Calls Tryd.prog 7 #[.int .i64 n, .agg (vcells x).toArray] w fun e w' => ∃ v, e = .returned (.tuple #[v, .int .i64 (voC n x)]) ∧ w'.ownsRow w.heap.size 2 1 v (voL n x).length ((voL n x).flatMap icells) ∧ Below w.heap.size w w' := by
  have hK0 : Blk (w.alloc (.cells (vcells x).toArray 29)) w.heap.size 29 (vcells x).toArray := Blk.new w _ _
  have hB0 : Below w.heap.size w (w.alloc (.cells (vcells x).toArray 29)) := (Below.refl _ w).alloc (Nat.le_refl _) _
  obtain ⟨W1, hW1⟩ : ∃ W1, w.alloc (.cells (vcells x).toArray 29) = W1 := ⟨_, rfl⟩
  rw [hW1] at hK0 hB0
  have HK0 := Lib.hid hK0
  have HB0 := Lib.hid hB0
  have HX := Lib.hid hx
  clear hK0 hB0 hx
  go_enter Tryd.func7, Tryd.ntmps7
  go_wp2_with (first | (refine wpList_load_row rfl 29 (.tmp 3) rfl w.heap.size rfl 29 (vcells x).toArray (0, 0) _ HK0.out Tryd.underlying29 rfl (Tryd.sizeVIx x) ?_) | (refine wpList_oneWal rfl (.tmp 8) rfl x rfl ?_))
  clear hW1
  refine (l05Asked_any n hn [x] (fun y hy => by simp at hy; subst hy; exact HX.out) true _ 1 _ (by simp) (rd_one x W1)).mono ?_
  rintro e w2 ⟨rfl, hb⟩
  have HB2 : Hid (Below w.heap.size w w2) := (HB0.out.alloc HB0.out.size _).trans (hb.mono (by have := HB0.out.size; simp; omega))
  have HK2 : Hid (Blk w2 w.heap.size 29 (vcells x).toArray) := (HK0.out.alloc _).keep hb
  clear hb
  cases hv : vsOk n [x]
  · have E1 : Hid (voC n x = 1) := akV_inv hv
    have E2 : Hid (voL n x = []) := voL_no (by rw [E1.out]; decide)
    rw [akV_inv hv]
    clear hv
    go_wp2
    go_ret2
    refine ⟨_, by (rw [E1.out]; first | done | rfl), ?_, HB2.out.alloc HB2.out.size _⟩
    rw [E2.out]
    exact empty_ownI _ _ HB2.out.size
  have E1 : Hid (voC n x = 0) := by show voC n x = 0; rw [voC, akV_ok hv]; rfl
  have E2 : Hid (voL n x = vis n.toNat x) := voL_yes E1.out
  obtain ⟨⟨h1, h60⟩, hw⟩ := vsOk_one hv
  obtain ⟨m, rfl⟩ : ∃ m : Nat, n = m := ⟨n.toNat, by omega⟩
  have HW := Lib.hid hw
  rw [show akV m [x] true = 0 from E1.out]
  clear hv hw
  go_wp2_with (refine wpList_load_row rfl 29 (.tmp 3) rfl w.heap.size rfl 29 (vcells x).toArray (0, 0) _ HK2.out Tryd.underlying29 rfl (Tryd.sizeVIx x) ?_)
  refine (l05Visits_any m (by omega) (by omega) x HW.out _).mono ?_
  rintro e w3 ⟨g, hg, rfl, hR, hb⟩
  have HB3 : Hid (Below w.heap.size w w3) := HB2.out.trans (hb.mono HB2.out.size)
  have HR := Lib.hid hR
  have HG : Hid (w.heap.size ≤ g) := Nat.le_trans HB2.out.size hg
  clear hb hR hg
  go_wp2
  go_ret2
  refine ⟨_, by (rw [E1.out]; first | done | rfl), ?_, HB3.out⟩
  rw [E2.out, Int.toNat_natCast]
  have := own_of_rs icells_length HR.out (by rw [vis_len]; unfold maxLen; omega)
  rw [vis_len] at this ⊢
  exact own_base this HG.out
set_option maxRecDepth 100000 in
set_option maxHeartbeats 2000000 in
theorem implVisits_any (n : Int) (hn : wfI6 n) (x : Wal) (hx : wfV x) (ad : Nat → Addr) (w : World) (hE : EW 7 w ad) :
    Calls Tryd.prog 9 #[.int .i64 n, .agg (vcells x).toArray] w fun e w' => ∃ v, e = .returned (.tuple #[v, .int .i64 (voC n x)]) ∧ w'.ownsRow w.heap.size 2 1 v (voL n x).length ((voL n x).flatMap icells) ∧ Below w.heap.size w w' := by
  have HE := Lib.hid hE
  clear hE
  have hK0 : Blk (w.alloc (.cells (vcells x).toArray 29)) w.heap.size 29 (vcells x).toArray := Blk.new w _ _
  have hB0 : Below w.heap.size w (w.alloc (.cells (vcells x).toArray 29)) := (Below.refl _ w).alloc (Nat.le_refl _) _
  obtain ⟨W1, hW1⟩ : ∃ W1, w.alloc (.cells (vcells x).toArray 29) = W1 := ⟨_, rfl⟩
  rw [hW1] at hK0 hB0
  have HK0 := Lib.hid hK0
  have HB0 := Lib.hid hB0
  have HX := Lib.hid hx
  clear hK0 hB0 hx
  go_enter Tryd.func9, Tryd.ntmps9
  go_wp2_with (first | (refine wpList_load_row rfl 29 (.tmp 3) rfl w.heap.size rfl 29 (vcells x).toArray (0, 0) _ HK0.out Tryd.underlying29 rfl (Tryd.sizeVIx x) ?_) | (refine wpList_oneWal rfl (.tmp 8) rfl x rfl ?_))
  clear hW1
  have hA1 : Below w.heap.size w (W1.alloc (.cells (vcells x).toArray 29)) := HB0.out.alloc HB0.out.size _
  refine (checkWalkers_any n hn [x] (fun y hy => by simp at hy; subst hy; exact HX.out) _ 1 ad _ (by simp) (rd_one x W1) (HE.out.below hA1 (Nat.le_refl _))).mono ?_
  rintro e w2 ⟨rfl, hb⟩
  have HB2 : Hid (Below w.heap.size w w2) := hA1.trans (hb.mono (by have := HB0.out.size; simp; omega))
  have HK2 : Hid (Blk w2 w.heap.size 29 (vcells x).toArray) := (HK0.out.alloc _).keep hb
  clear hb hA1
  cases hv : vsOk n [x]
  · have E1 : Hid (voC n x = 1) := akV_inv hv
    have E2 : Hid (voL n x = []) := voL_no (by rw [E1.out]; decide)
    rw [chk_no, erO_some]
    clear hv
    go_wp2_with fail
    refine (codeOf_O (HE.out.below HB2.out (Nat.le_refl _)) 5 (by omega)).mono ?_
    rintro e w3 ⟨rfl, rfl⟩
    go_wp2
    go_ret2
    refine ⟨_, by (rw [E1.out]; first | done | rfl), ?_, HB2.out⟩
    rw [E2.out]
    exact nil_own _ _ _
  have E1 : Hid (voC n x = 0) := by show voC n x = 0; rw [voC, akV_ok hv]; rfl
  have E2 : Hid (voL n x = vis n.toNat x) := voL_yes E1.out
  obtain ⟨⟨h1, h60⟩, hw⟩ := vsOk_one hv
  obtain ⟨m, rfl⟩ : ∃ m : Nat, n = m := ⟨n.toNat, by omega⟩
  have HW := Lib.hid hw
  rw [chk_yes, erO_none]
  clear hv hw
  go_wp2_with (refine wpList_load_row rfl 29 (.tmp 3) rfl w.heap.size rfl 29 (vcells x).toArray (0, 0) _ HK2.out Tryd.underlying29 rfl (Tryd.sizeVIx x) ?_)
  refine (walksOf_any m (by omega) (by omega) x HW.out _).mono ?_
  rintro e w3 ⟨g, hg, he, hR, hb⟩
  have he2 : e = .returned (.agg #[.int .i16 x.fi, .int .i16 x.ev, .int .i16 x.st, .int .i16 x.sp, .int .i16 x.co, .int .i8 x.tu, .int .i64 x.fi, .int .i64 x.ev, .slice (some ⟨g, 0, none⟩) m m]) := he
  subst he2
  clear he
  have HB3 : Hid (Below w.heap.size w w3) := HB2.out.trans (hb.mono HB2.out.size)
  have HR := Lib.hid hR
  have HG : Hid (w.heap.size ≤ g) := Nat.le_trans HB2.out.size hg
  clear hb hR hg
  have hf := Tryd.fieldVisits
  go_wp2
  go_ret2
  refine ⟨_, by (rw [E1.out]; first | done | rfl), ?_, HB3.out⟩
  rw [E2.out, Int.toNat_natCast]
  have := own_of_rs icells_length HR.out (by rw [vis_len]; unfold maxLen; omega)
  rw [vis_len] at this ⊢
  exact own_base this HG.out

def woB (n : Int) (x : Wal) (d : Int) : Bool := if akV n [x] (inS d) = 0 then onD x d else false
set_option maxRecDepth 100000 in
set_option maxHeartbeats 2000000 in
theorem implWalksOn_any (n : Int) (hn : wfI6 n) (x : Wal) (hx : wfV x) (d : Int) (ad : Nat → Addr) (w : World) (hE : EW 7 w ad) :
    Calls Tryd.prog 14 #[.int .i64 n, .agg (vcells x).toArray, .int .i64 d] w fun e w' => e = .returned (.tuple #[.bool (woB n x d), .int .i64 (akV n [x] (inS d))]) ∧ Below w.heap.size w w' := by
  have HE := Lib.hid hE
  clear hE
  have hK0 : Blk (w.alloc (.cells (vcells x).toArray 29)) w.heap.size 29 (vcells x).toArray := Blk.new w _ _
  have hB0 : Below w.heap.size w (w.alloc (.cells (vcells x).toArray 29)) := (Below.refl _ w).alloc (Nat.le_refl _) _
  obtain ⟨W1, hW1⟩ : ∃ W1, w.alloc (.cells (vcells x).toArray 29) = W1 := ⟨_, rfl⟩
  rw [hW1] at hK0 hB0
  have HK0 := Lib.hid hK0
  have HB0 := Lib.hid hB0
  have HX := Lib.hid hx
  clear hK0 hB0 hx
  go_enter Tryd.func14, Tryd.ntmps14
  go_wp2_with (first | (refine wpList_load_row rfl 29 (.tmp 4) rfl w.heap.size rfl 29 (vcells x).toArray (0, 0) _ HK0.out Tryd.underlying29 rfl (Tryd.sizeVIx x) ?_) | (refine wpList_oneWal rfl (.tmp 10) rfl x rfl ?_))
  clear hW1
  have hA1 : Below w.heap.size w (W1.alloc (.cells (vcells x).toArray 29)) := HB0.out.alloc HB0.out.size _
  refine (checkWalkers_any n hn [x] (fun y hy => by simp at hy; subst hy; exact HX.out) _ 1 ad _ (by simp) (rd_one x W1) (HE.out.below hA1 (Nat.le_refl _))).mono ?_
  rintro e w2 ⟨rfl, hb⟩
  have HB2 : Hid (Below w.heap.size w w2) := hA1.trans (hb.mono (by have := HB0.out.size; simp; omega))
  have HK2 : Hid (Blk w2 w.heap.size 29 (vcells x).toArray) := (HK0.out.alloc _).keep hb
  clear hb hA1
  obtain ⟨v0, hv0⟩ : ∃ v, erO ad (chk 5 (vsOk n [x])) = v := ⟨_, rfl⟩
  have HV0 := Lib.hid hv0
  have P0 : Hid (isE v0) := by show isE v0; rw [← hv0]; exact erO_isE _ _
  rw [hv0]
  clear hv0
  go_wp2_with fail
  refine (checkDay_any d ad _ (HE.out.below HB2.out (Nat.le_refl _))).mono ?_
  rintro e w3 ⟨rfl, rfl⟩
  obtain ⟨v1, hv1⟩ : ∃ v, erO ad (chk 0 (inS d)) = v := ⟨_, rfl⟩
  have HV1 := Lib.hid hv1
  have P1 : Hid (isE v1) := by show isE v1; rw [← hv1]; exact erO_isE _ _
  rw [hv1]
  clear hv1
  go_wp2_with (refine wpList_twoErrs rfl (.tmp 12) (.tmp 14) rfl P0.out P1.out rfl rfl ?_)
  have q0 := new_cell2 w2 v0 v1 49
  rw [← HV0.out, ← HV1.out] at q0 ⊢
  refine (firstErr2_O ad _ _ _ _ _ q0.1 q0.2).mono ?_
  rintro e w9 ⟨rfl, rfl⟩
  rw [HV0.out, HV1.out]
  have L2 : Below w.heap.size w (w2.alloc (.cells #[v0, v1] 49)) := HB2.out.alloc HB2.out.size _
  have K2 : Blk (w2.alloc (.cells #[v0, v1] 49)) w.heap.size 29 (vcells x).toArray := HK2.out.alloc _
  obtain ⟨w3, hw3⟩ : ∃ w3, w2.alloc (.cells #[v0, v1] 49) = w3 := ⟨_, rfl⟩
  rw [hw3] at L2 K2 ⊢
  have M2 := Lib.hid L2
  have N2 := Lib.hid K2
  clear q0 hw3 L2 K2 HB2 HK2 HV0 HV1 P0 P1
  cases hv : vsOk n [x]
  · have E1 : Hid (akV n [x] (inS d) = 1) := akV_inv hv
    have E2 : Hid (woB n x d = false) := if_neg (by rw [E1.out]; decide)
    rw [show firstO [chk 5 false, chk 0 (inS d)] = some 5 from rfl, erO_some]
    clear hv
    go_wp2_with fail
    refine (codeOf_O (HE.out.below M2.out (Nat.le_refl _)) 5 (by omega)).mono ?_
    rintro e w4 ⟨rfl, rfl⟩
    go_wp2
    go_ret2
    exact ⟨by (rw [E1.out, E2.out]; first | done | rfl), M2.out⟩
  cases hd : inS d
  · have E1 : Hid (akV n [x] false = 2) := akV_ok hv
    have E2 : Hid (woB n x d = false) := if_neg (by rw [hd, E1.out]; decide)
    have E3 := Lib.hid hd
    rw [show firstO [chk 5 true, chk 0 false] = some 0 from rfl, erO_some]
    clear hv hd
    go_wp2_with fail
    refine (codeOf_O (HE.out.below M2.out (Nat.le_refl _)) 0 (by omega)).mono ?_
    rintro e w4 ⟨rfl, rfl⟩
    go_wp2
    go_ret2
    exact ⟨by (rw [E2.out, E3.out, E1.out]; first | done | rfl), M2.out⟩
  have E1 : Hid (akV n [x] true = 0) := akV_ok hv
  have E2 : Hid (woB n x d = onD x d) := if_pos (by rw [hd]; exact E1.out)
  have E3 := Lib.hid hd
  have hdb : dayB d := by simp only [inS, Bool.and_eq_true, decide_eq_true_eq] at hd; exact ⟨by omega, by omega⟩
  have HD := Lib.hid hdb
  obtain ⟨⟨h1, h60⟩, hw⟩ := vsOk_one hv
  obtain ⟨m, rfl⟩ : ∃ m : Nat, n = m := ⟨n.toNat, by omega⟩
  have HW := Lib.hid hw
  rw [show firstO [chk 5 true, chk 0 true] = none from rfl, erO_none]
  clear hv hw hd hdb
  go_wp2_with (refine wpList_load_row rfl 29 (.tmp 4) rfl w.heap.size rfl 29 (vcells x).toArray (0, 0) _ N2.out Tryd.underlying29 rfl (Tryd.sizeVIx x) ?_)
  refine (walksOf_any m (by omega) (by omega) x HW.out _).mono ?_
  rintro e w4 ⟨g, hg, he, hR, hb⟩
  have he2 : e = .returned (.agg #[.int .i16 x.fi, .int .i16 x.ev, .int .i16 x.st, .int .i16 x.sp, .int .i16 x.co, .int .i8 x.tu, .int .i64 x.fi, .int .i64 x.ev, .slice (some ⟨g, 0, none⟩) m m]) := he
  subst he2
  have HB3 : Hid (Below w.heap.size w w4) := M2.out.trans (hb.mono M2.out.size)
  clear he hb hR hg
  have hxo := vOk_out HW.out
  have HXO := Lib.hid hxo
  clear hxo
  have hf := Tryd.fieldDays
  go_wp2_with fail
  refine (include_any x.fi x.ev HXO.out.1 HXO.out.2.1 d HD.out _).mono ?_
  rintro e w5 ⟨rfl, hb⟩
  have HB4 : Hid (Below w.heap.size w w5) := HB3.out.trans (hb.mono HB3.out.size)
  clear hb
  obtain ⟨u, hu⟩ : ∃ u, (decide (x.fi ≤ d) && decide ((d - x.fi) % x.ev = 0)) = u := ⟨_, rfl⟩
  have HU : Hid (onD x d = u) := hu
  rw [hu]
  clear hu
  go_wp2
  go_ret2
  exact ⟨by (rw [E2.out, E3.out, E1.out, HU.out]; first | done | rfl), HB4.out⟩

def wuN (n : Int) (x : Wal) (d : Int) : Int := if akV n [x] (inS d) = 0 then unD x d else 0
set_option maxRecDepth 100000 in
set_option maxHeartbeats 2000000 in
theorem implWalksUntil_any (n : Int) (hn : wfI6 n) (x : Wal) (hx : wfV x) (d : Int) (ad : Nat → Addr) (w : World) (hE : EW 7 w ad) :
    Calls Tryd.prog 16 #[.int .i64 n, .agg (vcells x).toArray, .int .i64 d] w fun e w' => e = .returned (.tuple #[.int .i64 (wuN n x d), .int .i64 (akV n [x] (inS d))]) ∧ Below w.heap.size w w' := by
  have HE := Lib.hid hE
  clear hE
  have hK0 : Blk (w.alloc (.cells (vcells x).toArray 29)) w.heap.size 29 (vcells x).toArray := Blk.new w _ _
  have hB0 : Below w.heap.size w (w.alloc (.cells (vcells x).toArray 29)) := (Below.refl _ w).alloc (Nat.le_refl _) _
  obtain ⟨W1, hW1⟩ : ∃ W1, w.alloc (.cells (vcells x).toArray 29) = W1 := ⟨_, rfl⟩
  rw [hW1] at hK0 hB0
  have HK0 := Lib.hid hK0
  have HB0 := Lib.hid hB0
  have HX := Lib.hid hx
  clear hK0 hB0 hx
  go_enter Tryd.func16, Tryd.ntmps16
  go_wp2_with (first | (refine wpList_load_row rfl 29 (.tmp 4) rfl w.heap.size rfl 29 (vcells x).toArray (0, 0) _ HK0.out Tryd.underlying29 rfl (Tryd.sizeVIx x) ?_) | (refine wpList_oneWal rfl (.tmp 10) rfl x rfl ?_))
  clear hW1
  have hA1 : Below w.heap.size w (W1.alloc (.cells (vcells x).toArray 29)) := HB0.out.alloc HB0.out.size _
  refine (checkWalkers_any n hn [x] (fun y hy => by simp at hy; subst hy; exact HX.out) _ 1 ad _ (by simp) (rd_one x W1) (HE.out.below hA1 (Nat.le_refl _))).mono ?_
  rintro e w2 ⟨rfl, hb⟩
  have HB2 : Hid (Below w.heap.size w w2) := hA1.trans (hb.mono (by have := HB0.out.size; simp; omega))
  have HK2 : Hid (Blk w2 w.heap.size 29 (vcells x).toArray) := (HK0.out.alloc _).keep hb
  clear hb hA1
  obtain ⟨v0, hv0⟩ : ∃ v, erO ad (chk 5 (vsOk n [x])) = v := ⟨_, rfl⟩
  have HV0 := Lib.hid hv0
  have P0 : Hid (isE v0) := by show isE v0; rw [← hv0]; exact erO_isE _ _
  rw [hv0]
  clear hv0
  go_wp2_with fail
  refine (checkDay_any d ad _ (HE.out.below HB2.out (Nat.le_refl _))).mono ?_
  rintro e w3 ⟨rfl, rfl⟩
  obtain ⟨v1, hv1⟩ : ∃ v, erO ad (chk 0 (inS d)) = v := ⟨_, rfl⟩
  have HV1 := Lib.hid hv1
  have P1 : Hid (isE v1) := by show isE v1; rw [← hv1]; exact erO_isE _ _
  rw [hv1]
  clear hv1
  go_wp2_with (refine wpList_twoErrs rfl (.tmp 12) (.tmp 14) rfl P0.out P1.out rfl rfl ?_)
  have q0 := new_cell2 w2 v0 v1 49
  rw [← HV0.out, ← HV1.out] at q0 ⊢
  refine (firstErr2_O ad _ _ _ _ _ q0.1 q0.2).mono ?_
  rintro e w9 ⟨rfl, rfl⟩
  rw [HV0.out, HV1.out]
  have L2 : Below w.heap.size w (w2.alloc (.cells #[v0, v1] 49)) := HB2.out.alloc HB2.out.size _
  have K2 : Blk (w2.alloc (.cells #[v0, v1] 49)) w.heap.size 29 (vcells x).toArray := HK2.out.alloc _
  obtain ⟨w3, hw3⟩ : ∃ w3, w2.alloc (.cells #[v0, v1] 49) = w3 := ⟨_, rfl⟩
  rw [hw3] at L2 K2 ⊢
  have M2 := Lib.hid L2
  have N2 := Lib.hid K2
  clear q0 hw3 L2 K2 HB2 HK2 HV0 HV1 P0 P1
  cases hv : vsOk n [x]
  · have E1 : Hid (akV n [x] (inS d) = 1) := akV_inv hv
    have E2 : Hid (wuN n x d = 0) := if_neg (by rw [E1.out]; decide)
    rw [show firstO [chk 5 false, chk 0 (inS d)] = some 5 from rfl, erO_some]
    clear hv
    go_wp2_with fail
    refine (codeOf_O (HE.out.below M2.out (Nat.le_refl _)) 5 (by omega)).mono ?_
    rintro e w4 ⟨rfl, rfl⟩
    go_wp2
    go_ret2
    exact ⟨by (rw [E1.out, E2.out]; first | done | rfl), M2.out⟩
  cases hd : inS d
  · have E1 : Hid (akV n [x] false = 2) := akV_ok hv
    have E2 : Hid (wuN n x d = 0) := if_neg (by rw [hd, E1.out]; decide)
    have E3 := Lib.hid hd
    rw [show firstO [chk 5 true, chk 0 false] = some 0 from rfl, erO_some]
    clear hv hd
    go_wp2_with fail
    refine (codeOf_O (HE.out.below M2.out (Nat.le_refl _)) 0 (by omega)).mono ?_
    rintro e w4 ⟨rfl, rfl⟩
    go_wp2
    go_ret2
    exact ⟨by (rw [E2.out, E3.out, E1.out]; first | done | rfl), M2.out⟩
  have E1 : Hid (akV n [x] true = 0) := akV_ok hv
  have E2 : Hid (wuN n x d = unD x d) := if_pos (by rw [hd]; exact E1.out)
  have E3 := Lib.hid hd
  have hdb : dayB d := by simp only [inS, Bool.and_eq_true, decide_eq_true_eq] at hd; exact ⟨by omega, by omega⟩
  have HD := Lib.hid hdb
  obtain ⟨⟨h1, h60⟩, hw⟩ := vsOk_one hv
  obtain ⟨m, rfl⟩ : ∃ m : Nat, n = m := ⟨n.toNat, by omega⟩
  have HW := Lib.hid hw
  rw [show firstO [chk 5 true, chk 0 true] = none from rfl, erO_none]
  clear hv hw hd hdb
  go_wp2_with (refine wpList_load_row rfl 29 (.tmp 4) rfl w.heap.size rfl 29 (vcells x).toArray (0, 0) _ N2.out Tryd.underlying29 rfl (Tryd.sizeVIx x) ?_)
  refine (walksOf_any m (by omega) (by omega) x HW.out _).mono ?_
  rintro e w4 ⟨g, hg, he, hR, hb⟩
  have he2 : e = .returned (.agg #[.int .i16 x.fi, .int .i16 x.ev, .int .i16 x.st, .int .i16 x.sp, .int .i16 x.co, .int .i8 x.tu, .int .i64 x.fi, .int .i64 x.ev, .slice (some ⟨g, 0, none⟩) m m]) := he
  subst he2
  have HB3 : Hid (Below w.heap.size w w4) := M2.out.trans (hb.mono M2.out.size)
  clear he hb hR hg
  have hxo := vOk_out HW.out
  have HXO := Lib.hid hxo
  clear hxo
  have hf := Tryd.fieldDays
  go_wp2_with fail
  refine (until_any x.fi x.ev HXO.out.1 HXO.out.2.1 d HD.out _).mono ?_
  rintro e w5 ⟨rfl, hb⟩
  have HB4 : Hid (Below w.heap.size w w5) := HB3.out.trans (hb.mono HB3.out.size)
  clear hb
  obtain ⟨u, hu⟩ : ∃ u, (if d < x.fi then 0 else (d - x.fi) / x.ev + 1) = u := ⟨_, rfl⟩
  have HU : Hid (unD x d = u) := hu
  rw [hu]
  clear hu
  go_wp2
  go_ret2
  exact ⟨by (rw [E2.out, E3.out, E1.out, HU.out]; first | done | rfl), HB4.out⟩
end Go.Proofs.YtjiihdljchaeiabDoor
