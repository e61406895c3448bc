/-
  The contracts of TurnBottle, of the model and of the program. Condition: the row reads as numbers of eight bits; the sentinel errors lie as the row lists them (the program's).
-/
import Derived.Test.YtjiihdljchaeiaaDoorYc
import Derived.Test.YtjiihdljchaeiaaDoorYa0
namespace Go.Proofs.YtjiihdljchaeiaaDoor
open Go.ChangeShapes Go.WideShapes Go.ChangeAt Go.RowKit Go.Deep

def inL (l : Int) (n : Nat) : Bool := decide (0 ≤ l) && decide (l < n)
theorem inL_nat {l : Int} {n : Nat} (h : inL l n = true) : ∃ k : Nat, l = k ∧ k < n := by
  simp only [inL, Bool.and_eq_true, decide_eq_true_eq] at h
  exact ⟨l.toNat, (Int.toNat_of_nonneg h.1).symm, by omega⟩
def in7 (b : Int) : Bool := decide (-7 ≤ b) && decide (b ≤ 7)
theorem in7_out {b : Int} (h : in7 b = true) : -7 ≤ b ∧ b ≤ 7 := by simpa [in7] using h
/-- The code of TurnBottle; the row. -/
def tbO (r : List Int) (p b : Int) : Option Nat := firstO [chk 5 (yOk r), chk 0 (inL p r.length), chk 0 (in7 b)]
def tbC (r : List Int) (p b : Int) : Int := cdO (tbO r p b)
def tbL (r : List Int) (p b : Int) : List Int := if tbC r p b = 0 then r.set p.toNat ((r.getD p.toNat 0 + b) % 8) else []
theorem tbL_len (r : List Int) (p b : Int) : (tbL r p b).length ≤ r.length := by
  unfold tbL; split <;> simp
theorem tb_1 {r : List Int} {p b : Int} (h : yOk r = false) : tbO r p b = some 5 ∧ tbC r p b = 1 ∧ tbL r p b = [] := by
  have h1 : tbO r p b = some 5 := by simp [tbO, h, chk, firstO]
  have h2 : tbC r p b = 1 := by rw [tbC, h1]; rfl
  exact ⟨h1, h2, by rw [tbL, if_neg (by omega)]⟩
theorem tb_2 {r : List Int} {p b : Int} (h : yOk r = true) (h2 : (inL p r.length && in7 b) = false) : tbO r p b = some 0 ∧ tbC r p b = 2 ∧ tbL r p b = [] := by
  have h1 : tbO r p b = some 0 := by
    cases hi : inL p r.length <;> cases hb : in7 b <;> simp_all [tbO, chk, firstO]
  have h2 : tbC r p b = 2 := by rw [tbC, h1]; rfl
  exact ⟨h1, h2, by rw [tbL, if_neg (by omega)]⟩
theorem tb_0 {r : List Int} {p b : Int} (h : yOk r = true) (h2 : inL p r.length = true) (h3 : in7 b = true) : tbO r p b = none ∧ tbC r p b = 0 ∧ tbL r p b = r.set p.toNat ((r.getD p.toNat 0 + b) % 8) := by
  have h1 : tbO r p b = none := by simp [tbO, h, h2, h3, chk, firstO]
  have h2 : tbC r p b = 0 := by rw [tbC, h1]; rfl
  exact ⟨h1, h2, by rw [tbL, if_pos h2]⟩
theorem nil_ownY (w : World) (b : Nat) : w.ownsRow b 5 1 (.slice none 0 0) ([] : List Int).length (([] : List Int).flatMap ycells) := ⟨rfl, .inl ⟨rfl, rfl⟩⟩
theorem empty_ownY (w : World) (b : Nat) (hb : b ≤ w.heap.size) : (w.alloc (.cells #[] 5)).ownsRow b 5 1 (.slice (some ⟨w.heap.size, 0, none⟩) 0 0) ([] : List Int).length (([] : List Int).flatMap ycells) :=
  ⟨rfl, .inr ⟨w.heap.size, 0, #[], rfl, hb, heap_alloc_new w _, Nat.le_refl _, by unfold maxLen; omega, by simp, by simp⟩⟩
theorem new_cellY (W : World) (v : Value) (t : TypeId) : (W.alloc (.cells #[v] t)).cell? ⟨W.heap.size, 0, none⟩ = some v := by
  rw [cell_of_row _ _ _ _ _ _ (heap_alloc_new W (.cells #[v] t))]; rfl

theorem checkIdxY_any (i : Int) (n : Nat) (B c : Nat) (ad : Nat → Addr) (w : World) (hn : n ≤ 1048576) (h0 : w.cell? ⟨B, 0, none⟩ = some (.int .i64 i)) (hE : EW 7 w ad) :
    Calls Tryd.prog 14 #[.slice (some ⟨B, 0, none⟩) 1 c, .int .i64 n] w fun e w' => e = .returned (erO ad (chk 0 (inL i n))) ∧ w = w' := by
  have c0 : w.cell? ⟨0, 0, none⟩ = some (.iface 62 (.pointer (some (ad 0)))) := hE.cell 0 (by omega)
  clear hE
  by_cases h1 : i < 0
  · have E1 : Hid (inL i n = false) := by show inL i n = false; simp [inL]; omega
    go_enter Tryd.func14, Tryd.ntmps14
    go_wp2
    refine wp_loop_rounds 2 ?_
    rw [rounds_succ]
    go_wp2
    go_ret
    exact ⟨by rw [E1.out]; rfl, rfl⟩
  have h1d : decide (i < 0) = false := decide_eq_false h1
  by_cases h2 : (n : Int) ≤ i
  · have E1 : Hid (inL i n = false) := by show inL i n = false; simp [inL]; omega
    go_enter Tryd.func14, Tryd.ntmps14
    go_wp2
    refine wp_loop_rounds 2 ?_
    rw [rounds_succ]
    go_wp2
    go_ret
    exact ⟨by rw [E1.out]; rfl, rfl⟩
  have h2d : decide ((n : Int) ≤ i) = false := decide_eq_false h2
  have E1 : Hid (inL i n = true) := by show inL i n = true; simp [inL]; omega
  go_enter Tryd.func14, Tryd.ntmps14
  go_wp2
  refine wp_loop_rounds 2 ?_
  rw [rounds_succ]
  go_wp2
  rw [rounds_succ]
  go_wp2
  go_ret
  exact ⟨by rw [E1.out]; rfl, rfl⟩

set_option maxRecDepth 100000 in
set_option maxHeartbeats 2000000 in
theorem specTurn_any (r : List Int) (hwf : ∀ x ∈ r, wfY x) (p b : Int) (hp : wfI6 p) (A : Option Addr) (c : Nat) (w : World) (hl : r.length ≤ 1048576) (hr : Rd w w.heap.size ycells A r) :
    Calls Tryd.prog 4 #[.slice A r.length c, .int .i64 p, .int .i64 b] w fun e w' => ∃ v, e = .returned (.tuple #[v, .int .i64 (tbC r p b)]) ∧ w'.ownsRow w.heap.size 5 1 v (tbL r p b).length ((tbL r p b).flatMap ycells) ∧ Below w.heap.size w w' := by
  obtain ⟨i0, hi, hz0, hz1, hz2⟩ := info_parts Tryd.infoY
  have HI := Lib.hid hi
  have HZ0 := Lib.hid hz0
  have HZ1 := Lib.hid hz1
  have HZ2 := Lib.hid hz2
  have HR := Lib.hid hr
  have HWf := Lib.hid hwf
  have HP := Lib.hid hp
  clear hi hz0 hz1 hz2 hr hwf hp
  have hn0 : (0 : Int) ≤ (r.length : Int) := Int.natCast_nonneg _
  have hw1 : IntKind.i64.wrap ((r.length : Int) - 1) = (r.length : Int) - 1 := IntWalk.i64_in _ ⟨by omega, by omega⟩
  have hw2 : wrap64 ((r.length : Int) - 1) = (r.length : Int) - 1 := IntWalk.wrap64_in _ ⟨by omega, by omega⟩
  go_enter Tryd.func4, Tryd.ntmps4
  go_wp2_with fail
  refine (l05Ok_any r A c w hl HR.out).mono ?_
  rintro e w1 ⟨rfl, rfl⟩
  cases hv : yOk r
  · have E := Lib.hid (tb_1 (p := p) (b := b) hv)
    clear hv
    go_wp2
    go_ret2
    refine ⟨_, by (rw [E.out.2.1]; first | done | rfl), ?_, (Below.refl _ w).alloc (Nat.le_refl _) _⟩
    rw [E.out.2.2]
    exact empty_ownY _ _ (Nat.le_refl _)
  have HV := Lib.hid hv
  clear hv
  go_wp2_with fail
  refine (l00In_any _ _ _ _).mono ?_
  rintro e w2 ⟨rfl, rfl⟩
  have e1 : (decide (0 ≤ p) && decide (p ≤ (r.length : Int) - 1)) = inL p r.length := by
    unfold inL
    congr 1
    rw [decide_eq_decide]; omega
  rw [e1]
  clear e1 hw1 hw2
  cases hp : inL p r.length
  · have E := Lib.hid (tb_2 (p := p) (b := b) HV.out (by rw [hp]; rfl))
    clear hp
    go_wp2
    go_ret2
    refine ⟨_, by (rw [E.out.2.1]; first | done | rfl), ?_, (Below.refl _ w).alloc (Nat.le_refl _) _⟩
    rw [E.out.2.2]
    exact empty_ownY _ _ (Nat.le_refl _)
  have HPb := Lib.hid hp
  go_wp2_with fail
  refine (l00In_any _ _ _ _).mono ?_
  rintro e w3 ⟨rfl, rfl⟩
  rw [show (decide (-7 ≤ b) && decide (b ≤ 7)) = in7 b from rfl]
  cases hb : in7 b
  · have E := Lib.hid (tb_2 (p := p) (b := b) HV.out (by rw [hp, hb]; rfl))
    clear hp hb
    go_wp2
    go_ret2
    refine ⟨_, by (rw [E.out.2.1]; first | done | rfl), ?_, (Below.refl _ w).alloc (Nat.le_refl _) _⟩
    rw [E.out.2.2]
    exact empty_ownY _ _ (Nat.le_refl _)
  have E := Lib.hid (tb_0 (p := p) (b := b) HV.out hp hb)
  obtain ⟨k, rfl, hk⟩ := inL_nat hp
  obtain ⟨hb0, hb1⟩ := in7_out hb
  obtain ⟨x, hx⟩ : ∃ x, r[k]? = some x := ⟨_, List.getElem?_eq_getElem hk⟩
  have hx7 := (yOk_out HV.out).1 x (List.mem_of_getElem? hx)
  have hx0 := (HWf.out x (List.mem_of_getElem? hx)).1
  have hxd : r.getD k 0 = x := by rw [List.getD_eq_getElem?_getD, hx]; rfl
  have HX := Lib.hid hx
  have HXD := Lib.hid hxd
  clear hp hb hx hxd
  go_wp2_with (at_builtin; refine wpList_append_any _ rfl (.tmp 25) (.tmp 26) 23 23 rfl w.heap.size 5 i0 (.int .u8 0) 1 1 Tryd.underlying23 HI.out HZ0.out HZ1.out HZ2.out rfl (by decide) _ 0 [] rfl ?own _ r.length (r.flatMap ycells) rfl ?src ?c3 ?c4 ?c5 ?_)
  case own => exact empty_own w _ 1
  case src => exact src_of_rd _ Tryd.underlying23 ycells_length ycells_one (HR.out.keep ((Below.refl _ w).alloc (Nat.le_refl _) _))
  case c3 => unfold maxLen; omega
  case c4 => omega
  case c5 => simp
  intro v' w2 hown hg _
  have hB : Below w.heap.size w w2 := ((Below.refl _ w).alloc (Nat.le_refl _) _).grown hg (by simp) (fun k e => by
    have e2 : w.heap.size = k := by simpa [Value.ownBlock] using e
    omega)
  have hown2 : w2.ownsRow w.heap.size 5 1 v' r.length (r.flatMap ycells) := by simpa using hown
  obtain ⟨A', c', rfl, -, -⟩ := own_rd ycells_length hown2
  obtain ⟨g, rfl, hgb, hgl, hcell, hfr, hset⟩ := own_cellY hown2 HX.out
  have HS := Lib.hid (hset ((x + b) % 8))
  have HB := Lib.hid hB
  have hk0 : (0 : Int) ≤ (k : Int) := Int.natCast_nonneg _
  have hk8 : (k : Int) < r.length := by omega
  obtain ⟨s, hs⟩ : ∃ s, x + b = s := ⟨_, rfl⟩
  have u1 : IntKind.i64.wrap x = x := IntWalk.i64_in _ ⟨by omega, by omega⟩
  have u2 : wrap64 x = x := IntWalk.wrap64_in _ ⟨by omega, by omega⟩
  have u3 : IntKind.i64.wrap s = s := IntWalk.i64_in _ ⟨by omega, by omega⟩
  have u4 : wrap64 s = s := IntWalk.wrap64_in _ ⟨by omega, by omega⟩
  have u5 : IntKind.i64.wrap (s + 8) = s + 8 := IntWalk.i64_in _ ⟨by omega, by omega⟩
  have u6 : wrap64 (s + 8) = s + 8 := IntWalk.wrap64_in _ ⟨by omega, by omega⟩
  obtain ⟨m, hm⟩ : ∃ m, s % 8 = m := ⟨_, rfl⟩
  have q1 : (s + 8) % 8 = m := by omega
  have q0 : 0 ≤ s + 8 := by omega
  have q2 : Int.tmod (s + 8) 8 = m := by rw [Int.tmod_eq_emod_of_nonneg q0, q1]
  have u7 : IntKind.i64.wrap m = m := IntWalk.i64_in _ ⟨by omega, by omega⟩
  have u8 : wrap64 m = m := IntWalk.wrap64_in _ ⟨by omega, by omega⟩
  have u9 : IntKind.u8.wrap m = m := IntWalk.u8_in _ ⟨by omega, by omega⟩
  rw [hs, hm] at HS
  have HM : Hid ((x + b) % 8 = m) := by show _ = m; rw [hs, hm]
  clear hown hown2 hg hB hset hm
  go_wp2
  go_ret2
  refine ⟨_, by (rw [E.out.2.1]; first | done | rfl), ?_, HB.out.setCell (p := ⟨g, k, none⟩) hgb _⟩
  rw [E.out.2.2, Int.toNat_natCast, HXD.out, HM.out]
  have := HS.out
  simpa using this

set_option maxRecDepth 100000 in
set_option maxHeartbeats 2000000 in
theorem implTurn_any (r : List Int) (hwf : ∀ x ∈ r, wfY x) (p b : Int) (hp : wfI6 p) (A : Option Addr) (c : Nat) (ad : Nat → Addr) (w : World) (hl : r.length ≤ 1048576) (hr : Rd w w.heap.size ycells A r) (hE : EW 7 w ad) :
    Calls Tryd.prog 6 #[.slice A r.length c, .int .i64 p, .int .i64 b] w fun e w' => ∃ v, e = .returned (.tuple #[v, .int .i64 (tbC r p b)]) ∧ w'.ownsRow w.heap.size 5 1 v (tbL r p b).length ((tbL r p b).flatMap ycells) ∧ Below w.heap.size w w' := by
  have HR := Lib.hid hr
  have HE := Lib.hid hE
  have HWf := Lib.hid hwf
  clear hr hE hwf
  have hA0 : Below w.heap.size w (w.alloc (.cells #[.slice A r.length c] 23)) := (Below.refl _ w).alloc (Nat.le_refl _) _
  have HCh : Hid (Calls Tryd.prog 13 #[.slice (some ⟨w.heap.size, 0, none⟩) 1 1] (w.alloc (.cells #[.slice A r.length c] 23)) fun e w' => e = .returned (erO ad (chk 5 (yOk r))) ∧ Below (w.alloc (.cells #[.slice A r.length c] 23)).heap.size (w.alloc (.cells #[.slice A r.length c] 23)) w') :=
    checkRows1_any r A c w.heap.size 1 ad _ hl (new_cellY w _ _) (HR.out.keep hA0) (HE.out.below hA0 (Nat.le_refl _))
  go_enter Tryd.func6, Tryd.ntmps6
  go_wp2_with fail
  refine HCh.out.mono ?_
  rintro e w1 ⟨rfl, hb⟩
  have HB1 : Hid (Below w.heap.size w w1) := hA0.trans (hb.mono hA0.size)
  clear hb hA0 HCh
  obtain ⟨v0, hv0⟩ : ∃ v, erO ad (chk 5 (yOk r)) = v := ⟨_, rfl⟩
  have HV0 := Lib.hid hv0
  have P0 : Hid (isE v0) := by show isE v0; rw [← hv0]; exact erO_isE _ _
  rw [hv0]
  clear hv0
  go_wp2_with fail
  have hA1 : Below w1.heap.size w1 (w1.alloc (.cells #[.int .i64 p] 2)) := (Below.refl _ w1).alloc (Nat.le_refl _) _
  have hB2 : Below w.heap.size w (w1.alloc (.cells #[.int .i64 p] 2)) := HB1.out.trans (hA1.mono HB1.out.size)
  refine (checkIdxY_any p r.length w1.heap.size _ ad _ hl (new_cellY w1 _ _) (HE.out.below hB2 (Nat.le_refl _))).mono ?_
  rintro e w2 ⟨rfl, rfl⟩
  obtain ⟨w2, hw2⟩ : ∃ w2, w1.alloc (.cells #[.int .i64 p] 2) = w2 := ⟨_, rfl⟩
  rw [hw2] at hB2 ⊢
  have HB2 := Lib.hid hB2
  clear hA1 hB2 hw2 HB1
  obtain ⟨v1, hv1⟩ : ∃ v, erO ad (chk 0 (inL p r.length)) = v := ⟨_, rfl⟩
  have HV1 := Lib.hid hv1
  have P1 : Hid (isE v1) := by show isE v1; rw [← hv1]; exact erO_isE _ _
  rw [hv1]
  clear hv1
  go_wp2_with fail
  refine (checkWithin_any b (-7) 7 ad _ (HE.out.below HB2.out (Nat.le_refl _))).mono ?_
  rintro e w3 ⟨rfl, rfl⟩
  obtain ⟨v2, hv2⟩ : ∃ v, erO ad (chk 0 (decide (-7 ≤ b) && decide (b ≤ 7))) = v := ⟨_, rfl⟩
  have HV2 := Lib.hid hv2
  have P2 : Hid (isE v2) := by show isE v2; rw [← hv2]; exact erO_isE _ _
  rw [hv2]
  clear hv2
  go_wp2_with (refine wpList_threeErrs rfl (.tmp 12) (.tmp 17) (.tmp 19) rfl P0.out P1.out P2.out rfl rfl rfl ?_)
  have q0 := cells3 w2 v0 v1 v2 33
  have q00 := q0 0 _ rfl
  have q01 := q0 1 _ rfl
  have q02 := q0 2 _ rfl
  rw [← HV0.out, ← HV1.out, ← HV2.out] at q00 q01 q02 ⊢
  refine (firstErr3_O ad _ _ _ _ _ _ q00 q01 q02).mono ?_
  rintro e w9 ⟨rfl, rfl⟩
  rw [HV0.out, HV1.out, HV2.out]
  have L2 : Below w.heap.size w (w2.alloc (.cells #[v0, v1, v2] 33)) := HB2.out.alloc HB2.out.size _
  obtain ⟨w3, hw3⟩ : ∃ w3, w2.alloc (.cells #[v0, v1, v2] 33) = w3 := ⟨_, rfl⟩
  rw [hw3] at L2 ⊢
  have M2 := Lib.hid L2
  have hO : firstO [chk 5 (yOk r), chk 0 (inL p r.length), chk 0 (decide (-7 ≤ b) && decide (b ≤ 7))] = tbO r p b := rfl
  rw [hO]
  clear q0 q00 q01 q02 hw3 L2 HB2 HV0 HV1 HV2 P0 P1 P2 hO
  have bad : ∀ i, i < 7 → tbO r p b = some i → tbC r p b = cdN i ∧ tbL r p b = [] := fun i _ h => by
    have h1 : tbC r p b = cdN i := by rw [tbC, h]; rfl
    exact ⟨h1, by rw [tbL, if_neg (by rw [h1]; exact cdN_ne)]⟩
  cases ho : tbO r p b with
  | some i =>
    have hi : i < 7 := firstO_lt (os := [chk 5 (yOk r), chk 0 (inL p r.length), chk 0 (in7 b)]) (by simp only [List.mem_cons, List.not_mem_nil, or_false]; rintro o (rfl | rfl | rfl) <;> exact chk_lt (by omega)) i ho
    have E := Lib.hid (bad i hi ho)
    have HIi := Lib.hid hi
    rw [erO_some]
    clear ho bad hi
    go_wp2_with fail
    refine (codeOf_O (HE.out.below M2.out (Nat.le_refl _)) i HIi.out).mono ?_
    rintro e w4 ⟨rfl, rfl⟩
    go_wp2
    go_ret2
    refine ⟨_, by (rw [E.out.1]; first | done | rfl), ?_, M2.out⟩
    rw [E.out.2]
    exact nil_ownY _ _
  | none =>
    have hv : yOk r = true := by
      cases h : yOk r
      · rw [(tb_1 h).1] at ho; cases ho
      · rfl
    have hpb : (inL p r.length && in7 b) = true := by
      cases h : (inL p r.length && in7 b)
      · rw [(tb_2 hv h).1] at ho; cases ho
      · rfl
    obtain ⟨hp, hb⟩ := Bool.and_eq_true_iff.1 hpb
    have E := Lib.hid (tb_0 (p := p) (b := b) hv hp hb)
    have HV := Lib.hid hv
    obtain ⟨k, rfl, hk⟩ := inL_nat hp
    obtain ⟨hb0, hb1⟩ := in7_out hb
    obtain ⟨x, hx⟩ : ∃ x, r[k]? = some x := ⟨_, List.getElem?_eq_getElem hk⟩
    have hx7 := (yOk_out HV.out).1 x (List.mem_of_getElem? hx)
    have hx0 := (HWf.out x (List.mem_of_getElem? hx)).1
    have hxd : r.getD k 0 = x := by rw [List.getD_eq_getElem?_getD, hx]; rfl
    have HX := Lib.hid hx
    have HXD := Lib.hid hxd
    rw [erO_none]
    clear hp hb hx hxd hv hpb ho bad
    go_wp2_with fail
    refine (cloneY_any r A c _ hl (HR.out.keep M2.out)).mono ?_
    rintro e w4 ⟨A', c', rfl, hown, hb⟩
    have HB4 : Hid (Below w.heap.size w w4) := M2.out.trans (hb.mono M2.out.size)
    obtain ⟨b', o', rfl, hbl', hrow⟩ := ((HR.out.keep M2.out).keep hb).at_ ycells_length HX.out
    have d1 := rowY hrow
    obtain ⟨g, rfl, hgb, hgl, hcell, hfr, hset⟩ := own_cellY hown HX.out
    have hgb' : w.heap.size ≤ g := Nat.le_trans M2.out.size hgb
    have HS := Lib.hid (hset ((x + b) % 8))
    have hk0 : (0 : Int) ≤ (k : Int) := Int.natCast_nonneg _
    have hk8 : (k : Int) < r.length := by omega
    obtain ⟨s, hs⟩ : ∃ s, x + b = s := ⟨_, rfl⟩
    have u1 : IntKind.i64.wrap x = x := IntWalk.i64_in _ ⟨by omega, by omega⟩
    have u2 : wrap64 x = x := IntWalk.wrap64_in _ ⟨by omega, by omega⟩
    have u3 : IntKind.i64.wrap s = s := IntWalk.i64_in _ ⟨by omega, by omega⟩
    have u4 : wrap64 s = s := IntWalk.wrap64_in _ ⟨by omega, by omega⟩
    have hsb : -1000000000000 ≤ s ∧ s ≤ 1000000000000 := ⟨by omega, by omega⟩
    have HSB := Lib.hid hsb
    rw [hs] at HS
    have HHs := Lib.hid hs
    clear hown hb hset hrow hsb
    go_wp2_with fail
    refine (eighths_any s HSB.out _).mono ?_
    rintro e w5 ⟨rfl, rfl⟩
    obtain ⟨m, hm⟩ : ∃ m, s % 8 = m := ⟨_, rfl⟩
    rw [hm] at HS ⊢
    have HM : Hid ((x + b) % 8 = m) := by show _ = m; rw [HHs.out, hm]
    clear hm
    go_wp2
    go_ret2
    refine ⟨_, by (rw [E.out.2.1]; first | done | rfl), ?_, HB4.out.setCell (p := ⟨g, k, none⟩) hgb' _⟩
    rw [E.out.2.2, Int.toNat_natCast, HXD.out, HM.out]
    exact own_base (by simpa using HS.out) M2.out.size
end Go.Proofs.YtjiihdljchaeiaaDoor
