/-
  MissingIn: the model's contracts. Condition: the entries' numbers fit their kinds (nothing else).
-/
import Derived.Test.YtlfamfdgphhbcabDoorMis1
import Derived.Test.YtlfamfdgphhbcabDoorRg
namespace Go.Proofs.YtlfamfdgphhbcabDoor
open Go.ChangeShapes Go.WideShapes Go.ChangeAt Go.RowKit Go.Deep

theorem yields_eqlEnt {ops : Array Oper} {S : World → Prop} {o : Oper} {a : Act} (x y : Operand) (ho : o.op = .binOp .eql 67 x y 67) (X Y : Ent) (hw : Region.wanted o (yielded ops a.tmps) = true)
    (ex : a.eval x = .agg (ecells X).toArray) (ey : a.eval y = .agg (ecells Y).toArray) : YieldsIf Tryd.prog ops S o (.bool (decide (X = Y))) a :=
  .inl ⟨hw, fun w' _ => by
    have hE : (Op.equalIn 10000 67 (.agg (ecells X).toArray) (.agg (ecells Y).toArray)).run Tryd.prog w' = .ok (decide (X = Y)) w' := equalIn_ent 9998 X Y w'
    unfold execOp
    simp only [ho, ex, ey, Sem.run_bind, Sem.run_pure, Result.andThen_ok, run_eql_struct]
    have hG : (eqGuard BinOp.eql 67 x y (.agg (ecells X).toArray) (.agg (ecells Y).toArray)).run Tryd.prog w' = .ok () w' := by simp [eqGuard]
    rw [hG]
    simp only [Result.andThen_ok, hE]⟩

set_option maxRecDepth 100000 in
set_option maxHeartbeats 8000000 in
theorem l06Missing_any (a b : List Ent) (hla : a.length ≤ 80) (hlb : b.length ≤ 80) (A B : Option Addr) (ca cb : Nat) (w : World) (hra : Rd w w.heap.size ecells A a) (hrb : Rd w w.heap.size ecells B b) :
    Calls Tryd.prog 34 #[.slice A a.length ca, .slice B b.length cb] w fun e w' => ∃ v, e = .returned v ∧ w'.ownsRow w.heap.size 67 5 v (msT a b a.length).length ((msT a b a.length).flatMap ecells) ∧ Below w.heap.size w w' := by
  obtain ⟨i0, hi, hz0, hz1, hz2⟩ := info_parts Tryd.infoEI
  have HI := Lib.hid hi
  have HZ0 := Lib.hid hz0
  have HZ1 := Lib.hid hz1
  have HZ2 := Lib.hid hz2
  clear hi hz0 hz1 hz2
  have HRa := Lib.hid hra
  have HRb := Lib.hid hrb
  have HLa := Lib.hid hla
  have HLb := Lib.hid hlb
  clear hra hrb
  have hla8 : (a.length : Int) ≤ 80 := by omega
  have hlb8 : (b.length : Int) ≤ 80 := by omega
  clear hla hlb
  have hO0 : (w.alloc (.cells #[] 67)).ownsRow w.heap.size 67 5 (.slice (some ⟨w.heap.size, 0, none⟩) 0 0) ([] : List Ent).length (([] : List Ent).flatMap ecells) :=
    ⟨rfl, .inr ⟨w.heap.size, 0, #[], rfl, Nat.le_refl _, heap_alloc_new w _, Nat.le_refl _, by unfold maxLen; omega, by simp, by simp⟩⟩
  have HO0 := Lib.hid hO0
  have HB0 : Hid (Below w.heap.size w (w.alloc (.cells #[] 67))) := (Below.refl _ w).alloc (Nat.le_refl _) _
  clear hO0
  go_enter Tryd.func34, Tryd.ntmps34
  go_wp2_with fail
  go_loopw [5, 6] (fun v i wr => ∃ (k : Nat) (A1 : Option Addr) (c1 : Nat), k ≤ a.length ∧ i = .int .i64 k ∧ v = .slice A1 (msT a b k).length c1 ∧ wr.ownsRow w.heap.size 67 5 (.slice A1 (msT a b k).length c1) (msT a b k).length ((msT a b k).flatMap ecells) ∧ Below w.heap.size w wr)
    (fun _ i _ => a.length - (intOf i).toNat)
  case atStart => exact ⟨0, _, _, by omega, rfl, rfl, HO0.out, HB0.out⟩
  case round =>
    clear HO0 HB0
    obtain ⟨k, A1, c1, hk, rfl, rfl, hO, hB⟩ := hrel
    obtain ⟨wa, rfl⟩ : ∃ u, u = wr := ⟨_, rfl⟩
    have HO := Lib.hid hO
    have HB := Lib.hid hB
    clear hO hB
    have hk0 : (0 : Int) ≤ (k : Int) := Int.natCast_nonneg _
    have hmk := msT_len a b k
    obtain ⟨L, hL⟩ : ∃ L, (msT a b k).length = L := ⟨_, rfl⟩
    have HL := Lib.hid hL
    rw [hL] at HO ⊢
    have hLk : L ≤ k := by rw [← hL]; exact hmk
    clear hL hmk
    by_cases hlt : k < a.length
    · obtain ⟨x, hx⟩ : ∃ x, a[k]? = some x := ⟨_, List.getElem?_eq_getElem hlt⟩
      obtain ⟨ba, oa, rfl, hbl, hrow⟩ := (HRa.out.keep HB.out).at_ ecells_length hx
      obtain ⟨dy, fr, to, wh, nu⟩ := x
      have HX := Lib.hid hx
      have HRow := Lib.hid hrow
      have HBa := Lib.hid hbl
      have hk8 : (k : Int) < a.length := by omega
      have HWW : Hid (Below wa.heap.size wa wa) := Below.refl _ _
      have HK1 : Hid (k + 1 ≤ a.length) := hlt
      clear hx hrow hbl
      go_wp2_with fail
      go_loopw [7, 9] (fun c i w2 => ∃ j : Nat, j ≤ k + 1 ∧ i = .int .i64 j ∧ c = .int .i64 (cntE (a.take j) (⟨dy, fr, to, wh, nu⟩ : Ent) : Nat) ∧ Below wa.heap.size wa w2) (fun _ i _ => k + 1 - (intOf i).toNat)
      case atStart => exact ⟨0, by omega, rfl, by simp [cntE], HWW.out⟩
      case round =>
        clear HWW
        obtain ⟨j, hj, rfl, rfl, hb2⟩ := hrel
        obtain ⟨wb, rfl⟩ : ∃ u, u = wr := ⟨_, rfl⟩
        have HB2 := Lib.hid hb2
        clear hb2
        have hj0 : (0 : Int) ≤ (j : Int) := Int.natCast_nonneg _
        have hcb := cntE_le (a.take j) (⟨dy, fr, to, wh, nu⟩ : Ent)
        have hcb2 : (a.take j).length ≤ 80 := by rw [List.length_take]; have := HLa.out; omega
        obtain ⟨cx, hcx⟩ : ∃ n, cntE (a.take j) (⟨dy, fr, to, wh, nu⟩ : Ent) = n := ⟨_, rfl⟩
        rw [hcx] at hcb
        have HCX := Lib.hid hcx
        rw [hcx]
        have hcx80 : (cx : Int) ≤ 80 := by omega
        have hcx0 : (0 : Int) ≤ (cx : Int) := Int.natCast_nonneg _
        clear hcx hcb hcb2
        by_cases hlj : (j : Int) ≤ k
        · have hlji := hlj
          obtain ⟨y, hy⟩ : ∃ y, a[j]? = some y := ⟨_, List.getElem?_eq_getElem (by omega)⟩
          obtain ⟨dy', rest⟩ : ∃ z, z = y := ⟨_, rfl⟩
          subst rest
          have hjl : (j : Int) < a.length := by have := (List.getElem?_eq_some_iff.1 hy).1; omega
          obtain ⟨b3, o3, e3, hbl3, hrow3⟩ := (HRa.out.keep (HB.out.trans (HB2.out.mono HB.out.size))).at_ ecells_length hy
          obtain ⟨rfl, rfl⟩ : ba = b3 ∧ oa = o3 := by simpa using e3
          obtain ⟨d9, f9, t9, h9, n9⟩ := dy'
          have HRX : Hid (wb.rangeAt ba (oa + k * 5) (ecells (⟨dy, fr, to, wh, nu⟩ : Ent))) := rangeAt_below HRow.out HB2.out HBa.out
          have HRXL : Hid (ba < wb.heap.size) := Nat.lt_of_lt_of_le HBa.out HB2.out.size
          have HRY := Lib.hid hrow3
          have HRYL := Lib.hid hbl3
          have HSt : Hid (cntE (a.take (j + 1)) (⟨dy, fr, to, wh, nu⟩ : Ent) = cx + (if (⟨d9, f9, t9, h9, n9⟩ : Ent) = (⟨dy, fr, to, wh, nu⟩ : Ent) then 1 else 0)) := by show _ = _; rw [cntE_take hy, HCX.out]
          have HJ1 : Hid (j + 1 ≤ k + 1) := by show _ ≤ _; omega
          clear hy hrow3 hbl3 HCX
          go_wp2_with fail
          refine wp_region_held_drew (S := fun w' => Below wb.heap.size wb w') (by kernel_rfl) (Below.refl _ _).drew (fun hHeld => ?_)
          refine wpAnyH_take (i := 0) (v := .slice (some ⟨ba, oa, none⟩) a.length ca) rfl (by kernel_rfl) (by kernel_rfl) (by kernel_rfl) (fun _ _ _ h => h) (Or.inl ⟨by rfl, fun w' h => by go_simp⟩) (by assumption) ?_
          try simp only [Act.put, List.getElem_toArray, List.getElem_cons_zero, List.getElem_cons_succ, List.setIfInBounds_toArray, List.set_cons_zero, List.set_cons_succ]
          refine wpAnyH_take (i := 1) (v := .int .i64 j) rfl (by kernel_rfl) (by kernel_rfl) (by kernel_rfl) (fun _ _ _ h => h) (Or.inl ⟨by rfl, fun w' h => by go_simp⟩) (by assumption) ?_
          try simp only [Act.put, List.getElem_toArray, List.getElem_cons_zero, List.getElem_cons_succ, List.setIfInBounds_toArray, List.set_cons_zero, List.set_cons_succ]
          refine wpAnyH_take (i := 2) (v := .pointer (some ⟨ba, oa + j * 5, none⟩)) rfl (by kernel_rfl) (by kernel_rfl) (by kernel_rfl) (fun _ _ _ h => h) (Or.inl ⟨by rfl, fun w' h => by go_simp⟩) (by assumption) ?_
          try simp only [Act.put, List.getElem_toArray, List.getElem_cons_zero, List.getElem_cons_succ, List.setIfInBounds_toArray, List.set_cons_zero, List.set_cons_succ]
          refine' wpAnyH_take (i := 3) (v := _) rfl (by kernel_rfl) (by kernel_rfl) (by kernel_rfl) (fun _ _ _ h => h) (yieldsIf_load_mid (by rfl) 67 (.tmp 25) rfl ba (oa + j * 5) rfl (ecells (⟨d9, f9, t9, h9, n9⟩ : Ent)) _ (fun w' h => fun j v hv => (rangeAt_below HRY.out h HRYL.out) j v hv) Tryd.underlying67 rfl Tryd.sizeEI) (by assumption) ?_
          try simp only [Act.put, List.getElem_toArray, List.getElem_cons_zero, List.getElem_cons_succ, List.setIfInBounds_toArray, List.set_cons_zero, List.set_cons_succ]
          refine wpAnyH_take (i := 4) (v := .slice (some ⟨ba, oa, none⟩) a.length ca) rfl (by kernel_rfl) (by kernel_rfl) (by kernel_rfl) (fun _ _ _ h => h) (Or.inl ⟨by rfl, fun w' h => by go_simp⟩) (by assumption) ?_
          try simp only [Act.put, List.getElem_toArray, List.getElem_cons_zero, List.getElem_cons_succ, List.setIfInBounds_toArray, List.set_cons_zero, List.set_cons_succ]
          refine wpAnyH_take (i := 5) (v := .int .i64 k) rfl (by kernel_rfl) (by kernel_rfl) (by kernel_rfl) (fun _ _ _ h => h) (Or.inl ⟨by rfl, fun w' h => by go_simp⟩) (by assumption) ?_
          try simp only [Act.put, List.getElem_toArray, List.getElem_cons_zero, List.getElem_cons_succ, List.setIfInBounds_toArray, List.set_cons_zero, List.set_cons_succ]
          refine wpAnyH_take (i := 6) (v := .pointer (some ⟨ba, oa + k * 5, none⟩)) rfl (by kernel_rfl) (by kernel_rfl) (by kernel_rfl) (fun _ _ _ h => h) (Or.inl ⟨by rfl, fun w' h => by go_simp⟩) (by assumption) ?_
          try simp only [Act.put, List.getElem_toArray, List.getElem_cons_zero, List.getElem_cons_succ, List.setIfInBounds_toArray, List.set_cons_zero, List.set_cons_succ]
          refine' wpAnyH_take (i := 7) (v := _) rfl (by kernel_rfl) (by kernel_rfl) (by kernel_rfl) (fun _ _ _ h => h) (yieldsIf_load_mid (by rfl) 67 (.tmp 29) rfl ba (oa + k * 5) rfl (ecells (⟨dy, fr, to, wh, nu⟩ : Ent)) _ (fun w' h => fun j v hv => (rangeAt_below HRX.out h HRXL.out) j v hv) Tryd.underlying67 rfl Tryd.sizeEI) (by assumption) ?_
          try simp only [Act.put, List.getElem_toArray, List.getElem_cons_zero, List.getElem_cons_succ, List.setIfInBounds_toArray, List.set_cons_zero, List.set_cons_succ]
          refine wpAnyH_take (i := 8) (v := .bool (decide ((⟨d9, f9, t9, h9, n9⟩ : Ent) = (⟨dy, fr, to, wh, nu⟩ : Ent)))) rfl (by kernel_rfl) (by kernel_rfl) (by kernel_rfl) (fun _ _ _ h => h) (yields_eqlEnt (.tmp 26) (.tmp 30) rfl (⟨d9, f9, t9, h9, n9⟩ : Ent) (⟨dy, fr, to, wh, nu⟩ : Ent) (by rfl) rfl rfl) (by assumption) ?_
          try simp only [Act.put, List.getElem_toArray, List.getElem_cons_zero, List.getElem_cons_succ, List.setIfInBounds_toArray, List.set_cons_zero, List.set_cons_succ]
          refine wpAnyH_done (by kernel_rfl) ?_ _
          try simp only [Act.put, List.getElem_toArray, List.getElem_cons_zero, List.getElem_cons_succ, List.setIfInBounds_toArray, List.set_cons_zero, List.set_cons_succ]
          have hb := hHeld
          clear hHeld
          by_cases heq : (⟨d9, f9, t9, h9, n9⟩ : Ent) = (⟨dy, fr, to, wh, nu⟩ : Ent)
          · rw [decide_eq_true heq]
            rw [if_pos heq] at HSt
            have HB3 := Lib.hid (HB2.out.trans (hb.mono HB2.out.size))
            clear heq hb HRX HRY HRXL HRYL
            go_wp2
            go_roundw
            case rel => exact ⟨j + 1, HJ1.out, by go_num, by rw [HSt.out]; go_num, HB3.out⟩
            case measure => simp [intOf]; omega
          · rw [decide_eq_false heq]
            rw [if_neg heq] at HSt
            have HB3 := Lib.hid (HB2.out.trans (hb.mono HB2.out.size))
            clear heq hb HRX HRY HRXL HRYL
            go_wp2
            go_roundw
            case rel => exact ⟨j + 1, HJ1.out, by go_num, by rw [HSt.out]; rfl, HB3.out⟩
            case measure => simp [intOf]; omega
        · obtain rfl : j = k + 1 := by omega
          have HC1 := HCX
          obtain ⟨P, hP⟩ : ∃ P, P = cx := ⟨_, rfl⟩
          subst hP
          obtain ⟨wf, rfl⟩ : ∃ u, u = wb := ⟨_, rfl⟩
          have HBf := HB2
          have hP80 := hcx80
          have hP0 := hcx0
          clear HCX HB2 hcx80 hcx0 hlj hj hj0
          have HWW : Hid (Below wa.heap.size wa wf) := HBf.out
          go_wp2_with fail
          go_loopw [8, 10] (fun c i w2 => ∃ j : Nat, j ≤ b.length ∧ i = .int .i64 j ∧ c = .int .i64 (cntE (b.take j) (⟨dy, fr, to, wh, nu⟩ : Ent) : Nat) ∧ Below wa.heap.size wa w2) (fun _ i _ => b.length - (intOf i).toNat)
          case atStart => exact ⟨0, by omega, rfl, by simp [cntE], HWW.out⟩
          case round =>
            clear HWW
            obtain ⟨j, hj, rfl, rfl, hb2⟩ := hrel
            obtain ⟨wb, rfl⟩ : ∃ u, u = wr := ⟨_, rfl⟩
            have HB2 := Lib.hid hb2
            clear hb2
            have hj0 : (0 : Int) ≤ (j : Int) := Int.natCast_nonneg _
            have hcb := cntE_le (b.take j) (⟨dy, fr, to, wh, nu⟩ : Ent)
            have hcb2 : (b.take j).length ≤ 80 := by rw [List.length_take]; have := HLb.out; omega
            obtain ⟨cx, hcx⟩ : ∃ n, cntE (b.take j) (⟨dy, fr, to, wh, nu⟩ : Ent) = n := ⟨_, rfl⟩
            rw [hcx] at hcb
            have HCX := Lib.hid hcx
            rw [hcx]
            have hcx80 : (cx : Int) ≤ 80 := by omega
            have hcx0 : (0 : Int) ≤ (cx : Int) := Int.natCast_nonneg _
            clear hcx hcb hcb2
            by_cases hlj : j < b.length
            · have hlji : (j : Int) < b.length := by omega
              obtain ⟨y, hy⟩ : ∃ y, b[j]? = some y := ⟨_, List.getElem?_eq_getElem (by omega)⟩
              obtain ⟨dy', rest⟩ : ∃ z, z = y := ⟨_, rfl⟩
              subst rest
              have hjl : (j : Int) < b.length := by have := (List.getElem?_eq_some_iff.1 hy).1; omega
              obtain ⟨b3, o3, e3, hbl3, hrow3⟩ := (HRb.out.keep (HB.out.trans (HB2.out.mono HB.out.size))).at_ ecells_length hy
              subst e3
              obtain ⟨d9, f9, t9, h9, n9⟩ := dy'
              have HRX : Hid (wb.rangeAt ba (oa + k * 5) (ecells (⟨dy, fr, to, wh, nu⟩ : Ent))) := rangeAt_below HRow.out HB2.out HBa.out
              have HRXL : Hid (ba < wb.heap.size) := Nat.lt_of_lt_of_le HBa.out HB2.out.size
              have HRY := Lib.hid hrow3
              have HRYL := Lib.hid hbl3
              have HSt : Hid (cntE (b.take (j + 1)) (⟨dy, fr, to, wh, nu⟩ : Ent) = cx + (if (⟨d9, f9, t9, h9, n9⟩ : Ent) = (⟨dy, fr, to, wh, nu⟩ : Ent) then 1 else 0)) := by show _ = _; rw [cntE_take hy, HCX.out]
              have HJ1 : Hid (j + 1 ≤ b.length) := by show _ ≤ _; omega
              clear hy hrow3 hbl3 HCX
              go_wp2_with fail
              refine wp_region_held_drew (S := fun w' => Below wb.heap.size wb w') (by kernel_rfl) (Below.refl _ _).drew (fun hHeld => ?_)
              refine wpAnyH_take (i := 0) (v := .slice (some ⟨b3, o3, none⟩) b.length cb) rfl (by kernel_rfl) (by kernel_rfl) (by kernel_rfl) (fun _ _ _ h => h) (Or.inl ⟨by rfl, fun w' h => by go_simp⟩) (by assumption) ?_
              try simp only [Act.put, List.getElem_toArray, List.getElem_cons_zero, List.getElem_cons_succ, List.setIfInBounds_toArray, List.set_cons_zero, List.set_cons_succ]
              refine wpAnyH_take (i := 1) (v := .int .i64 j) rfl (by kernel_rfl) (by kernel_rfl) (by kernel_rfl) (fun _ _ _ h => h) (Or.inl ⟨by rfl, fun w' h => by go_simp⟩) (by assumption) ?_
              try simp only [Act.put, List.getElem_toArray, List.getElem_cons_zero, List.getElem_cons_succ, List.setIfInBounds_toArray, List.set_cons_zero, List.set_cons_succ]
              refine wpAnyH_take (i := 2) (v := .pointer (some ⟨b3, o3 + j * 5, none⟩)) rfl (by kernel_rfl) (by kernel_rfl) (by kernel_rfl) (fun _ _ _ h => h) (Or.inl ⟨by rfl, fun w' h => by go_simp⟩) (by assumption) ?_
              try simp only [Act.put, List.getElem_toArray, List.getElem_cons_zero, List.getElem_cons_succ, List.setIfInBounds_toArray, List.set_cons_zero, List.set_cons_succ]
              refine' wpAnyH_take (i := 3) (v := _) rfl (by kernel_rfl) (by kernel_rfl) (by kernel_rfl) (fun _ _ _ h => h) (yieldsIf_load_mid (by rfl) 67 (.tmp 42) rfl b3 (o3 + j * 5) rfl (ecells (⟨d9, f9, t9, h9, n9⟩ : Ent)) _ (fun w' h => fun j v hv => (rangeAt_below HRY.out h HRYL.out) j v hv) Tryd.underlying67 rfl Tryd.sizeEI) (by assumption) ?_
              try simp only [Act.put, List.getElem_toArray, List.getElem_cons_zero, List.getElem_cons_succ, List.setIfInBounds_toArray, List.set_cons_zero, List.set_cons_succ]
              refine wpAnyH_take (i := 4) (v := .slice (some ⟨ba, oa, none⟩) a.length ca) rfl (by kernel_rfl) (by kernel_rfl) (by kernel_rfl) (fun _ _ _ h => h) (Or.inl ⟨by rfl, fun w' h => by go_simp⟩) (by assumption) ?_
              try simp only [Act.put, List.getElem_toArray, List.getElem_cons_zero, List.getElem_cons_succ, List.setIfInBounds_toArray, List.set_cons_zero, List.set_cons_succ]
              refine wpAnyH_take (i := 5) (v := .int .i64 k) rfl (by kernel_rfl) (by kernel_rfl) (by kernel_rfl) (fun _ _ _ h => h) (Or.inl ⟨by rfl, fun w' h => by go_simp⟩) (by assumption) ?_
              try simp only [Act.put, List.getElem_toArray, List.getElem_cons_zero, List.getElem_cons_succ, List.setIfInBounds_toArray, List.set_cons_zero, List.set_cons_succ]
              refine wpAnyH_take (i := 6) (v := .pointer (some ⟨ba, oa + k * 5, none⟩)) rfl (by kernel_rfl) (by kernel_rfl) (by kernel_rfl) (fun _ _ _ h => h) (Or.inl ⟨by rfl, fun w' h => by go_simp⟩) (by assumption) ?_
              try simp only [Act.put, List.getElem_toArray, List.getElem_cons_zero, List.getElem_cons_succ, List.setIfInBounds_toArray, List.set_cons_zero, List.set_cons_succ]
              refine' wpAnyH_take (i := 7) (v := _) rfl (by kernel_rfl) (by kernel_rfl) (by kernel_rfl) (fun _ _ _ h => h) (yieldsIf_load_mid (by rfl) 67 (.tmp 46) rfl ba (oa + k * 5) rfl (ecells (⟨dy, fr, to, wh, nu⟩ : Ent)) _ (fun w' h => fun j v hv => (rangeAt_below HRX.out h HRXL.out) j v hv) Tryd.underlying67 rfl Tryd.sizeEI) (by assumption) ?_
              try simp only [Act.put, List.getElem_toArray, List.getElem_cons_zero, List.getElem_cons_succ, List.setIfInBounds_toArray, List.set_cons_zero, List.set_cons_succ]
              refine wpAnyH_take (i := 8) (v := .bool (decide ((⟨d9, f9, t9, h9, n9⟩ : Ent) = (⟨dy, fr, to, wh, nu⟩ : Ent)))) rfl (by kernel_rfl) (by kernel_rfl) (by kernel_rfl) (fun _ _ _ h => h) (yields_eqlEnt (.tmp 43) (.tmp 47) rfl (⟨d9, f9, t9, h9, n9⟩ : Ent) (⟨dy, fr, to, wh, nu⟩ : Ent) (by rfl) rfl rfl) (by assumption) ?_
              try simp only [Act.put, List.getElem_toArray, List.getElem_cons_zero, List.getElem_cons_succ, List.setIfInBounds_toArray, List.set_cons_zero, List.set_cons_succ]
              refine wpAnyH_done (by kernel_rfl) ?_ _
              try simp only [Act.put, List.getElem_toArray, List.getElem_cons_zero, List.getElem_cons_succ, List.setIfInBounds_toArray, List.set_cons_zero, List.set_cons_succ]
              have hb := hHeld
              clear hHeld
              by_cases heq : (⟨d9, f9, t9, h9, n9⟩ : Ent) = (⟨dy, fr, to, wh, nu⟩ : Ent)
              · rw [decide_eq_true heq]
                rw [if_pos heq] at HSt
                have HB3 := Lib.hid (HB2.out.trans (hb.mono HB2.out.size))
                clear heq hb HRX HRY HRXL HRYL
                go_wp2
                go_roundw
                case rel => exact ⟨j + 1, HJ1.out, by go_num, by rw [HSt.out]; go_num, HB3.out⟩
                case measure => simp [intOf]; omega
              · rw [decide_eq_false heq]
                rw [if_neg heq] at HSt
                have HB3 := Lib.hid (HB2.out.trans (hb.mono HB2.out.size))
                clear heq hb HRX HRY HRXL HRYL
                go_wp2
                go_roundw
                case rel => exact ⟨j + 1, HJ1.out, by go_num, by rw [HSt.out]; rfl, HB3.out⟩
                case measure => simp [intOf]; omega
            · obtain rfl : j = b.length := by omega
              have HC2 : Hid (cntE b (⟨dy, fr, to, wh, nu⟩ : Ent) = cx) := by
                have h := HCX.out
                rw [List.take_length] at h
                exact h
              have HBz : Hid (Below w.heap.size w wb) := HB.out.trans (HB2.out.mono HB.out.size)
              have HOz := Lib.hid (own_keep' HO.out HB2.out)
              by_cases hgt : cx < P
              · have HSt : Hid (msT a b (k + 1) = msT a b k ++ [(⟨dy, fr, to, wh, nu⟩ : Ent)]) := msT_yes HX.out (by rw [HC2.out, HC1.out]; exact hgt)
                have hgti : (cx : Int) < P := by omega
                have hrw : wb.rangeAt ba (oa + k * 5) (ecells (⟨dy, fr, to, wh, nu⟩ : Ent)) := rangeAt_below HRow.out HB2.out HBa.out
                obtain ⟨e0, e1, e2, e3, e4⟩ := rowE5 hrw
                simp only at e0 e1 e2 e3 e4
                have hL80 : L ≤ 80 := by have := HLa.out; omega
                clear hrw
                go_wp2_with (at_builtin; refine wpList_append_own _ rfl (.tmp 54) (.tmp 59) 24 rfl w.heap.size 67 i0 (.agg #[.int .i16 0, .int .i8 0, .int .i8 0, .int .u8 0, .int .i16 0]) 5 8 Tryd.underlying24 HI.out HZ0.out HZ1.out HZ2.out rfl (by decide) _ _ _ rfl (HOz.out.alloc _) ⟨wb.heap.size, 0, none⟩ 1 1 [.int .i16 dy, .int .i8 fr, .int .i8 to, .int .u8 wh, .int .i16 nu] rfl rfl ?c1 ?c2 ?c3 ?c4 ?c5 ?_)
                case c1 => exact cell_entN _ _ _ _ _ _ _
                case c2 => first | exact ent_oneN _ _ _ _ _ | simp [Value.oneCell']
                case c3 => unfold maxLen; omega
                case c4 => omega
                case c5 => have := HBz.out.size; simp; omega
                intro v' w8 hown' hgrow _
                have hown8 : w8.ownsRow w.heap.size 67 5 v' (msT a b (k + 1)).length ((msT a b (k + 1)).flatMap ecells) := by rw [HSt.out, List.length_append, List.flatMap_append, HL.out]; exact hown'
                obtain ⟨A8, c8, rfl, -, -⟩ := own_rd ecells_length hown8
                have HO8 := Lib.hid hown8
                have HB8 : Hid (Below w.heap.size w w8) := (HBz.out.alloc HBz.out.size _).grown hgrow (by have := HBz.out.size; simp; omega) (fun r e => (HOz.out.lt r e).1)
                have HL8 : Hid ((msT a b (k + 1)).length = L + 1) := by show _ = _; rw [HSt.out, List.length_append, HL.out]; rfl
                clear hown' hgrow hown8
                rw [HL8.out] at HO8 ⊢
                go_wp2
                go_roundw
                case rel => exact ⟨k + 1, A8, c8, HK1.out, by go_num, by rw [HL8.out], by rw [HL8.out]; exact HO8.out, HB8.out⟩
                case measure => simp [intOf]; omega
              · have HSt : Hid (msT a b (k + 1) = msT a b k) := msT_no HX.out (by rw [HC2.out, HC1.out]; exact hgt)
                have hgti : ¬ (cx : Int) < P := by omega
                go_wp2
                go_roundw
                case rel => exact ⟨k + 1, A1, c1, HK1.out, by go_num, by rw [HSt.out, HL.out], by rw [HSt.out, HL.out]; exact HOz.out, HBz.out⟩
                case measure => simp [intOf]; omega
    · obtain rfl : k = a.length := by omega
      go_wp2
      go_ret
      refine ⟨_, rfl, ?_, HB.out⟩
      rw [HL.out]
      exact HO.out

set_option maxRecDepth 100000 in
set_option maxHeartbeats 4000000 in
theorem specMissing_any (a b : List Ent) (A B : Option Addr) (ca cb : Nat) (w : World) (hla : a.length ≤ 1048576) (hlb : b.length ≤ 1048576) (hra : Rd w w.heap.size ecells A a) (hrb : Rd w w.heap.size ecells B b) :
    Calls Tryd.prog 8 #[.slice A a.length ca, .slice B b.length cb] w fun e w' => ∃ v, e = .returned (.tuple #[v, .int .i64 (msC a b)]) ∧ w'.ownsRow w.heap.size 67 5 v (msL a b).length ((msL a b).flatMap ecells) ∧ Below w.heap.size w w' := by
  have hO0 : (w.alloc (.cells #[] 67)).ownsRow w.heap.size 67 5 (.slice (some ⟨w.heap.size, 0, none⟩) 0 0) ([] : List Ent).length (([] : List Ent).flatMap ecells) :=
    ⟨rfl, .inr ⟨w.heap.size, 0, #[], rfl, Nat.le_refl _, heap_alloc_new w _, Nat.le_refl _, by unfold maxLen; omega, by simp, by simp⟩⟩
  have HO0 := Lib.hid hO0
  have HB0 : Hid (Below w.heap.size w (w.alloc (.cells #[] 67))) := (Below.refl _ w).alloc (Nat.le_refl _) _
  have HRa := Lib.hid hra
  have HRb := Lib.hid hrb
  clear hra hrb hO0
  by_cases hz1 : (80 : Int) < a.length
  · have E := Lib.hid (ms_no (a := a) (b := b) (by omega))
    go_enter Tryd.func8, Tryd.ntmps8
    go_wp2
    go_ret2
    refine ⟨.slice (some ⟨w.heap.size, 0, none⟩) 0 0, by (rw [E.out.1]; first | done | rfl), ?_, HB0.out⟩
    rw [E.out.2]; exact HO0.out
  by_cases hz2 : (80 : Int) < b.length
  · have E := Lib.hid (ms_no (a := a) (b := b) (by omega))
    go_enter Tryd.func8, Tryd.ntmps8
    go_wp2
    go_ret2
    refine ⟨.slice (some ⟨w.heap.size, 0, none⟩) 0 0, by (rw [E.out.1]; first | done | rfl), ?_, HB0.out⟩
    rw [E.out.2]; exact HO0.out
  have E := Lib.hid (ms_yes (a := a) (b := b) (by omega))
  have HM := Lib.hid (l06Missing_any a b (by omega) (by omega) A B ca cb w HRa.out HRb.out)
  clear HO0 HB0
  go_enter Tryd.func8, Tryd.ntmps8
  go_wp2_with fail
  refine HM.out.mono ?_
  rintro e w4 ⟨v, rfl, hO, hb⟩
  have HO := Lib.hid hO
  have HB := Lib.hid hb
  clear hO hb HM
  go_wp2
  go_ret2
  refine ⟨v, by (rw [E.out.1]; first | done | rfl), ?_, HB.out⟩
  rw [E.out.2]; exact HO.out
end Go.Proofs.YtlfamfdgphhbcabDoor
