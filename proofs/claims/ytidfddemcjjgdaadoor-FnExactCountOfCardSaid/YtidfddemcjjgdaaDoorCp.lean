/-
  The contracts of CountOf, of the model and of the program. Condition: the list reads as crates whose numbers fit their kinds; the sentinel errors lie as the row lists them (the program's).
-/
import Derived.Test.YtidfddemcjjgdaaDoorVs
import Derived.Test.YtidfddemcjjgdaaDoorEr
import Derived.Test.YtidfddemcjjgdaaDoorCk2
namespace Go.Proofs.YtidfddemcjjgdaaDoor
open Go.ChangeShapes Go.WideShapes Go.ChangeAt Go.RowKit Go.Deep
open Go.Maps (Keyed)

/-- What CountOf answers. -/
def coOk (xs : List Crt) (b : Bot) : Bool := okS xs && vB b
def coN (xs : List Crt) (b : Bot) : Int := if coOk xs b = true then (cntAll xs b : Nat) else 0
def coC (xs : List Crt) (b : Bot) : Int := if coOk xs b = true then 0 else 1
def coV (xs : List Crt) (b : Bot) : Value := .tuple #[.int .i64 (coN xs b), .int .i64 (coC xs b)]
theorem co_bad {xs : List Crt} {b : Bot} (h : coOk xs b = false) : coN xs b = 0 ∧ coC xs b = 1 := by simp [coN, coC, h]
theorem co_ok {xs : List Crt} {b : Bot} (h : coOk xs b = true) : coN xs b = (cntAll xs b : Nat) ∧ coC xs b = 0 := by
  unfold coN coC; rw [if_pos h, if_pos h]; exact ⟨rfl, rfl⟩
/-- How often a bottle is in the first k places. -/
def mulK (X : List Bot) (b : Bot) (k : Nat) : Nat := ((allB X k).filter fun y => decide (y = b)).length
theorem mulK_le (X : List Bot) (b : Bot) (k : Nat) : mulK X b k ≤ k := Nat.le_trans (List.length_filter_le _ _) (allB_length X k)
theorem mulK_hit {X : List Bot} {b : Bot} {k : Nat} (h : X[k]? = some b) (he : eB b = false) : mulK X b (k + 1) = mulK X b k + 1 := by simp [mulK, allB_yes h he]
theorem mulK_miss {X : List Bot} {b y : Bot} {k : Nat} (h : X[k]? = some y) (hn : y ≠ b) : mulK X b (k + 1) = mulK X b k := by
  cases he : eB y
  · simp [mulK, allB_yes h he, hn]
  · rw [mulK, mulK, allB_no h he]
theorem mulK_all (x : Crt) (b : Bot) : mulK x.1 b 12 = mult x b := rfl
theorem vB_eB {b : Bot} (h : vB b = true) : eB b = false := by
  simp only [vB, Bool.and_eq_true, decide_eq_true_eq] at h
  simp [eB]; omega
def cntTo (xs : List Crt) (b : Bot) (k : Nat) : Nat := ((xs.take k).map fun x => mult x b).sum
theorem cntTo_succ {xs : List Crt} {b : Bot} {k : Nat} {x : Crt} (h : xs[k]? = some x) : cntTo xs b (k + 1) = cntTo xs b k + mult x b := by
  obtain ⟨hlt, he⟩ := List.getElem?_eq_some_iff.1 h
  simp [cntTo, List.take_succ_eq_append_getElem hlt, he]
theorem cntTo_all (xs : List Crt) (b : Bot) : cntTo xs b xs.length = cntAll xs b := by rw [cntTo, List.take_length, cntAll]
theorem cntTo_le (xs : List Crt) (b : Bot) (k : Nat) : cntTo xs b k ≤ 12 * k := by
  have := cntAll_le (xs.take k) b
  have h2 : (xs.take k).length ≤ k := by rw [List.length_take]; omega
  have h3 : cntTo xs b k = cntAll (xs.take k) b := rfl
  omega

set_option maxRecDepth 100000 in
set_option maxHeartbeats 4000000 in
theorem specCountOf_any (xs : List Crt) (p q : Int) (hb : wfB (p, q)) (A : Option Addr) (c : Nat) (w : World) (hl : xs.length ≤ 1048576) (hr : Rd w w.heap.size kcells A xs) :
    Calls Tryd.prog 46 #[.slice A xs.length c, .agg #[.int .u8 p, .int .i16 q]] w fun e w' => e = .returned (coV xs (p, q)) ∧ Below w.heap.size w w' := by
  have HR := Lib.hid hr
  have HWb := Lib.hid hb
  clear hr hb
  have h1 : CBlk (w.alloc (.cells #[.int .u8 p, .int .i16 q] 29)) w.heap.size 29 [(p, q)] := CBlk.new' rfl rfl
  have h2 : Below w.heap.size w (w.alloc (.cells #[.int .u8 p, .int .i16 q] 29)) := (by repeat (first | exact Below.refl _ _ | refine Below.drew ?_ | refine Below.alloc ?_ (by simp <;> omega) _ | refine Below.setCell ?_ (by simp <;> omega) _))
  obtain ⟨W0, hW0⟩ : ∃ W0, (w.alloc (.cells #[.int .u8 p, .int .i16 q] 29)) = W0 := ⟨_, rfl⟩
  rw [hW0] at h1 h2
  have H1 := Lib.hid h1
  have H2 := Lib.hid h2
  clear h1 h2
  go_enter Tryd.func46, Tryd.ntmps46
  go_wp2_with fail
  clear hW0
  refine (l01Stack_any xs A c _ hl (HR.out.keep H2.out)).mono ?_
  rintro e w1 ⟨rfl, hb⟩
  have J1 : Hid (CBlk w1 w.heap.size 29 [(p, q)]) := H1.out.below hb H1.out.lt
  have J2 : Hid (Below w.heap.size w w1) := H2.out.trans (hb.mono H2.out.size)
  clear hb H1 H2
  cases hok : okS xs
  · have HN := Lib.hid (co_bad (xs := xs) (b := (p, q)) (by rw [coOk, hok]; rfl))
    clear hok
    go_wp2
    go_ret2
    exact ⟨by rw [coV, HN.out.1, HN.out.2]; first | done | rfl, J2.out⟩
  have Hok := Lib.hid hok
  clear hok
  have e3 : w1.cell? ⟨w.heap.size, 0, none⟩ = some (.int .u8 p) := J1.out.cell 0
  have e4 : w1.cell? ⟨w.heap.size, 1, none⟩ = some (.int .i16 q) := J1.out.cell 1
  go_wp2_with fail
  refine (l01Bottle_any p q ⟨HWb.out.1, HWb.out.2.1⟩ ⟨HWb.out.2.2.1, HWb.out.2.2.2⟩ _).mono ?_
  rintro e w2 ⟨rfl, hb⟩
  have I1 : Hid (CBlk w2 w.heap.size 29 [(p, q)]) := J1.out.below hb J1.out.lt
  have I2 : Hid (Below w.heap.size w w2) := J2.out.trans (hb.mono J2.out.size)
  clear hb J1 J2 e3 e4
  cases hv : vB (p, q)
  · have HN := Lib.hid (co_bad (xs := xs) (b := (p, q)) (by rw [coOk, hv, Bool.and_false]))
    clear hv
    go_wp2
    go_ret2
    exact ⟨by rw [coV, HN.out.1, HN.out.2]; first | done | rfl, I2.out⟩
  have HN := Lib.hid (co_ok (xs := xs) (b := (p, q)) (by rw [coOk, Hok.out, hv]; rfl))
  have HEb := Lib.hid (vB_eB hv)
  clear hv
  go_wp2_with fail
  go_loopw [6, 7] (fun s i wr => ∃ k : Nat, k ≤ xs.length ∧ i = .int .i64 k ∧ s = .int .i64 (cntTo xs (p, q) k : Nat) ∧ CBlk wr w.heap.size 29 [(p, q)] ∧ Below w.heap.size w wr) (fun _ i _ => xs.length - (intOf i).toNat)
  case atStart => exact ⟨0, by omega, rfl, rfl, I1.out, I2.out⟩
  case round =>
    clear I1 I2
    obtain ⟨k, hk, rfl, rfl, q1, q2⟩ := hrel
    have Q1 := Lib.hid q1
    have Q2 := Lib.hid q2
    clear q1 q2
    by_cases hlt : k < xs.length
    · obtain ⟨x, hx⟩ : ∃ x, xs[k]? = some x := ⟨_, List.getElem?_eq_getElem hlt⟩
      have hk0 : (0 : Int) ≤ (k : Int) := Int.natCast_nonneg _
      have hk8 : (k : Int) < xs.length := by omega
      have HX := Lib.hid (cntTo_succ (b := (p, q)) hx)
      have HXk := Lib.hid hx
      have hbd := cntTo_le xs (p, q) k
      obtain ⟨sn, hsn⟩ : ∃ n, cntTo xs (p, q) k = n := ⟨_, rfl⟩
      rw [hsn] at hbd HX ⊢
      clear hx hsn
      go_wp2_with fail
      go_loopw [6, 8] (fun s i wr => ∃ m : Nat, m ≤ 12 ∧ i = .int .i64 m ∧ s = .int .i64 ((sn + mulK x.1 (p, q) m : Nat)) ∧ CBlk wr w.heap.size 29 [(p, q)] ∧ Below w.heap.size w wr) (fun _ i _ => 12 - (intOf i).toNat)
      case atStart => exact ⟨0, by omega, rfl, by simp [mulK, allB, usedN, plTo], Q1.out, Q2.out⟩
      case round =>
        clear Q1 Q2
        obtain ⟨m, hm, rfl, rfl, q1, q2⟩ := hrel
        have Q1 := Lib.hid q1
        have Q2 := Lib.hid q2
        clear q1 q2
        by_cases hlt2 : m < 12
        · obtain ⟨k1, y1, hbk, wk, wy⟩ := x.2.at_ hlt2
          obtain ⟨b, o, rfl, hbl, hrow⟩ := (HR.out.below (Nat.le_refl _) Q2.out).at_ kcells_length HXk.out
          have HBl : Hid (b < wr.heap.size) := Nat.lt_of_lt_of_le hbl Q2.out.size
          have HRow := Lib.hid hrow
          have Hk := Lib.hid hbk
          have hm0 : (0 : Int) ≤ (m : Int) := Int.natCast_nonneg _
          have hm8 : (m : Int) < 12 := by omega
          have hmb := mulK_le x.1 (p, q) m
          clear hbk hbl hrow
          obtain ⟨mn, hmn⟩ : ∃ n, mulK x.1 (p, q) m = n := ⟨_, rfl⟩
          rw [hmn] at hmb ⊢
          have HMn := Lib.hid hmn
          clear hmn
          have hs1 : IntKind.i64.wrap (((sn + mn : Nat) : Int) + 1) = ((sn + mn : Nat) : Int) + 1 := IntWalk.i64_in _ ⟨by omega, by omega⟩
          have hs2 : wrap64 (((sn + mn : Nat) : Int) + 1) = ((sn + mn : Nat) : Int) + 1 := IntWalk.wrap64_in _ ⟨by omega, by omega⟩
          by_cases hx : k1 = p
          · by_cases hy : y1 = q
            · have hx2 := hx.symm; have hy2 := hy.symm; subst hx2; subst hy2
              go_wp2_with fail
              refine wp_region_held_drew (S := fun w' => Below wr.heap.size wr w') (by kernel_rfl) (Below.refl _ _).drew (fun hHeld => ?_)
              refine wpAnyH_take (i := 0) (v := .slice (some ⟨b, o, none⟩) xs.length c) rfl (by kernel_rfl) (by kernel_rfl) (by kernel_rfl) (fun _ _ _ h => h) (Or.inl ⟨by rfl, fun w' h => by go_simp⟩) (by assumption) ?_
              try simp only [Act.put, List.getElem_toArray, List.getElem_cons_zero, List.getElem_cons_succ, List.setIfInBounds_toArray, List.set_cons_zero, List.set_cons_succ]
              refine wpAnyH_take (i := 1) (v := .int .i64 k) rfl (by kernel_rfl) (by kernel_rfl) (by kernel_rfl) (fun _ _ _ h => h) (Or.inl ⟨by rfl, fun w' h => by go_simp⟩) (by assumption) ?_
              try simp only [Act.put, List.getElem_toArray, List.getElem_cons_zero, List.getElem_cons_succ, List.setIfInBounds_toArray, List.set_cons_zero, List.set_cons_succ]
              refine wpAnyH_take (i := 2) (v := .int .i64 m) rfl (by kernel_rfl) (by kernel_rfl) (by kernel_rfl) (fun _ _ _ h => h) (Or.inl ⟨by rfl, fun w' h => by go_simp⟩) (by assumption) ?_
              try simp only [Act.put, List.getElem_toArray, List.getElem_cons_zero, List.getElem_cons_succ, List.setIfInBounds_toArray, List.set_cons_zero, List.set_cons_succ]
              refine wpAnyH_take (i := 3) (v := .pointer (some ⟨b, o + k * 24, none⟩)) rfl (by kernel_rfl) (by kernel_rfl) (by kernel_rfl) (fun _ _ _ h => h) (Or.inl ⟨by rfl, fun w' h => by go_simp⟩) (by assumption) ?_
              try simp only [Act.put, List.getElem_toArray, List.getElem_cons_zero, List.getElem_cons_succ, List.setIfInBounds_toArray, List.set_cons_zero, List.set_cons_succ]
              refine wpAnyH_take (i := 4) (v := .pointer (some ⟨b, o + k * 24 + m * 2, none⟩)) rfl (by kernel_rfl) (by kernel_rfl) (by kernel_rfl) (fun _ _ _ h => h) (Or.inl ⟨by rfl, fun w' h => by go_simp⟩) (by assumption) ?_
              try simp only [Act.put, List.getElem_toArray, List.getElem_cons_zero, List.getElem_cons_succ, List.setIfInBounds_toArray, List.set_cons_zero, List.set_cons_succ]
              refine wpAnyH_take (i := 5) (v := .agg #[.int .u8 p, .int .i16 q]) rfl (by kernel_rfl) (by kernel_rfl) (by kernel_rfl) (fun _ _ _ h => h) (Or.inl ⟨by rfl, fun w' h => by have e1 := (rangeK (rangeAt_below HRow.out h HBl.out) Hk.out).1; have e2 := (rangeK (rangeAt_below HRow.out h HBl.out) Hk.out).2; go_simp⟩) (by assumption) ?_
              try simp only [Act.put, List.getElem_toArray, List.getElem_cons_zero, List.getElem_cons_succ, List.setIfInBounds_toArray, List.set_cons_zero, List.set_cons_succ]
              refine wpAnyH_take (i := 6) (v := .agg #[.int .u8 p, .int .i16 q]) rfl (by kernel_rfl) (by kernel_rfl) (by kernel_rfl) (fun _ _ _ h => h) (Or.inl ⟨by rfl, fun w' h => by have e3 : w'.cell? ⟨w.heap.size, 0, none⟩ = some (.int .u8 p) := (Q1.out.below h Q1.out.lt).cell 0; have e4 : w'.cell? ⟨w.heap.size, 1, none⟩ = some (.int .i16 q) := (Q1.out.below h Q1.out.lt).cell 1; go_simp⟩) (by assumption) ?_
              try simp only [Act.put, List.getElem_toArray, List.getElem_cons_zero, List.getElem_cons_succ, List.setIfInBounds_toArray, List.set_cons_zero, List.set_cons_succ]
              refine wpAnyH_take (i := 7) (v := .bool true) rfl (by kernel_rfl) (by kernel_rfl) (by kernel_rfl) (fun _ _ _ h => h) (Or.inl ⟨by rfl, fun w' h => by go_simp⟩) (by assumption) ?_
              try simp only [Act.put, List.getElem_toArray, List.getElem_cons_zero, List.getElem_cons_succ, List.setIfInBounds_toArray, List.set_cons_zero, List.set_cons_succ]
              refine wpAnyH_done (by kernel_rfl) ?_ _
              try simp only [Act.put, List.getElem_toArray, List.getElem_cons_zero, List.getElem_cons_succ, List.setIfInBounds_toArray, List.set_cons_zero, List.set_cons_succ]
              have A1 := Lib.hid (Q1.out.below hHeld Q1.out.lt)
              have A2 := Lib.hid (Q2.out.trans (hHeld.mono Q2.out.size))
              clear hHeld
              go_wp2
              go_roundw
              case rel => exact ⟨m + 1, by omega, by go_num, by rw [mulK_hit Hk.out HEb.out, HMn.out]; first | done | rfl, A1.out, A2.out⟩
              case measure => simp [intOf]; omega
            · have hx2 := hx.symm; subst hx2
              have hy' : (y1 == q) = false := by simpa using hy
              go_wp2_with fail
              refine wp_region_held_drew (S := fun w' => Below wr.heap.size wr w') (by kernel_rfl) (Below.refl _ _).drew (fun hHeld => ?_)
              refine wpAnyH_take (i := 0) (v := .slice (some ⟨b, o, none⟩) xs.length c) rfl (by kernel_rfl) (by kernel_rfl) (by kernel_rfl) (fun _ _ _ h => h) (Or.inl ⟨by rfl, fun w' h => by go_simp⟩) (by assumption) ?_
              try simp only [Act.put, List.getElem_toArray, List.getElem_cons_zero, List.getElem_cons_succ, List.setIfInBounds_toArray, List.set_cons_zero, List.set_cons_succ]
              refine wpAnyH_take (i := 1) (v := .int .i64 k) rfl (by kernel_rfl) (by kernel_rfl) (by kernel_rfl) (fun _ _ _ h => h) (Or.inl ⟨by rfl, fun w' h => by go_simp⟩) (by assumption) ?_
              try simp only [Act.put, List.getElem_toArray, List.getElem_cons_zero, List.getElem_cons_succ, List.setIfInBounds_toArray, List.set_cons_zero, List.set_cons_succ]
              refine wpAnyH_take (i := 2) (v := .int .i64 m) rfl (by kernel_rfl) (by kernel_rfl) (by kernel_rfl) (fun _ _ _ h => h) (Or.inl ⟨by rfl, fun w' h => by go_simp⟩) (by assumption) ?_
              try simp only [Act.put, List.getElem_toArray, List.getElem_cons_zero, List.getElem_cons_succ, List.setIfInBounds_toArray, List.set_cons_zero, List.set_cons_succ]
              refine wpAnyH_take (i := 3) (v := .pointer (some ⟨b, o + k * 24, none⟩)) rfl (by kernel_rfl) (by kernel_rfl) (by kernel_rfl) (fun _ _ _ h => h) (Or.inl ⟨by rfl, fun w' h => by go_simp⟩) (by assumption) ?_
              try simp only [Act.put, List.getElem_toArray, List.getElem_cons_zero, List.getElem_cons_succ, List.setIfInBounds_toArray, List.set_cons_zero, List.set_cons_succ]
              refine wpAnyH_take (i := 4) (v := .pointer (some ⟨b, o + k * 24 + m * 2, none⟩)) rfl (by kernel_rfl) (by kernel_rfl) (by kernel_rfl) (fun _ _ _ h => h) (Or.inl ⟨by rfl, fun w' h => by go_simp⟩) (by assumption) ?_
              try simp only [Act.put, List.getElem_toArray, List.getElem_cons_zero, List.getElem_cons_succ, List.setIfInBounds_toArray, List.set_cons_zero, List.set_cons_succ]
              refine wpAnyH_take (i := 5) (v := .agg #[.int .u8 p, .int .i16 y1]) rfl (by kernel_rfl) (by kernel_rfl) (by kernel_rfl) (fun _ _ _ h => h) (Or.inl ⟨by rfl, fun w' h => by have e1 := (rangeK (rangeAt_below HRow.out h HBl.out) Hk.out).1; have e2 := (rangeK (rangeAt_below HRow.out h HBl.out) Hk.out).2; go_simp⟩) (by assumption) ?_
              try simp only [Act.put, List.getElem_toArray, List.getElem_cons_zero, List.getElem_cons_succ, List.setIfInBounds_toArray, List.set_cons_zero, List.set_cons_succ]
              refine wpAnyH_take (i := 6) (v := .agg #[.int .u8 p, .int .i16 q]) rfl (by kernel_rfl) (by kernel_rfl) (by kernel_rfl) (fun _ _ _ h => h) (Or.inl ⟨by rfl, fun w' h => by have e3 : w'.cell? ⟨w.heap.size, 0, none⟩ = some (.int .u8 p) := (Q1.out.below h Q1.out.lt).cell 0; have e4 : w'.cell? ⟨w.heap.size, 1, none⟩ = some (.int .i16 q) := (Q1.out.below h Q1.out.lt).cell 1; go_simp⟩) (by assumption) ?_
              try simp only [Act.put, List.getElem_toArray, List.getElem_cons_zero, List.getElem_cons_succ, List.setIfInBounds_toArray, List.set_cons_zero, List.set_cons_succ]
              refine wpAnyH_take (i := 7) (v := .bool false) rfl (by kernel_rfl) (by kernel_rfl) (by kernel_rfl) (fun _ _ _ h => h) (Or.inl ⟨by rfl, fun w' h => by go_simp⟩) (by assumption) ?_
              try simp only [Act.put, List.getElem_toArray, List.getElem_cons_zero, List.getElem_cons_succ, List.setIfInBounds_toArray, List.set_cons_zero, List.set_cons_succ]
              refine wpAnyH_done (by kernel_rfl) ?_ _
              try simp only [Act.put, List.getElem_toArray, List.getElem_cons_zero, List.getElem_cons_succ, List.setIfInBounds_toArray, List.set_cons_zero, List.set_cons_succ]
              have A1 := Lib.hid (Q1.out.below hHeld Q1.out.lt)
              have A2 := Lib.hid (Q2.out.trans (hHeld.mono Q2.out.size))
              clear hHeld
              go_wp2
              go_roundw
              case rel => exact ⟨m + 1, by omega, by go_num, by rw [mulK_miss Hk.out (by simp [hy]), HMn.out]; first | done | simp, A1.out, A2.out⟩
              case measure => simp [intOf]; omega
          · have hx' : (k1 == p) = false := by simpa using hx
            go_wp2_with fail
            refine wp_region_held_drew (S := fun w' => Below wr.heap.size wr w') (by kernel_rfl) (Below.refl _ _).drew (fun hHeld => ?_)
            refine wpAnyH_take (i := 0) (v := .slice (some ⟨b, o, none⟩) xs.length c) rfl (by kernel_rfl) (by kernel_rfl) (by kernel_rfl) (fun _ _ _ h => h) (Or.inl ⟨by rfl, fun w' h => by go_simp⟩) (by assumption) ?_
            try simp only [Act.put, List.getElem_toArray, List.getElem_cons_zero, List.getElem_cons_succ, List.setIfInBounds_toArray, List.set_cons_zero, List.set_cons_succ]
            refine wpAnyH_take (i := 1) (v := .int .i64 k) rfl (by kernel_rfl) (by kernel_rfl) (by kernel_rfl) (fun _ _ _ h => h) (Or.inl ⟨by rfl, fun w' h => by go_simp⟩) (by assumption) ?_
            try simp only [Act.put, List.getElem_toArray, List.getElem_cons_zero, List.getElem_cons_succ, List.setIfInBounds_toArray, List.set_cons_zero, List.set_cons_succ]
            refine wpAnyH_take (i := 2) (v := .int .i64 m) rfl (by kernel_rfl) (by kernel_rfl) (by kernel_rfl) (fun _ _ _ h => h) (Or.inl ⟨by rfl, fun w' h => by go_simp⟩) (by assumption) ?_
            try simp only [Act.put, List.getElem_toArray, List.getElem_cons_zero, List.getElem_cons_succ, List.setIfInBounds_toArray, List.set_cons_zero, List.set_cons_succ]
            refine wpAnyH_take (i := 3) (v := .pointer (some ⟨b, o + k * 24, none⟩)) rfl (by kernel_rfl) (by kernel_rfl) (by kernel_rfl) (fun _ _ _ h => h) (Or.inl ⟨by rfl, fun w' h => by go_simp⟩) (by assumption) ?_
            try simp only [Act.put, List.getElem_toArray, List.getElem_cons_zero, List.getElem_cons_succ, List.setIfInBounds_toArray, List.set_cons_zero, List.set_cons_succ]
            refine wpAnyH_take (i := 4) (v := .pointer (some ⟨b, o + k * 24 + m * 2, none⟩)) rfl (by kernel_rfl) (by kernel_rfl) (by kernel_rfl) (fun _ _ _ h => h) (Or.inl ⟨by rfl, fun w' h => by go_simp⟩) (by assumption) ?_
            try simp only [Act.put, List.getElem_toArray, List.getElem_cons_zero, List.getElem_cons_succ, List.setIfInBounds_toArray, List.set_cons_zero, List.set_cons_succ]
            refine wpAnyH_take (i := 5) (v := .agg #[.int .u8 k1, .int .i16 y1]) rfl (by kernel_rfl) (by kernel_rfl) (by kernel_rfl) (fun _ _ _ h => h) (Or.inl ⟨by rfl, fun w' h => by have e1 := (rangeK (rangeAt_below HRow.out h HBl.out) Hk.out).1; have e2 := (rangeK (rangeAt_below HRow.out h HBl.out) Hk.out).2; go_simp⟩) (by assumption) ?_
            try simp only [Act.put, List.getElem_toArray, List.getElem_cons_zero, List.getElem_cons_succ, List.setIfInBounds_toArray, List.set_cons_zero, List.set_cons_succ]
            refine wpAnyH_take (i := 6) (v := .agg #[.int .u8 p, .int .i16 q]) rfl (by kernel_rfl) (by kernel_rfl) (by kernel_rfl) (fun _ _ _ h => h) (Or.inl ⟨by rfl, fun w' h => by have e3 : w'.cell? ⟨w.heap.size, 0, none⟩ = some (.int .u8 p) := (Q1.out.below h Q1.out.lt).cell 0; have e4 : w'.cell? ⟨w.heap.size, 1, none⟩ = some (.int .i16 q) := (Q1.out.below h Q1.out.lt).cell 1; go_simp⟩) (by assumption) ?_
            try simp only [Act.put, List.getElem_toArray, List.getElem_cons_zero, List.getElem_cons_succ, List.setIfInBounds_toArray, List.set_cons_zero, List.set_cons_succ]
            refine wpAnyH_take (i := 7) (v := .bool false) rfl (by kernel_rfl) (by kernel_rfl) (by kernel_rfl) (fun _ _ _ h => h) (Or.inl ⟨by rfl, fun w' h => by go_simp⟩) (by assumption) ?_
            try simp only [Act.put, List.getElem_toArray, List.getElem_cons_zero, List.getElem_cons_succ, List.setIfInBounds_toArray, List.set_cons_zero, List.set_cons_succ]
            refine wpAnyH_done (by kernel_rfl) ?_ _
            try simp only [Act.put, List.getElem_toArray, List.getElem_cons_zero, List.getElem_cons_succ, List.setIfInBounds_toArray, List.set_cons_zero, List.set_cons_succ]
            have A1 := Lib.hid (Q1.out.below hHeld Q1.out.lt)
            have A2 := Lib.hid (Q2.out.trans (hHeld.mono Q2.out.size))
            clear hHeld
            go_wp2
            go_roundw
            case rel => exact ⟨m + 1, by omega, by go_num, by rw [mulK_miss Hk.out (by simp [hx]), HMn.out]; first | done | simp, A1.out, A2.out⟩
            case measure => simp [intOf]; omega
        · obtain rfl : m = 12 := by omega
          rw [mulK_all]
          go_wp2
          go_roundw
          case rel => exact ⟨k + 1, by omega, by go_num, by rw [HX.out], Q1.out, Q2.out⟩
          case measure => simp [intOf]; omega
    · obtain rfl : k = xs.length := by omega
      rw [cntTo_all]
      go_wp2
      go_ret2
      exact ⟨by rw [coV, HN.out.1, HN.out.2]; first | done | rfl, Q2.out⟩

set_option maxRecDepth 100000 in
set_option maxHeartbeats 4000000 in
theorem implCountOf_any (xs : List Crt) (p q : Int) (hb : wfB (p, q)) (A : Option Addr) (c : Nat) (ad : Nat → Addr) (w : World) (hl : xs.length ≤ 1048576) (hr : Rd w w.heap.size kcells A xs) (hE : EW 7 w ad) :
    Calls Tryd.prog 48 #[.slice A xs.length c, .agg #[.int .u8 p, .int .i16 q]] w fun e w' => e = .returned (coV xs (p, q)) ∧ Below w.heap.size w w' := by
  have HR := Lib.hid hr
  have HWb := Lib.hid hb
  have HE := Lib.hid hE
  clear hr hb hE
  have h1 : CBlk (w.alloc (.cells #[.int .u8 p, .int .i16 q] 29)) w.heap.size 29 [(p, q)] := CBlk.new' rfl rfl
  have h2 : Below w.heap.size w (w.alloc (.cells #[.int .u8 p, .int .i16 q] 29)) := (by repeat (first | exact Below.refl _ _ | refine Below.drew ?_ | refine Below.alloc ?_ (by simp <;> omega) _ | refine Below.setCell ?_ (by simp <;> omega) _))
  obtain ⟨W0, hW0⟩ : ∃ W0, (w.alloc (.cells #[.int .u8 p, .int .i16 q] 29)) = W0 := ⟨_, rfl⟩
  rw [hW0] at h1 h2
  have H1 := Lib.hid h1
  have H2 := Lib.hid h2
  clear h1 h2
  have hp0 := erV_isE ad 5 (okS xs)
  have hp1 : isE (btV ad (p, q)) := by
    unfold btV; split
    · exact .inl rfl
    · exact .inr ⟨_, rfl⟩
  obtain ⟨v0, hv0⟩ : ∃ v, erV ad 5 (okS xs) = v := ⟨_, rfl⟩
  obtain ⟨v1, hv1⟩ : ∃ v, btV ad (p, q) = v := ⟨_, rfl⟩
  rw [hv0] at hp0
  rw [hv1] at hp1
  have V0 := Lib.hid hv0
  have V1 := Lib.hid hv1
  have P0 := Lib.hid hp0
  have P1 := Lib.hid hp1
  clear hv0 hv1 hp0 hp1
  go_enter Tryd.func48, Tryd.ntmps48
  go_wp2_with fail
  clear hW0
  refine wp_region_held_drew (S := fun w' => Below W0.heap.size W0 w') (by kernel_rfl) (Below.refl _ _).drew (fun hHeld => ?_)
  refine wpAnyH_take (i := 0) (v := .slice A xs.length c) rfl (by kernel_rfl) (by kernel_rfl) (by kernel_rfl) (fun _ _ _ h => h) (Or.inl ⟨by rfl, fun w' h => by go_simp⟩) (by assumption) ?_
  try simp only [Act.put, List.getElem_toArray, List.getElem_cons_zero, List.getElem_cons_succ, List.setIfInBounds_toArray, List.set_cons_zero, List.set_cons_succ]
  refine wpAnyH_take (i := 2) (v := .agg #[.int .u8 p, .int .i16 q]) rfl (by kernel_rfl) (by kernel_rfl) (by kernel_rfl) (fun _ _ _ h => h) (Or.inl ⟨by rfl, fun w' h => by have e3 : w'.cell? ⟨w.heap.size, 0, none⟩ = some (.int .u8 p) := (H1.out.below h H1.out.lt).cell 0; have e4 : w'.cell? ⟨w.heap.size, 1, none⟩ = some (.int .i16 q) := (H1.out.below h H1.out.lt).cell 1; go_simp⟩) (by assumption) ?_
  try simp only [Act.put, List.getElem_toArray, List.getElem_cons_zero, List.getElem_cons_succ, List.setIfInBounds_toArray, List.set_cons_zero, List.set_cons_succ]
  obtain ⟨D0, hD0⟩ : ∃ D0, W0.drew = D0 := ⟨_, rfl⟩
  rw [hD0] at hHeld ⊢
  clear hD0
  refine wpAnyH_ready (rs := [1]) (by kernel_rfl) (by simp) ?_
  refine AllReadyH.cons rfl (fun K hK => ?_) AllReadyH.nil
  refine if_wanted rfl ?_
  go_simp
  refine (checkStack_any xs A c ad _ hl (HR.out.keep (H2.out.trans (hHeld.mono H2.out.size))) (HE.out.below (H2.out.trans (hHeld.mono H2.out.size)) (Nat.le_refl _))).mono ?_
  rintro e y1 ⟨rfl, hb⟩
  have hH2 : Below W0.heap.size W0 y1 := hHeld.trans (hb.mono hHeld.size)
  clear hb hHeld
  dsimp only
  rw [V0.out]
  refine hK.out _ _ hH2 (fun hHeld => ?_)
  clear hK K hH2
  try simp only [Act.put, List.getElem_toArray, List.getElem_cons_zero, List.getElem_cons_succ, List.setIfInBounds_toArray, List.set_cons_zero, List.set_cons_succ]
  refine wpAnyH_ready (rs := [3]) (by kernel_rfl) (by simp) ?_
  refine AllReadyH.cons rfl (fun K hK => ?_) AllReadyH.nil
  refine if_wanted rfl ?_
  go_simp
  refine (checkBottle_any p q ad _ (HE.out.below (H2.out.trans (hHeld.mono H2.out.size)) (Nat.le_refl _))).mono ?_
  rintro e y2 ⟨rfl, hb⟩
  have hH2 : Below W0.heap.size W0 y2 := hHeld.trans (hb.mono hHeld.size)
  clear hb hHeld
  dsimp only
  rw [V1.out]
  refine hK.out _ _ hH2 (fun hHeld => ?_)
  clear hK K hH2
  try simp only [Act.put, List.getElem_toArray, List.getElem_cons_zero, List.getElem_cons_succ, List.setIfInBounds_toArray, List.set_cons_zero, List.set_cons_succ]
  refine wpAnyH_ready (rs := [4]) (by kernel_rfl) (by simp) ?_
  refine AllReadyH.cons rfl (fun K hK => ?_) AllReadyH.nil
  refine if_wanted rfl (wp_twoErrs (.tmp 8) (.tmp 10) rfl P0.out P1.out rfl rfl ?_)
  refine hK.out _ _ (hHeld.alloc hHeld.size _) (fun hHeld => ?_)
  clear hK K
  try simp only [Act.put, List.getElem_toArray, List.getElem_cons_zero, List.getElem_cons_succ, List.setIfInBounds_toArray, List.set_cons_zero, List.set_cons_succ]
  have q0 := new_cell2 y2 v0 v1 90
  obtain ⟨w3, hw3⟩ : ∃ w3, y2.alloc (.cells #[v0, v1] 90) = w3 := ⟨_, rfl⟩
  rw [hw3] at q0 hHeld ⊢
  have Q := Lib.hid q0
  clear q0 hw3
  refine wpAnyH_ready (rs := [5]) (by kernel_rfl) (by simp) ?_
  refine AllReadyH.cons rfl (fun K hK => ?_) AllReadyH.nil
  refine if_wanted rfl ?_
  go_simp
  refine (first2_any P0.out P1.out _ _ _ Q.out.1 Q.out.2).mono ?_
  rintro e w' ⟨rfl, rfl⟩
  dsimp only
  refine hK.out _ _ hHeld (fun hHeld => ?_)
  clear hK K
  try simp only [Act.put, List.getElem_toArray, List.getElem_cons_zero, List.getElem_cons_succ, List.setIfInBounds_toArray, List.set_cons_zero, List.set_cons_succ]
  refine wpAnyH_ready (rs := [6]) (by kernel_rfl) (by simp) ?_
  refine AllReadyH.cons rfl (fun K hK => ?_) AllReadyH.nil
  refine if_wanted rfl ?_
  refine wp_assign0 (v := firstV v0 v1) rfl rfl ?_
  refine hK.out _ _ hHeld (fun hHeld => ?_)
  clear hK K
  try simp only [Act.put, List.getElem_toArray, List.getElem_cons_zero, List.getElem_cons_succ, List.setIfInBounds_toArray, List.set_cons_zero, List.set_cons_succ]
  refine wpAnyH_done (by kernel_rfl) ?_ _
  try simp only [Act.put, List.getElem_toArray, List.getElem_cons_zero, List.getElem_cons_succ, List.setIfInBounds_toArray, List.set_cons_zero, List.set_cons_succ]
  have G1 : Hid (CBlk w3 w.heap.size 29 [(p, q)]) := H1.out.below hHeld H1.out.lt
  have G2 : Hid (Below w.heap.size w w3) := H2.out.trans (hHeld.mono H2.out.size)
  clear hHeld Q H1 H2
  cases hok : okS xs
  · have hv : firstV v0 v1 = .iface 202 (.pointer (some (ad 5))) := by rw [← V0.out, hok]; rfl
    rw [hv]
    have HN := Lib.hid (co_bad (xs := xs) (b := (p, q)) (by rw [coOk, hok]; rfl))
    clear hv hok V0 V1
    go_wp2_with fail
    refine (codeOf_5 (HE.out.below G2.out (Nat.le_refl _))).mono ?_
    rintro e w4 ⟨rfl, rfl⟩
    go_wp2
    go_ret2
    exact ⟨by rw [coV, HN.out.1, HN.out.2]; first | done | rfl, G2.out⟩
  have Hok := Lib.hid hok
  have hf : firstV v0 v1 = v1 := by rw [← V0.out, hok]; rfl
  rw [hf]
  clear hf V0
  cases hvb : vB (p, q)
  · have hv : v1 = .iface 202 (.pointer (some (ad 5))) := by rw [← V1.out]; unfold btV; rw [hvb]; rfl
    rw [hv]
    have HN := Lib.hid (co_bad (xs := xs) (b := (p, q)) (by rw [coOk, hvb, Bool.and_false]))
    clear hv hvb V1 hok
    go_wp2_with fail
    refine (codeOf_5 (HE.out.below G2.out (Nat.le_refl _))).mono ?_
    rintro e w4 ⟨rfl, rfl⟩
    go_wp2
    go_ret2
    exact ⟨by rw [coV, HN.out.1, HN.out.2]; first | done | rfl, G2.out⟩
  have hv : v1 = .nilIface := by rw [← V1.out]; unfold btV; rw [hvb]; rfl
  rw [hv]
  have HN := Lib.hid (co_ok (xs := xs) (b := (p, q)) (by rw [coOk, Hok.out, hvb]; rfl))
  have hl12 : xs.length ≤ 12 := by
    have := Hok.out
    simp only [okS, Bool.and_eq_true, decide_eq_true_eq] at this
    exact this.2
  clear hv hvb V1 hok P0 P1
  go_wp2_with fail
  refine wp_region_held_drew (S := fun w' => Below w3.heap.size w3 w') (by kernel_rfl) (Below.refl _ _).drew (fun hHeld => ?_)
  refine wpAnyH_take (i := 0) (v := .slice A xs.length c) rfl (by kernel_rfl) (by kernel_rfl) (by kernel_rfl) (fun _ _ _ h => h) (Or.inl ⟨by rfl, fun w' h => by go_simp⟩) (by assumption) ?_
  try simp only [Act.put, List.getElem_toArray, List.getElem_cons_zero, List.getElem_cons_succ, List.setIfInBounds_toArray, List.set_cons_zero, List.set_cons_succ]
  refine wpAnyH_take (i := 2) (v := .agg #[.int .u8 p, .int .i16 q]) rfl (by kernel_rfl) (by kernel_rfl) (by kernel_rfl) (fun _ _ _ h => h) (Or.inl ⟨by rfl, fun w' h => by have e3 : w'.cell? ⟨w.heap.size, 0, none⟩ = some (.int .u8 p) := (G1.out.below h G1.out.lt).cell 0; have e4 : w'.cell? ⟨w.heap.size, 1, none⟩ = some (.int .i16 q) := (G1.out.below h G1.out.lt).cell 1; go_simp⟩) (by assumption) ?_
  try simp only [Act.put, List.getElem_toArray, List.getElem_cons_zero, List.getElem_cons_succ, List.setIfInBounds_toArray, List.set_cons_zero, List.set_cons_succ]
  obtain ⟨D0, hD0⟩ : ∃ D0, w3.drew = D0 := ⟨_, rfl⟩
  rw [hD0] at hHeld ⊢
  clear hD0
  refine wpAnyH_ready (rs := [1]) (by kernel_rfl) (by simp) ?_
  refine AllReadyH.cons rfl (fun K hK => ?_) AllReadyH.nil
  refine if_wanted rfl ?_
  go_simp
  refine (countBottles_any xs A c _ hl12 (HR.out.keep (G2.out.trans (hHeld.mono G2.out.size)))).mono ?_
  rintro e w4 ⟨B, n, E, rfl, hB, hn, hown, hhold, hb⟩
  have hH2 : Below w3.heap.size w3 w4 := hHeld.trans (hb.mono hHeld.size)
  have HO := Lib.hid hown
  have HH := Lib.hid hhold
  clear hb hHeld hown hhold
  dsimp only
  refine hK.out _ _ hH2 (fun hHeld => ?_)
  clear hK K hH2
  try simp only [Act.put, List.getElem_toArray, List.getElem_cons_zero, List.getElem_cons_succ, List.setIfInBounds_toArray, List.set_cons_zero, List.set_cons_succ]
  obtain ⟨cv, hrun, hat, -⟩ := HO.out.lookup_int (Keyed.of_law Tryd.lawB) Tryd.underlying110 Tryd.underlying2 (Tryd.zeroI64 _) (keyB (p, q) HWb.out)
  have hcv := HH.out.look (x := (p, q)) HWb.out hat
  subst hcv
  have HRun := Lib.hid hrun
  clear hrun hat
  refine wpAnyH_ready (rs := [3]) (by kernel_rfl) (by simp) ?_
  refine AllReadyH.cons rfl (fun K hK => ?_) AllReadyH.nil
  refine if_wanted rfl (wp_lookupR 110 (.tmp 18) (.tmp 19) rfl rfl rfl HRun.out ?_)
  refine hK.out _ _ hHeld (fun hHeld => ?_)
  clear hK K
  try simp only [Act.put, List.getElem_toArray, List.getElem_cons_zero, List.getElem_cons_succ, List.setIfInBounds_toArray, List.set_cons_zero, List.set_cons_succ]
  refine wpAnyH_ready (rs := [4]) (by kernel_rfl) (by simp) ?_
  refine AllReadyH.cons rfl (fun K hK => ?_) AllReadyH.nil
  refine if_wanted rfl ?_
  refine wp_assign0 (v := .int .i64 (cntAll xs (p, q) : Nat)) rfl rfl ?_
  refine hK.out _ _ hHeld (fun hHeld => ?_)
  clear hK K
  try simp only [Act.put, List.getElem_toArray, List.getElem_cons_zero, List.getElem_cons_succ, List.setIfInBounds_toArray, List.set_cons_zero, List.set_cons_succ]
  refine wpAnyH_ready (rs := [5]) (by kernel_rfl) (by simp) ?_
  refine AllReadyH.cons rfl (fun K hK => ?_) AllReadyH.nil
  refine if_wanted rfl ?_
  refine wp_assign0 (v := .int .i64 0) rfl rfl ?_
  refine hK.out _ _ hHeld (fun hHeld => ?_)
  clear hK K
  try simp only [Act.put, List.getElem_toArray, List.getElem_cons_zero, List.getElem_cons_succ, List.setIfInBounds_toArray, List.set_cons_zero, List.set_cons_succ]
  refine wpAnyH_done (by kernel_rfl) ?_ _
  try simp only [Act.put, List.getElem_toArray, List.getElem_cons_zero, List.getElem_cons_succ, List.setIfInBounds_toArray, List.set_cons_zero, List.set_cons_succ]
  have G5 := Lib.hid (G2.out.trans (hHeld.mono G2.out.size))
  clear hHeld
  go_wp2
  go_ret2
  exact ⟨by rw [coV, HN.out.1, HN.out.2]; first | done | rfl, G5.out⟩
end Go.Proofs.YtidfddemcjjgdaaDoor
