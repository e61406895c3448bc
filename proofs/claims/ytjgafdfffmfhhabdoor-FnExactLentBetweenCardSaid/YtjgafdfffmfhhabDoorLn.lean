/-
  LentBetween: the contracts, of the model and of the program. Condition: numbers fit their kinds; the sentinel errors lie as the row lists them (the program's).
-/
import Derived.Test.YtjgafdfffmfhhabDoorLb
import Derived.Test.YtjgafdfffmfhhabDoorRg
namespace Go.Proofs.YtjgafdfffmfhhabDoor
open Go.ChangeShapes Go.WideShapes Go.ChangeAt Go.RowKit Go.Deep

def ltD (x : Ent) (a b : Int) : Int := ctN x a b - ctN x b a
def lnT (l : List Ent) (a b : Int) : Nat → Int
  | 0 => 0
  | k + 1 => lnT l a b k + ltD (l.getD k ⟨0, 0, 0, 0, 0⟩) a b
theorem lnT_succ {l : List Ent} {a b : Int} {k : Nat} {x : Ent} (h : l[k]? = some x) : lnT l a b (k + 1) = lnT l a b k + ltD x a b := by
  rw [lnT, List.getD_eq_getElem?_getD, h]; rfl
theorem ctN_in {x : Ent} (h : wfE x) (a b : Int) : 0 ≤ ctN x a b ∧ ctN x a b ≤ 32767 := by
  have := nmE_in h
  unfold ctN; split
  · split <;> omega
  · omega
theorem lnT_in {l : List Ent} {a b : Int} (h : ∀ x ∈ l, wfE x) : ∀ k, k ≤ l.length → -(32767 * (k : Int)) ≤ lnT l a b k ∧ lnT l a b k ≤ 32767 * k
  | 0, _ => by simp [lnT]
  | k + 1, hk => by
    have ih := lnT_in (a := a) (b := b) h k (by omega)
    have hx : l[k]? = some l[k] := List.getElem?_eq_getElem (by omega)
    have h1 := ctN_in (h _ (List.getElem_mem (by omega : k < l.length))) a b
    have h2 := ctN_in (h _ (List.getElem_mem (by omega : k < l.length))) b a
    rw [lnT_succ hx]; unfold ltD
    omega
def lbO (n : Int) (l : List Ent) (a b : Int) : Option Nat := firstO [chk 5 (leOk n l), chk 0 (ptOk n [a, b])]
theorem lbO_lt {n : Int} {l : List Ent} {a b : Int} : ∀ i, lbO n l a b = some i → i < 7 := by
  refine firstO_lt ?_
  simp only [List.mem_cons, List.not_mem_nil, or_false]
  rintro o (rfl | rfl) <;> exact chk_lt (by omega)
def lbC (n : Int) (l : List Ent) (a b : Int) : Int := cdO (lbO n l a b)
def lbN (n : Int) (l : List Ent) (a b : Int) : Int := if lbC n l a b = 0 then lnT l a b l.length else 0
theorem lb_bad {n : Int} {l : List Ent} {a b : Int} {i : Nat} (h : lbO n l a b = some i) : lbC n l a b = cdN i ∧ lbN n l a b = 0 := by
  have h1 : lbC n l a b = cdN i := by rw [lbC, h]; rfl
  exact ⟨h1, by rw [lbN, if_neg (by rw [h1]; exact cdN_ne)]⟩
theorem lb_ok {n : Int} {l : List Ent} {a b : Int} (h : lbO n l a b = none) : lbC n l a b = 0 ∧ lbN n l a b = lnT l a b l.length ∧ leOk n l = true := by
  have h1 : lbC n l a b = 0 := by rw [lbC, h]; rfl
  refine ⟨h1, by rw [lbN, if_pos h1], ?_⟩
  cases hl : leOk n l
  · rw [lbO, hl] at h; cases h
  · rfl
theorem lb_range {n : Int} {l : List Ent} {a b : Int} (h : leOk n l = true) (hn : ¬ (a ≠ b ∧ (0 ≤ a ∧ a ≤ n - 1) ∧ (0 ≤ b ∧ b ≤ n - 1))) : lbO n l a b = some 0 := by
  have : ptOk n [a, b] = false := by
    rw [Bool.eq_false_iff, ptOk_two]; simp only [ne_eq, Bool.and_eq_true, decide_eq_true_eq, wi_iff]; exact hn
  rw [lbO, h, this]; rfl
theorem lb_fine {n : Int} {l : List Ent} {a b : Int} (h : leOk n l = true) (hn : a ≠ b ∧ (0 ≤ a ∧ a ≤ n - 1) ∧ (0 ≤ b ∧ b ≤ n - 1)) : lbO n l a b = none := by
  have : ptOk n [a, b] = true := by
    rw [ptOk_two]; simp only [ne_eq, Bool.and_eq_true, decide_eq_true_eq, wi_iff]; exact hn
  rw [lbO, h, this]; rfl

set_option maxRecDepth 100000 in
set_option maxHeartbeats 8000000 in
theorem specLent_any (n : Int) (l : List Ent) (hwf : ∀ x ∈ l, wfE x) (a b : Int) (A : Option Addr) (c : Nat) (w : World) (hl : l.length ≤ 1048576) (hr : Rd w w.heap.size ecells A l) :
    Calls Tryd.prog 25 #[.int .i64 n, .slice A l.length c, .int .i64 a, .int .i64 b] w fun e w' => e = .returned (.tuple #[.int .i64 (lbN n l a b), .int .i64 (lbC n l a b)]) ∧ Below w.heap.size w w' := by
  have HR := Lib.hid hr
  have HW := Lib.hid hwf
  clear hr hwf
  go_enter Tryd.func25, Tryd.ntmps25
  go_wp2_with fail
  refine (l06Ledger_any n l HW.out A c _ hl HR.out).mono ?_
  rintro e w1 ⟨rfl, hb⟩
  have HB1 := Lib.hid hb
  clear hb
  cases hv : leOk n l
  · have E := Lib.hid (lb_bad (n := n) (l := l) (a := a) (b := b) (i := 5) (by rw [lbO, hv]; rfl))
    clear hv
    go_wp2
    go_ret2
    exact ⟨by (rw [E.out.1, E.out.2]; first | done | rfl), HB1.out⟩
  have HV := Lib.hid hv
  obtain ⟨⟨hn1, hn6⟩, hl80, hen⟩ := leOk_out hv
  have HEn := Lib.hid hen
  have hw1 : IntKind.i64.wrap (n - 1) = n - 1 := IntWalk.i64_in _ ⟨by omega, by omega⟩
  have hw2 : wrap64 (n - 1) = n - 1 := IntWalk.wrap64_in _ ⟨by omega, by omega⟩
  clear hv hen
  by_cases hh : a < 0
  · have E := Lib.hid (lb_bad (lb_range (a := a) (b := b) HV.out (by omega)))
    go_wp2
    go_ret2
    exact ⟨by (rw [E.out.1, E.out.2]; first | done | rfl), HB1.out⟩
  have hh0 : 0 ≤ a := by omega
  clear hh
  by_cases hh : n - 1 < a
  · have E := Lib.hid (lb_bad (lb_range (a := a) (b := b) HV.out (by omega)))
    go_wp2
    go_ret2
    exact ⟨by (rw [E.out.1, E.out.2]; first | done | rfl), HB1.out⟩
  have hh1 : a ≤ n - 1 := by omega
  clear hh
  by_cases hh : b < 0
  · have E := Lib.hid (lb_bad (lb_range (a := a) (b := b) HV.out (by omega)))
    go_wp2
    go_ret2
    exact ⟨by (rw [E.out.1, E.out.2]; first | done | rfl), HB1.out⟩
  have hh2 : 0 ≤ b := by omega
  clear hh
  by_cases hh : n - 1 < b
  · have E := Lib.hid (lb_bad (lb_range (a := a) (b := b) HV.out (by omega)))
    go_wp2
    go_ret2
    exact ⟨by (rw [E.out.1, E.out.2]; first | done | rfl), HB1.out⟩
  have hh3 : b ≤ n - 1 := by omega
  clear hh
  by_cases hh : a = b
  · have E := Lib.hid (lb_bad (lb_range (a := a) (b := b) HV.out (by omega)))
    have hbq : (a == b) = true := by simpa using hh
    go_wp2
    go_ret2
    exact ⟨by (rw [E.out.1, E.out.2]; first | done | rfl), HB1.out⟩
  have hbq : (a == b) = false := by simpa using hh
  have HAB := Lib.hid hh
  obtain ⟨h0, h1, -⟩ := lb_ok (lb_fine (a := a) (b := b) HV.out ⟨hh, ⟨hh0, hh1⟩, ⟨hh2, hh3⟩⟩)
  have E0 := Lib.hid h0
  have E1 := Lib.hid h1
  clear h0 h1 hh
  go_wp2
  go_loopw [10, 11] (fun s i wr => ∃ (k : Nat), k ≤ l.length ∧ i = .int .i64 k ∧ s = .int .i64 (lnT l a b k) ∧ Below w.heap.size w wr) (fun _ i _ => l.length - (intOf i).toNat)
  case atStart => exact ⟨0, by omega, rfl, rfl, HB1.out⟩
  case round =>
    clear HB1
    obtain ⟨k, hk, rfl, rfl, hB⟩ := hrel
    have HB := Lib.hid hB
    clear hB
    have hin := lnT_in (a := a) (b := b) HW.out k hk
    obtain ⟨S, hS⟩ : ∃ S, lnT l a b k = S := ⟨_, rfl⟩
    have HS := Lib.hid hS
    rw [hS] at hin ⊢
    clear hS
    have hk0 : (0 : Int) ≤ (k : Int) := Int.natCast_nonneg _
    by_cases hlt : k < l.length
    · obtain ⟨⟨dy, fr, to, wh, nu⟩, hx⟩ : ∃ x, l[k]? = some x := ⟨_, List.getElem?_eq_getElem hlt⟩
      obtain ⟨g, o, rfl, hbl, hrow⟩ := (HR.out.below (Nat.le_refl _) HB.out).at_ ecells_length hx
      obtain ⟨e0, e1, e2, e3, e4⟩ := rowE5 hrow
      simp only at e0 e1 e2 e3 e4
      have HSn : Hid (lnT l a b (k + 1) = S + ltD ⟨dy, fr, to, wh, nu⟩ a b) := by show _ = _; rw [lnT_succ hx, HS.out]
      have hnm := (nmE_ok (HEn.out _ (List.mem_of_getElem? hx)))
      have hwx := HW.out _ (List.mem_of_getElem? hx)
      obtain ⟨-, ⟨f0, f1⟩, ⟨t0, t1⟩, -, -⟩ := hwx
      obtain ⟨n0, n1, n2⟩ := hnm
      simp only at f0 f1 t0 t1 n0 n1 n2
      have x1 : IntKind.i64.wrap fr = fr := IntWalk.i64_in _ ⟨by omega, by omega⟩
      have x2 : wrap64 fr = fr := IntWalk.wrap64_in _ ⟨by omega, by omega⟩
      have x3 : IntKind.i64.wrap to = to := IntWalk.i64_in _ ⟨by omega, by omega⟩
      have x4 : wrap64 to = to := IntWalk.wrap64_in _ ⟨by omega, by omega⟩
      have x5 : IntKind.i64.wrap nu = nu := IntWalk.i64_in _ ⟨by omega, by omega⟩
      have x6 : wrap64 nu = nu := IntWalk.wrap64_in _ ⟨by omega, by omega⟩
      have y1 : IntKind.i64.wrap (S + nu) = S + nu := IntWalk.i64_in _ ⟨by omega, by omega⟩
      have y2 : wrap64 (S + nu) = S + nu := IntWalk.wrap64_in _ ⟨by omega, by omega⟩
      have y3 : IntKind.i64.wrap (S - nu) = S - nu := IntWalk.i64_in _ ⟨by omega, by omega⟩
      have y4 : wrap64 (S - nu) = S - nu := IntWalk.wrap64_in _ ⟨by omega, by omega⟩
      have HA : Hid (Below w.heap.size w (wr.alloc (.cells #[.int .i16 dy, .int .i8 fr, .int .i8 to, .int .u8 wh, .int .i16 nu] 71))) := HB.out.alloc HB.out.size _
      have hk8 : (k : Int) < l.length := by omega
      have HN0 := Lib.hid n0
      clear hx hrow hin f0 f1 t0 t1 n0 n1 n2
      by_cases hwh : wh = 2
      rotate_left
      · have E : Hid (lnT l a b (k + 1) = S) := by show _ = S; rw [HSn.out]; simp [ltD, ctN, hwh]
        have hb0 : (wh == 2) = false := by simpa using hwh
        clear hwh
        go_wp2
        go_roundw
        case rel => exact ⟨k + 1, by omega, by go_num, by rw [E.out], HA.out⟩
        case measure => simp [intOf]; omega
      subst hwh
      by_cases h1 : fr = a ∧ to = b
      · obtain ⟨h1, h2⟩ := h1
        have E : Hid (lnT l a b (k + 1) = S + nu) := by
          show _ = S + nu
          have c1 : ctN ⟨dy, fr, to, 2, nu⟩ a b = nu := by unfold ctN; rw [if_pos ⟨h1, h2⟩, if_pos rfl]; exact HN0.out
          have c2 : ctN ⟨dy, fr, to, 2, nu⟩ b a = 0 := by unfold ctN; rw [if_neg (fun h => HAB.out (h1.symm.trans h.1))]
          rw [HSn.out, ltD, c1, c2]; omega
        have g1 : a = fr := h1.symm
        have g2 : b = to := h2.symm
        clear h1 h2
        subst g1
        subst g2
        go_wp2
        go_roundw
        case rel => exact ⟨k + 1, by omega, by go_num, by rw [E.out], HA.out⟩
        case measure => simp [intOf]; omega
      by_cases h3 : fr = b ∧ to = a
      · obtain ⟨h3, h4⟩ := h3
        have E : Hid (lnT l a b (k + 1) = S - nu) := by
          show _ = S - nu
          have c1 : ctN ⟨dy, fr, to, 2, nu⟩ b a = nu := by unfold ctN; rw [if_pos ⟨h3, h4⟩, if_pos rfl]; exact HN0.out
          have c2 : ctN ⟨dy, fr, to, 2, nu⟩ a b = 0 := by unfold ctN; rw [if_neg (fun h => HAB.out (h.1.symm.trans h3))]
          rw [HSn.out, ltD, c1, c2]; omega
        have g1 : b = fr := h3.symm
        have g2 : a = to := h4.symm
        have hb1 : (b == a) = false := by simpa using (fun e => HAB.out e.symm)
        clear h1 h3 h4
        subst g1
        subst g2
        go_wp2
        go_roundw
        case rel => exact ⟨k + 1, by omega, by go_num, by rw [E.out], HA.out⟩
        case measure => simp [intOf]; omega
      · have E : Hid (lnT l a b (k + 1) = S) := by show _ = S; rw [HSn.out]; simp only [ltD, ctN, if_neg h1, if_neg h3]; omega
        by_cases q1 : fr = a
        · have q2 : (to == b) = false := by simpa using (fun e => h1 ⟨q1, e⟩)
          have g1 : a = fr := q1.symm
          clear h1 h3 q1
          subst g1
          go_wp2
          go_roundw
          case rel => exact ⟨k + 1, by omega, by go_num, by rw [E.out], HA.out⟩
          case measure => simp [intOf]; omega
        have q1b : (fr == a) = false := by simpa using q1
        by_cases q3 : fr = b
        · have q4 : (to == a) = false := by simpa using (fun e => h3 ⟨q3, e⟩)
          have g1 : b = fr := q3.symm
          clear h1 h3 q1 q3
          subst g1
          go_wp2
          go_roundw
          case rel => exact ⟨k + 1, by omega, by go_num, by rw [E.out], HA.out⟩
          case measure => simp [intOf]; omega
        have q3b : (fr == b) = false := by simpa using q3
        clear h1 h3 q1 q3
        go_wp2
        go_roundw
        case rel => exact ⟨k + 1, by omega, by go_num, by rw [E.out], HA.out⟩
        case measure => simp [intOf]; omega
    · obtain rfl : k = l.length := by omega
      go_wp2
      go_ret2
      exact ⟨by (rw [E1.out, HS.out, E0.out]; first | done | rfl), HB.out⟩

set_option maxRecDepth 100000 in
set_option maxHeartbeats 8000000 in
theorem implLent_any (n : Int) (l : List Ent) (hwf : ∀ x ∈ l, wfE x) (a b : Int) (ha : wfI a) (hb0 : wfI b) (A : Option Addr) (c : Nat) (ad : Nat → Addr) (w : World) (hl : l.length ≤ 1048576) (hr : Rd w w.heap.size ecells A l) (hE : EW 7 w ad) :
    Calls Tryd.prog 26 #[.int .i64 n, .slice A l.length c, .int .i64 a, .int .i64 b] w fun e w' => e = .returned (.tuple #[.int .i64 (lbN n l a b), .int .i64 (lbC n l a b)]) ∧ Below w.heap.size w w' := by
  have HR := Lib.hid hr
  have HW := Lib.hid hwf
  have HE := Lib.hid hE
  have HQa := Lib.hid ha
  have HQb := Lib.hid hb0
  have hA0 : Below w.heap.size w (w.alloc (.cells #[.slice A l.length c] 49)) := (Below.refl _ w).alloc (Nat.le_refl _) _
  have hc0 : (w.alloc (.cells #[.slice A l.length c] 49)).cell? ⟨w.heap.size, 0, none⟩ = some (.slice A l.length c) := (Blk.new w 49 #[.slice A l.length c]).cell 0
  have HCh := Lib.hid (checkLedgers1_any n l HW.out A c w.heap.size 1 ad _ hl hc0 (HR.out.keep hA0) (HE.out.below hA0 (Nat.le_refl _)))
  clear hr hwf hE ha hb0 hc0
  go_enter Tryd.func26, Tryd.ntmps26
  go_wp2_with fail
  refine HCh.out.mono ?_
  rintro e w1 ⟨rfl, hb⟩
  have HB1 : Hid (Below w.heap.size w w1) := hA0.trans (hb.mono hA0.size)
  clear hb hA0 HCh
  obtain ⟨v0, hv0⟩ : ∃ v, erO ad (chk 5 (leOk n l)) = v := ⟨_, rfl⟩
  have HV0 := Lib.hid hv0
  have P0 : Hid (isE v0) := by show isE v0; rw [← hv0]; exact erO_isE _ _
  rw [hv0]
  clear hv0
  have hA1 : Below w.heap.size w (w1.alloc (.cells #[.int .i64 a, .int .i64 b] 2)) := HB1.out.alloc HB1.out.size _
  have hrq := rd_int2 w1 a b 2
  have HCp := Lib.hid (checkParties_any n [a, b] (fun c hc => by
    simp only [List.mem_cons, List.not_mem_nil, or_false] at hc
    rcases hc with e | e
    · rw [e]; exact HQa.out
    · rw [e]; exact HQb.out) _ 2 ad _ (by simp) hrq (HE.out.below hA1 (Nat.le_refl _)))
  have HA1 := Lib.hid hA1
  clear hrq hA1
  go_wp2_with fail
  refine HCp.out.mono ?_
  rintro e w2 ⟨rfl, hb⟩
  have HB2 : Hid (Below w.heap.size w w2) := HA1.out.trans (hb.mono HA1.out.size)
  clear hb HA1 HCp
  obtain ⟨v1, hv1⟩ : ∃ v, erO ad (chk 0 (ptOk n [a, b])) = v := ⟨_, rfl⟩
  have HV1 := Lib.hid hv1
  have P1 : Hid (isE v1) := by show isE v1; rw [← hv1]; exact erO_isE _ _
  rw [hv1]
  clear hv1
  go_wp2_with (refine wpList_twoErrs rfl (.tmp 17) (.tmp 22) rfl P0.out P1.out rfl rfl ?_)
  have q0 := new_cell2 w2 v0 v1 59
  rw [← HV0.out, ← HV1.out] at q0 ⊢
  refine (firstErr2_O ad _ _ _ _ _ q0.1 q0.2).mono ?_
  rintro e w9 ⟨rfl, rfl⟩
  rw [HV0.out, HV1.out]
  have L2 : Below w.heap.size w (w2.alloc (.cells #[v0, v1] 59)) := HB2.out.alloc HB2.out.size _
  obtain ⟨w3, hw3⟩ : ∃ w3, w2.alloc (.cells #[v0, v1] 59) = w3 := ⟨_, rfl⟩
  rw [hw3] at L2 ⊢
  have M2 := Lib.hid L2
  rw [show firstO [chk 5 (leOk n l), chk 0 (ptOk n [a, b])] = lbO n l a b from rfl]
  clear q0 hw3 L2 HB1 HB2 HV0 HV1 P0 P1
  cases ho : lbO n l a b with
  | some i =>
    have hi : i < 7 := lbO_lt i ho
    have E := Lib.hid (lb_bad ho)
    have HIi := Lib.hid hi
    rw [erO_some]
    clear ho hi
    go_wp2_with fail
    refine (codeOf_O (HE.out.below M2.out (Nat.le_refl _)) i HIi.out).mono ?_
    rintro e w4 ⟨rfl, rfl⟩
    obtain ⟨cc, hcc⟩ : ∃ cc, cdN i = cc := ⟨_, rfl⟩
    have HCC := Lib.hid hcc
    rw [hcc]
    clear hcc
    go_wp2
    go_ret2
    exact ⟨by (rw [E.out.1, E.out.2, HCC.out]; first | done | rfl), M2.out⟩
  | none =>
  obtain ⟨h0, h1, hv⟩ := lb_ok ho
  have hl80 := (leOk_out hv).2.1
  have E0 := Lib.hid h0
  have E1 := Lib.hid h1
  rw [erO_none]
  clear ho h0 h1 hv
  go_wp2_with fail
  go_loopw [11, 31] (fun s i wr => ∃ (k : Nat), k ≤ l.length ∧ i = .int .i64 k ∧ s = .int .i64 (lnT l a b k) ∧ Below w.heap.size w wr) (fun _ i _ => l.length - (intOf i).toNat)
  case atStart => exact ⟨0, by omega, rfl, rfl, M2.out⟩
  case round =>
    clear M2
    obtain ⟨k, hk, rfl, rfl, hB⟩ := hrel
    have HB := Lib.hid hB
    clear hB
    have hin := lnT_in (a := a) (b := b) HW.out k hk
    obtain ⟨S, hS⟩ : ∃ S, lnT l a b k = S := ⟨_, rfl⟩
    have HS := Lib.hid hS
    rw [hS] at hin ⊢
    clear hS
    have hk0 : (0 : Int) ≤ (k : Int) := Int.natCast_nonneg _
    by_cases hlt : k < l.length
    · obtain ⟨x, hx⟩ : ∃ x, l[k]? = some x := ⟨_, List.getElem?_eq_getElem hlt⟩
      obtain ⟨g, o, rfl, hbl, hrow⟩ := (HR.out.below (Nat.le_refl _) HB.out).at_ ecells_length hx
      obtain ⟨e0, e1, e2, e3, e4⟩ := rowE5 hrow
      have HWx : Hid (wfE x) := HW.out _ (List.mem_of_getElem? hx)
      have i1 := ctN_in HWx.out a b
      have i2 := ctN_in HWx.out b a
      obtain ⟨p, hp⟩ : ∃ p, ctN x a b = p := ⟨_, rfl⟩
      obtain ⟨q, hq⟩ : ∃ q, ctN x b a = q := ⟨_, rfl⟩
      have HSn : Hid (lnT l a b (k + 1) = S + (p - q)) := by show _ = _; rw [lnT_succ hx, HS.out, ltD, hp, hq]
      have HC1 := Lib.hid hp
      have HC2 := Lib.hid hq
      rw [hp] at i1
      rw [hq] at i2
      have y1 : IntKind.i64.wrap (p - q) = p - q := IntWalk.i64_in _ ⟨by omega, by omega⟩
      have y2 : wrap64 (p - q) = p - q := IntWalk.wrap64_in _ ⟨by omega, by omega⟩
      have y3 : IntKind.i64.wrap (S + (p - q)) = S + (p - q) := IntWalk.i64_in _ ⟨by omega, by omega⟩
      have y4 : wrap64 (S + (p - q)) = S + (p - q) := IntWalk.wrap64_in _ ⟨by omega, by omega⟩
      obtain ⟨Wa, hWa⟩ : ∃ W, (wr.alloc (.cells #[.int .i16 x.dy, .int .i8 x.fr, .int .i8 x.to, .int .u8 x.wh, .int .i16 x.nu] 71)) = W := ⟨_, rfl⟩
      have HA : Hid (Below w.heap.size w Wa) := by show Below _ _ _; rw [← hWa]; exact HB.out.alloc HB.out.size _
      have hK1 : Blk Wa wr.heap.size 71 #[.int .i16 x.dy, .int .i8 x.fr, .int .i8 x.to, .int .u8 x.wh, .int .i16 x.nu] := by rw [← hWa]; exact Blk.new wr _ _
      have HKr : Hid (Wa.rangeAt wr.heap.size 0 (ecells x)) := fun j v hv => by rw [Nat.zero_add, hK1.cell]; simpa [ecells] using hv
      have hwa : Hid (wr.heap.size < Wa.heap.size) := hK1.lt
      have hk8 : (k : Int) < l.length := by omega
      clear hx hrow hin hK1 i1 i2 hp hq
      go_wp2_with fail
      clear hWa e0 e1 e2 e3 e4
      refine wp_region_held_drew (S := fun w' => Below Wa.heap.size Wa w') (by kernel_rfl) (Below.refl _ _).drew (fun hHeld => ?_)
      refine wpAnyH_take (i := 0) (v := .int .i64 S) rfl (by kernel_rfl) (by kernel_rfl) (by kernel_rfl) (fun _ _ _ h => h) (Or.inl ⟨by rfl, fun w' h => by go_simp⟩) (by assumption) ?_
      try simp only [Act.put, List.getElem_toArray, List.getElem_cons_zero, List.getElem_cons_succ, List.setIfInBounds_toArray, List.set_cons_zero, List.set_cons_succ]
      refine' wpAnyH_take (i := 1) (v := _) rfl (by kernel_rfl) (by kernel_rfl) (by kernel_rfl) (fun _ _ _ h => h) (yieldsIf_load_mid (by rfl) 71 (.tmp 13) rfl wr.heap.size (0) rfl (ecells x) _ (fun w' h => fun j v hv => (rangeAt_below HKr.out h hwa.out) j v hv) Tryd.underlying71 rfl Tryd.sizeEI) (by assumption) ?_
      try simp only [Act.put, List.getElem_toArray, List.getElem_cons_zero, List.getElem_cons_succ, List.setIfInBounds_toArray, List.set_cons_zero, List.set_cons_succ]
      refine' wpAnyH_take (i := 5) (v := _) rfl (by kernel_rfl) (by kernel_rfl) (by kernel_rfl) (fun _ _ _ h => h) (yieldsIf_load_mid (by rfl) 71 (.tmp 13) rfl wr.heap.size (0) rfl (ecells x) _ (fun w' h => fun j v hv => (rangeAt_below HKr.out h hwa.out) j v hv) Tryd.underlying71 rfl Tryd.sizeEI) (by assumption) ?_
      try simp only [Act.put, List.getElem_toArray, List.getElem_cons_zero, List.getElem_cons_succ, List.setIfInBounds_toArray, List.set_cons_zero, List.set_cons_succ]
      refine wpAnyH_take (i := 2) (v := .int .i64 a) rfl (by kernel_rfl) (by kernel_rfl) (by kernel_rfl) (fun _ _ _ h => h) (Or.inl ⟨by rfl, fun w' h => by go_simp⟩) (by assumption) ?_
      try simp only [Act.put, List.getElem_toArray, List.getElem_cons_zero, List.getElem_cons_succ, List.setIfInBounds_toArray, List.set_cons_zero, List.set_cons_succ]
      refine wpAnyH_take (i := 3) (v := .int .i64 b) rfl (by kernel_rfl) (by kernel_rfl) (by kernel_rfl) (fun _ _ _ h => h) (Or.inl ⟨by rfl, fun w' h => by go_simp⟩) (by assumption) ?_
      try simp only [Act.put, List.getElem_toArray, List.getElem_cons_zero, List.getElem_cons_succ, List.setIfInBounds_toArray, List.set_cons_zero, List.set_cons_succ]
      refine wpAnyH_take (i := 6) (v := .int .i64 b) rfl (by kernel_rfl) (by kernel_rfl) (by kernel_rfl) (fun _ _ _ h => h) (Or.inl ⟨by rfl, fun w' h => by go_simp⟩) (by assumption) ?_
      try simp only [Act.put, List.getElem_toArray, List.getElem_cons_zero, List.getElem_cons_succ, List.setIfInBounds_toArray, List.set_cons_zero, List.set_cons_succ]
      refine wpAnyH_take (i := 7) (v := .int .i64 a) rfl (by kernel_rfl) (by kernel_rfl) (by kernel_rfl) (fun _ _ _ h => h) (Or.inl ⟨by rfl, fun w' h => by go_simp⟩) (by assumption) ?_
      try simp only [Act.put, List.getElem_toArray, List.getElem_cons_zero, List.getElem_cons_succ, List.setIfInBounds_toArray, List.set_cons_zero, List.set_cons_succ]
      obtain ⟨D0, hD0⟩ : ∃ D0, Wa.drew = D0 := ⟨_, rfl⟩
      rw [hD0] at hHeld ⊢
      clear hD0
      refine wpAnyH_ready (rs := [4]) (by kernel_rfl) (by simp) ?_
      refine AllReadyH.cons rfl (fun K hK => ?_) AllReadyH.nil
      refine if_wanted rfl ?_
      go_simp
      refine (cratesTo_any x HWx.out a b _).mono ?_
      rintro e z1 ⟨rfl, hb⟩
      have hH2 : Below Wa.heap.size Wa z1 := hHeld.trans (hb.mono hHeld.size)
      rw [HC1.out]
      clear hb hHeld
      dsimp only
      refine hK.out _ _ hH2 (fun hHeld => ?_)
      clear hK K hH2
      try simp only [Act.put, List.getElem_toArray, List.getElem_cons_zero, List.getElem_cons_succ, List.setIfInBounds_toArray, List.set_cons_zero, List.set_cons_succ]
      refine wpAnyH_ready (rs := [8]) (by kernel_rfl) (by simp) ?_
      refine AllReadyH.cons rfl (fun K hK => ?_) AllReadyH.nil
      refine if_wanted rfl ?_
      go_simp
      refine (cratesTo_any x HWx.out b a _).mono ?_
      rintro e z2 ⟨rfl, hb⟩
      have hH2 : Below Wa.heap.size Wa z2 := hHeld.trans (hb.mono hHeld.size)
      rw [HC2.out]
      clear hb hHeld
      dsimp only
      refine hK.out _ _ hH2 (fun hHeld => ?_)
      clear hK K hH2
      try simp only [Act.put, List.getElem_toArray, List.getElem_cons_zero, List.getElem_cons_succ, List.setIfInBounds_toArray, List.set_cons_zero, List.set_cons_succ]
      refine wpAnyH_take (i := 9) (v := .int .i64 (p - q)) rfl (by kernel_rfl) (by kernel_rfl) (by kernel_rfl) (fun _ _ _ h => h) (Or.inl ⟨by rfl, fun w' h => by go_simp⟩) (by assumption) ?_
      try simp only [Act.put, List.getElem_toArray, List.getElem_cons_zero, List.getElem_cons_succ, List.setIfInBounds_toArray, List.set_cons_zero, List.set_cons_succ]
      refine wpAnyH_take (i := 10) (v := .int .i64 (S + (p - q))) rfl (by kernel_rfl) (by kernel_rfl) (by kernel_rfl) (fun _ _ _ h => h) (Or.inl ⟨by rfl, fun w' h => by go_simp⟩) (by assumption) ?_
      try simp only [Act.put, List.getElem_toArray, List.getElem_cons_zero, List.getElem_cons_succ, List.setIfInBounds_toArray, List.set_cons_zero, List.set_cons_succ]
      refine wpAnyH_ready (rs := [11]) (by kernel_rfl) (by simp) ?_
      refine AllReadyH.cons rfl (fun K hK => ?_) AllReadyH.nil
      refine if_wanted rfl ?_
      refine wp_assign0 (v := .int .i64 (S + (p - q))) rfl rfl ?_
      refine hK.out _ _ hHeld (fun hHeld => ?_)
      clear hK K
      try simp only [Act.put, List.getElem_toArray, List.getElem_cons_zero, List.getElem_cons_succ, List.setIfInBounds_toArray, List.set_cons_zero, List.set_cons_succ]
      refine wpAnyH_done (by kernel_rfl) ?_ _
      try simp only [Act.put, List.getElem_toArray, List.getElem_cons_zero, List.getElem_cons_succ, List.setIfInBounds_toArray, List.set_cons_zero, List.set_cons_succ]
      have hb := hHeld
      clear hHeld
      have HB2 : Hid (Below w.heap.size w z2) := HA.out.trans (hb.mono HA.out.size)
      clear hb
      go_wp2
      go_roundw
      case rel => exact ⟨k + 1, by omega, by go_num, by rw [HSn.out], HB2.out⟩
      case measure => simp [intOf]; omega
    · obtain rfl : k = l.length := by omega
      go_wp2
      go_ret2
      exact ⟨by (rw [E1.out, HS.out, E0.out]; first | done | rfl), HB.out⟩
end Go.Proofs.YtjgafdfffmfhhabDoor
