/-
  PartOfLedger: the contracts, of the model and of the program. Condition: numbers fit their kinds; the sentinel errors lie as the row lists them (the program's).
-/
import Derived.Test.YtjgafdfffmfhhacDoorIx
namespace Go.Proofs.YtjgafdfffmfhhacDoor
open Go.ChangeShapes Go.WideShapes Go.ChangeAt Go.RowKit Go.Deep

theorem rd_int1 (w : World) (q : Int) (t : TypeId) : Rd (w.alloc (.cells #[.int .i64 q] t)) (w.alloc (.cells #[.int .i64 q] t)).heap.size icells (some ⟨w.heap.size, 0, none⟩) [q] := fun _ => ⟨w.heap.size, 0, rfl, by simp, fun j v hv => by
  rw [Nat.zero_add, (Blk.new w t #[.int .i64 q]).cell]; simpa [icells] using hv⟩
theorem rd_int2 (w : World) (a b : Int) (t : TypeId) : Rd (w.alloc (.cells #[.int .i64 a, .int .i64 b] t)) (w.alloc (.cells #[.int .i64 a, .int .i64 b] t)).heap.size icells (some ⟨w.heap.size, 0, none⟩) [a, b] := fun _ => ⟨w.heap.size, 0, rfl, by simp, fun j v hv => by
  rw [Nat.zero_add, (Blk.new w t #[.int .i64 a, .int .i64 b]).cell]; simpa [icells] using hv⟩
theorem cell_ent_new (W : World) (a b c d e : Int) (t : TypeId) : ∀ (j : Nat) (y : Value), [Value.int .i16 a, .int .i8 b, .int .i8 c, .int .u8 d, .int .i16 e][j]? = some y → (W.alloc (.cells #[.int .i16 a, .int .i8 b, .int .i8 c, .int .u8 d, .int .i16 e] t)).cell? ((⟨W.heap.size, 0, none⟩ : Addr).add j) = some y := by
  intro j y h
  have := (Blk.new W t #[.int .i16 a, .int .i8 b, .int .i8 c, .int .u8 d, .int .i16 e]).cell j
  have e2 : (⟨W.heap.size, 0, none⟩ : Addr).add j = ⟨W.heap.size, j, none⟩ := by cases j <;> simp [Addr.add]
  rw [e2]
  rw [this]; simpa using h
theorem ent_one (a b c d e : Int) : ∀ v ∈ [Value.int .i16 a, .int .i8 b, .int .i8 c, .int .u8 d, .int .i16 e], v.oneCell' = true := by
  intro v hv
  simp only [List.mem_cons, List.not_mem_nil, or_false] at hv
  rcases hv with rfl | rfl | rfl | rfl | rfl <;> rfl
theorem nil_ownE (w : World) (b : Nat) : w.ownsRow b 49 5 (.slice none 0 0) ([] : List Ent).length (([] : List Ent).flatMap ecells) := ⟨rfl, .inl ⟨rfl, rfl⟩⟩
theorem empty_ownE (w : World) (b : Nat) (hb : b ≤ w.heap.size) : (w.alloc (.cells #[] 49)).ownsRow b 49 5 (.slice (some ⟨w.heap.size, 0, none⟩) 0 0) ([] : List Ent).length (([] : List Ent).flatMap ecells) :=
  ⟨rfl, .inr ⟨w.heap.size, 0, #[], rfl, hb, heap_alloc_new w _, Nat.le_refl _, by unfold maxLen; omega, by simp, by simp⟩⟩

def prT (l : List Ent) (q : Int) (k : Nat) : List Ent := (l.take k).filter fun e => decide (e.fr = q) || decide (e.to = q)
theorem prT_len (l : List Ent) (q : Int) (k : Nat) : (prT l q k).length ≤ k := Nat.le_trans (List.length_filter_le _ _) (by rw [List.length_take]; omega)
theorem prT_yes {l : List Ent} {q : Int} {k : Nat} {x : Ent} (h : l[k]? = some x) (hx : (decide (x.fr = q) || decide (x.to = q)) = true) : prT l q (k + 1) = prT l q k ++ [x] := by
  obtain ⟨hlt, he⟩ := List.getElem?_eq_some_iff.1 h
  rw [prT, List.take_succ_eq_append_getElem hlt, he, List.filter_append, prT]; simp [hx]
theorem prT_no {l : List Ent} {q : Int} {k : Nat} {x : Ent} (h : l[k]? = some x) (hx : (decide (x.fr = q) || decide (x.to = q)) = false) : prT l q (k + 1) = prT l q k := by
  obtain ⟨hlt, he⟩ := List.getElem?_eq_some_iff.1 h
  rw [prT, List.take_succ_eq_append_getElem hlt, he, List.filter_append, prT]; simp [hx]
def plO (n : Int) (l : List Ent) (q : Int) : Option Nat := firstO [chk 5 (leOk n l), chk 0 (ptOk n [q])]
theorem plO_lt {n : Int} {l : List Ent} {q : Int} : ∀ i, plO n l q = some i → i < 7 := by
  refine firstO_lt ?_
  simp only [List.mem_cons, List.not_mem_nil, or_false]
  rintro o (rfl | rfl) <;> exact chk_lt (by omega)
def plC (n : Int) (l : List Ent) (q : Int) : Int := cdO (plO n l q)
def plL (n : Int) (l : List Ent) (q : Int) : List Ent := if plC n l q = 0 then prT l q l.length else []
theorem pl_bad {n : Int} {l : List Ent} {q : Int} {i : Nat} (h : plO n l q = some i) : plC n l q = cdN i ∧ plL n l q = [] := by
  have h1 : plC n l q = cdN i := by rw [plC, h]; rfl
  exact ⟨h1, by rw [plL, if_neg (by rw [h1]; exact cdN_ne)]⟩
theorem pl_ok {n : Int} {l : List Ent} {q : Int} (h : plO n l q = none) : plC n l q = 0 ∧ plL n l q = prT l q l.length ∧ leOk n l = true := by
  have h1 : plC n l q = 0 := by rw [plC, h]; rfl
  refine ⟨h1, by rw [plL, if_pos h1], ?_⟩
  cases hl : leOk n l
  · rw [plO, hl] at h; cases h
  · rfl
theorem plL_len (n : Int) (l : List Ent) (q : Int) : (plL n l q).length ≤ 80 := by
  cases h : plO n l q with
  | none =>
    obtain ⟨-, h2, h3⟩ := pl_ok h
    rw [h2]; have := prT_len l q l.length; have := (leOk_out h3).2.1; omega
  | some i => rw [(pl_bad h).2]; simp

set_option maxRecDepth 100000 in
set_option maxHeartbeats 4000000 in
theorem specPart_any (n : Int) (l : List Ent) (hwf : ∀ x ∈ l, wfE x) (q : Int) (A : Option Addr) (c : Nat) (w : World) (hl : l.length ≤ 1048576) (hr : Rd w w.heap.size ecells A l) :
    Calls Tryd.prog 8 #[.int .i64 n, .slice A l.length c, .int .i64 q] w fun e w' => ∃ v, e = .returned (.tuple #[v, .int .i64 (plC n l q)]) ∧ w'.ownsRow w.heap.size 49 5 v (plL n l q).length ((plL n l q).flatMap ecells) ∧ Below w.heap.size w w' := by
  obtain ⟨i0, hi, hz0, hz1, hz2⟩ := info_parts Tryd.infoEI
  have HI := Lib.hid hi
  have HZ0 := Lib.hid hz0
  have HZ1 := Lib.hid hz1
  have HZ2 := Lib.hid hz2
  clear hi hz0 hz1 hz2
  have HR0 := Lib.hid hr
  have HW := Lib.hid hwf
  clear hr hwf
  go_enter Tryd.func8, Tryd.ntmps8
  go_wp2_with fail
  refine (l06Ledger_any n l HW.out A c _ hl HR0.out).mono ?_
  rintro e w1 ⟨rfl, hb⟩
  have HB0 := Lib.hid hb
  clear hb
  cases hv : leOk n l
  · have E := Lib.hid (pl_bad (n := n) (l := l) (q := q) (i := 5) (by rw [plO, hv]; rfl))
    clear hv
    go_wp2
    go_ret2
    refine ⟨_, by (rw [E.out.1]; first | done | rfl), ?_, HB0.out.alloc HB0.out.size _⟩
    rw [E.out.2]
    exact empty_ownE _ _ HB0.out.size
  have HV := Lib.hid hv
  obtain ⟨⟨hn1, hn6⟩, hl80, -⟩ := leOk_out hv
  have hw1 : IntKind.i64.wrap (n - 1) = n - 1 := IntWalk.i64_in _ ⟨by omega, by omega⟩
  have hw2 : wrap64 (n - 1) = n - 1 := IntWalk.wrap64_in _ ⟨by omega, by omega⟩
  clear hv
  go_wp2_with fail
  refine (l00In_any _ _ _ _).mono ?_
  rintro e w2 ⟨rfl, rfl⟩
  rw [show (decide ((0 : Int) ≤ q) && decide (q ≤ n - 1)) = wi 0 (n - 1) q from rfl]
  cases hi : wi 0 (n - 1) q
  · have E := Lib.hid (pl_bad (n := n) (l := l) (q := q) (i := 0) (by rw [plO, HV.out, ptOk_one, hi]; rfl))
    clear hi
    go_wp2
    go_ret2
    refine ⟨_, by (rw [E.out.1]; first | done | rfl), ?_, HB0.out.alloc HB0.out.size _⟩
    rw [E.out.2]
    exact empty_ownE _ _ HB0.out.size
  obtain ⟨h0, h1, -⟩ := pl_ok (n := n) (l := l) (q := q) (by rw [plO, HV.out, ptOk_one, hi]; rfl)
  have E0 := Lib.hid h0
  have E1 := Lib.hid h1
  have HR : Hid (Rd w w.heap.size ecells A l) := HR0.out
  have HBS : Hid (w.heap.size ≤ w.heap.size) := Nat.le_refl _
  have HB1 : Hid (Below w.heap.size w (w1.alloc (.cells #[] 49))) := HB0.out.alloc HB0.out.size _
  have HO1 : Hid ((w1.alloc (.cells #[] 49)).ownsRow w.heap.size 49 5 (.slice (some ⟨w1.heap.size, 0, none⟩) 0 0) ([] : List Ent).length (([] : List Ent).flatMap ecells)) := empty_ownE w1 _ HB0.out.size
  have HZ1b : Hid (w.heap.size ≤ (w1.alloc (.cells #[] 49)).heap.size) := HB1.out.size
  clear hi h0 h1
  go_wp2_with fail
  go_loopw [8, 9] (fun v i wr => ∃ (k : Nat) (A1 : Option Addr) (c1 : Nat), k ≤ l.length ∧ i = .int .i64 k ∧ v = .slice A1 (prT l q k).length c1 ∧ wr.ownsRow w.heap.size 49 5 (.slice A1 (prT l q k).length c1) (prT l q k).length ((prT l q k).flatMap ecells) ∧ Below w.heap.size w wr ∧ w.heap.size ≤ wr.heap.size)
    (fun _ i _ => l.length - (intOf i).toNat)
  case atStart => exact ⟨0, _, _, by omega, rfl, rfl, HO1.out, HB1.out, HZ1b.out⟩
  case round =>
    clear HO1 HB1 HZ1b
    obtain ⟨k, A1, c1, hk, rfl, rfl, hO, hB, hbs⟩ := hrel
    have HO := Lib.hid hO
    have HB := Lib.hid hB
    clear hO hB
    have hk0 : (0 : Int) ≤ (k : Int) := Int.natCast_nonneg _
    have hmk := prT_len l q k
    obtain ⟨L, hL⟩ : ∃ L, (prT l q k).length = L := ⟨_, rfl⟩
    have HL := Lib.hid hL
    rw [hL] at HO ⊢
    have hLk : L ≤ k := by rw [← hL]; exact hmk
    clear hL hmk
    by_cases hlt : k < l.length
    · obtain ⟨⟨dy, fr, to, wh, nu⟩, hx⟩ : ∃ x, l[k]? = some x := ⟨_, List.getElem?_eq_getElem hlt⟩
      obtain ⟨b, o, rfl, hbl, hrow⟩ := (HR.out.below (Nat.le_refl _) HB.out).at_ ecells_length hx
      obtain ⟨e0, e1, e2, e3, e4⟩ := rowE5 hrow
      simp only at e0 e1 e2 e3 e4
      have HX := Lib.hid hx
      have hwx := HW.out _ (List.mem_of_getElem? hx)
      obtain ⟨-, ⟨f0, f1⟩, ⟨t0, t1⟩, -, -⟩ := hwx
      simp only at f0 f1 t0 t1
      have x1 : IntKind.i64.wrap fr = fr := IntWalk.i64_in _ ⟨by omega, by omega⟩
      have x2 : wrap64 fr = fr := IntWalk.wrap64_in _ ⟨by omega, by omega⟩
      have x3 : IntKind.i64.wrap to = to := IntWalk.i64_in _ ⟨by omega, by omega⟩
      have x4 : wrap64 to = to := IntWalk.wrap64_in _ ⟨by omega, by omega⟩
      have hk8 : (k : Int) < l.length := by omega
      clear hx hrow
      by_cases hfr : fr = q
      · have HSt : Hid (prT l q (k + 1) = prT l q k ++ [⟨dy, fr, to, wh, nu⟩]) := prT_yes HX.out (by simp [hfr])
        have hb1 : (fr == q) = true := by simpa using hfr
        clear hfr
        go_wp2_with (at_builtin; refine wpList_append_own _ rfl (.tmp 46) (.tmp 51) 24 rfl w.heap.size 49 i0 (.agg #[.int .i16 0, .int .i8 0, .int .i8 0, .int .u8 0, .int .i16 0]) 5 8 Tryd.underlying24 HI.out HZ0.out HZ1.out HZ2.out rfl (by decide) _ _ _ rfl (HO.out.alloc _) ⟨wr.heap.size, 0, none⟩ 1 1 [.int .i16 dy, .int .i8 fr, .int .i8 to, .int .u8 wh, .int .i16 nu] rfl rfl ?c1 ?c2 ?c3 ?c4 ?c5 ?_)
        case c1 => exact cell_ent_new _ _ _ _ _ _ _
        case c2 => exact ent_one _ _ _ _ _
        case c3 => unfold maxLen; omega
        case c4 => omega
        case c5 => simp; omega
        intro v' w8 hown' hgrow _
        have hown8 : w8.ownsRow w.heap.size 49 5 v' (prT l q (k + 1)).length ((prT l q (k + 1)).flatMap ecells) := by rw [HSt.out, List.length_append, List.flatMap_append, HL.out]; exact hown'
        obtain ⟨A8, c8, rfl, -, -⟩ := own_rd ecells_length hown8
        have HO8 := Lib.hid hown8
        have HB8 : Hid (Below w.heap.size w w8) := (HB.out.alloc HB.out.size _).grown hgrow (by have := HB.out.size; simp; omega) (fun r e => Nat.le_trans HBS.out (HO.out.lt r e).1)
        have HZ8 : Hid (w.heap.size ≤ w8.heap.size) := by show _ ≤ _; have := hgrow.size; simp at this; omega
        clear hown' hgrow hown8
        go_wp2
        go_roundw
        case rel => exact ⟨k + 1, A8, c8, by omega, by go_num, rfl, HO8.out, HB8.out, HZ8.out⟩
        case measure => simp [intOf]; omega
      have hb1 : (fr == q) = false := by simpa using hfr
      by_cases hto : to = q
      · have HSt : Hid (prT l q (k + 1) = prT l q k ++ [⟨dy, fr, to, wh, nu⟩]) := prT_yes HX.out (by simp [hto])
        have hb2 : (to == q) = true := by simpa using hto
        clear hfr hto
        go_wp2_with (at_builtin; refine wpList_append_own _ rfl (.tmp 46) (.tmp 51) 24 rfl w.heap.size 49 i0 (.agg #[.int .i16 0, .int .i8 0, .int .i8 0, .int .u8 0, .int .i16 0]) 5 8 Tryd.underlying24 HI.out HZ0.out HZ1.out HZ2.out rfl (by decide) _ _ _ rfl (HO.out.alloc _) ⟨wr.heap.size, 0, none⟩ 1 1 [.int .i16 dy, .int .i8 fr, .int .i8 to, .int .u8 wh, .int .i16 nu] rfl rfl ?c1 ?c2 ?c3 ?c4 ?c5 ?_)
        case c1 => exact cell_ent_new _ _ _ _ _ _ _
        case c2 => exact ent_one _ _ _ _ _
        case c3 => unfold maxLen; omega
        case c4 => omega
        case c5 => simp; omega
        intro v' w8 hown' hgrow _
        have hown8 : w8.ownsRow w.heap.size 49 5 v' (prT l q (k + 1)).length ((prT l q (k + 1)).flatMap ecells) := by rw [HSt.out, List.length_append, List.flatMap_append, HL.out]; exact hown'
        obtain ⟨A8, c8, rfl, -, -⟩ := own_rd ecells_length hown8
        have HO8 := Lib.hid hown8
        have HB8 : Hid (Below w.heap.size w w8) := (HB.out.alloc HB.out.size _).grown hgrow (by have := HB.out.size; simp; omega) (fun r e => Nat.le_trans HBS.out (HO.out.lt r e).1)
        have HZ8 : Hid (w.heap.size ≤ w8.heap.size) := by show _ ≤ _; have := hgrow.size; simp at this; omega
        clear hown' hgrow hown8
        go_wp2
        go_roundw
        case rel => exact ⟨k + 1, A8, c8, by omega, by go_num, rfl, HO8.out, HB8.out, HZ8.out⟩
        case measure => simp [intOf]; omega
      · have HSt : Hid (prT l q (k + 1) = prT l q k) := prT_no HX.out (by simp [hfr, hto])
        have hb2 : (to == q) = false := by simpa using hto
        clear hfr hto
        go_wp2
        go_roundw
        case rel => exact ⟨k + 1, A1, c1, by omega, by go_num, by rw [HSt.out, HL.out], by rw [HSt.out, HL.out]; exact HO.out, HB.out, hbs⟩
        case measure => simp [intOf]; omega
    · obtain rfl : k = l.length := by omega
      go_wp2
      go_ret2
      refine ⟨_, by (rw [E0.out]; first | done | rfl), ?_, HB.out⟩
      rw [E1.out, HL.out]
      exact HO.out

set_option maxRecDepth 100000 in
set_option maxHeartbeats 4000000 in
theorem implPart_any (n : Int) (l : List Ent) (hwf : ∀ x ∈ l, wfE x) (q : Int) (hq : wfI q) (A : Option Addr) (c : Nat) (ad : Nat → Addr) (w : World) (hl : l.length ≤ 1048576) (hr : Rd w w.heap.size ecells A l) (hE : EW 7 w ad) :
    Calls Tryd.prog 10 #[.int .i64 n, .slice A l.length c, .int .i64 q] w fun e w' => ∃ v, e = .returned (.tuple #[v, .int .i64 (plC n l q)]) ∧ w'.ownsRow w.heap.size 49 5 v (plL n l q).length ((plL n l q).flatMap ecells) ∧ Below w.heap.size w w' := by
  obtain ⟨i0, hi, hz0, hz1, hz2⟩ := info_parts Tryd.infoEI
  have HI := Lib.hid hi
  have HZ0 := Lib.hid hz0
  have HZ1 := Lib.hid hz1
  have HZ2 := Lib.hid hz2
  clear hi hz0 hz1 hz2
  have HR := Lib.hid hr
  have HW := Lib.hid hwf
  have HE := Lib.hid hE
  have HQ := Lib.hid hq
  have hA0 : Below w.heap.size w (w.alloc (.cells #[.slice A l.length c] 24)) := (Below.refl _ w).alloc (Nat.le_refl _) _
  have hc0 : (w.alloc (.cells #[.slice A l.length c] 24)).cell? ⟨w.heap.size, 0, none⟩ = some (.slice A l.length c) := (Blk.new w 24 #[.slice A l.length c]).cell 0
  have HCh := Lib.hid (checkLedgers1_any n l HW.out A c w.heap.size 1 ad _ hl hc0 (HR.out.keep hA0) (HE.out.below hA0 (Nat.le_refl _)))
  clear hr hwf hE hq hc0
  go_enter Tryd.func10, Tryd.ntmps10
  go_wp2_with fail
  refine HCh.out.mono ?_
  rintro e w1 ⟨rfl, hb⟩
  have HB1 : Hid (Below w.heap.size w w1) := hA0.trans (hb.mono hA0.size)
  clear hb hA0 HCh
  obtain ⟨v0, hv0⟩ : ∃ v, erO ad (chk 5 (leOk n l)) = v := ⟨_, rfl⟩
  have HV0 := Lib.hid hv0
  have P0 : Hid (isE v0) := by show isE v0; rw [← hv0]; exact erO_isE _ _
  rw [hv0]
  clear hv0
  have hA1 : Below w.heap.size w (w1.alloc (.cells #[.int .i64 q] 2)) := HB1.out.alloc HB1.out.size _
  have hrq : Rd (w1.alloc (.cells #[.int .i64 q] 2)) (w1.alloc (.cells #[.int .i64 q] 2)).heap.size icells (some ⟨w1.heap.size, 0, none⟩) [q] := rd_int1 w1 q 2
  have HCp := Lib.hid (checkParties_any n [q] (fun c hc => by rw [List.mem_singleton.1 hc]; exact HQ.out) _ 1 ad _ (by simp) hrq (HE.out.below hA1 (Nat.le_refl _)))
  have HA1 := Lib.hid hA1
  clear hrq hA1
  go_wp2_with fail
  refine HCp.out.mono ?_
  rintro e w2 ⟨rfl, hb⟩
  have HB2 : Hid (Below w.heap.size w w2) := HA1.out.trans (hb.mono HA1.out.size)
  clear hb HA1 HCp
  obtain ⟨v1, hv1⟩ : ∃ v, erO ad (chk 0 (ptOk n [q])) = v := ⟨_, rfl⟩
  have HV1 := Lib.hid hv1
  have P1 : Hid (isE v1) := by show isE v1; rw [← hv1]; exact erO_isE _ _
  rw [hv1]
  clear hv1
  go_wp2_with (refine wpList_twoErrs rfl (.tmp 15) (.tmp 19) rfl P0.out P1.out rfl rfl ?_)
  have q0 := new_cell2 w2 v0 v1 57
  rw [← HV0.out, ← HV1.out] at q0 ⊢
  refine (firstErr2_O ad _ _ _ _ _ q0.1 q0.2).mono ?_
  rintro e w9 ⟨rfl, rfl⟩
  rw [HV0.out, HV1.out]
  have L2 : Below w.heap.size w (w2.alloc (.cells #[v0, v1] 57)) := HB2.out.alloc HB2.out.size _
  obtain ⟨w3, hw3⟩ : ∃ w3, w2.alloc (.cells #[v0, v1] 57) = w3 := ⟨_, rfl⟩
  rw [hw3] at L2 ⊢
  have M2 := Lib.hid L2
  rw [show firstO [chk 5 (leOk n l), chk 0 (ptOk n [q])] = plO n l q from rfl]
  clear q0 hw3 L2 HB2 HV0 HV1 P0 P1
  cases ho : plO n l q with
  | some i =>
    have hi : i < 7 := plO_lt i ho
    have E := Lib.hid (pl_bad ho)
    have HIi := Lib.hid hi
    rw [erO_some]
    clear ho hi
    go_wp2_with fail
    refine (codeOf_O (HE.out.below M2.out (Nat.le_refl _)) i HIi.out).mono ?_
    rintro e w4 ⟨rfl, rfl⟩
    obtain ⟨cc, hcc⟩ : ∃ cc, cdN i = cc := ⟨_, rfl⟩
    have HCC := Lib.hid hcc
    rw [hcc]
    clear hcc
    go_wp2
    go_ret2
    refine ⟨_, by (rw [E.out.1, HCC.out]; first | done | rfl), ?_, M2.out⟩
    rw [E.out.2]
    exact nil_ownE _ _
  | none =>
  obtain ⟨h0, h1, hv⟩ := pl_ok ho
  have hl80 := (leOk_out hv).2.1
  have E0 := Lib.hid h0
  have E1 := Lib.hid h1
  have HBS : Hid (w.heap.size ≤ w3.heap.size) := M2.out.size
  have HO1 : Hid (w3.ownsRow w3.heap.size 49 5 (.slice none 0 0) ([] : List Ent).length (([] : List Ent).flatMap ecells)) := nil_ownE _ _
  have HZ1b : Hid (w3.heap.size ≤ w3.heap.size) := Nat.le_refl _
  clear HB1
  have HB1 : Hid (Below w.heap.size w w3) := M2.out
  rw [erO_none]
  clear ho h0 h1 hv
  go_wp2_with fail
  go_loopw [9, 28] (fun v i wr => ∃ (k : Nat) (A1 : Option Addr) (c1 : Nat), k ≤ l.length ∧ i = .int .i64 k ∧ v = .slice A1 (prT l q k).length c1 ∧ wr.ownsRow w3.heap.size 49 5 (.slice A1 (prT l q k).length c1) (prT l q k).length ((prT l q k).flatMap ecells) ∧ Below w.heap.size w wr ∧ w3.heap.size ≤ wr.heap.size)
    (fun _ i _ => l.length - (intOf i).toNat)
  case atStart => exact ⟨0, _, _, by omega, rfl, rfl, HO1.out, HB1.out, HZ1b.out⟩
  case round =>
    clear HO1 HB1 HZ1b
    obtain ⟨k, A1, c1, hk, rfl, rfl, hO, hB, hbs⟩ := hrel
    have HO := Lib.hid hO
    have HB := Lib.hid hB
    clear hO hB
    have hk0 : (0 : Int) ≤ (k : Int) := Int.natCast_nonneg _
    have hmk := prT_len l q k
    obtain ⟨L, hL⟩ : ∃ L, (prT l q k).length = L := ⟨_, rfl⟩
    have HL := Lib.hid hL
    rw [hL] at HO ⊢
    have hLk : L ≤ k := by rw [← hL]; exact hmk
    clear hL hmk
    by_cases hlt : k < l.length
    · obtain ⟨⟨dy, fr, to, wh, nu⟩, hx⟩ : ∃ x, l[k]? = some x := ⟨_, List.getElem?_eq_getElem hlt⟩
      obtain ⟨b, o, rfl, hbl, hrow⟩ := (HR.out.below (Nat.le_refl _) HB.out).at_ ecells_length hx
      obtain ⟨e0, e1, e2, e3, e4⟩ := rowE5 hrow
      simp only at e0 e1 e2 e3 e4
      have HX := Lib.hid hx
      have hwx := HW.out _ (List.mem_of_getElem? hx)
      obtain ⟨-, ⟨f0, f1⟩, ⟨t0, t1⟩, -, -⟩ := hwx
      simp only at f0 f1 t0 t1
      have x1 : IntKind.i64.wrap fr = fr := IntWalk.i64_in _ ⟨by omega, by omega⟩
      have x2 : wrap64 fr = fr := IntWalk.wrap64_in _ ⟨by omega, by omega⟩
      have x3 : IntKind.i64.wrap to = to := IntWalk.i64_in _ ⟨by omega, by omega⟩
      have x4 : wrap64 to = to := IntWalk.wrap64_in _ ⟨by omega, by omega⟩
      have hk8 : (k : Int) < l.length := by omega
      clear hx hrow
      obtain ⟨Wa, hWa⟩ : ∃ W, (wr.alloc (.cells #[.int .i16 dy, .int .i8 fr, .int .i8 to, .int .u8 wh, .int .i16 nu] 49)) = W := ⟨_, rfl⟩
      have HA : Hid (Below w.heap.size w Wa) := by show Below _ _ _; rw [← hWa]; exact HB.out.alloc HB.out.size _
      have HOA : Hid (Wa.ownsRow w3.heap.size 49 5 (.slice A1 L c1) L ((prT l q k).flatMap ecells)) := by show Wa.ownsRow _ _ _ _ _ _; rw [← hWa]; exact HO.out.alloc _
      have hwa : Hid (wr.heap.size < Wa.heap.size) := by show _ < _; rw [← hWa]; simp
      have hka : Blk Wa wr.heap.size 49 #[.int .i16 dy, .int .i8 fr, .int .i8 to, .int .u8 wh, .int .i16 nu] := by rw [← hWa]; exact Blk.new wr _ _
      have g0 : Wa.cell? ⟨wr.heap.size, 0, none⟩ = some (.int .i16 dy) := hka.cell 0
      have g1 : Wa.cell? ⟨wr.heap.size, 1, none⟩ = some (.int .i8 fr) := hka.cell 1
      have g2 : Wa.cell? ⟨wr.heap.size, 2, none⟩ = some (.int .i8 to) := hka.cell 2
      have g3 : Wa.cell? ⟨wr.heap.size, 3, none⟩ = some (.int .u8 wh) := hka.cell 3
      have g4 : Wa.cell? ⟨wr.heap.size, 4, none⟩ = some (.int .i16 nu) := hka.cell 4
      clear hka
      by_cases hfr : fr = q
      · have HSt : Hid (prT l q (k + 1) = prT l q k ++ [⟨dy, fr, to, wh, nu⟩]) := prT_yes HX.out (by simp [hfr])
        have hb1 : (fr == q) = true := by simpa using hfr
        clear hfr
        go_wp2_with (at_builtin; refine wpList_append_own _ rfl (.tmp 44) (.tmp 46) 24 rfl w3.heap.size 49 i0 (.agg #[.int .i16 0, .int .i8 0, .int .i8 0, .int .u8 0, .int .i16 0]) 5 8 Tryd.underlying24 HI.out HZ0.out HZ1.out HZ2.out rfl (by decide) _ _ _ rfl (HOA.out.alloc _) ⟨Wa.heap.size, 0, none⟩ 1 1 [.int .i16 dy, .int .i8 fr, .int .i8 to, .int .u8 wh, .int .i16 nu] rfl rfl ?c1 ?c2 ?c3 ?c4 ?c5 ?_)
        case c1 => exact cell_ent_new _ _ _ _ _ _ _
        case c2 => exact ent_one _ _ _ _ _
        case c3 => unfold maxLen; omega
        case c4 => omega
        case c5 => have := hwa.out; simp; omega
        intro v' w8 hown' hgrow _
        have hown8 : w8.ownsRow w3.heap.size 49 5 v' (prT l q (k + 1)).length ((prT l q (k + 1)).flatMap ecells) := by rw [HSt.out, List.length_append, List.flatMap_append, HL.out]; exact hown'
        obtain ⟨A8, c8, rfl, -, -⟩ := own_rd ecells_length hown8
        have HO8 := Lib.hid hown8
        have HB8 : Hid (Below w.heap.size w w8) := (HA.out.alloc HA.out.size _).grown hgrow (by have := HA.out.size; simp; omega) (fun r e => Nat.le_trans HBS.out (HOA.out.lt r e).1)
        have HZ8 : Hid (w3.heap.size ≤ w8.heap.size) := by show _ ≤ _; have := hwa.out; have := hgrow.size; simp at this; omega
        clear hown' hgrow hown8
        go_wp2
        go_roundw
        case rel => exact ⟨k + 1, A8, c8, by omega, by go_num, rfl, HO8.out, HB8.out, HZ8.out⟩
        case measure => simp [intOf]; omega
      have hb1 : (fr == q) = false := by simpa using hfr
      by_cases hto : to = q
      · have HSt : Hid (prT l q (k + 1) = prT l q k ++ [⟨dy, fr, to, wh, nu⟩]) := prT_yes HX.out (by simp [hto])
        have hb2 : (to == q) = true := by simpa using hto
        clear hfr hto
        go_wp2_with (at_builtin; refine wpList_append_own _ rfl (.tmp 44) (.tmp 46) 24 rfl w3.heap.size 49 i0 (.agg #[.int .i16 0, .int .i8 0, .int .i8 0, .int .u8 0, .int .i16 0]) 5 8 Tryd.underlying24 HI.out HZ0.out HZ1.out HZ2.out rfl (by decide) _ _ _ rfl (HOA.out.alloc _) ⟨Wa.heap.size, 0, none⟩ 1 1 [.int .i16 dy, .int .i8 fr, .int .i8 to, .int .u8 wh, .int .i16 nu] rfl rfl ?c1 ?c2 ?c3 ?c4 ?c5 ?_)
        case c1 => exact cell_ent_new _ _ _ _ _ _ _
        case c2 => exact ent_one _ _ _ _ _
        case c3 => unfold maxLen; omega
        case c4 => omega
        case c5 => have := hwa.out; simp; omega
        intro v' w8 hown' hgrow _
        have hown8 : w8.ownsRow w3.heap.size 49 5 v' (prT l q (k + 1)).length ((prT l q (k + 1)).flatMap ecells) := by rw [HSt.out, List.length_append, List.flatMap_append, HL.out]; exact hown'
        obtain ⟨A8, c8, rfl, -, -⟩ := own_rd ecells_length hown8
        have HO8 := Lib.hid hown8
        have HB8 : Hid (Below w.heap.size w w8) := (HA.out.alloc HA.out.size _).grown hgrow (by have := HA.out.size; simp; omega) (fun r e => Nat.le_trans HBS.out (HOA.out.lt r e).1)
        have HZ8 : Hid (w3.heap.size ≤ w8.heap.size) := by show _ ≤ _; have := hwa.out; have := hgrow.size; simp at this; omega
        clear hown' hgrow hown8
        go_wp2
        go_roundw
        case rel => exact ⟨k + 1, A8, c8, by omega, by go_num, rfl, HO8.out, HB8.out, HZ8.out⟩
        case measure => simp [intOf]; omega
      · have HSt : Hid (prT l q (k + 1) = prT l q k) := prT_no HX.out (by simp [hfr, hto])
        have hb2 : (to == q) = false := by simpa using hto
        clear hfr hto
        go_wp2
        go_roundw
        case rel => exact ⟨k + 1, A1, c1, by omega, by go_num, by rw [HSt.out, HL.out], by rw [HSt.out, HL.out]; exact HOA.out, HA.out, by have := hwa.out; omega⟩
        case measure => simp [intOf]; omega
    · obtain rfl : k = l.length := by omega
      go_wp2
      go_ret2
      refine ⟨_, by (rw [E0.out]; first | done | rfl), ?_, HB.out⟩
      rw [E1.out, HL.out]
      exact own_base HO.out HBS.out

end Go.Proofs.YtjgafdfffmfhhacDoor
