/-
  TakeEach and TakeOldest: what they answer, the model's contracts. Condition: the rack and the list read, their numbers fit their kinds, not more than 1048576.
-/
import Derived.Test.YtmfdgpinohbckaaDoorTk2
import Derived.Test.YtmfdgpinohbckaaDoorMg15
namespace Go.Proofs.YtmfdgpinohbckaaDoor
open Go.ChangeShapes Go.WideShapes Go.ChangeAt Go.RowKit Go.Deep

/-- What TakeEach comes to. -/
def teT (s : Int) (xss : List (List Wnt)) (bs : List Bot) : Except Nat (List (List Wnt) × List Wnt × Nat) := match tkO xss bs s with
  | some i => .error i
  | none => if 20 < bs.length then .error 1 else teS s xss bs bs.length
/-- What TakeOldest comes to. -/
def toT (s : Int) (xss : List (List Wnt)) (b : Bot) : Except Nat (List (List Wnt) × Wnt × Nat) := match tkO xss [b] s with
  | some i => .error i
  | none => tkT s xss b
theorem teT_no {s : Int} {xss : List (List Wnt)} {bs : List Bot} {i : Nat} (h : tkO xss bs s = some i) : teT s xss bs = .error i := by rw [teT, h]
theorem teT_many {s : Int} {xss : List (List Wnt)} {bs : List Bot} (h : tkO xss bs s = none) (h2 : 20 < bs.length) : teT s xss bs = .error 1 := by simp only [teT, h, if_pos h2]
theorem teT_yes {s : Int} {xss : List (List Wnt)} {bs : List Bot} (h : tkO xss bs s = none) (h2 : ¬ 20 < bs.length) : teT s xss bs = teS s xss bs bs.length := by simp only [teT, h, if_neg h2]
theorem toT_no {s : Int} {xss : List (List Wnt)} {b : Bot} {i : Nat} (h : tkO xss [b] s = some i) : toT s xss b = .error i := by rw [toT, h]
theorem toT_yes {s : Int} {xss : List (List Wnt)} {b : Bot} (h : tkO xss [b] s = none) : toT s xss b = tkT s xss b := by rw [toT, h]
theorem teT_one (s : Int) (xss : List (List Wnt)) (b : Bot) : (∃ e, toT s xss b = .error e ∧ teT s xss [b] = .error e) ∨ ∃ r x m, toT s xss b = .ok (r, x, m) ∧ teT s xss [b] = .ok (r, [x], m) := by
  cases h : tkO xss [b] s with
  | some i => exact .inl ⟨i, toT_no h, teT_no h⟩
  | none =>
    rw [toT_yes h, teT_yes h (by simp)]
    have e0 : teS s xss [b] 0 = .ok (xss, [], 0) := rfl
    cases ht : tkT s xss b with
    | error e => exact .inl ⟨e, rfl, teS_stop (m := 1) rfl e0 ht (by omega)⟩
    | ok p =>
      obtain ⟨r, x, m⟩ := p
      refine .inr ⟨r, x, m, rfl, ?_⟩
      have := teS_step (k := 0) rfl e0 ht
      simpa using this
def ioI (n : Nat) : List Int := (List.range n).map fun (k : Nat) => (k : Int)
theorem ioI_length (n : Nat) : (ioI n).length = n := by simp [ioI]
theorem ioI_succ (n : Nat) : ioI (n + 1) = ioI n ++ [(n : Int)] := by simp [ioI, List.range_succ]
theorem ioI_in (n : Nat) : ∀ o ∈ ioI n, 0 ≤ o ∧ o < n := by
  intro o h
  simp only [ioI, List.mem_map, List.mem_range] at h
  obtain ⟨k, hk, rfl⟩ := h
  omega
theorem eaW_ioI (bs : List Bot) : eaW bs (ioI bs.length) = bs := by
  apply List.ext_getElem?
  intro i
  by_cases h : i < bs.length
  · simp [eaW, ioI, h, List.getElem?_range]
  · rw [List.getElem?_eq_none (by simp [eaW, ioI]; omega), List.getElem?_eq_none (by omega)]
theorem eaT_ioI (s : Int) (xss : List (List Wnt)) (bs : List Bot) : eaT s xss bs (ioI bs.length) = teS s xss bs bs.length := by rw [eaT, eaW_ioI, ioI_length]
theorem rkB_ok {xss : List (List Wnt)} (hwf : ∀ xs ∈ xss, ∀ x ∈ xs, wfW x) (h : rkOk xss = true) : rkB xss.length xss := ⟨rfl, fun xs hx => (rkOk_lane h hx).1, hwf, fun xs hx x hxx => by
  have := (rkOk_lane h hx).2 x hxx
  simp only [sV, Bool.and_eq_true] at this
  have := this.2
  simp only [wi, Bool.and_eq_true, decide_eq_true_eq] at this
  omega⟩
theorem bot_rdT (w : World) (k y : Int) : Rd (w.alloc (.cells #[.int .u8 k, .int .i16 y] 28)) (w.alloc (.cells #[.int .u8 k, .int .i16 y] 28)).heap.size bcells (some ⟨w.heap.size, 0, none⟩) [(k, y)] := by
  have hK : Blk (w.alloc (.cells #[.int .u8 k, .int .i16 y] 28)) w.heap.size 28 #[.int .u8 k, .int .i16 y] := Blk.new w _ _
  refine fun _ => ⟨w.heap.size, 0, rfl, hK.lt, fun j v hv => ?_⟩
  rw [Nat.zero_add, hK.cell j]
  have : ([(k, y)] : List Bot).flatMap bcells = [Value.int .u8 k, .int .i16 y] := rfl
  rw [this] at hv
  simpa using hv

set_option maxRecDepth 100000 in
set_option maxHeartbeats 8000000 in
theorem specTakeEach_any (xss : List (List Wnt)) (hwf : ∀ xs ∈ xss, ∀ x ∈ xs, wfW x) (bs : List Bot) (hwb : ∀ x ∈ bs, wfB x) (s : Int) (A B : Option Addr) (c d : Nat) (w : World) (hl : xss.length ≤ 1048576) (hx : ∀ xs ∈ xss, xs.length ≤ 1048576) (hlb : bs.length ≤ 1048576) (hr : RdN w w.heap.size wcells A xss) (hb : Rd w w.heap.size bcells B bs) :
    Calls Tryd.prog 20 #[.slice A xss.length c, .slice B bs.length d, .int .i64 s] w fun e w' => ∃ A' c' L lc, e = .returned (.tuple #[.slice A' (exR (teT s xss bs)).length c', .slice L (exX [] (teT s xss bs)).length lc, .int .i64 (exM (teT s xss bs) : Nat), .int .i64 (cdO (exE (teT s xss bs)))]) ∧ RdN w' w'.heap.size wcells A' (exR (teT s xss bs)) ∧ Rd w' w'.heap.size wcells L (exX [] (teT s xss bs)) ∧ Below w.heap.size w w' := by
  obtain ⟨j0, hj, hy0, hy1, hy2⟩ := info_parts Tryd.info64
  have HJ := Lib.hid hj
  have HY0 := Lib.hid hy0
  have HY1 := Lib.hid hy1
  have HY2 := Lib.hid hy2
  clear hj hy0 hy1 hy2
  have HR := Lib.hid hr
  have HRb := Lib.hid hb
  have HW := Lib.hid hwf
  have HX := Lib.hid hx
  have HWb := Lib.hid hwb
  clear hr hb hwf hx hwb
  go_enter Tryd.func20, Tryd.ntmps20
  go_wp2_with fail
  refine (l04TakenK_any xss HW.out bs HWb.out s A B c d w hl HX.out hlb HR.out HRb.out).mono ?_
  rintro e w1 ⟨rfl, hb⟩
  have J2 := Lib.hid hb
  clear hb
  cases hv : tkO xss bs s with
  | some i =>
    have E := Lib.hid (teT_no hv)
    have hne : ¬ cdN i = 0 := cdN_ne
    have hne2 : (cdN i == 0) = false := by simpa using hne
    rw [show cdO (some i) = cdN i from rfl]
    obtain ⟨cd, hcd⟩ : ∃ v, cdN i = v := ⟨_, rfl⟩
    have HCd := Lib.hid hcd
    rw [hcd] at hne hne2 ⊢
    clear hv hcd
    go_wp2
    try simp only [Exit.inBlock, Exit.then]
    refine bodyPost_ret (v := .tuple #[.slice (some ⟨w1.heap.size, 0, none⟩) 0 0, .slice (some ⟨w1.heap.size + 1, 0, none⟩) 0 0, .int .i64 0, .int .i64 cd]) (by simp [results, Tryd.results20, go_sem, *]) rfl ?_
    exact ⟨_, _, _, _, by (rw [E.out]; first | done | rfl | (rw [← HCd.out]; rfl)), by rw [E.out]; exact rdN_nil _ _ _ _, by rw [E.out]; exact rd_nilK _ _ _ _, (J2.out.alloc J2.out.size _).alloc (J2.out.alloc J2.out.size _).size _⟩
  | none =>
    obtain ⟨h1, h2, h3⟩ := tkO_none hv
    rw [show cdO none = 0 from rfl]
    by_cases h20 : 20 < bs.length
    · have E := Lib.hid (teT_many hv h20)
      have h20i : (20 : Int) < bs.length := by omega
      have HCd : Hid ((3 : Int) = 3) := rfl
      clear hv h1 h2 h3 h20
      go_wp2
      try simp only [Exit.inBlock, Exit.then]
      refine bodyPost_ret (v := .tuple #[.slice (some ⟨w1.heap.size, 0, none⟩) 0 0, .slice (some ⟨w1.heap.size + 1, 0, none⟩) 0 0, .int .i64 0, .int .i64 3]) (by simp [results, Tryd.results20, go_sem, *]) rfl ?_
      exact ⟨_, _, _, _, by (rw [E.out]; first | done | rfl | (rw [← HCd.out]; rfl)), by rw [E.out]; exact rdN_nil _ _ _ _, by rw [E.out]; exact rd_nilK _ _ _ _, (J2.out.alloc J2.out.size _).alloc (J2.out.alloc J2.out.size _).size _⟩
    have HRe := Lib.hid ((teT_yes hv h20).trans (eaT_ioI s xss bs).symm)
    have h20i : ¬ (20 : Int) < bs.length := by omega
    have H20 : Hid (bs.length ≤ 20) := by show _ ≤ _; omega
    have HRB := Lib.hid (rkB_ok HW.out h1)
    have HL8 := Lib.hid (rkOk_len h1)
    have H3 := Lib.hid h3
    have HE0 : Hid ((w1.alloc (.cells #[] 2)).ownsRow w.heap.size 2 1 (.slice (some ⟨w1.heap.size, 0, none⟩) (ioI 0).length 0) (ioI 0).length ((ioI 0).flatMap icells)) := own_base (empty_own w1 _ 1) J2.out.size
    have HB0 : Hid (Below w.heap.size w (w1.alloc (.cells #[] 2))) := J2.out.alloc J2.out.size _
    clear hv h1 h2 h3 h20 J2
    go_wp2_with fail
    go_loopw [11, 12] (fun ov iv wr => ∃ (j : Nat) (L : Option Addr) (lc : Nat), j ≤ bs.length ∧ ov = .slice L (ioI j).length lc ∧ iv = .int .i64 j ∧ wr.ownsRow w.heap.size 2 1 (.slice L (ioI j).length lc) (ioI j).length ((ioI j).flatMap icells) ∧ Below w.heap.size w wr)
      (fun _ i _ => bs.length - (intOf i).toNat)
    case atStart => exact ⟨0, _, 0, by omega, rfl, rfl, HE0.out, HB0.out⟩
    case round =>
      clear HE0 HB0
      obtain ⟨j, L, lc, hj, rfl, rfl, hO, hB⟩ := hrel
      obtain ⟨wa, rfl⟩ : ∃ u, u = wr := ⟨_, rfl⟩
      have HO := Lib.hid hO
      have HB := Lib.hid hB
      clear hO hB
      have hj0 : (0 : Int) ≤ (j : Int) := Int.natCast_nonneg _
      clear h20i
      by_cases hlt : j < bs.length
      · have hj8 : (j : Int) < bs.length := by omega
        have hj20 : j ≤ 20 := by have := H20.out; omega
        go_wp2_with (at_builtin; refine wpList_append_own_at _ rfl (.tmp 36) (.tmp 38) 54 rfl w.heap.size 2 j0 (.int .i64 0) 1 8 Tryd.underlying54 HJ.out HY0.out HY1.out HY2.out rfl (by decide) _ _ _ rfl (HO.out.alloc _) ⟨wa.heap.size, 0, none⟩ 1 1 [.int .i64 j] rfl rfl ?f1 ?f2 ?f3 ?f4 ?f5 ?_)
        case f1 => exact cell1A wa _ _
        case f2 => simp [Value.oneCell']
        case f3 => unfold maxLen; rw [ioI_length]; omega
        case f4 => rw [ioI_length]; omega
        case f5 => have := HB.out.size; simp; omega
        intro v8 w8 hown8 hg8 _ hblk8
        have hown9 : w8.ownsRow w.heap.size 2 1 v8 (ioI (j + 1)).length ((ioI (j + 1)).flatMap icells) := by rw [ioI_succ, List.length_append, List.flatMap_append]; exact hown8
        obtain ⟨A8, c8, rfl, -, -⟩ := own_rd icells_length hown9
        have HO9 := Lib.hid hown9
        have HB8 : Hid (Below w.heap.size w w8) := (HB.out.alloc HB.out.size _).grown hg8 (HB.out.alloc HB.out.size _).size (fun q e => (own_block HO.out e).1)
        clear hown8 hown9 hg8 hblk8 HO HB
        go_wp2
        go_roundw
        case rel => exact ⟨j + 1, A8, c8, by omega, rfl, by go_num, HO9.out, HB8.out⟩
        case measure => simp [intOf]; omega
      · obtain rfl : j = bs.length := by omega
        have hea := l04Each_any xss HRB.out bs (ioI bs.length) (ioI_in _) A B L c d lc s H3.out wa HL8.out hlb (by rw [ioI_length]; have := H20.out; omega) (HR.out.keep HB.out) (HRb.out.keep HB.out) (own_rd2 icells_length HO.out)
        rw [← HRe.out] at hea
        have HEa := Lib.hid hea
        clear hea hj hlt
        go_wp2_with fail
        refine HEa.out.mono ?_
        rintro e w5 ⟨A5, c5, L5, lc5, rfl, hR5, hL5, hb5⟩
        have HR5 := Lib.hid hR5
        have HL5 := Lib.hid hL5
        have HB5 := Lib.hid (HB.out.trans (hb5.mono HB.out.size))
        clear hR5 hL5 hb5 HEa HO HB
        obtain ⟨T, hT⟩ : ∃ T, teT s xss bs = T := ⟨_, rfl⟩
        rw [hT] at HR5 HL5 ⊢
        have HT := Lib.hid hT
        clear hT
        obtain ⟨n1, hn1⟩ : ∃ n, (exR T).length = n := ⟨_, rfl⟩
        obtain ⟨n2, hn2⟩ : ∃ n, (exX [] T).length = n := ⟨_, rfl⟩
        obtain ⟨n3, hn3⟩ : ∃ n, exM T = n := ⟨_, rfl⟩
        obtain ⟨n4, hn4⟩ : ∃ n, cdO (exE T) = n := ⟨_, rfl⟩
        rw [hn1, hn2, hn3, hn4]
        have HN := Lib.hid (And.intro hn1 (And.intro hn2 (And.intro hn3 hn4)))
        clear hn1 hn2 hn3 hn4
        go_wp2
        try simp only [Exit.inBlock, Exit.then]
        refine bodyPost_ret (v := .tuple #[.slice A5 n1 c5, .slice L5 n2 lc5, .int .i64 (n3 : Int), .int .i64 n4]) (by simp [results, Tryd.results20, go_sem, *]) rfl ?_
        exact ⟨A5, c5, L5, lc5, by (rw [HT.out, HN.out.1, HN.out.2.1, HN.out.2.2.1, HN.out.2.2.2]), by rw [HT.out]; exact HR5.out, by rw [HT.out]; exact HL5.out, HB5.out⟩

set_option maxRecDepth 100000 in
set_option maxHeartbeats 8000000 in
theorem specTakeOldest_any (xss : List (List Wnt)) (hwf : ∀ xs ∈ xss, ∀ x ∈ xs, wfW x) (k y s : Int) (hkw : wfB (k, y)) (A : Option Addr) (c : Nat) (w : World) (hl : xss.length ≤ 1048576) (hx : ∀ xs ∈ xss, xs.length ≤ 1048576) (hr : RdN w w.heap.size wcells A xss) :
    Calls Tryd.prog 16 #[.slice A xss.length c, .agg #[.int .u8 k, .int .i16 y], .int .i64 s] w fun e w' => ∃ A' c', e = .returned (.tuple #[.slice A' (exR (toT s xss (k, y))).length c', .agg (wcells (exX ((0, 0), 0) (toT s xss (k, y)))).toArray, .int .i64 (exM (toT s xss (k, y)) : Nat), .int .i64 (cdO (exE (toT s xss (k, y))))]) ∧ RdO w' w.heap.size A' c' (exR (toT s xss (k, y))) ∧ Below w.heap.size w w' := by
  have HR := Lib.hid hr
  have HW := Lib.hid hwf
  have HX := Lib.hid hx
  have HKw := Lib.hid hkw
  clear hr hwf hx hkw
  have h2 : Below w.heap.size w ((w.alloc (.cells #[.int .u8 k, .int .i16 y] 28)).alloc (.cells #[.int .u8 0, .int .i16 0, .int .i16 0] 30)) := by
    have q1 : Below w.heap.size w (w.alloc (.cells #[.int .u8 k, .int .i16 y] 28)) := (Below.refl _ w).alloc (Nat.le_refl _) _
    exact q1.alloc q1.size _
  have h1 : Blk ((w.alloc (.cells #[.int .u8 k, .int .i16 y] 28)).alloc (.cells #[.int .u8 0, .int .i16 0, .int .i16 0] 30)) (w.heap.size + 1) 30 #[.int .u8 0, .int .i16 0, .int .i16 0] := by
    have := Blk.new (w.alloc (.cells #[.int .u8 k, .int .i16 y] 28)) 30 #[.int .u8 0, .int .i16 0, .int .i16 0]
    simpa using this
  have h3 : Blk ((w.alloc (.cells #[.int .u8 k, .int .i16 y] 28)).alloc (.cells #[.int .u8 0, .int .i16 0, .int .i16 0] 30)) w.heap.size 28 #[.int .u8 k, .int .i16 y] := (Blk.new w _ _).alloc _
  obtain ⟨W0, hW0⟩ : ∃ W0, ((w.alloc (.cells #[.int .u8 k, .int .i16 y] 28)).alloc (.cells #[.int .u8 0, .int .i16 0, .int .i16 0] 30)) = W0 := ⟨_, rfl⟩
  rw [hW0] at h1 h2 h3
  have H1 := Lib.hid h1
  have H2 := Lib.hid h2
  have b0 : W0.cell? ⟨w.heap.size, 0, none⟩ = some (.int .u8 k) := h3.cell 0
  have b1 : W0.cell? ⟨w.heap.size, 1, none⟩ = some (.int .i16 y) := h3.cell 1
  have H3 := Lib.hid h3
  clear h1 h2 h3
  have hA1 : Below w.heap.size w (W0.alloc (.cells #[.int .u8 k, .int .i16 y] 28)) := H2.out.alloc H2.out.size _
  have HTk := Lib.hid (l04TakenK_any xss HW.out [(k, y)] (fun x hx => by obtain rfl := List.mem_singleton.1 hx; exact HKw.out) s A (some ⟨W0.heap.size, 0, none⟩) c 1 (W0.alloc (.cells #[.int .u8 k, .int .i16 y] 28)) hl HX.out (by simp) (HR.out.keep hA1) (bot_rdT W0 k y))
  have HA1 := Lib.hid hA1
  have HJ1 : Hid (Blk (W0.alloc (.cells #[.int .u8 k, .int .i16 y] 28)) (w.heap.size + 1) 30 #[.int .u8 0, .int .i16 0, .int .i16 0]) := H1.out.alloc _
  have HJ3 : Hid (Blk (W0.alloc (.cells #[.int .u8 k, .int .i16 y] 28)) w.heap.size 28 #[.int .u8 k, .int .i16 y]) := H3.out.alloc _
  clear hA1
  go_enter Tryd.func16, Tryd.ntmps16
  go_wp2_with fail
  clear hW0
  refine HTk.out.mono ?_
  rintro e w1 ⟨rfl, hb⟩
  have G1 : Hid (Blk w1 (w.heap.size + 1) 30 #[.int .u8 0, .int .i16 0, .int .i16 0]) := HJ1.out.keep hb
  have G3 : Hid (Blk w1 w.heap.size 28 #[.int .u8 k, .int .i16 y]) := HJ3.out.keep hb
  have G2 : Hid (Below w.heap.size w w1) := HA1.out.trans (hb.mono HA1.out.size)
  clear hb H1 H2 H3 b0 b1 HTk HA1 HJ1 HJ3
  cases hv : tkO xss [(k, y)] s with
  | some i =>
    have E := Lib.hid (toT_no hv)
    have hne : ¬ cdN i = 0 := cdN_ne
    have hne2 : (cdN i == 0) = false := by simpa using hne
    rw [show cdO (some i) = cdN i from rfl]
    obtain ⟨cd, hcd⟩ : ∃ v, cdN i = v := ⟨_, rfl⟩
    have HCd := Lib.hid hcd
    rw [hcd] at hne hne2 ⊢
    have hA5 : Below w1.heap.size w1 (w1.alloc (.cells #[] 44)) := (Below.refl _ w1).alloc (Nat.le_refl _) _
    obtain ⟨W5, hW5⟩ : ∃ W5, w1.alloc (.cells #[] 44) = W5 := ⟨_, rfl⟩
    rw [hW5] at hA5
    have HC6 := Lib.hid (G1.out.keep hA5)
    have HB6 := Lib.hid (G2.out.trans (hA5.mono G2.out.size))
    clear hv hcd hA5
    have d0 : W5.cell? ⟨w.heap.size + 1, 0, none⟩ = some (.int .u8 0) := HC6.out.cell 0
    have d1 : W5.cell? ⟨w.heap.size + 1, 1, none⟩ = some (.int .i16 0) := HC6.out.cell 1
    have d2 : W5.cell? ⟨w.heap.size + 1, 2, none⟩ = some (.int .i16 0) := HC6.out.cell 2
    have f0 : W5.frozen? ⟨w.heap.size + 1, 0, none⟩ = false := HC6.out.frozen 0
    have f1 : W5.frozen? ⟨w.heap.size + 1, 1, none⟩ = false := HC6.out.frozen 1
    have f2 : W5.frozen? ⟨w.heap.size + 1, 2, none⟩ = false := HC6.out.frozen 2
    go_wp2
    refine bodyPost_ret (v := .tuple #[.slice (some ⟨w1.heap.size, 0, none⟩) 0 0, .agg #[.int .u8 0, .int .i16 0, .int .i16 0], .int .i64 0, .int .i64 cd]) (by simp [results, Tryd.results16, go_sem, *]) rfl ?_
    exact ⟨_, _, by (rw [E.out, ← HCd.out]; rfl), by rw [E.out]; exact .inl rfl, ((((HB6.out).setCell (p := ⟨w.heap.size + 1, 0, none⟩) (Nat.le_succ _) _).setCell (p := ⟨w.heap.size + 1, 1, none⟩) (Nat.le_succ _) _).setCell (p := ⟨w.heap.size + 1, 2, none⟩) (Nat.le_succ _) _)⟩
  | none =>
    obtain ⟨h1, h2, h3⟩ := tkO_none hv
    have E := Lib.hid (toT_yes hv)
    rw [show cdO none = 0 from rfl]
    have hre := l04Take_any xss HW.out A c k y s h3 w1 (rkOk_len h1) (fun xs hx => (rkOk_lane h1 hx).1) (HR.out.keep G2.out)
    rw [← E.out] at hre
    obtain ⟨T, hT⟩ : ∃ T, toT s xss (k, y) = T := ⟨_, rfl⟩
    rw [hT] at hre
    have HT := Lib.hid hT
    obtain ⟨L, hL⟩ : ∃ L, exR T = L := ⟨_, rfl⟩
    obtain ⟨⟨⟨k1, y1⟩, n1⟩, hvv⟩ : ∃ x, exX ((0, 0), 0) T = x := ⟨_, rfl⟩
    obtain ⟨m, hm⟩ : ∃ m : Nat, exM T = m := ⟨_, rfl⟩
    obtain ⟨cd, hcd⟩ : ∃ cd, cdO (exE T) = cd := ⟨_, rfl⟩
    rw [hL, hvv, hm, hcd] at hre
    have HN := Lib.hid (And.intro hL (And.intro hvv (And.intro hm hcd)))
    have HRe := Lib.hid hre
    have b0 : w1.cell? ⟨w.heap.size, 0, none⟩ = some (.int .u8 k) := G3.out.cell 0
    have b1 : w1.cell? ⟨w.heap.size, 1, none⟩ = some (.int .i16 y) := G3.out.cell 1
    clear hv h1 h2 h3 E hre hT hL hvv hm hcd
    go_wp2_with fail
    refine HRe.out.mono ?_
    rintro e w2 ⟨A2, c2, he, hR2, hb2⟩
    have he2 : e = .returned (.tuple #[.slice A2 L.length c2, .agg #[.int .u8 k1, .int .i16 y1, .int .i16 n1], .int .i64 (m : Int), .int .i64 cd]) := he
    subst he2
    have HR2 := Lib.hid hR2
    have K1 : Hid (Blk w2 (w.heap.size + 1) 30 #[.int .u8 0, .int .i16 0, .int .i16 0]) := G1.out.keep hb2
    have K2 : Hid (Below w.heap.size w w2) := G2.out.trans (hb2.mono G2.out.size)
    have HSz : Hid (w.heap.size + 1 < w1.heap.size) := G1.out.lt
    clear he hR2 hb2 G1 G2 G3 HRe b0 b1
    have d0 : w2.cell? ⟨w.heap.size + 1, 0, none⟩ = some (.int .u8 0) := K1.out.cell 0
    have d1 : w2.cell? ⟨w.heap.size + 1, 1, none⟩ = some (.int .i16 0) := K1.out.cell 1
    have d2 : w2.cell? ⟨w.heap.size + 1, 2, none⟩ = some (.int .i16 0) := K1.out.cell 2
    have f0 : w2.frozen? ⟨w.heap.size + 1, 0, none⟩ = false := K1.out.frozen 0
    have f1 : w2.frozen? ⟨w.heap.size + 1, 1, none⟩ = false := K1.out.frozen 1
    have f2 : w2.frozen? ⟨w.heap.size + 1, 2, none⟩ = false := K1.out.frozen 2
    go_wp2
    refine bodyPost_ret (v := .tuple #[.slice A2 L.length c2, .agg #[.int .u8 k1, .int .i16 y1, .int .i16 n1], .int .i64 (m : Int), .int .i64 cd]) (by simp [results, Tryd.results16, go_sem, *]) rfl ?_
    have hlt : ∀ k, k = w.heap.size + 1 → k < w1.heap.size := fun k e => by have := HSz.out; omega
    exact ⟨A2, c2, by (rw [HT.out, HN.out.1, HN.out.2.1, HN.out.2.2.1, HN.out.2.2.2]; rfl), by rw [HT.out, HN.out.1]; exact RdO.base ((((show RdO w2 w1.heap.size A2 c2 L from HR2.out).only (only_set w2 (w.heap.size + 1) 0 (.int .u8 k1)) hlt).only (only_set _ (w.heap.size + 1) 1 (.int .i16 y1)) hlt).only (only_set _ (w.heap.size + 1) 2 (.int .i16 n1)) hlt) (by have := HSz.out; omega), (((K2.out.setCell (p := ⟨w.heap.size + 1, 0, none⟩) (Nat.le_succ _) _).setCell (p := ⟨w.heap.size + 1, 1, none⟩) (Nat.le_succ _) _).setCell (p := ⟨w.heap.size + 1, 2, none⟩) (Nat.le_succ _) _)⟩

end Go.Proofs.YtmfdgpinohbckaaDoor
