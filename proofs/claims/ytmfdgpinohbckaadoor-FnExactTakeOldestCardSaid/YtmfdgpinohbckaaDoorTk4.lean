/-
  TakeEach and TakeOldest: the program's contracts. Condition: the rack and the list read, their numbers fit their kinds, not more than 1048576; the sentinel errors lie as the row lists them.
-/
import Derived.Test.YtmfdgpinohbckaaDoorTk3
namespace Go.Proofs.YtmfdgpinohbckaaDoor
open Go.ChangeShapes Go.WideShapes Go.ChangeAt Go.RowKit Go.Deep

theorem tkT_lt {s : Int} {xss : List (List Wnt)} {b : Bot} {n : Nat} (h : tkT s xss b = .error n) : n < 7 := by
  cases hc : chT b.1 b.2 s xss with
  | none => rw [tkT_no hc] at h; obtain rfl := Except.error.inj h; omega
  | some c =>
    obtain ⟨xs, hx, hi⟩ := chT_in hc
    cases hr : rcS xss c.2.1 xs (xs.length - 1 - c.2.2) with
    | none => rw [tkT_limit hc hx hr] at h; obtain rfl := Except.error.inj h; omega
    | some r => rw [tkT_yes hc hx hr] at h; cases h

set_option maxRecDepth 100000 in
set_option maxHeartbeats 8000000 in
theorem implTakeEach_any (xss : List (List Wnt)) (hwf : ∀ xs ∈ xss, ∀ x ∈ xs, wfW x) (bs : List Bot) (s : Int) (A B : Option Addr) (c d : Nat) (ad : Nat → Addr) (w : World) (hl : xss.length ≤ 1048576) (hx : ∀ xs ∈ xss, xs.length ≤ 1048576) (hlb : bs.length ≤ 1048576) (hr : RdN w w.heap.size wcells A xss) (hb : Rd w w.heap.size bcells B bs) (hE : EW 7 w ad) :
    Calls Tryd.prog 22 #[.slice A xss.length c, .slice B bs.length d, .int .i64 s] w fun e w' => ∃ A' c' hs L lc, e = .returned (.tuple #[.slice A' (exR (teT s xss bs)).length c', .slice L (exX [] (teT s xss bs)).length lc, .int .i64 (exM (teT s xss bs) : Nat), .int .i64 (cdO (exE (teT s xss bs)))]) ∧ OwnN w' w.heap.size 44 30 3 wcells A' c' hs (exR (teT s xss bs)) ∧ w'.ownsRow w.heap.size 30 3 (.slice L (exX [] (teT s xss bs)).length lc) (exX [] (teT s xss bs)).length ((exX [] (teT s xss bs)).flatMap wcells) ∧ SepL A' hs L ∧ Below w.heap.size w w' := by
  obtain ⟨i0, hi0, hz0, hz1, hz2⟩ := info_parts Tryd.infoTI
  have HI := Lib.hid hi0
  have HZ0 := Lib.hid hz0
  have HZ1 := Lib.hid hz1
  have HZ2 := Lib.hid hz2
  clear hi0 hz0 hz1 hz2
  have HR := Lib.hid hr
  have HRb := Lib.hid hb
  have HW := Lib.hid hwf
  have HX := Lib.hid hx
  have HE := Lib.hid hE
  clear hr hb hwf hx hE
  go_enter Tryd.func22, Tryd.ntmps22
  go_wp2_with fail
  refine (checkTakingK_any xss bs s A B c d ad w hl HX.out hlb HR.out HRb.out HE.out).mono ?_
  rintro e w1 ⟨rfl, hb⟩
  have J2 := Lib.hid hb
  clear hb
  cases hv : tkO xss bs s with
  | some i =>
    have E := Lib.hid (teT_no hv)
    have hi7 := tkO_lt i hv
    have HCd : Hid (cdN i = cdN i) := rfl
    rw [show erO ad (some i) = .iface 165 (.pointer (some (ad i))) from rfl]
    clear hv
    go_wp2_with fail
    refine (codeOf_O (HE.out.below J2.out (Nat.le_refl _)) i hi7).mono ?_
    rintro e w4 ⟨rfl, rfl⟩
    go_wp2
    try simp only [Exit.inBlock, Exit.then]
    refine bodyPost_ret (v := .tuple #[.slice none 0 0, .slice none 0 0, .int .i64 0, .int .i64 (cdN i)]) (by simp [results, Tryd.results22, go_sem, *]) rfl ?_
    exact ⟨none, 0, [], none, 0, by (rw [E.out]; first | done | rfl | (rw [← HCd.out]; rfl)), by rw [E.out]; exact OwnN.nil _ _ _ _ _ _, by rw [E.out]; exact ⟨rfl, .inl ⟨rfl, rfl⟩⟩, SepL.none _ _, J2.out⟩
  | none =>
    obtain ⟨h1, h2, h3⟩ := tkO_none hv
    rw [show erO ad none = .nilIface from rfl]
    by_cases h20 : 20 < bs.length
    · have E := Lib.hid (teT_many hv h20)
      have h20i : (20 : Int) < bs.length := by omega
      have HCd : Hid ((3 : Int) = 3) := rfl
      have c1 : w1.cell? ⟨0, 0, none⟩ = some (.iface 165 (.pointer (some (ad 1)))) := (HE.out.below J2.out (Nat.le_refl _)).cell 1 (by omega)
      clear hv h1 h2 h3 h20
      go_wp2_with fail
      refine (codeOf_1 (EW.less (HE.out.below J2.out (Nat.le_refl _)) (by omega))).mono ?_
      rintro e w4 ⟨rfl, rfl⟩
      go_wp2
      try simp only [Exit.inBlock, Exit.then]
      refine bodyPost_ret (v := .tuple #[.slice none 0 0, .slice none 0 0, .int .i64 0, .int .i64 3]) (by simp [results, Tryd.results22, go_sem, *]) rfl ?_
      exact ⟨none, 0, [], none, 0, by (rw [E.out]; first | done | rfl | (rw [← HCd.out]; rfl)), by rw [E.out]; exact OwnN.nil _ _ _ _ _ _, by rw [E.out]; exact ⟨rfl, .inl ⟨rfl, rfl⟩⟩, SepL.none _ _, J2.out⟩
    have HRe := Lib.hid (teT_yes hv h20)
    have h20i : ¬ (20 : Int) < bs.length := by omega
    have H20 : Hid (bs.length ≤ 20) := by show _ ≤ _; omega
    have HRB := Lib.hid (rkB_ok HW.out h1)
    have HL8 := Lib.hid (rkOk_len h1)
    have H3 := Lib.hid h3
    clear hv h1 h2 h3 h20
    go_wp2_with fail
    refine (copied_any xss A c w1 hl HX.out (HR.out.keep J2.out)).mono ?_
    rintro e w4 ⟨Am, cm, hs, rfl, hN, hb4⟩
    obtain ⟨bb, hbb⟩ : ∃ b, b = w1.heap.size := ⟨_, rfl⟩
    rw [← hbb] at hN
    have HN0 := Lib.hid hN
    have HB0 := Lib.hid hb4
    have HBb := Lib.hid hbb
    have HSy : Hid (w.heap.size ≤ bb) := by show _ ≤ _; rw [hbb]; exact J2.out.size
    clear hN hb4 hbb h20i
    go_wp2_with fail
    go_loopw [12, 13, 36] (fun tv sv iv wr => ∃ (j : Nat) (r : List (List Wnt)) (ts : List Wnt) (q : Nat) (hs : List Hd) (L : Option Addr) (lc : Nat), j ≤ bs.length ∧ tv = .slice L ts.length lc ∧ sv = .int .i64 q ∧ iv = .int .i64 j ∧ teS s xss bs j = .ok (r, ts, q) ∧ OwnN wr bb 44 30 3 wcells Am cm hs r ∧ wr.ownsRow bb 30 3 (.slice L ts.length lc) ts.length (ts.flatMap wcells) ∧ SepL Am hs L ∧ Below w1.heap.size w1 wr)
      (fun _ _ i _ => bs.length - (intOf i).toNat)
    case atStart => exact ⟨0, xss, [], 0, hs, none, 0, by omega, rfl, rfl, rfl, rfl, HN0.out, ⟨rfl, .inl ⟨rfl, rfl⟩⟩, SepL.none _ _, HB0.out⟩
    case round =>
      clear HN0 HB0
      clear hs
      obtain ⟨j, r, ts, q, hs, L, lc, hj, rfl, rfl, rfl, hS, hN, hO, hP, hB⟩ := hrel
      obtain ⟨wa, rfl⟩ : ∃ u, u = wr := ⟨_, rfl⟩
      obtain ⟨o1, o2, o3, o4⟩ := teS_ok HRB.out j hj r ts q hS
      have HS := Lib.hid hS
      have HN := Lib.hid hN
      have HO := Lib.hid hO
      have HP := Lib.hid hP
      have HB := Lib.hid hB
      have HO1 := Lib.hid o1
      have HO2 := Lib.hid o2
      have HO4 := Lib.hid o4
      clear hS hN hO hP hB o1 o2 o3 o4
      have hj0 : (0 : Int) ≤ (j : Int) := Int.natCast_nonneg _
      by_cases hlt : j < bs.length
      · have hj8 : (j : Int) < bs.length := by omega
        obtain ⟨⟨k, y⟩, hbm⟩ : ∃ x, bs[j]? = some x := ⟨_, List.getElem?_eq_getElem hlt⟩
        have HWj := Lib.hid hbm
        obtain ⟨bB, oB, rfl, hbB, hrowB⟩ := (HRb.out.keep (J2.out.trans (HB.out.mono J2.out.size))).at_ bcells_length hbm
        obtain ⟨g1, g2⟩ := rowB2K hrowB
        have HLt : Hid (ts.length ≤ 1000) := by show _ ≤ _; have := HO2.out; have := H20.out; omega
        have hw12 := fun (m2 : Nat) (h : m2 ≤ 5) => sum_wrap (q := q) (m := m2) (by have := HO4.out; have := H20.out; omega)
        have HWr := Lib.hid hw12
        have HM1 : Hid (j + 1 ≤ bs.length) := hlt
        have HM2 : Hid (bs.length - (j + 1) < bs.length - j) := by show _ < _; omega
        clear hrowB hbm hw12 hj
        go_wp2_with fail
        have hB1 : Below wa.heap.size wa (wa.alloc (.cells #[.int .u8 k, .int .i16 y] 28)) := (Below.refl _ wa).alloc (Nat.le_refl _) _
        have hA1 : Blk (wa.alloc (.cells #[.int .u8 k, .int .i16 y] 28)) wa.heap.size 28 #[.int .u8 k, .int .i16 y] := Blk.new wa _ _
        obtain ⟨W1, hW1⟩ : ∃ u, wa.alloc (.cells #[.int .u8 k, .int .i16 y] 28) = u := ⟨_, rfl⟩
        rw [hW1] at hB1 hA1 ⊢
        have hB1w : Below w1.heap.size w1 W1 := HB.out.trans (hB1.mono HB.out.size)
        have HB1 := Lib.hid hB1w
        have HO1b := Lib.hid (own_keep' HO.out hB1)
        have hTk := takeOldest_any r hs bb Am cm k y s H3.out ad w1 W1 (by rw [HO1.out.1]; exact HL8.out) HO1.out.2.1 HO1.out.2.2.1 HO1.out.2.2.2 (HN.out.keep hB1) (by rw [HBb.out]; exact hB1w.size) (by rw [HBb.out]; exact Nat.le_refl _) (HE.out.below J2.out (Nat.le_refl _)) hB1w
        rw [HO1.out.1] at hTk
        have HTk := Lib.hid hTk
        have b0 : W1.cell? ⟨wa.heap.size, 0, none⟩ = some (.int .u8 k) := hA1.cell 0
        have b1 : W1.cell? ⟨wa.heap.size, 1, none⟩ = some (.int .i16 y) := hA1.cell 1
        clear hTk hB1w hB1 hA1 hW1 g1 g2 HN HO HB
        go_wp2_with fail
        refine HTk.out.mono ?_
        rintro e w5 ⟨hs5, he, hN5, hb5, hP5⟩
        obtain ⟨hsp, hol⟩ := sep_put HP.out hP5 HO1b.out
        have HSp := Lib.hid hsp
        have HOl := Lib.hid hol
        have HB5 : Hid (Below w1.heap.size w1 w5) := HB1.out.trans (by rw [← HBb.out]; exact hb5)
        have HN5 := Lib.hid hN5
        clear hsp hol hb5 hP5 hN5 HB1 HO1b HTk b0 b1
        cases hT : tkT s r (k, y) with
        | error n =>
          rw [hT] at he
          have hst : (teT s xss bs) = .error n := HRe.out.trans (teS_stop HWj.out HS.out hT hlt)
          have E := Lib.hid hst
          have hn7 := tkT_lt hT
          have HCd : Hid (cdN n = cdN n) := rfl
          have he2 : e = .returned (.tuple #[.agg #[.int .u8 0, .int .i16 0, .int .i16 0], .int .i64 0, .iface 165 (.pointer (some (ad n)))]) := he
          subst he2
          have HB6 : Hid (Below w.heap.size w (w5.alloc (.cells #[.int .u8 0, .int .i16 0, .int .i16 0] 30))) := J2.out.trans ((HB5.out.alloc HB5.out.size _).mono J2.out.size)
          clear hst hT he
          go_wp2_with fail
          refine (codeOf_O (HE.out.below HB6.out (Nat.le_refl _)) n hn7).mono ?_
          rintro e w7 ⟨rfl, rfl⟩
          go_wp2
          try simp only [Exit.inBlock, Exit.then]
          refine bodyPost_ret (v := .tuple #[.slice none 0 0, .slice none 0 0, .int .i64 0, .int .i64 (cdN n)]) (by simp [results, Tryd.results22, go_sem, *]) rfl ?_
          exact ⟨none, 0, [], none, 0, by (rw [E.out]; first | done | rfl | (rw [← HCd.out]; rfl)), by rw [E.out]; exact OwnN.nil _ _ _ _ _ _, by rw [E.out]; exact ⟨rfl, .inl ⟨rfl, rfl⟩⟩, SepL.none _ _, HB6.out⟩
        | ok p =>
          obtain ⟨r2, ⟨⟨k1, y1⟩, n1⟩, m2⟩ := p
          obtain ⟨t1, t2, t3, t4⟩ := tkT_ok HO1.out hT
          have HSt := Lib.hid (teS_step HWj.out HS.out hT)
          have hN6 := HN5.out r2 _ m2 hT
          rw [hT] at he
          have he2 : e = .returned (.tuple #[.agg #[.int .u8 k1, .int .i16 y1, .int .i16 n1], .int .i64 (m2 : Int), .nilIface]) := he
          subst he2
          obtain ⟨hw1, hw2⟩ := HWr.out m2 t4
          have hA6 : Below w5.heap.size w5 (w5.alloc (.cells #[.int .u8 k1, .int .i16 y1, .int .i16 n1] 30)) := (Below.refl _ w5).alloc (Nat.le_refl _) _
          have hK6 : Blk (w5.alloc (.cells #[.int .u8 k1, .int .i16 y1, .int .i16 n1] 30)) w5.heap.size 30 #[.int .u8 k1, .int .i16 y1, .int .i16 n1] := Blk.new w5 _ _
          obtain ⟨W6, hW6⟩ : ∃ W6, w5.alloc (.cells #[.int .u8 k1, .int .i16 y1, .int .i16 n1] 30) = W6 := ⟨_, rfl⟩
          rw [hW6] at hA6 hK6
          have HN7 := Lib.hid (hN6.keep hA6)
          have HO6 := Lib.hid (own_keep' HOl.out hA6)
          have HB7 := Lib.hid (HB5.out.trans (hA6.mono HB5.out.size))
          have e0 : W6.cell? ⟨w5.heap.size, 0, none⟩ = some (.int .u8 k1) := hK6.cell 0
          have e1 : W6.cell? ⟨w5.heap.size, 1, none⟩ = some (.int .i16 y1) := hK6.cell 1
          have e2 : W6.cell? ⟨w5.heap.size, 2, none⟩ = some (.int .i16 n1) := hK6.cell 2
          have hlts : ts.length ≤ 1000 := HLt.out
          have HZ6 : Hid (bb ≤ W6.heap.size) := by show _ ≤ _; rw [HBb.out]; exact HB7.out.size
          clear t1 t2 t3 t4 hT he hN6 hA6 hK6 HB5 HN5 HOl
          go_wp2_with (at_builtin; refine wpList_append_own_at _ rfl (.tmp 52) (.tmp 54) 44 rfl bb 30 i0 (.agg #[.int .u8 0, .int .i16 0, .int .i16 0]) 3 6 Tryd.underlying44 HI.out HZ0.out HZ1.out HZ2.out rfl (by decide) _ _ _ rfl (HO6.out.alloc _) ⟨W6.heap.size, 0, none⟩ 1 1 [.int .u8 k1, .int .i16 y1, .int .i16 n1] rfl rfl ?f1 ?f2 ?f3 ?f4 ?f5 ?_)
          case f1 => exact three_cellsN W6 _ _ _ _
          case f2 => exact three_one _ _ _
          case f3 => unfold maxLen; omega
          case f4 => omega
          case f5 => have := HZ6.out; simp; omega
          intro v8 w8 hown8 hg8 _ hblk8
          rw [ownBlock_slice] at hg8 hblk8
          have hown9 : w8.ownsRow bb 30 3 v8 (ts ++ [((k1, y1), n1)]).length ((ts ++ [((k1, y1), n1)]).flatMap wcells) := by rw [List.length_append, List.flatMap_append]; simpa [wcells] using hown8
          obtain ⟨A8, c8, rfl, -, -⟩ := own_rd wcells_length hown9
          rw [ownBlock_slice] at hblk8
          have hAC : Below W6.heap.size W6 (W6.alloc (.cells #[.int .u8 k1, .int .i16 y1, .int .i16 n1] 30)) := (Below.refl _ _).alloc (Nat.le_refl _) _
          obtain ⟨q1, q2⟩ := sep_grow (HN7.out.keep hAC) hg8 HSp.out (by rw [show (W6.alloc (.cells #[.int .u8 k1, .int .i16 y1, .int .i16 n1] 30)).heap.size = W6.heap.size + 1 from by simp]; exact hblk8)
          have HB9 : Hid (Below w1.heap.size w1 w8) := (HB7.out.alloc HB7.out.size _).grown hg8 (HB7.out.alloc HB7.out.size _).size (fun q e => by have := gk_ge HO6.out q e; have := HBb.out; omega)
          have HG1 := Lib.hid q1
          have HG2 := Lib.hid q2
          have HO9 := Lib.hid hown9
          clear hown8 hown9 hg8 hblk8 q1 q2 hAC hW6 e0 e1 e2 hlts HN7 HO6 HB7 HZ6 hlt
          obtain ⟨t2, ht2⟩ : ∃ l2, ts ++ [((k1, y1), n1)] = l2 := ⟨_, rfl⟩
          have hs2 := HSt.out
          rw [ht2] at HO9 hs2 ⊢
          have HS2 := Lib.hid hs2
          clear hs2 ht2
          go_wp2
          go_roundw
          case rel => exact ⟨j + 1, r2, t2, q + m2, hs5, A8, c8, HM1.out, rfl, by first | rfl | go_num, by go_num, HS2.out, HG1.out, HO9.out, HG2.out, HB9.out⟩
          case measure => have := HM2.out; simp [intOf]; omega
      · obtain rfl : j = bs.length := by omega
        have E : Hid ((teT s xss bs) = .ok (r, ts, q)) := HRe.out.trans HS.out
        have HLn : Hid (r.length = xss.length) := HO1.out.1
        have HBw : Hid (Below w.heap.size w wa) := J2.out.trans (HB.out.mono J2.out.size)
        clear hlt hj
        go_wp2
        try simp only [Exit.inBlock, Exit.then]
        refine bodyPost_ret (v := .tuple #[.slice Am xss.length cm, .slice L ts.length lc, .int .i64 q, .int .i64 0]) (by simp [results, Tryd.results22, go_sem, *]) rfl ?_
        exact ⟨Am, cm, hs, L, lc, by (rw [E.out, ← HLn.out]; rfl), by rw [E.out]; exact HN.out.base HSy.out, by rw [E.out]; exact own_base HO.out HSy.out, HP.out, HBw.out⟩

set_option maxRecDepth 100000 in
set_option maxHeartbeats 8000000 in
theorem implTakeOldest_any (xss : List (List Wnt)) (hwf : ∀ xs ∈ xss, ∀ x ∈ xs, wfW x) (k y s : Int) (A : Option Addr) (c : Nat) (ad : Nat → Addr) (w : World) (hl : xss.length ≤ 1048576) (hx : ∀ xs ∈ xss, xs.length ≤ 1048576) (hr : RdN w w.heap.size wcells A xss) (hE : EW 7 w ad) :
    Calls Tryd.prog 18 #[.slice A xss.length c, .agg #[.int .u8 k, .int .i16 y], .int .i64 s] w fun e w' => ∃ A' c' hs, e = .returned (.tuple #[.slice A' (exR (toT s xss (k, y))).length c', .agg (wcells (exX ((0, 0), 0) (toT s xss (k, y)))).toArray, .int .i64 (exM (toT s xss (k, y)) : Nat), .int .i64 (cdO (exE (toT s xss (k, y))))]) ∧ OwnN w' w.heap.size 44 30 3 wcells A' c' hs (exR (toT s xss (k, y))) ∧ Below w.heap.size w w' := by
  have HR := Lib.hid hr
  have HW := Lib.hid hwf
  have HX := Lib.hid hx
  have HE := Lib.hid hE
  clear hr hwf hx hE
  have h2 : Below w.heap.size w ((w.alloc (.cells #[.int .u8 k, .int .i16 y] 28)).alloc (.cells #[.int .u8 0, .int .i16 0, .int .i16 0] 30)) := by
    have q1 : Below w.heap.size w (w.alloc (.cells #[.int .u8 k, .int .i16 y] 28)) := (Below.refl _ w).alloc (Nat.le_refl _) _
    exact q1.alloc q1.size _
  have h1 : Blk ((w.alloc (.cells #[.int .u8 k, .int .i16 y] 28)).alloc (.cells #[.int .u8 0, .int .i16 0, .int .i16 0] 30)) (w.heap.size + 1) 30 #[.int .u8 0, .int .i16 0, .int .i16 0] := by
    have := Blk.new (w.alloc (.cells #[.int .u8 k, .int .i16 y] 28)) 30 #[.int .u8 0, .int .i16 0, .int .i16 0]
    simpa using this
  have h3 : Blk ((w.alloc (.cells #[.int .u8 k, .int .i16 y] 28)).alloc (.cells #[.int .u8 0, .int .i16 0, .int .i16 0] 30)) w.heap.size 28 #[.int .u8 k, .int .i16 y] := (Blk.new w _ _).alloc _
  obtain ⟨W0, hW0⟩ : ∃ W0, ((w.alloc (.cells #[.int .u8 k, .int .i16 y] 28)).alloc (.cells #[.int .u8 0, .int .i16 0, .int .i16 0] 30)) = W0 := ⟨_, rfl⟩
  rw [hW0] at h1 h2 h3
  have H1 := Lib.hid h1
  have H2 := Lib.hid h2
  have b0 : W0.cell? ⟨w.heap.size, 0, none⟩ = some (.int .u8 k) := h3.cell 0
  have b1 : W0.cell? ⟨w.heap.size, 1, none⟩ = some (.int .i16 y) := h3.cell 1
  clear h1 h2 h3
  have hA1 : Below w.heap.size w (W0.alloc (.cells #[.int .u8 k, .int .i16 y] 28)) := H2.out.alloc H2.out.size _
  have HTk := Lib.hid (implTakeEach_any xss HW.out [(k, y)] s A (some ⟨W0.heap.size, 0, none⟩) c 1 ad (W0.alloc (.cells #[.int .u8 k, .int .i16 y] 28)) hl HX.out (by simp) (HR.out.keep hA1) (bot_rdT W0 k y) (HE.out.below hA1 (Nat.le_refl _)))
  have HA1 := Lib.hid hA1
  have HJ1 : Hid (Blk (W0.alloc (.cells #[.int .u8 k, .int .i16 y] 28)) (w.heap.size + 1) 30 #[.int .u8 0, .int .i16 0, .int .i16 0]) := H1.out.alloc _
  have HSz : Hid (w.heap.size + 1 < (W0.alloc (.cells #[.int .u8 k, .int .i16 y] 28)).heap.size) := HJ1.out.lt
  clear hA1
  go_enter Tryd.func18, Tryd.ntmps18
  go_wp2_with fail
  clear hW0
  refine HTk.out.mono ?_
  rintro e w1 ⟨A5, c5, hs, L5, lc5, he, hN5, hL5, -, hb⟩
  have G1 : Hid (Blk w1 (w.heap.size + 1) 30 #[.int .u8 0, .int .i16 0, .int .i16 0]) := HJ1.out.keep hb
  have G2 : Hid (Below w.heap.size w w1) := HA1.out.trans (hb.mono HA1.out.size)
  clear hb H1 H2 b0 b1 HTk HA1 HJ1
  have d0 : w1.cell? ⟨w.heap.size + 1, 0, none⟩ = some (.int .u8 0) := G1.out.cell 0
  have d1 : w1.cell? ⟨w.heap.size + 1, 1, none⟩ = some (.int .i16 0) := G1.out.cell 1
  have d2 : w1.cell? ⟨w.heap.size + 1, 2, none⟩ = some (.int .i16 0) := G1.out.cell 2
  have f0 : w1.frozen? ⟨w.heap.size + 1, 0, none⟩ = false := G1.out.frozen 0
  have f1 : w1.frozen? ⟨w.heap.size + 1, 1, none⟩ = false := G1.out.frozen 1
  have f2 : w1.frozen? ⟨w.heap.size + 1, 2, none⟩ = false := G1.out.frozen 2
  rcases teT_one s xss (k, y) with ⟨n, h1, h2⟩ | ⟨r, ⟨⟨k1, y1⟩, n1⟩, m, h1, h2⟩
  · rw [h2] at he
    have E := Lib.hid h1
    have hne : ¬ cdN n = 0 := cdN_ne
    have hne2 : (cdN n == 0) = false := by simpa using hne
    have he2 : e = .returned (.tuple #[.slice A5 0 c5, .slice L5 0 lc5, .int .i64 0, .int .i64 (cdN n)]) := he
    subst he2
    obtain ⟨cd, hcd⟩ : ∃ v, cdN n = v := ⟨_, rfl⟩
    have HCd := Lib.hid hcd
    rw [hcd] at hne hne2 ⊢
    clear hcd h1 h2 he hN5 hL5
    go_wp2
    refine bodyPost_ret (v := .tuple #[.slice none 0 0, .agg #[.int .u8 0, .int .i16 0, .int .i16 0], .int .i64 0, .int .i64 cd]) (by simp [results, Tryd.results18, go_sem, *]) rfl ?_
    exact ⟨none, 0, [], by (rw [E.out, ← HCd.out]; rfl), by rw [E.out]; exact OwnN.nil _ _ _ _ _ _, ((((G2.out).setCell (p := ⟨w.heap.size + 1, 0, none⟩) (Nat.le_succ _) _).setCell (p := ⟨w.heap.size + 1, 1, none⟩) (Nat.le_succ _) _).setCell (p := ⟨w.heap.size + 1, 2, none⟩) (Nat.le_succ _) _)⟩
  · rw [h2] at he hN5 hL5
    have E := Lib.hid h1
    have he2 : e = .returned (.tuple #[.slice A5 r.length c5, .slice L5 1 lc5, .int .i64 (m : Int), .int .i64 0]) := he
    subst he2
    obtain ⟨gL, oL, rfl, hgL, hrowL⟩ := (own_rd2 (xs := [((k1, y1), n1)]) wcells_length hL5).at_ (k := 0) wcells_length rfl
    obtain ⟨p1, p2, p3⟩ := rowW hrowL
    rw [Nat.zero_mul, Nat.add_zero] at p1 p2 p3
    have hlt : ∀ q, q = w.heap.size + 1 → q < (W0.alloc (.cells #[.int .u8 k, .int .i16 y] 28)).heap.size := fun k e => by have := HSz.out; omega
    have hgb : (W0.alloc (.cells #[.int .u8 k, .int .i16 y] 28)).heap.size ≤ gL := (own_block hL5 rfl).1
    have hd1 : w.heap.size + 1 ≠ gL := by have := HSz.out; omega
    have hd2 : gL ≠ w.heap.size + 1 := fun e => hd1 e.symm
    have HN6 := Lib.hid (((((show OwnN w1 _ 44 30 3 wcells A5 c5 hs r from hN5).only (only_set w1 (w.heap.size + 1) 0 (.int .u8 k1)) hlt).only (only_set _ (w.heap.size + 1) 1 (.int .i16 y1)) hlt).only (only_set _ (w.heap.size + 1) 2 (.int .i16 n1)) hlt).keep ((Below.refl _ _).drew))
    have HB6 : Hid (Below w.heap.size w (((w1.setCell ⟨w.heap.size + 1, 0, none⟩ (.int .u8 k1)).setCell ⟨w.heap.size + 1, 1, none⟩ (.int .i16 y1)).setCell ⟨w.heap.size + 1, 2, none⟩ (.int .i16 n1)).drew) := ((((G2.out).setCell (p := ⟨w.heap.size + 1, 0, none⟩) (Nat.le_succ _) _).setCell (p := ⟨w.heap.size + 1, 1, none⟩) (Nat.le_succ _) _).setCell (p := ⟨w.heap.size + 1, 2, none⟩) (Nat.le_succ _) _).drew
    have HSb : Hid (w.heap.size ≤ (W0.alloc (.cells #[.int .u8 k, .int .i16 y] 28)).heap.size) := by have := HSz.out; show _ ≤ _; omega
    clear h1 h2 he hN5 hL5 hrowL hgL hlt hgb
    go_wp2_with fail
    go_region
    go_wp2
    refine bodyPost_ret (v := .tuple #[.slice A5 r.length c5, .agg #[.int .u8 k1, .int .i16 y1, .int .i16 n1], .int .i64 (m : Int), .int .i64 0]) (by simp [results, Tryd.results18, go_sem, *]) rfl ?_
    exact ⟨A5, c5, hs, by (rw [E.out]; rfl), by rw [E.out]; exact HN6.out.base HSb.out, HB6.out⟩

end Go.Proofs.YtmfdgpinohbckaaDoor
