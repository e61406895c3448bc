/-
  Taking several, in an order: the model's contract. Condition: the rack and the lists read, the order's numbers are places of what is wanted, the slack is one.
-/
import Derived.Test.YtmfdgpinohbckaaDoorTk1
import Derived.Test.YtmfdgpinohbckaaDoorMg15
namespace Go.Proofs.YtmfdgpinohbckaaDoor
open Go.ChangeShapes Go.WideShapes Go.ChangeAt Go.RowKit Go.Deep

def eaW (bs : List Bot) (os : List Int) : List Bot := os.map fun o => bs.getD o.toNat (0, 0)
def eaT (s : Int) (xss : List (List Wnt)) (bs : List Bot) (os : List Int) : Except Nat (List (List Wnt) × List Wnt × Nat) := teS s xss (eaW bs os) os.length
theorem eaW_at {bs : List Bot} {os : List Int} {j m : Nat} {b : Bot} (ho : os[j]? = some (m : Int)) (hb : bs[m]? = some b) : (eaW bs os)[j]? = some b := by
  simp [eaW, ho, hb]
theorem three_cellsN (W : World) (t : TypeId) (k y n : Int) : ∀ (j : Nat) (u : Value), [Value.int .u8 k, .int .i16 y, .int .i16 n][j]? = some u → (W.alloc (.cells #[.int .u8 k, .int .i16 y, .int .i16 n] t)).cell? ((⟨W.heap.size, 0, none⟩ : Addr).add j) = some u := fun j u hu => by
  have e : (⟨W.heap.size, 0, none⟩ : Addr).add j = ⟨W.heap.size, j, none⟩ := by cases j <;> simp [Addr.add]
  rw [e, Blk.cell (Blk.new W t #[.int .u8 k, .int .i16 y, .int .i16 n])]
  simpa using hu
theorem three_one (k y n : Int) : ∀ u ∈ [Value.int .u8 k, .int .i16 y, .int .i16 n], u.oneCell' = true := by
  intro u hu
  simp only [List.mem_cons, List.not_mem_nil, or_false] at hu
  rcases hu with rfl | rfl | rfl <;> rfl
theorem sum_wrap {q m : Nat} (h : q + m ≤ 1000000) : IntKind.i64.wrap ((q : Int) + (m : Int)) = ((q + m : Nat) : Int) ∧ wrap64 ((q : Int) + (m : Int)) = ((q + m : Nat) : Int) := by
  rw [show ((q : Int) + (m : Int)) = ((q + m : Nat) : Int) from by omega]
  exact ⟨IntWalk.i64_in _ ⟨by omega, by omega⟩, IntWalk.wrap64_in _ ⟨by omega, by omega⟩⟩

set_option maxRecDepth 100000 in
set_option maxHeartbeats 8000000 in
theorem l04Each_any (xss : List (List Wnt)) (hB : rkB xss.length xss) (bs : List Bot) (os : List Int) (ho : ∀ o ∈ os, 0 ≤ o ∧ o < bs.length) (A B C : Option Addr) (c d f : Nat) (s : Int) (hs : 0 ≤ s ∧ s ≤ 2000) (w : World) (hl : xss.length ≤ 8) (hlb : bs.length ≤ 1048576) (hlo : os.length ≤ 1000) (hr : RdN w w.heap.size wcells A xss) (hb : Rd w w.heap.size bcells B bs) (hc : Rd w w.heap.size icells C os) :
    Calls Tryd.prog 48 #[.slice A xss.length c, .slice B bs.length d, .slice C os.length f, .int .i64 s] w fun e w' => ∃ A' c' L lc, e = .returned (.tuple #[.slice A' (exR (eaT s xss bs os)).length c', .slice L (exX [] (eaT s xss bs os)).length lc, .int .i64 (exM (eaT s xss bs os) : Nat), .int .i64 (cdO (exE (eaT s xss bs os)))]) ∧ RdN w' w'.heap.size wcells A' (exR (eaT s xss bs os)) ∧ Rd w' w'.heap.size wcells L (exX [] (eaT s xss bs os)) ∧ Below w.heap.size w w' := by
  obtain ⟨i0, hi0, hz0, hz1, hz2⟩ := info_parts Tryd.infoTI
  have HI := Lib.hid hi0
  have HZ0 := Lib.hid hz0
  have HZ1 := Lib.hid hz1
  have HZ2 := Lib.hid hz2
  clear hi0 hz0 hz1 hz2
  have HR := Lib.hid hr
  have HRb := Lib.hid hb
  have HRc := Lib.hid hc
  have HRB := Lib.hid hB
  have HL8 := Lib.hid hl
  have HOo := Lib.hid ho
  have HSs := Lib.hid hs
  clear hr hb hc hB hl ho hs
  go_enter Tryd.func48, Tryd.ntmps48
  go_wp2_with fail
  refine (l04Own_any xss A c w (by have := HL8.out; omega) (fun xs h => Nat.le_trans (HRB.out.2.1 xs h) (by decide)) HR.out).mono ?_
  rintro e w1 ⟨Am, cm, hs1, rfl, hN, hb1⟩
  have HN0 := Lib.hid ((hN.keep ((Below.refl _ w1).alloc (Nat.le_refl _) (.cells #[] 30))).rd wcells_length)
  have HE0 : Hid ((w1.alloc (.cells #[] 30)).ownsRow w.heap.size 30 3 (.slice (some ⟨w1.heap.size, 0, none⟩) ([] : List Wnt).length 0) ([] : List Wnt).length (([] : List Wnt).flatMap wcells)) := own_base (empty_own w1 _ 3) hb1.size
  have HB0 : Hid (Below w.heap.size w (w1.alloc (.cells #[] 30))) := hb1.alloc hb1.size _
  clear hN hb1
  go_wp2_with fail
  go_loopw [12, 13, 14, 15] (fun ov tv sv iv wr => ∃ (j : Nat) (r : List (List Wnt)) (ts : List Wnt) (q : Nat) (Ar : Option Addr) (cr : Nat) (L : Option Addr) (lc : Nat), j ≤ os.length ∧ ov = .slice Ar r.length cr ∧ tv = .slice L ts.length lc ∧ sv = .int .i64 q ∧ iv = .int .i64 j ∧ teS s xss (eaW bs os) j = .ok (r, ts, q) ∧ RdN wr wr.heap.size wcells Ar r ∧ wr.ownsRow w.heap.size 30 3 (.slice L ts.length lc) ts.length (ts.flatMap wcells) ∧ Below w.heap.size w wr)
    (fun _ _ _ i _ => os.length - (intOf i).toNat)
  case atStart => exact ⟨0, xss, [], 0, Am, cm, _, 0, by omega, rfl, rfl, rfl, rfl, rfl, HN0.out, HE0.out, HB0.out⟩
  case round =>
    clear HE0 HN0 HB0
    obtain ⟨j, r, ts, q, Ar, cr, L, lc, hj, rfl, rfl, rfl, rfl, hS, hR, hO, hB⟩ := hrel
    obtain ⟨wa, rfl⟩ : ∃ u, u = wr := ⟨_, rfl⟩
    obtain ⟨o1, o2, o3, o4⟩ := teS_ok HRB.out j (by rw [eaW, List.length_map]; exact hj) r ts q hS
    have HS := Lib.hid hS
    have HRr := Lib.hid hR
    have HO := Lib.hid hO
    have HB := Lib.hid hB
    have HO1 := Lib.hid o1
    have HO2 := Lib.hid o2
    have HO4 := Lib.hid o4
    clear hS hR hO hB o1 o2 o3 o4
    have hj0 : (0 : Int) ≤ (j : Int) := Int.natCast_nonneg _
    by_cases hlt : j < os.length
    · have hj8 : (j : Int) < os.length := by omega
      obtain ⟨o, hoj⟩ : ∃ x, os[j]? = some x := ⟨_, List.getElem?_eq_getElem hlt⟩
      obtain ⟨ho0, ho8⟩ := HOo.out o (List.mem_of_getElem? hoj)
      obtain ⟨m, rfl⟩ : ∃ m : Nat, o = m := ⟨o.toNat, by omega⟩
      obtain ⟨⟨k, y⟩, hbm⟩ : ∃ x, bs[m]? = some x := ⟨_, List.getElem?_eq_getElem (by omega)⟩
      have HWj := Lib.hid (eaW_at hoj hbm)
      obtain ⟨bC, oC, rfl, hbC, hrowC⟩ := (HRc.out.keep HB.out).at_ icells_length hoj
      obtain ⟨bB, oB, rfl, hbB, hrowB⟩ := (HRb.out.keep HB.out).at_ bcells_length hbm
      have g0 : wa.cell? ⟨bC, oC + j, none⟩ = some (.int .i64 m) := rowI hrowC
      obtain ⟨g1, g2⟩ := rowB2K hrowB
      have hTk := l04Take_any r HO1.out.2.2.1 Ar cr k y s HSs.out wa (by rw [HO1.out.1]; exact HL8.out) HO1.out.2.1 HRr.out
      have HTk := Lib.hid hTk
      clear hTk hrowC hrowB hoj hbm
      go_wp2_with fail
      refine HTk.out.mono ?_
      rintro e w5 ⟨A5, c5, he, hR5, hb5⟩
      have HO5 := Lib.hid (own_keep' HO.out hb5)
      have HB5 := Lib.hid (HB.out.trans (hb5.mono HB.out.size))
      have HR5 := Lib.hid hR5
      clear hb5 hR5 HTk
      cases hT : tkT s r (k, y) with
      | error n =>
        rw [hT] at he
        have hst : (eaT s xss bs os) = .error n := teS_stop HWj.out HS.out hT hlt
        have E := Lib.hid hst
        have hne : ¬ cdN n = 0 := cdN_ne
        have hne2 : (cdN n == 0) = false := by simpa using hne
        obtain ⟨cd, hcd⟩ : ∃ v, cdN n = v := ⟨_, rfl⟩
        have he2 : e = .returned (.tuple #[.slice A5 0 c5, .agg #[.int .u8 0, .int .i16 0, .int .i16 0], .int .i64 0, .int .i64 (cdN n)]) := he
        subst he2
        have HCd := Lib.hid hcd
        rw [hcd] at hne hne2 ⊢
        clear hcd hst hT g0 g1 g2 he
        go_wp2
        try simp only [Exit.inBlock, Exit.then]
        refine bodyPost_ret (v := .tuple #[.slice (some ⟨w5.heap.size + 1, 0, none⟩) 0 0, .slice (some ⟨w5.heap.size + 1 + 1, 0, none⟩) 0 0, .int .i64 0, .int .i64 cd]) (by simp [results, Tryd.results48, go_sem, *]) rfl ?_
        exact ⟨_, _, _, _, by (rw [E.out, ← HCd.out]; rfl), by rw [E.out]; exact rdN_nil _ _ _ _, by rw [E.out]; exact rd_nilK _ _ _ _, (((HB5.out.alloc HB5.out.size _).alloc (HB5.out.alloc HB5.out.size _).size _).alloc ((HB5.out.alloc HB5.out.size _).alloc (HB5.out.alloc HB5.out.size _).size _).size _)⟩
      | ok p =>
        obtain ⟨r2, ⟨⟨k1, y1⟩, n1⟩, m2⟩ := p
        obtain ⟨t1, t2, t3, t4⟩ := tkT_ok HO1.out hT
        have HSt := Lib.hid (teS_step HWj.out HS.out hT)
        rw [hT] at he
        have he2 : e = .returned (.tuple #[.slice A5 r2.length c5, .agg #[.int .u8 k1, .int .i16 y1, .int .i16 n1], .int .i64 (m2 : Int), .int .i64 0]) := he
        subst he2
        have HRO : Hid (RdO w5 wa.heap.size A5 c5 r2) := by have := HR5.out; rw [hT] at this; exact this
        obtain ⟨hw1, hw2⟩ := sum_wrap (q := q) (m := m2) (by have := HO4.out; omega)
        have HLt : Hid (ts.length ≤ 1000) := by show _ ≤ _; have := HO2.out; omega
        have hA6 : Below w5.heap.size w5 (w5.alloc (.cells #[.int .u8 k1, .int .i16 y1, .int .i16 n1] 30)) := (Below.refl _ w5).alloc (Nat.le_refl _) _
        have hK6 : Blk (w5.alloc (.cells #[.int .u8 k1, .int .i16 y1, .int .i16 n1] 30)) w5.heap.size 30 #[.int .u8 k1, .int .i16 y1, .int .i16 n1] := Blk.new w5 _ _
        obtain ⟨W6, hW6⟩ : ∃ W6, w5.alloc (.cells #[.int .u8 k1, .int .i16 y1, .int .i16 n1] 30) = W6 := ⟨_, rfl⟩
        rw [hW6] at hA6 hK6
        have hA7 : Below W6.heap.size W6 (W6.alloc (.cells #[.int .u8 k1, .int .i16 y1, .int .i16 n1] 30)) := (Below.refl _ W6).alloc (Nat.le_refl _) _
        have HO6 := Lib.hid (own_keep' HO5.out hA6)
        have HRO7 := Lib.hid ((HRO.out.keep hA6).keep hA7)
        have HB7 := Lib.hid (((HB5.out.trans (hA6.mono HB5.out.size)).trans (hA7.mono (HB5.out.trans (hA6.mono HB5.out.size)).size)))
        have HZ6 : Hid (w.heap.size ≤ W6.heap.size) := (HB5.out.trans (hA6.mono HB5.out.size)).size
        have HLb : Hid (∀ q, L.map (·.block) = some q → w.heap.size ≤ q ∧ q < wa.heap.size) := fun q e => own_block HO.out (by rw [ownBlock_slice]; exact e)
        have e0 : W6.cell? ⟨w5.heap.size, 0, none⟩ = some (.int .u8 k1) := hK6.cell 0
        have e1 : W6.cell? ⟨w5.heap.size, 1, none⟩ = some (.int .i16 y1) := hK6.cell 1
        have e2 : W6.cell? ⟨w5.heap.size, 2, none⟩ = some (.int .i16 n1) := hK6.cell 2
        have hlts : ts.length ≤ 1000 := HLt.out
        clear t1 t2 t3 t4 hT he hA6 hK6 hA7 HO HB HO5 HB5 HRO HR5 g0 g1 g2
        go_wp2_with (at_builtin; refine wpList_append_own_at _ rfl (.tmp 50) (.tmp 52) 44 rfl w.heap.size 30 i0 (.agg #[.int .u8 0, .int .i16 0, .int .i16 0]) 3 6 Tryd.underlying44 HI.out HZ0.out HZ1.out HZ2.out rfl (by decide) _ _ _ rfl (HO6.out.alloc _) ⟨W6.heap.size, 0, none⟩ 1 1 [.int .u8 k1, .int .i16 y1, .int .i16 n1] rfl rfl ?f1 ?f2 ?f3 ?f4 ?f5 ?_)
        case f1 => exact three_cellsN W6 _ _ _ _
        case f2 => exact three_one _ _ _
        case f3 => unfold maxLen; omega
        case f4 => omega
        case f5 => have := HZ6.out; simp; omega
        intro v8 w8 hown8 hg8 _ hblk8
        rw [ownBlock_slice] at hg8 hblk8
        have hown9 : w8.ownsRow w.heap.size 30 3 v8 (ts ++ [((k1, y1), n1)]).length ((ts ++ [((k1, y1), n1)]).flatMap wcells) := by rw [List.length_append, List.flatMap_append]; simpa [wcells] using hown8
        obtain ⟨A8, c8, rfl, -, -⟩ := own_rd wcells_length hown9
        have HO9 := Lib.hid hown9
        have hRO8 := (HRO7.out.only (Only.of_grown hg8 (fun k e => e)) (fun k e => (HLb.out k e).2))
        have HR8 := Lib.hid hRO8.rd
        have HB8 : Hid (Below w.heap.size w w8) := HB7.out.grown hg8 HB7.out.size (fun q e => (HLb.out q e).1)
        obtain ⟨t2, ht2⟩ : ∃ l2, ts ++ [((k1, y1), n1)] = l2 := ⟨_, rfl⟩
        have hs2 := HSt.out
        rw [ht2] at HO9 hs2 ⊢
        have HS2 := Lib.hid hs2
        clear hown8 hown9 hg8 hblk8 hRO8 HSt hs2 ht2 hW6 e0 e1 e2 HRO7 HB7 HO6
        go_wp2
        go_roundw
        case rel => exact ⟨j + 1, r2, t2, q + m2, A5, c5, A8, c8, by omega, rfl, rfl, by first | rfl | go_num, by go_num, HS2.out, HR8.out, HO9.out, HB8.out⟩
        case measure => simp [intOf]; omega
    · obtain rfl : j = os.length := by omega
      have E : Hid ((eaT s xss bs os) = .ok (r, ts, q)) := HS.out
      have HRl := Lib.hid (own_rd2 wcells_length HO.out)
      go_wp2
      try simp only [Exit.inBlock, Exit.then]
      refine bodyPost_ret (v := .tuple #[.slice Ar r.length cr, .slice L ts.length lc, .int .i64 q, .int .i64 0]) (by simp [results, Tryd.results48, go_sem, *]) rfl ?_
      exact ⟨_, _, _, _, by (rw [E.out]; rfl), by rw [E.out]; exact HRr.out, by rw [E.out]; exact HRl.out, HB.out⟩

end Go.Proofs.YtmfdgpinohbckaaDoor
