/-
  reach with its footprint: what is not the rack's stays. Condition: a rack of one's own, at most eight of at most six; the sentinel errors lie as the row lists them.
-/
import Derived.Test.YtmfdgpinohbckaaDoorKo4
import Derived.Test.YtmfdgpinohbckaaDoorTk0
namespace Go.Proofs.YtmfdgpinohbckaaDoor
open Go.ChangeShapes Go.WideShapes Go.ChangeAt Go.RowKit Go.Deep

theorem PutO.trans {A : Option Addr} {hs hs1 hs2 : List Hd} {w w1 w2 : World} (h : PutO A hs hs1 w w1) (hz : w.heap.size ≤ w1.heap.size) (h2 : PutO A hs1 hs2 w1 w2) : PutO A hs hs2 w w2 := fun q hq hA hh => by
  obtain ⟨i1, i2⟩ := h q hq hA hh
  obtain ⟨j1, j2⟩ := h2 q (Nat.lt_of_lt_of_le hq hz) hA i2
  exact ⟨j1.trans i1, j2⟩
theorem PutO.far {A : Option Addr} {hs hs' : List Hd} {w w1 w2 : World} (h : PutO A hs hs' w w1) (hb : Below w.heap.size w1 w2) : PutO A hs hs' w w2 := fun q hq hA hh =>
  ⟨(hb.block q hq).trans (h q hq hA hh).1, (h q hq hA hh).2⟩
set_option maxRecDepth 100000 in
set_option maxHeartbeats 4000000 in
theorem reachX_any (xss : List (List Wnt)) (hs0 : List Hd) (b : Nat) (A : Option Addr) (c : Nat) (l i : Nat) (xs : List Wnt) (ad : Nat → Addr) (v w : World) (hl : xss.length ≤ 8) (h6 : ∀ xs ∈ xss, xs.length ≤ 6) (hwf : ∀ xs ∈ xss, ∀ x ∈ xs, wfW x) (hN : OwnN w b 44 30 3 wcells A c hs0 xss) (hbw : b ≤ w.heap.size) (hx : xss[l]? = some xs) (hi : i < xs.length) (hv : v.heap.size ≤ b) (hE : EW 7 v ad) (hvw : Below v.heap.size v w) :
    Calls Tryd.prog 44 #[.slice A xss.length c, .int .i64 (l : Int), .int .i64 (i : Int)] w fun e w' => ∃ hs', e = .returned (.tuple #[.agg (wcells (rcV xss l xs i)).toArray, .int .i64 (rcM xss l xs i : Nat), rcE ad xss l xs i]) ∧ (∀ r, rcS xss l xs (xs.length - 1 - i) = some r → OwnN w' b 44 30 3 wcells A c hs' (r.set l (xs.take i))) ∧ Below b w w' ∧ PutO A hs0 hs' w w' := by
  have H6 := Lib.hid h6
  have HL8 := Lib.hid hl
  have HW := Lib.hid hwf
  have HX0 := Lib.hid hx
  have HV := Lib.hid hv
  have HE := Lib.hid hE
  have HVw := Lib.hid hvw
  have HBW := Lib.hid hbw
  have HN0 := Lib.hid hN
  clear hl h6 hwf hx hv hE hvw hN
  have hK0 : Blk (w.alloc (.cells #[.int .u8 0, .int .i16 0, .int .i16 0] 30)) w.heap.size 30 #[.int .u8 0, .int .i16 0, .int .i16 0] := Blk.new w _ _
  have hB0 : Below b w (w.alloc (.cells #[.int .u8 0, .int .i16 0, .int .i16 0] 30)) := (Below.refl b w).alloc hbw _
  have hN1 := HN0.out.keep ((Below.refl _ w).alloc (Nat.le_refl _) (.cells #[.int .u8 0, .int .i16 0, .int .i16 0] 30))
  have hP0 : PutO A hs0 hs0 w (w.alloc (.cells #[.int .u8 0, .int .i16 0, .int .i16 0] 30)) := fun q hq _ hh => ⟨((Below.refl _ w).alloc (Nat.le_refl _) _).block q hq, hh⟩
  have hS0 : SepL A hs0 (some ⟨w.heap.size, 0, none⟩) := SepL.new HN0.out rfl
  obtain ⟨w0, hw0⟩ : ∃ u, w.alloc (.cells #[.int .u8 0, .int .i16 0, .int .i16 0] 30) = u := ⟨_, rfl⟩
  rw [hw0] at hK0 hB0 hN1 hP0
  clear hbw
  go_enter Tryd.func44, Tryd.ntmps44
  have HK0 := Lib.hid hK0
  have HB0 := Lib.hid hB0
  have HN1 := Lib.hid hN1
  have HS0 := Lib.hid hS0
  have HP0 := Lib.hid hP0
  clear hK0 hB0 hN1 hS0 hP0
  go_wp2
  refine wp_scope_from 0 (fun a' wr => ∃ (k : Nat) (r : List (List Wnt)) (hs : List Hd) (u3 u4 u5 u10 u11 u12 u13 u14 u15 u16 u17 u18 u19 u20 u21 u22 u23 u24 u25 u26 u27 u28 u29 u30 u31 u32 u33 u34 u35 u36 u37 u38 u39 u40 u41 u42 : Value), a' = { tmps := #[.slice A xss.length c, .int .i64 (l : Int), .int .i64 (i : Int), u3, u4, u5, .pointer (some ⟨w.heap.size, 0, none⟩), .int .i64 0, .nilIface, .int .i64 (k : Int), u10, u11, u12, u13, u14, u15, u16, u17, u18, u19, u20, u21, u22, u23, u24, u25, u26, u27, u28, u29, u30, u31, u32, u33, u34, u35, u36, u37, u38, u39, u40, u41, u42], defers := [] } ∧ k + i + 1 ≤ xs.length ∧ rcS xss l xs k = some r ∧ OwnN wr b 44 30 3 wcells A c hs r ∧ Blk wr w.heap.size 30 #[.int .u8 0, .int .i16 0, .int .i16 0] ∧ SepL A hs (some ⟨w.heap.size, 0, none⟩) ∧ Below b w wr ∧ PutO A hs0 hs w wr) (fun a' _ => xs.length - (intOf (a'.tmps.getD 9 undef)).toNat) rfl ?pass ?first
  case first =>
    intro Q1 hQ1
    have HQ1 := Lib.hid hQ1
    clear hQ1
    go_wp2
    exact HQ1.out _ _ ⟨0, xss, hs0, _, _, _, _, _, _, _, _, _, _, _, _, _, _, _, _, _, _, _, _, _, _, _, _, _, _, _, _, _, _, _, _, _, _, _, _, rfl, by omega, rfl, HN1.out, HK0.out, HS0.out, HB0.out, HP0.out⟩
  case pass =>
    rintro a' wr ⟨k, r, hs, u3, u4, u5, u10, u11, u12, u13, u14, u15, u16, u17, u18, u19, u20, u21, u22, u23, u24, u25, u26, u27, u28, u29, u30, u31, u32, u33, u34, u35, u36, u37, u38, u39, u40, u41, u42, rfl, hki, hR, hN, hX, hS, hB, hPQ⟩
    obtain ⟨wa, rfl⟩ : ∃ u, u = wr := ⟨_, rfl⟩
    clear HN0 HN1 HK0 HB0 HS0 HP0 hw0
    have HPQ := Lib.hid hPQ
    clear hPQ
    obtain ⟨ok1, ok2, ok3, ok4⟩ := rcS_ok HX0.out H6.out HW.out k (by omega) r hR
    have hl6 : xs.length ≤ 6 := H6.out xs (List.mem_of_getElem? HX0.out)
    obtain ⟨j, hj⟩ : ∃ j, j = xs.length - 1 - k := ⟨_, rfl⟩
    have hjl : j < xs.length := by omega
    obtain ⟨x, hxj⟩ : ∃ x, xs[j]? = some x := ⟨_, List.getElem?_eq_getElem hjl⟩
    have hwx : wfW x := HW.out xs (List.mem_of_getElem? HX0.out) x (List.mem_of_getElem? hxj)
    have htk : (xs.take (xs.length - k)).length = xs.length - k := by rw [List.length_take]; omega
    have hxt : (xs.take (xs.length - k))[j]? = some x := by rw [List.getElem?_take_of_lt (by omega)]; exact hxj
    have hll := (List.getElem?_eq_some_iff.1 ok2).1
    have HKi : Hid (k + i + 1 ≤ xs.length) := hki
    have HJj := Lib.hid hj
    have HR := Lib.hid hR
    have HXj := Lib.hid hxj
    have HBw : Hid (b ≤ wa.heap.size) := Nat.le_trans HBW.out hB.size
    have htake := takeX_any r hs b A c l j x _ wa hN HBw.out ok2 (by have := HL8.out; omega) (by omega) (by omega) hxt
    rw [ok1, List.take_take, show min j (xs.length - k) = j from by omega] at htake
    have HTake := Lib.hid htake
    have HS := Lib.hid hS
    have HX := Lib.hid hX
    have HB := Lib.hid hB
    have HN := Lib.hid hN
    have HO1 := Lib.hid ok1
    have HO2 := Lib.hid ok2
    have HO3 := Lib.hid ok3
    have HWx := Lib.hid hwx
    have HLl := Lib.hid hll
    clear htake hS hX hB hN ok1 ok2 ok3 ok4 hxt htk hxj hR hwx hll
    obtain ⟨⟨k1, y1⟩, n1⟩ := x
    go_wp2_with fail
    refine HTake.out.mono ?_
    rintro e w1 ⟨hs1, he, hN1, hb1, hP1⟩
    have he2 : e = .returned (.agg #[.int .u8 k1, .int .i16 y1, .int .i16 n1]) := he
    subst he2
    have hX1 : Blk w1 w.heap.size 30 #[.int .u8 0, .int .i16 0, .int .i16 0] := (hP1 w.heap.size HX.out.lt (HS.out _ rfl).1 (HS.out _ rfl).2).1.trans HX.out
    have hS1 : SepL A hs1 (some ⟨w.heap.size, 0, none⟩) := fun q e => by
      obtain rfl : w.heap.size = q := Option.some.inj e
      exact ⟨(HS.out _ rfl).1, (hP1 _ HX.out.lt (HS.out _ rfl).1 (HS.out _ rfl).2).2⟩
    have hB1 : Below b w w1 := HB.out.trans hb1
    have HPQ1 : Hid (PutO A hs0 hs1 w w1) := HPQ.out.trans HB.out.size hP1
    clear HTake hP1 HX HS HB HN he HPQ
    go_upto_region 3 with fail
    have hA2 : Below w1.heap.size w1 (w1.alloc (.cells #[.int .u8 k1, .int .i16 y1, .int .i16 n1] 30)) := (Below.refl _ w1).alloc (Nat.le_refl _) _
    have hK2 : Blk (w1.alloc (.cells #[.int .u8 k1, .int .i16 y1, .int .i16 n1] 30)) w1.heap.size 30 #[.int .u8 k1, .int .i16 y1, .int .i16 n1] := Blk.new w1 _ _
    obtain ⟨w2, hw2⟩ : ∃ u, w1.alloc (.cells #[.int .u8 k1, .int .i16 y1, .int .i16 n1] 30) = u := ⟨_, rfl⟩
    rw [hw2] at hA2 hK2 ⊢
    have HN2 : Hid (OwnN w2 b 44 30 3 wcells A c hs1 (r.set l (xs.take j))) := hN1.keep hA2
    have HX2 : Hid (Blk w2 w.heap.size 30 #[.int .u8 0, .int .i16 0, .int .i16 0]) := hX1.keep hA2
    have HS2 := Lib.hid hS1
    have HB2 : Hid (Below b w w2) := hB1.trans (hA2.mono (by have := hB1.size; have := HBW.out; omega))
    have HK2 := Lib.hid hK2
    have HPQ2 : Hid (PutO A hs0 hs1 w w2) := HPQ1.out.keep hB1.size hA2
    clear hw2 hA2 hK2 hN1 hX1 hS1 hB1 hb1 HPQ1
    have hlj : (xs.take j).length = j := by rw [List.length_take]; omega
    obtain ⟨b9, o9, a9, c9, hAe, hb9, e9, -⟩ := (HN2.out.rdK wcells_length).at_ (show (r.set l (xs.take j))[l]? = some (xs.take j) from List.getElem?_set_self HLl.out)
    rw [hlj] at e9
    have hl0 : (0 : Int) ≤ (l : Int) := Int.natCast_nonneg _
    have hl8 : (l : Int) < xss.length := by have := HLl.out; have := HO1.out; omega
    have HAe := Lib.hid hAe
    have hc0 : w2.cell? ⟨w1.heap.size, 0, none⟩ = some (.int .u8 k1) := HK2.out.cell 0
    have hc1 : w2.cell? ⟨w1.heap.size, 1, none⟩ = some (.int .i16 y1) := HK2.out.cell 1
    have hc2 : w2.cell? ⟨w1.heap.size, 2, none⟩ = some (.int .i16 n1) := HK2.out.cell 2
    by_cases hji : j = i
    · have hki2 : xs.length - 1 - i = k := by have := HJj.out; have := HKi.out; omega
      have hrc := rc_yes (i := i) (by rw [hki2]; exact HR.out) (by rw [← hji]; exact HXj.out) ad
      have HRc := Lib.hid hrc
      have HKk := Lib.hid hki2
      have hjb : ((j : Int) == (i : Int)) = true := by simp [hji]
      have hjb2 : (j : Int) = (i : Int) := by omega
      have z0 : w2.cell? ⟨w.heap.size, 0, none⟩ = some (.int .u8 0) := HX2.out.cell 0
      have z1 : w2.cell? ⟨w.heap.size, 1, none⟩ = some (.int .i16 0) := HX2.out.cell 1
      have z2 : w2.cell? ⟨w.heap.size, 2, none⟩ = some (.int .i16 0) := HX2.out.cell 2
      have f0 : w2.frozen? ⟨w.heap.size, 0, none⟩ = false := HX2.out.frozen 0
      have f1 : w2.frozen? ⟨w.heap.size, 1, none⟩ = false := HX2.out.frozen 1
      have f2 : w2.frozen? ⟨w.heap.size, 2, none⟩ = false := HX2.out.frozen 2
      clear hrc hki2
      subst hAe
      go_wp2
      simp only [Exit.jump]
      refine bodyPost_ret (v := .tuple #[.agg #[.int .u8 k1, .int .i16 y1, .int .i16 n1], .int .i64 (k : Int), .nilIface]) (by simp [results, Tryd.results44, go_sem, *]) rfl ?_
      have hgr : w2.grownBy (((w2.setCell ⟨w.heap.size, 0, none⟩ (.int .u8 k1)).setCell ⟨w.heap.size, 1, none⟩ (.int .i16 y1)).setCell ⟨w.heap.size, 2, none⟩ (.int .i16 n1)) ((some ⟨w.heap.size, 0, none⟩ : Option Addr).map (·.block)) := gk_set (gk_set (gk_set (gk_refl w2 (some w.heap.size)) _) _) _
      have hfin := (sep_grow HN2.out hgr HS2.out (.inl rfl)).1
      refine ⟨hs1, by (rw [HRc.out.1, HRc.out.2.1, HRc.out.2.2, HKk.out]; first | done | rfl), fun r' h => ?_, (((HB2.out.setCell (p := ⟨w.heap.size, 0, none⟩) HBW.out _).setCell (p := ⟨w.heap.size, 1, none⟩) HBW.out _).setCell (p := ⟨w.heap.size, 2, none⟩) HBW.out _), HPQ2.out.far ((((Below.refl w.heap.size w2).setCell (p := ⟨w.heap.size, 0, none⟩) (Nat.le_refl _) _).setCell (p := ⟨w.heap.size, 1, none⟩) (Nat.le_refl _) _).setCell (p := ⟨w.heap.size, 2, none⟩) (Nat.le_refl _) _)⟩
      rw [HKk.out, HR.out] at h
      obtain rfl := Option.some.inj h
      rw [← hji]
      exact hfin
    have hij : i < j := by have := HJj.out; have := HKi.out; omega
    have HM1 : Hid (k + 1 + i + 1 ≤ xs.length) := by have := HJj.out; have := HKi.out; show _ ≤ _; omega
    have HM2 : Hid (xs.length - (k + 1) < xs.length - k) := by have := HKi.out; show _ < _; omega
    have hjb : ((j : Int) == (i : Int)) = false := by simp; omega
    have hjb2 : ¬ (j : Int) = (i : Int) := by omega
    subst hAe
    have hEv : EW 7 w2 ad := HE.out.below (HVw.out.trans (HB2.out.mono HV.out |> fun h => h.mono (Nat.le_refl _))) (Nat.le_refl _)
    have HRo := Lib.hid (roomiest_any (r.set l (xs.take j)) l ((k1, y1), n1) HWx.out (some ⟨b9, o9, none⟩) c ad w2 (by rw [List.length_set, HO1.out]; exact HL8.out) (fun zs hz => by
      rcases List.mem_or_eq_of_mem_set hz with h | rfl
      · exact HO3.out zs h
      · rw [List.length_take]; omega) (HN2.out.rdK wcells_length) hEv)
    rw [rm_set, List.length_set, HO1.out] at HRo
    obtain ⟨T, hT⟩ : ∃ T, rmT r l xss.length = T := ⟨_, rfl⟩
    rw [hT] at HRo
    have HT : Hid (rmT r l r.length = T) := by show _ = _; rw [HO1.out]; exact hT
    clear hT hEv
    go_wp2_with fail
    refine HRo.out.mono ?_
    rintro e w5 ⟨k2, y2, d2, l2, i2, a2, n2, c2, rfl, hl2, hb⟩
    have HN5 : Hid (OwnN w5 b 44 30 3 wcells (some ⟨b9, o9, none⟩) c hs1 (r.set l (xs.take j))) := HN2.out.keep hb
    have HX5 : Hid (Blk w5 w.heap.size 30 #[.int .u8 0, .int .i16 0, .int .i16 0]) := HX2.out.keep hb
    have HB5 : Hid (Below b w w5) := HB2.out.trans (hb.mono (by have := HB2.out.size; have := HBW.out; omega))
    have HK5 : Hid (Blk w5 w1.heap.size 30 #[.int .u8 k1, .int .i16 y1, .int .i16 n1]) := HK2.out.keep hb
    have HL2 := Lib.hid hl2
    have HPQ5 : Hid (PutO (some ⟨b9, o9, none⟩) hs0 hs1 w w5) := HPQ2.out.keep HB2.out.size hb
    clear hb hl2 HRo HN2 HX2 HB2 HK2 HPQ2 hc0 hc1 hc2 e9
    obtain ⟨ev, hev⟩ : ∃ v, olEN ad T = v := ⟨_, rfl⟩
    rw [hev]
    have HEv := Lib.hid hev
    clear hev
    go_upto_region 6 with fail
    rw [← HEv.out]
    clear HEv
    have hB6 : Below w5.heap.size w5 (w5.alloc (.cells #[.int .u8 k2, .int .i16 y2, .int .i64 d2, .int .i64 l2, .int .i64 i2, .slice a2 n2 c2] 107)) := (Below.refl _ w5).alloc (Nat.le_refl _) _
    have hA6 : Blk (w5.alloc (.cells #[.int .u8 k2, .int .i16 y2, .int .i64 d2, .int .i64 l2, .int .i64 i2, .slice a2 n2 c2] 107)) w5.heap.size 107 #[.int .u8 k2, .int .i16 y2, .int .i64 d2, .int .i64 l2, .int .i64 i2, .slice a2 n2 c2] := Blk.new w5 _ _
    obtain ⟨w6, hw6⟩ : ∃ u, w5.alloc (.cells #[.int .u8 k2, .int .i16 y2, .int .i64 d2, .int .i64 l2, .int .i64 i2, .slice a2 n2 c2] 107) = u := ⟨_, rfl⟩
    rw [hw6] at hB6 hA6 ⊢
    have HN6 : Hid (OwnN w6 b 44 30 3 wcells (some ⟨b9, o9, none⟩) c hs1 (r.set l (xs.take j))) := HN5.out.keep hB6
    have HX6 : Hid (Blk w6 w.heap.size 30 #[.int .u8 0, .int .i16 0, .int .i16 0]) := HX5.out.keep hB6
    have HB6 : Hid (Below b w w6) := HB5.out.trans (hB6.mono (by have := HB5.out.size; have := HBW.out; omega))
    have a0 : w6.cell? ⟨w1.heap.size, 0, none⟩ = some (.int .u8 k1) := (HK5.out.keep hB6).cell 0
    have a1 : w6.cell? ⟨w1.heap.size, 1, none⟩ = some (.int .i16 y1) := (HK5.out.keep hB6).cell 1
    have a2' : w6.cell? ⟨w1.heap.size, 2, none⟩ = some (.int .i16 n1) := (HK5.out.keep hB6).cell 2
    have a3 : w6.cell? ⟨w5.heap.size, 3, none⟩ = some (.int .i64 l2) := hA6.cell 3
    have HEw : Hid (EW 7 w6 ad) := HE.out.below (HVw.out.trans (HB6.out.mono HV.out |> fun h => h.mono (Nat.le_refl _))) (Nat.le_refl _)
    have HPQ6 : Hid (PutO (some ⟨b9, o9, none⟩) hs0 hs1 w w6) := HPQ5.out.keep HB5.out.size hB6
    clear hB6 hA6 hw6 HN5 HX5 HB5 HK5 HPQ5
    rcases T with _ | t
    · have hno := rcS_stop (m := xs.length - 1 - i) HR.out HT.out (by have := HJj.out; have := HKi.out; omega)
      have HRc := Lib.hid (rc_no hno ad)
      have HNo := Lib.hid hno
      rw [show olEN ad (none : Option Nat) = .iface 165 (.pointer (some (ad 4))) from rfl]
      have z0 : w6.cell? ⟨w.heap.size, 0, none⟩ = some (.int .u8 0) := HX6.out.cell 0
      have f0 : w6.frozen? ⟨w.heap.size, 0, none⟩ = false := HX6.out.frozen 0
      have z1 : w6.cell? ⟨w.heap.size, 1, none⟩ = some (.int .i16 0) := HX6.out.cell 1
      have f1 : w6.frozen? ⟨w.heap.size, 1, none⟩ = false := HX6.out.frozen 1
      have z2 : w6.cell? ⟨w.heap.size, 2, none⟩ = some (.int .i16 0) := HX6.out.cell 2
      have f2 : w6.frozen? ⟨w.heap.size, 2, none⟩ = false := HX6.out.frozen 2
      have g0 : w6.cell? ⟨0, 0, none⟩ = some (.iface 165 (.pointer (some (ad 1)))) := HEw.out.cell 1 (by omega)
      have hgl : 0 < v.heap.size := block_lt_of_cell (HE.out.cell 1 (by omega))
      have hng : ¬ w.heap.size = 0 := by have := HV.out; have := HBW.out; omega
      have hng2 : ¬ 0 = w.heap.size := fun e => hng e.symm
      clear hgl
      clear hno a0 a1 a2' a3
      go_wp2_with fail
      go_region
      go_wp2
      simp only [Exit.jump]
      refine bodyPost_ret (v := .tuple #[.agg #[.int .u8 0, .int .i16 0, .int .i16 0], .int .i64 0, .iface 165 (.pointer (some (ad 1)))]) (by simp [results, Tryd.results44, go_sem, *]) rfl ?_
      exact ⟨hs1, by (rw [HRc.out.1, HRc.out.2.1, HRc.out.2.2]; first | done | rfl), fun r' h => (by rw [HNo.out] at h; cases h), by first | exact (((HB6.out.setCell (p := ⟨w.heap.size, 0, none⟩) HBW.out _).setCell (p := ⟨w.heap.size, 1, none⟩) HBW.out _).setCell (p := ⟨w.heap.size, 2, none⟩) HBW.out _) | exact (((HB6.out.drew.setCell (p := ⟨w.heap.size, 0, none⟩) HBW.out _).setCell (p := ⟨w.heap.size, 1, none⟩) HBW.out _).setCell (p := ⟨w.heap.size, 2, none⟩) HBW.out _), by first | exact HPQ6.out.far ((((Below.refl w.heap.size w6).setCell (p := ⟨w.heap.size, 0, none⟩) (Nat.le_refl _) _).setCell (p := ⟨w.heap.size, 1, none⟩) (Nat.le_refl _) _).setCell (p := ⟨w.heap.size, 2, none⟩) (Nat.le_refl _) _) | exact HPQ6.out.far ((((Below.refl w.heap.size w6).drew.setCell (p := ⟨w.heap.size, 0, none⟩) (Nat.le_refl _) _).setCell (p := ⟨w.heap.size, 1, none⟩) (Nat.le_refl _) _).setCell (p := ⟨w.heap.size, 2, none⟩) (Nat.le_refl _) _)⟩
    · obtain ⟨-, htl, zs, hz, hz6⟩ := rm_ok _ (Nat.le_refl _) t HT.out
      have hst := rcS_step HR.out HT.out hz (by rw [← HJj.out]; exact HXj.out)
      rw [← HJj.out] at hst
      have HStep := Lib.hid hst
      rw [show olEN ad (some t) = .nilIface from rfl]
      obtain rfl : l2 = t := HL2.out
      have hzt : (r.set l (xs.take j))[l2]? = some zs := by rw [List.getElem?_set_ne (fun e => htl e.symm)]; exact hz
      have hBw6 : b ≤ w6.heap.size := by have := HB6.out.size; have := HBW.out; omega
      have hput := putX_any (r.set l (xs.take j)) hs1 b (some ⟨b9, o9, none⟩) c l2 ((k1, y1), n1) zs w6 HN6.out hBw6 hzt (by rw [List.length_set, HO1.out]; have := HL8.out; omega) (by omega)
      rw [List.length_set, HO1.out] at hput
      have HPut := Lib.hid hput
      have HTl := Lib.hid htl
      have HSs : Hid (SepL (some ⟨b9, o9, none⟩) hs1 (some ⟨w.heap.size, 0, none⟩)) := HS2.out
      clear hst hz hzt hput htl hz6 HS2
      go_wp2_with fail
      refine HPut.out.mono ?_
      rintro e w7 ⟨hs7, rfl, hN7, hb7, hP7⟩
      rw [rcS_next HTl.out] at hN7
      have HN7 := Lib.hid hN7
      have HX7 : Hid (Blk w7 w.heap.size 30 #[.int .u8 0, .int .i16 0, .int .i16 0]) := (hP7 w.heap.size HX6.out.lt (HSs.out _ rfl).1 (HSs.out _ rfl).2).1.trans HX6.out
      have HS7 : Hid (SepL (some ⟨b9, o9, none⟩) hs7 (some ⟨w.heap.size, 0, none⟩)) := fun q e => by
        obtain rfl : w.heap.size = q := Option.some.inj e
        exact ⟨(HSs.out _ rfl).1, (hP7 _ HX6.out.lt (HSs.out _ rfl).1 (HSs.out _ rfl).2).2⟩
      have HB7 : Hid (Below b w w7) := HB6.out.trans hb7
      obtain ⟨hwr1, hwr2⟩ := i64_succK k (Nat.le_trans (Nat.le_trans (Nat.le_add_right k (i + 1)) (by have := HKi.out; rwa [Nat.add_assoc] at this)) (Nat.le_trans hl6 (by decide)))
      have HPQ7 : Hid (PutO (some ⟨b9, o9, none⟩) hs0 hs7 w w7) := HPQ6.out.trans HB6.out.size hP7
      clear hN7 hb7 hP7 HPut HPQ6 HN6 HX6 HB6 HSs a0 a1 a2' a3
      go_wp2
      go_step3
      exact ⟨rfl, ⟨k + 1, _, hs7, _, _, _, _, _, _, _, _, _, _, _, _, _, _, _, _, _, _, _, _, _, _, _, _, _, _, _, _, _, _, _, _, _, _, _, _, rfl, HM1.out, HStep.out, HN7.out, HX7.out, HS7.out, HB7.out, HPQ7.out⟩, HM2.out⟩

end Go.Proofs.YtmfdgpinohbckaaDoor
