/-
  reach, the program's contract: a rack of one's own, at most eight of at most six; the sentinel errors lie as the row lists them.
-/
import Derived.Test.YtmfdgpinohbckaaDoorMg16
import Derived.Deep.CutRange
import Derived.Deep.DeepCutAuto
namespace Go.Proofs.YtmfdgpinohbckaaDoor
open Go.ChangeShapes Go.WideShapes Go.ChangeAt Go.RowKit Go.Deep

theorem wp_scope_from {P : Program} {Q : Exit → Act → World → Prop} {a : Act} {w : World} {r1 rest : Code} (l : Nat) (J : Act → World → Prop) (μ : Act → World → Nat) (hf : findLabel (r1.seq ((Code.label l).seq rest)) l = some (.seq .skip rest))
    (pass : ∀ a w, J a w → rest.wp P (Exit.jump l (fun a' w' => J a' w' ∧ μ a' w' < μ a w) Q) a w)
    (first : ∀ Q1 : Exit → Act → World → Prop, (∀ a w, J a w → Q1 .normal a w) → r1.wp P Q1 a w) : (Code.scope (r1.seq ((Code.label l).seq rest))).wp P Q a w :=
  wp_scope_jumps l J μ hf (wp_seq (first _ fun a w h => wp_seq (wp_label (wp_mono (pass a w h) (fun e a w q => by cases e <;> first | exact q | exact ⟨q.1, q.2.1⟩))))) (fun a w h => wp_seq (wp_skip (pass a w h)))
theorem i64_succK (k : Nat) (h : k ≤ 1000) : IntKind.i64.wrap ((k : Int) + 1) = ((k + 1 : Nat) : Int) ∧ wrap64 ((k : Int) + 1) = ((k + 1 : Nat) : Int) := by
  rw [show ((k : Int) + 1) = ((k + 1 : Nat) : Int) from by omega]
  exact ⟨IntWalk.i64_in _ ⟨by omega, by omega⟩, IntWalk.wrap64_in _ ⟨by omega, by omega⟩⟩
theorem PutO.keep {A : Option Addr} {hs hs' : List Hd} {w w1 w2 : World} (h : PutO A hs hs' w w1) (hz : w.heap.size ≤ w1.heap.size) (hb : Below w1.heap.size w1 w2) : PutO A hs hs' w w2 := fun q hq hA hh => by
  obtain ⟨h1, h2⟩ := h q hq hA hh
  exact ⟨(hb.block q (Nat.lt_of_lt_of_le hq hz)).trans h1, h2⟩
set_option maxRecDepth 100000 in
set_option maxHeartbeats 4000000 in
theorem takeX_any (xss : List (List Wnt)) (hs : List Hd) (b : Nat) (A : Option Addr) (c : Nat) (k : Nat) (j : Nat) (x : Wnt) (xs : List Wnt) (w : World) (hN : OwnN w b 44 30 3 wcells A c hs xss) (hbw : b ≤ w.heap.size) (hx : xss[k]? = some xs) (hl : xss.length ≤ 1048576) (hxl : xs.length ≤ 1048576) (hj : j + 1 = xs.length) (hxj : xs[j]? = some x) :
    Calls Tryd.prog 70 #[.slice A xss.length c, .int .i64 (k : Int)] w fun e w' => ∃ hs', e = .returned (.agg (wcells x).toArray) ∧ OwnN w' b 44 30 3 wcells A c hs' (xss.set k (xs.take j)) ∧ Below b w w' ∧ PutO A hs hs' w w' := by
  obtain ⟨⟨k1, y1⟩, n1⟩ := x
  have hkx := (List.getElem?_eq_some_iff.1 hx).1
  have hlen : hs.length = xss.length := hN.2.1
  obtain ⟨⟨a, m, c0⟩, hk⟩ : ∃ h, hs[k]? = some h := ⟨_, List.getElem?_eq_getElem (by omega)⟩
  obtain ⟨em, how⟩ := hN.2.2.1 k _ xs hk hx
  dsimp only at em how
  subst em
  obtain ⟨b0, o0, e0, hb0, hrow⟩ := (own_rd2 hcells_length hN.1).at_ hcells_length hk
  obtain ⟨g0, rfl⟩ : ∃ g, A = some ⟨g, 0, none⟩ := by
    rcases hN.1.2 with ⟨e, -⟩ | ⟨g, cap, cur, hv, -⟩
    · subst e0; cases e
    · exact ⟨g, (Value.slice.inj hv).1⟩
  obtain ⟨rfl, rfl⟩ : g0 = b0 ∧ 0 = o0 := by simpa using e0
  have hc := rowH hrow
  rw [Nat.zero_add] at hc
  dsimp only at hc
  obtain ⟨g1, o1, rfl, hg1, hrow1⟩ := (own_rd2 wcells_length how).at_ wcells_length hxj
  obtain ⟨p1, p2, p3⟩ := rowW hrow1
  have hcap : (xs.length : Int) ≤ c0 := by
    rcases how.2 with ⟨e, -⟩ | ⟨g, cap, cur, hv, -, -, hn, -⟩
    · cases e
    · have := (Value.slice.inj hv).2.2; omega
  have hk0 : (0 : Int) ≤ (k : Int) := Int.natCast_nonneg _
  have hk8 : (k : Int) < hs.length := by omega
  have hj0 : (0 : Int) ≤ (j : Int) := Int.natCast_nonneg _
  have hjl : (j : Int) < xs.length := by omega
  have hjc : (j : Int) ≤ c0 := by omega
  have hw1 : IntKind.i64.wrap ((xs.length : Int) - 1) = j := by rw [show (xs.length : Int) - 1 = j from by omega]; exact IntWalk.i64_in _ ⟨by omega, by omega⟩
  have hw2 : wrap64 ((xs.length : Int) - 1) = j := by rw [show (xs.length : Int) - 1 = j from by omega]; exact IntWalk.wrap64_in _ ⟨by omega, by omega⟩
  have hg0b : b ≤ g0 ∧ g0 < w.heap.size := own_block hN.1 rfl
  rw [← hlen]
  have HN := Lib.hid hN
  have HK := Lib.hid hk
  have HX := Lib.hid hx
  have HJ := Lib.hid hj
  have HOw := Lib.hid how
  have hne0 : g0 ≠ w.heap.size := by omega
  have hne1 : g0 ≠ w.heap.size + 1 := by omega
  have hne2 : g1 ≠ w.heap.size := by omega
  have hf : w.frozen? ⟨g0, k, none⟩ = false := by
    rcases hN.1.2 with ⟨e, -⟩ | ⟨g, cap, cur, hv, hb, hg', -⟩
    · cases e
    · have e0 := (Value.slice.inj hv).1
      simp only [Option.some.injEq, Addr.mk.injEq, and_true] at e0
      subst e0
      exact Blk.frozen (show Blk w g0 _ cur from hg') k
  clear hN hk hx hj how hrow hrow1 e0
  go_enter Tryd.func70, Tryd.ntmps70
  go_wp2
  have hlj : (xs.take j).length = j := by rw [List.length_take]; have := HJ.out; omega
  have hN2 := OwnN.put HN.out HK.out HX.out (Below.refl _ w) (own_shrink wcells_length HOw.out (m := j) (by have := HJ.out; omega)) (gk_refl w _) (.inl rfl)
  rw [hlj] at hN2
  have hB2 : Below b w (w.setCell ⟨g0, k, none⟩ (.slice (some ⟨g1, o1, none⟩) j c0)) := (Below.refl b w).setCell (p := ⟨g0, k, none⟩) hg0b.1 _
  have hP2 : PutO (some ⟨g0, 0, none⟩) hs (hs.set k (some ⟨g1, o1, none⟩, j, c0)) w (w.setCell ⟨g0, k, none⟩ (.slice (some ⟨g1, o1, none⟩) j c0)) := (putO_of HK.out (Below.refl _ w) (gk_refl w _) (.inl rfl)).set_ (Nat.le_refl _) k _
  obtain ⟨W, hW⟩ : ∃ W, w.setCell ⟨g0, k, none⟩ (.slice (some ⟨g1, o1, none⟩) j c0) = W := ⟨_, rfl⟩
  rw [hW] at hN2 hB2 hP2 ⊢
  have hsz : w.heap.size ≤ W.heap.size := hB2.size
  have hA : Below W.heap.size W ((W.alloc (.cells #[.int .u8 k1, .int .i16 y1, .int .i16 n1] 30)).alloc (.cells #[.int .u8 k1, .int .i16 y1, .int .i16 n1] 30)) := ((Below.refl _ W).alloc (Nat.le_refl _) _).alloc (by simp) _
  have hWs : W.heap.size = w.heap.size := by rw [← hW]; simp [World.setCell]
  refine bodyPost_ret (v := .agg #[.int .u8 k1, .int .i16 y1, .int .i16 n1]) (by rw [← hWs]; simp [results, Tryd.results70, go_sem]) rfl ⟨_, rfl, hN2.keep hA, hB2.trans (hA.mono (by omega)), hP2.keep hsz hA⟩

set_option maxRecDepth 100000 in
set_option maxHeartbeats 4000000 in
theorem reach_any (xss : List (List Wnt)) (hs : List Hd) (b : Nat) (A : Option Addr) (c : Nat) (l i : Nat) (xs : List Wnt) (ad : Nat → Addr) (v w : World) (hl : xss.length ≤ 8) (h6 : ∀ xs ∈ xss, xs.length ≤ 6) (hwf : ∀ xs ∈ xss, ∀ x ∈ xs, wfW x) (hN : OwnN w b 44 30 3 wcells A c hs xss) (hbw : b ≤ w.heap.size) (hx : xss[l]? = some xs) (hi : i < xs.length) (hv : v.heap.size ≤ b) (hE : EW 7 v ad) (hvw : Below v.heap.size v w) :
    Calls Tryd.prog 44 #[.slice A xss.length c, .int .i64 (l : Int), .int .i64 (i : Int)] w fun e w' => ∃ hs', e = .returned (.tuple #[.agg (wcells (rcV xss l xs i)).toArray, .int .i64 (rcM xss l xs i : Nat), rcE ad xss l xs i]) ∧ (∀ r, rcS xss l xs (xs.length - 1 - i) = some r → OwnN w' b 44 30 3 wcells A c hs' (r.set l (xs.take i))) ∧ Below b w w' := by
  have H6 := Lib.hid h6
  have HL8 := Lib.hid hl
  have HW := Lib.hid hwf
  have HX0 := Lib.hid hx
  have HV := Lib.hid hv
  have HE := Lib.hid hE
  have HVw := Lib.hid hvw
  have HBW := Lib.hid hbw
  have HN0 := Lib.hid hN
  clear hl h6 hwf hx hv hE hvw hN
  have hK0 : Blk (w.alloc (.cells #[.int .u8 0, .int .i16 0, .int .i16 0] 30)) w.heap.size 30 #[.int .u8 0, .int .i16 0, .int .i16 0] := Blk.new w _ _
  have hB0 : Below b w (w.alloc (.cells #[.int .u8 0, .int .i16 0, .int .i16 0] 30)) := (Below.refl b w).alloc hbw _
  have hN1 := HN0.out.keep ((Below.refl _ w).alloc (Nat.le_refl _) (.cells #[.int .u8 0, .int .i16 0, .int .i16 0] 30))
  have hS0 : SepL A hs (some ⟨w.heap.size, 0, none⟩) := SepL.new HN0.out rfl
  obtain ⟨w0, hw0⟩ : ∃ u, w.alloc (.cells #[.int .u8 0, .int .i16 0, .int .i16 0] 30) = u := ⟨_, rfl⟩
  rw [hw0] at hK0 hB0 hN1
  clear hbw
  go_enter Tryd.func44, Tryd.ntmps44
  have HK0 := Lib.hid hK0
  have HB0 := Lib.hid hB0
  have HN1 := Lib.hid hN1
  have HS0 := Lib.hid hS0
  clear hK0 hB0 hN1 hS0
  go_wp2
  refine wp_scope_from 0 (fun a' wr => ∃ (k : Nat) (r : List (List Wnt)) (hs : List Hd) (u3 u4 u5 u10 u11 u12 u13 u14 u15 u16 u17 u18 u19 u20 u21 u22 u23 u24 u25 u26 u27 u28 u29 u30 u31 u32 u33 u34 u35 u36 u37 u38 u39 u40 u41 u42 : Value), a' = { tmps := #[.slice A xss.length c, .int .i64 (l : Int), .int .i64 (i : Int), u3, u4, u5, .pointer (some ⟨w.heap.size, 0, none⟩), .int .i64 0, .nilIface, .int .i64 (k : Int), u10, u11, u12, u13, u14, u15, u16, u17, u18, u19, u20, u21, u22, u23, u24, u25, u26, u27, u28, u29, u30, u31, u32, u33, u34, u35, u36, u37, u38, u39, u40, u41, u42], defers := [] } ∧ k + i + 1 ≤ xs.length ∧ rcS xss l xs k = some r ∧ OwnN wr b 44 30 3 wcells A c hs r ∧ Blk wr w.heap.size 30 #[.int .u8 0, .int .i16 0, .int .i16 0] ∧ SepL A hs (some ⟨w.heap.size, 0, none⟩) ∧ Below b w wr) (fun a' _ => xs.length - (intOf (a'.tmps.getD 9 undef)).toNat) rfl ?pass ?first
  case first =>
    intro Q1 hQ1
    have HQ1 := Lib.hid hQ1
    clear hQ1
    go_wp2
    exact HQ1.out _ _ ⟨0, xss, hs, _, _, _, _, _, _, _, _, _, _, _, _, _, _, _, _, _, _, _, _, _, _, _, _, _, _, _, _, _, _, _, _, _, _, _, _, rfl, by omega, rfl, HN1.out, HK0.out, HS0.out, HB0.out⟩
  case pass =>
    rintro a' wr ⟨k, r, hs, u3, u4, u5, u10, u11, u12, u13, u14, u15, u16, u17, u18, u19, u20, u21, u22, u23, u24, u25, u26, u27, u28, u29, u30, u31, u32, u33, u34, u35, u36, u37, u38, u39, u40, u41, u42, rfl, hki, hR, hN, hX, hS, hB⟩
    obtain ⟨wa, rfl⟩ : ∃ u, u = wr := ⟨_, rfl⟩
    clear HN0 HN1 HK0 HB0 HS0 hw0
    obtain ⟨ok1, ok2, ok3, ok4⟩ := rcS_ok HX0.out H6.out HW.out k (by omega) r hR
    have hl6 : xs.length ≤ 6 := H6.out xs (List.mem_of_getElem? HX0.out)
    obtain ⟨j, hj⟩ : ∃ j, j = xs.length - 1 - k := ⟨_, rfl⟩
    have hjl : j < xs.length := by omega
    obtain ⟨x, hxj⟩ : ∃ x, xs[j]? = some x := ⟨_, List.getElem?_eq_getElem hjl⟩
    have hwx : wfW x := HW.out xs (List.mem_of_getElem? HX0.out) x (List.mem_of_getElem? hxj)
    have htk : (xs.take (xs.length - k)).length = xs.length - k := by rw [List.length_take]; omega
    have hxt : (xs.take (xs.length - k))[j]? = some x := by rw [List.getElem?_take_of_lt (by omega)]; exact hxj
    have hll := (List.getElem?_eq_some_iff.1 ok2).1
    have HKi : Hid (k + i + 1 ≤ xs.length) := hki
    have HJj := Lib.hid hj
    have HR := Lib.hid hR
    have HXj := Lib.hid hxj
    have HBw : Hid (b ≤ wa.heap.size) := Nat.le_trans HBW.out hB.size
    have htake := takeX_any r hs b A c l j x _ wa hN HBw.out ok2 (by have := HL8.out; omega) (by omega) (by omega) hxt
    rw [ok1, List.take_take, show min j (xs.length - k) = j from by omega] at htake
    have HTake := Lib.hid htake
    have HS := Lib.hid hS
    have HX := Lib.hid hX
    have HB := Lib.hid hB
    have HN := Lib.hid hN
    have HO1 := Lib.hid ok1
    have HO2 := Lib.hid ok2
    have HO3 := Lib.hid ok3
    have HWx := Lib.hid hwx
    have HLl := Lib.hid hll
    clear htake hS hX hB hN ok1 ok2 ok3 ok4 hxt htk hxj hR hwx hll
    obtain ⟨⟨k1, y1⟩, n1⟩ := x
    go_wp2_with fail
    refine HTake.out.mono ?_
    rintro e w1 ⟨hs1, he, hN1, hb1, hP1⟩
    have he2 : e = .returned (.agg #[.int .u8 k1, .int .i16 y1, .int .i16 n1]) := he
    subst he2
    have hX1 : Blk w1 w.heap.size 30 #[.int .u8 0, .int .i16 0, .int .i16 0] := (hP1 w.heap.size HX.out.lt (HS.out _ rfl).1 (HS.out _ rfl).2).1.trans HX.out
    have hS1 : SepL A hs1 (some ⟨w.heap.size, 0, none⟩) := fun q e => by
      obtain rfl : w.heap.size = q := Option.some.inj e
      exact ⟨(HS.out _ rfl).1, (hP1 _ HX.out.lt (HS.out _ rfl).1 (HS.out _ rfl).2).2⟩
    have hB1 : Below b w w1 := HB.out.trans hb1
    clear HTake hP1 HX HS HB HN he
    go_upto_region 3 with fail
    have hA2 : Below w1.heap.size w1 (w1.alloc (.cells #[.int .u8 k1, .int .i16 y1, .int .i16 n1] 30)) := (Below.refl _ w1).alloc (Nat.le_refl _) _
    have hK2 : Blk (w1.alloc (.cells #[.int .u8 k1, .int .i16 y1, .int .i16 n1] 30)) w1.heap.size 30 #[.int .u8 k1, .int .i16 y1, .int .i16 n1] := Blk.new w1 _ _
    obtain ⟨w2, hw2⟩ : ∃ u, w1.alloc (.cells #[.int .u8 k1, .int .i16 y1, .int .i16 n1] 30) = u := ⟨_, rfl⟩
    rw [hw2] at hA2 hK2 ⊢
    have HN2 : Hid (OwnN w2 b 44 30 3 wcells A c hs1 (r.set l (xs.take j))) := hN1.keep hA2
    have HX2 : Hid (Blk w2 w.heap.size 30 #[.int .u8 0, .int .i16 0, .int .i16 0]) := hX1.keep hA2
    have HS2 := Lib.hid hS1
    have HB2 : Hid (Below b w w2) := hB1.trans (hA2.mono (by have := hB1.size; have := HBW.out; omega))
    have HK2 := Lib.hid hK2
    clear hw2 hA2 hK2 hN1 hX1 hS1 hB1 hb1
    have hlj : (xs.take j).length = j := by rw [List.length_take]; omega
    obtain ⟨b9, o9, a9, c9, hAe, hb9, e9, -⟩ := (HN2.out.rdK wcells_length).at_ (show (r.set l (xs.take j))[l]? = some (xs.take j) from List.getElem?_set_self HLl.out)
    rw [hlj] at e9
    have hl0 : (0 : Int) ≤ (l : Int) := Int.natCast_nonneg _
    have hl8 : (l : Int) < xss.length := by have := HLl.out; have := HO1.out; omega
    have HAe := Lib.hid hAe
    have hc0 : w2.cell? ⟨w1.heap.size, 0, none⟩ = some (.int .u8 k1) := HK2.out.cell 0
    have hc1 : w2.cell? ⟨w1.heap.size, 1, none⟩ = some (.int .i16 y1) := HK2.out.cell 1
    have hc2 : w2.cell? ⟨w1.heap.size, 2, none⟩ = some (.int .i16 n1) := HK2.out.cell 2
    by_cases hji : j = i
    · have hki2 : xs.length - 1 - i = k := by have := HJj.out; have := HKi.out; omega
      have hrc := rc_yes (i := i) (by rw [hki2]; exact HR.out) (by rw [← hji]; exact HXj.out) ad
      have HRc := Lib.hid hrc
      have HKk := Lib.hid hki2
      have hjb : ((j : Int) == (i : Int)) = true := by simp [hji]
      have hjb2 : (j : Int) = (i : Int) := by omega
      have z0 : w2.cell? ⟨w.heap.size, 0, none⟩ = some (.int .u8 0) := HX2.out.cell 0
      have z1 : w2.cell? ⟨w.heap.size, 1, none⟩ = some (.int .i16 0) := HX2.out.cell 1
      have z2 : w2.cell? ⟨w.heap.size, 2, none⟩ = some (.int .i16 0) := HX2.out.cell 2
      have f0 : w2.frozen? ⟨w.heap.size, 0, none⟩ = false := HX2.out.frozen 0
      have f1 : w2.frozen? ⟨w.heap.size, 1, none⟩ = false := HX2.out.frozen 1
      have f2 : w2.frozen? ⟨w.heap.size, 2, none⟩ = false := HX2.out.frozen 2
      clear hrc hki2
      subst hAe
      go_wp2
      simp only [Exit.jump]
      refine bodyPost_ret (v := .tuple #[.agg #[.int .u8 k1, .int .i16 y1, .int .i16 n1], .int .i64 (k : Int), .nilIface]) (by simp [results, Tryd.results44, go_sem, *]) rfl ?_
      have hgr : w2.grownBy (((w2.setCell ⟨w.heap.size, 0, none⟩ (.int .u8 k1)).setCell ⟨w.heap.size, 1, none⟩ (.int .i16 y1)).setCell ⟨w.heap.size, 2, none⟩ (.int .i16 n1)) ((some ⟨w.heap.size, 0, none⟩ : Option Addr).map (·.block)) := gk_set (gk_set (gk_set (gk_refl w2 (some w.heap.size)) _) _) _
      have hfin := (sep_grow HN2.out hgr HS2.out (.inl rfl)).1
      refine ⟨hs1, by (rw [HRc.out.1, HRc.out.2.1, HRc.out.2.2, HKk.out]; first | done | rfl), fun r' h => ?_, (((HB2.out.setCell (p := ⟨w.heap.size, 0, none⟩) HBW.out _).setCell (p := ⟨w.heap.size, 1, none⟩) HBW.out _).setCell (p := ⟨w.heap.size, 2, none⟩) HBW.out _)⟩
      rw [HKk.out, HR.out] at h
      obtain rfl := Option.some.inj h
      rw [← hji]
      exact hfin
    have hij : i < j := by have := HJj.out; have := HKi.out; omega
    have HM1 : Hid (k + 1 + i + 1 ≤ xs.length) := by have := HJj.out; have := HKi.out; show _ ≤ _; omega
    have HM2 : Hid (xs.length - (k + 1) < xs.length - k) := by have := HKi.out; show _ < _; omega
    have hjb : ((j : Int) == (i : Int)) = false := by simp; omega
    have hjb2 : ¬ (j : Int) = (i : Int) := by omega
    subst hAe
    have hEv : EW 7 w2 ad := HE.out.below (HVw.out.trans (HB2.out.mono HV.out |> fun h => h.mono (Nat.le_refl _))) (Nat.le_refl _)
    have HRo := Lib.hid (roomiest_any (r.set l (xs.take j)) l ((k1, y1), n1) HWx.out (some ⟨b9, o9, none⟩) c ad w2 (by rw [List.length_set, HO1.out]; exact HL8.out) (fun zs hz => by
      rcases List.mem_or_eq_of_mem_set hz with h | rfl
      · exact HO3.out zs h
      · rw [List.length_take]; omega) (HN2.out.rdK wcells_length) hEv)
    rw [rm_set, List.length_set, HO1.out] at HRo
    obtain ⟨T, hT⟩ : ∃ T, rmT r l xss.length = T := ⟨_, rfl⟩
    rw [hT] at HRo
    have HT : Hid (rmT r l r.length = T) := by show _ = _; rw [HO1.out]; exact hT
    clear hT hEv
    go_wp2_with fail
    refine HRo.out.mono ?_
    rintro e w5 ⟨k2, y2, d2, l2, i2, a2, n2, c2, rfl, hl2, hb⟩
    have HN5 : Hid (OwnN w5 b 44 30 3 wcells (some ⟨b9, o9, none⟩) c hs1 (r.set l (xs.take j))) := HN2.out.keep hb
    have HX5 : Hid (Blk w5 w.heap.size 30 #[.int .u8 0, .int .i16 0, .int .i16 0]) := HX2.out.keep hb
    have HB5 : Hid (Below b w w5) := HB2.out.trans (hb.mono (by have := HB2.out.size; have := HBW.out; omega))
    have HK5 : Hid (Blk w5 w1.heap.size 30 #[.int .u8 k1, .int .i16 y1, .int .i16 n1]) := HK2.out.keep hb
    have HL2 := Lib.hid hl2
    clear hb hl2 HRo HN2 HX2 HB2 HK2 hc0 hc1 hc2 e9
    obtain ⟨ev, hev⟩ : ∃ v, olEN ad T = v := ⟨_, rfl⟩
    rw [hev]
    have HEv := Lib.hid hev
    clear hev
    go_upto_region 6 with fail
    rw [← HEv.out]
    clear HEv
    have hB6 : Below w5.heap.size w5 (w5.alloc (.cells #[.int .u8 k2, .int .i16 y2, .int .i64 d2, .int .i64 l2, .int .i64 i2, .slice a2 n2 c2] 107)) := (Below.refl _ w5).alloc (Nat.le_refl _) _
    have hA6 : Blk (w5.alloc (.cells #[.int .u8 k2, .int .i16 y2, .int .i64 d2, .int .i64 l2, .int .i64 i2, .slice a2 n2 c2] 107)) w5.heap.size 107 #[.int .u8 k2, .int .i16 y2, .int .i64 d2, .int .i64 l2, .int .i64 i2, .slice a2 n2 c2] := Blk.new w5 _ _
    obtain ⟨w6, hw6⟩ : ∃ u, w5.alloc (.cells #[.int .u8 k2, .int .i16 y2, .int .i64 d2, .int .i64 l2, .int .i64 i2, .slice a2 n2 c2] 107) = u := ⟨_, rfl⟩
    rw [hw6] at hB6 hA6 ⊢
    have HN6 : Hid (OwnN w6 b 44 30 3 wcells (some ⟨b9, o9, none⟩) c hs1 (r.set l (xs.take j))) := HN5.out.keep hB6
    have HX6 : Hid (Blk w6 w.heap.size 30 #[.int .u8 0, .int .i16 0, .int .i16 0]) := HX5.out.keep hB6
    have HB6 : Hid (Below b w w6) := HB5.out.trans (hB6.mono (by have := HB5.out.size; have := HBW.out; omega))
    have a0 : w6.cell? ⟨w1.heap.size, 0, none⟩ = some (.int .u8 k1) := (HK5.out.keep hB6).cell 0
    have a1 : w6.cell? ⟨w1.heap.size, 1, none⟩ = some (.int .i16 y1) := (HK5.out.keep hB6).cell 1
    have a2' : w6.cell? ⟨w1.heap.size, 2, none⟩ = some (.int .i16 n1) := (HK5.out.keep hB6).cell 2
    have a3 : w6.cell? ⟨w5.heap.size, 3, none⟩ = some (.int .i64 l2) := hA6.cell 3
    have HEw : Hid (EW 7 w6 ad) := HE.out.below (HVw.out.trans (HB6.out.mono HV.out |> fun h => h.mono (Nat.le_refl _))) (Nat.le_refl _)
    clear hB6 hA6 hw6 HN5 HX5 HB5 HK5
    rcases T with _ | t
    · have hno := rcS_stop (m := xs.length - 1 - i) HR.out HT.out (by have := HJj.out; have := HKi.out; omega)
      have HRc := Lib.hid (rc_no hno ad)
      have HNo := Lib.hid hno
      rw [show olEN ad (none : Option Nat) = .iface 165 (.pointer (some (ad 4))) from rfl]
      have z0 : w6.cell? ⟨w.heap.size, 0, none⟩ = some (.int .u8 0) := HX6.out.cell 0
      have f0 : w6.frozen? ⟨w.heap.size, 0, none⟩ = false := HX6.out.frozen 0
      have z1 : w6.cell? ⟨w.heap.size, 1, none⟩ = some (.int .i16 0) := HX6.out.cell 1
      have f1 : w6.frozen? ⟨w.heap.size, 1, none⟩ = false := HX6.out.frozen 1
      have z2 : w6.cell? ⟨w.heap.size, 2, none⟩ = some (.int .i16 0) := HX6.out.cell 2
      have f2 : w6.frozen? ⟨w.heap.size, 2, none⟩ = false := HX6.out.frozen 2
      have g0 : w6.cell? ⟨0, 0, none⟩ = some (.iface 165 (.pointer (some (ad 1)))) := HEw.out.cell 1 (by omega)
      have hgl : 0 < v.heap.size := block_lt_of_cell (HE.out.cell 1 (by omega))
      have hng : ¬ w.heap.size = 0 := by have := HV.out; have := HBW.out; omega
      have hng2 : ¬ 0 = w.heap.size := fun e => hng e.symm
      clear hgl
      clear hno a0 a1 a2' a3
      go_wp2_with fail
      go_region
      go_wp2
      simp only [Exit.jump]
      refine bodyPost_ret (v := .tuple #[.agg #[.int .u8 0, .int .i16 0, .int .i16 0], .int .i64 0, .iface 165 (.pointer (some (ad 1)))]) (by simp [results, Tryd.results44, go_sem, *]) rfl ?_
      exact ⟨hs1, by (rw [HRc.out.1, HRc.out.2.1, HRc.out.2.2]; first | done | rfl), fun r' h => (by rw [HNo.out] at h; cases h), by first | exact (((HB6.out.setCell (p := ⟨w.heap.size, 0, none⟩) HBW.out _).setCell (p := ⟨w.heap.size, 1, none⟩) HBW.out _).setCell (p := ⟨w.heap.size, 2, none⟩) HBW.out _) | exact (((HB6.out.drew.setCell (p := ⟨w.heap.size, 0, none⟩) HBW.out _).setCell (p := ⟨w.heap.size, 1, none⟩) HBW.out _).setCell (p := ⟨w.heap.size, 2, none⟩) HBW.out _)⟩
    · obtain ⟨-, htl, zs, hz, hz6⟩ := rm_ok _ (Nat.le_refl _) t HT.out
      have hst := rcS_step HR.out HT.out hz (by rw [← HJj.out]; exact HXj.out)
      rw [← HJj.out] at hst
      have HStep := Lib.hid hst
      rw [show olEN ad (some t) = .nilIface from rfl]
      obtain rfl : l2 = t := HL2.out
      have hzt : (r.set l (xs.take j))[l2]? = some zs := by rw [List.getElem?_set_ne (fun e => htl e.symm)]; exact hz
      have hBw6 : b ≤ w6.heap.size := by have := HB6.out.size; have := HBW.out; omega
      have hput := putX_any (r.set l (xs.take j)) hs1 b (some ⟨b9, o9, none⟩) c l2 ((k1, y1), n1) zs w6 HN6.out hBw6 hzt (by rw [List.length_set, HO1.out]; have := HL8.out; omega) (by omega)
      rw [List.length_set, HO1.out] at hput
      have HPut := Lib.hid hput
      have HTl := Lib.hid htl
      have HSs : Hid (SepL (some ⟨b9, o9, none⟩) hs1 (some ⟨w.heap.size, 0, none⟩)) := HS2.out
      clear hst hz hzt hput htl hz6 HS2
      go_wp2_with fail
      refine HPut.out.mono ?_
      rintro e w7 ⟨hs7, rfl, hN7, hb7, hP7⟩
      rw [rcS_next HTl.out] at hN7
      have HN7 := Lib.hid hN7
      have HX7 : Hid (Blk w7 w.heap.size 30 #[.int .u8 0, .int .i16 0, .int .i16 0]) := (hP7 w.heap.size HX6.out.lt (HSs.out _ rfl).1 (HSs.out _ rfl).2).1.trans HX6.out
      have HS7 : Hid (SepL (some ⟨b9, o9, none⟩) hs7 (some ⟨w.heap.size, 0, none⟩)) := fun q e => by
        obtain rfl : w.heap.size = q := Option.some.inj e
        exact ⟨(HSs.out _ rfl).1, (hP7 _ HX6.out.lt (HSs.out _ rfl).1 (HSs.out _ rfl).2).2⟩
      have HB7 : Hid (Below b w w7) := HB6.out.trans hb7
      obtain ⟨hwr1, hwr2⟩ := i64_succK k (Nat.le_trans (Nat.le_trans (Nat.le_add_right k (i + 1)) (by have := HKi.out; rwa [Nat.add_assoc] at this)) (Nat.le_trans hl6 (by decide)))
      clear hN7 hb7 hP7 HPut HN6 HX6 HB6 HSs a0 a1 a2' a3
      go_wp2
      go_step3
      exact ⟨rfl, ⟨k + 1, _, hs7, _, _, _, _, _, _, _, _, _, _, _, _, _, _, _, _, _, _, _, _, _, _, _, _, _, _, _, _, _, _, _, _, _, _, _, _, rfl, HM1.out, HStep.out, HN7.out, HX7.out, HS7.out, HB7.out⟩, HM2.out⟩

end Go.Proofs.YtmfdgpinohbckaaDoor
