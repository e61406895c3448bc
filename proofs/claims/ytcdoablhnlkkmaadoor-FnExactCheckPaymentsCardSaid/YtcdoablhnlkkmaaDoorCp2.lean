/-
  CheckPayments: the model's contract. Condition: the lists read, their numbers fit their kinds, not more than 1048576.
-/
import Derived.Test.YtcdoablhnlkkmaaDoorCp1
namespace Go.Proofs.YtcdoablhnlkkmaaDoor
open Go.ChangeShapes Go.WideShapes Go.ChangeAt Go.RowKit Go.Deep

theorem rowQ {w : World} {b o k : Nat} {f t a : Int} (h : w.rangeAt b (o + k * 3) (qcells ⟨f, t, a⟩)) : w.cell? ⟨b, o + k * 3, none⟩ = some (.int .i8 f) ∧ w.cell? ⟨b, o + k * 3 + 1, none⟩ = some (.int .i8 t) ∧ w.cell? ⟨b, o + k * 3 + 2, none⟩ = some (.int .i64 a) :=
  ⟨by simpa using h 0 _ rfl, h 1 _ rfl, h 2 _ rfl⟩
theorem pyOk_is (n : Nat) (f t a : Int) : pyOk n ⟨f, t, a⟩ = ((wi 0 (n - 1) f && wi 0 (n - 1) t) && (decide (¬ f = t) && wi 1 1000000000 a)) := rfl
theorem wrap_small {x : Int} (h : -9000000000000 ≤ x ∧ x ≤ 9000000000000) : IntKind.i64.wrap x = x ∧ wrap64 x = x := ⟨IntWalk.i64_in _ ⟨by omega, by omega⟩, IntWalk.wrap64_in _ ⟨by omega, by omega⟩⟩
theorem lfL_at {xs : List Int} {ps : List Pay} (hx : ∀ x ∈ xs, -bil ≤ x ∧ x ≤ bil) {k : Nat} (hk : k ≤ ps.length) (h80 : ps.length ≤ 80) (hp : ∀ j p, j < k → ps[j]? = some p → pyOk xs.length p = true) {x : Int} (h : x ∈ lfL xs ps k) : -100000000000 ≤ x ∧ x ≤ 100000000000 := by
  have := lfL_in hx k hk hp x h
  simp only [bil] at this
  omega
/-- One of an own list of numbers: its cell, and what setting it leaves. -/
theorem ownI_at {w : World} {b g c : Nat} {xs : List Int} (h : w.ownsRow b 2 1 (.slice (some ⟨g, 0, none⟩) xs.length c) xs.length (xs.flatMap icells)) {k : Nat} {x : Int} (hk : xs[k]? = some x) : w.cell? ⟨g, k, none⟩ = some (.int .i64 x) := by
  obtain ⟨b0, o0, e0, -, hrow⟩ := (own_rd2 icells_length h).at_ icells_length hk
  obtain ⟨rfl, rfl⟩ : g = b0 ∧ 0 = o0 := by simpa using e0
  simpa using rowI hrow

set_option maxRecDepth 100000 in
set_option maxHeartbeats 8000000 in
theorem specPayments_any (xs : List Int) (ps : List Pay) (hwq : ∀ p ∈ ps, wfQ p) (A B : Option Addr) (c d : Nat) (w : World) (hl : xs.length ≤ 1048576) (hl2 : ps.length ≤ 1048576) (hr : Rd w w.heap.size icells A xs) (hb : Rd w w.heap.size qcells B ps) :
    Calls Tryd.prog 8 #[.slice A xs.length c, .slice B ps.length d] w fun e w' => e = .returned (.tuple #[.bool (cpB xs ps), .int .i64 (cdO (cpO xs ps))]) ∧ Below w.heap.size w w' := by
  have HR := Lib.hid hr
  have HRb := Lib.hid hb
  have HWq := Lib.hid hwq
  clear hr hb hwq
  go_enter Tryd.func8, Tryd.ntmps8
  go_wp2_with fail
  refine (l06Nets_any xs A c w hl HR.out).mono ?_
  rintro e w1 ⟨rfl, rfl⟩
  cases hn : ntO xs with
  | some i =>
    have hc : cpO xs ps = some i := by rw [cpO, hn]
    have E := Lib.hid (cpB_no hc)
    have E2 := Lib.hid hc
    rw [show cdO (some i) = cdN i from rfl]
    have hne : ¬ cdN i = 0 := cdN_ne
    have hne2 : (cdN i == 0) = false := by simpa using hne
    obtain ⟨cd, hcd⟩ : ∃ v, cdN i = v := ⟨_, rfl⟩
    have HCd := Lib.hid hcd
    rw [hcd] at hne hne2 ⊢
    clear hn hc hcd
    go_wp2
    go_ret2
    exact ⟨by (rw [E.out, E2.out, ← HCd.out]; rfl), Below.refl _ _⟩
  | none =>
  rw [show cdO none = 0 from rfl]
  by_cases h81 : 80 < ps.length
  · have hc : cpO xs ps = some 1 := by rw [cpO, hn]; simp only [if_neg (show ¬ ps.length ≤ 80 by omega)]
    have E := Lib.hid (cpB_no hc)
    have E2 := Lib.hid hc
    have h80i : (80 : Int) < ps.length := by omega
    clear hn hc h81
    go_wp2
    go_ret2
    exact ⟨by (rw [E.out, E2.out]; rfl), Below.refl _ _⟩
  have h80 : ps.length ≤ 80 := by omega
  have hc : cpO xs ps = none := by rw [cpO, hn]; simp only [if_pos h80]
  have E2 := Lib.hid hc
  obtain ⟨hn6, hnx⟩ := ntO_none hn
  have HNx := Lib.hid hnx
  have HN6 := Lib.hid hn6
  have H80 := Lib.hid h80
  have h80i : ¬ (80 : Int) < ps.length := by omega
  clear hn hc hnx hn6 h80 h81
  go_wp2_with fail
  refine (l00OwnC_any xs A c w hl HR.out).mono ?_
  rintro e w2 ⟨A7, c7, rfl, hO, hB⟩
  obtain ⟨g, rfl⟩ : ∃ g, A7 = some ⟨g, 0, none⟩ := by
    rcases hO.2 with ⟨e, h0⟩ | ⟨g, cap, cur, hv, -⟩
    · have := HN6.out; omega
    · exact ⟨g, (Value.slice.inj hv).1⟩
  have HO := Lib.hid hO
  have HB := Lib.hid hB
  have HGb : Hid (w.heap.size ≤ g) := (own_blockC hO rfl).1
  have hw1 : IntKind.i64.wrap ((xs.length : Int) - 1) = (xs.length : Int) - 1 := IntWalk.i64_in _ ⟨by omega, by omega⟩
  have hw2 : wrap64 ((xs.length : Int) - 1) = (xs.length : Int) - 1 := IntWalk.wrap64_in _ ⟨by omega, by omega⟩
  clear hO hB h80i
  go_wp2_with fail
  go_loopw [8] (fun iv wr => ∃ (k : Nat) (l : List Int), k ≤ ps.length ∧ iv = .int .i64 k ∧ l = lfL xs ps k ∧ (∀ j p, j < k → ps[j]? = some p → pyOk xs.length p = true) ∧ wr.ownsRow w.heap.size 2 1 (.slice (some ⟨g, 0, none⟩) l.length c7) l.length (l.flatMap icells) ∧ Below w.heap.size w wr) (fun i _ => ps.length - (intOf i).toNat)
  case atStart => exact ⟨0, xs, by omega, rfl, rfl, fun j p h => absurd h (Nat.not_lt_zero _), HO.out, HB.out⟩
  case round =>
    clear HO HB
    obtain ⟨k, l, hk, rfl, hL, hA, hO, hB⟩ := hrel
    obtain ⟨wa, rfl⟩ : ∃ u, u = wr := ⟨_, rfl⟩
    have HL := Lib.hid hL
    have HA := Lib.hid hA
    have HO := Lib.hid hO
    have HB := Lib.hid hB
    have HLl : Hid (l.length = xs.length) := by show _ = _; rw [hL, lfL_len]
    have HLi : Hid (∀ x ∈ l, -100000000000 ≤ x ∧ x ≤ 100000000000) := fun x h => lfL_at HNx.out hk H80.out hA (by rw [← hL]; exact h)
    clear hL hA hO hB
    have hk0 : (0 : Int) ≤ (k : Int) := Int.natCast_nonneg _
    by_cases hlt : k < ps.length
    · have hk8 : (k : Int) < ps.length := by omega
      obtain ⟨⟨f, t, a⟩, hp⟩ : ∃ x, ps[k]? = some x := ⟨_, List.getElem?_eq_getElem hlt⟩
      have hwp := HWq.out _ (List.mem_of_getElem? hp)
      obtain ⟨b, o, rfl, hbl, hrow⟩ := (HRb.out.keep HB.out).at_ qcells_length hp
      obtain ⟨g0, g1, g2⟩ := rowQ hrow
      have HP := Lib.hid hp
      have hf8 : -128 ≤ f ∧ f ≤ 127 := hwp.1
      have ht8 : -128 ≤ t ∧ t ≤ 127 := hwp.2.1
      obtain ⟨hf1, hf2⟩ := wrap_small (x := f) (by omega)
      obtain ⟨ht1, ht2⟩ := wrap_small (x := t) (by omega)
      have HF8 := Lib.hid hf8
      have HT8 := Lib.hid ht8
      clear hp hwp hrow hf8 ht8 hk
      go_wp2_with fail
      have hA1 : Below wa.heap.size wa (wa.alloc (.cells #[.int .i8 f, .int .i8 t, .int .i64 a] 64)) := (Below.refl _ wa).alloc (Nat.le_refl _) _
      have hK1 : Blk (wa.alloc (.cells #[.int .i8 f, .int .i8 t, .int .i64 a] 64)) wa.heap.size 64 #[.int .i8 f, .int .i8 t, .int .i64 a] := Blk.new wa _ _
      obtain ⟨W1, hW1⟩ : ∃ u, wa.alloc (.cells #[.int .i8 f, .int .i8 t, .int .i64 a] 64) = u := ⟨_, rfl⟩
      rw [hW1] at hA1 hK1 ⊢
      have HO1 := Lib.hid (own_keep' HO.out hA1)
      have HB1 : Hid (Below w.heap.size w W1) := HB.out.trans (hA1.mono HB.out.size)
      have HGw : Hid (g ≠ wa.heap.size) := by have h9 : w.heap.size ≤ g ∧ g < wa.heap.size := own_blockC HO.out rfl; show _ ≠ _; omega
      have HK1 := Lib.hid hK1
      have b0 : W1.cell? ⟨wa.heap.size, 0, none⟩ = some (.int .i8 f) := hK1.cell 0
      have b1 : W1.cell? ⟨wa.heap.size, 1, none⟩ = some (.int .i8 t) := hK1.cell 1
      have b2 : W1.cell? ⟨wa.heap.size, 2, none⟩ = some (.int .i64 a) := hK1.cell 2
      clear hA1 hK1 hW1 g0 g1 g2 HO HB
      go_wp2_with fail
      refine (l00In_any f 0 ((xs.length : Int) - 1) W1).mono ?_
      rintro e w9 ⟨rfl, rfl⟩
      rw [show (decide ((0 : Int) ≤ f) && decide (f ≤ (xs.length : Int) - 1)) = wi 0 ((xs.length : Int) - 1) f from rfl]
      cases q1 : wi 0 ((xs.length : Int) - 1) f
      · have E := Lib.hid (cpB_bad E2.out HP.out (by rw [pyOk_is, q1]; rfl))
        clear q1
        go_wp2
        go_ret2
        exact ⟨by (rw [E.out, E2.out]; rfl), HB1.out⟩
      have Q1 := Lib.hid q1
      clear q1
      go_wp2_with fail
      refine (l00In_any t 0 ((xs.length : Int) - 1) W1).mono ?_
      rintro e w9 ⟨rfl, rfl⟩
      rw [show (decide ((0 : Int) ≤ t) && decide (t ≤ (xs.length : Int) - 1)) = wi 0 ((xs.length : Int) - 1) t from rfl]
      cases q2 : wi 0 ((xs.length : Int) - 1) t
      · have E := Lib.hid (cpB_bad E2.out HP.out (by rw [pyOk_is, Q1.out, q2]; rfl))
        clear q2
        go_wp2
        go_ret2
        exact ⟨by (rw [E.out, E2.out]; rfl), HB1.out⟩
      have Q2 := Lib.hid q2
      clear q2
      by_cases q3 : f = t
      · have E := Lib.hid (cpB_bad E2.out HP.out (by rw [pyOk_is, Q1.out, Q2.out, decide_eq_false (by simpa using q3)]; rfl))
        have hft : (f == t) = true := by simp [q3]
        subst q3
        go_wp2
        go_ret2
        exact ⟨by (rw [E.out, E2.out]; rfl), HB1.out⟩
      have Q3 := Lib.hid q3
      have hft : (f == t) = false := by simpa using q3
      clear q3
      go_wp2_with fail
      refine (l00In_any a 1 1000000000 W1).mono ?_
      rintro e w9 ⟨rfl, rfl⟩
      rw [show (decide ((1 : Int) ≤ a) && decide (a ≤ 1000000000)) = wi 1 1000000000 a from rfl]
      cases q4 : wi 1 1000000000 a
      · have E := Lib.hid (cpB_bad E2.out HP.out (by rw [pyOk_is, Q1.out, Q2.out, decide_eq_true Q3.out, q4]; rfl))
        clear q4
        go_wp2
        go_ret2
        exact ⟨by (rw [E.out, E2.out]; rfl), HB1.out⟩
      have HOk : Hid (pyOk xs.length ⟨f, t, a⟩ = true) := by show _ = _; rw [pyOk_is, Q1.out, Q2.out, decide_eq_true Q3.out, q4]; rfl
      have HWr := Lib.hid (And.intro hf1 (And.intro hf2 (And.intro ht1 ht2)))
      have HWn := Lib.hid (And.intro hw1 hw2)
      clear hw1 hw2 hf1 hf2 ht1 ht2
      obtain ⟨hf0, hfn⟩ := wi_iff.1 Q1.out
      obtain ⟨ht0, htn⟩ := wi_iff.1 Q2.out
      obtain ⟨ha0, han⟩ := wi_iff.1 q4
      obtain ⟨F, rfl⟩ : ∃ F : Nat, f = F := ⟨f.toNat, by omega⟩
      obtain ⟨T, rfl⟩ : ∃ T : Nat, t = T := ⟨t.toNat, by omega⟩
      have hFT : F ≠ T := fun e => Q3.out (by rw [e])
      have hFl : F < l.length := by have := HLl.out; omega
      have hTl : T < l.length := by have := HLl.out; omega
      obtain ⟨u, hu⟩ : ∃ x, l[F]? = some x := ⟨_, List.getElem?_eq_getElem hFl⟩
      obtain ⟨v, hv⟩ : ∃ x, l[T]? = some x := ⟨_, List.getElem?_eq_getElem hTl⟩
      have hub := HLi.out u (List.mem_of_getElem? hu)
      have hvb := HLi.out v (List.mem_of_getElem? hv)
      have hsu := wrap_small (x := u + a) (by omega)
      have hsv := wrap_small (x := v - a) (by omega)
      have hF8 : (F : Int) < xs.length := by omega
      have hT8 : (T : Int) < xs.length := by omega
      have cu : W1.cell? ⟨g, F, none⟩ = some (.int .i64 u) := ownI_at HO1.out hu
      have fu : W1.frozen? ⟨g, F, none⟩ = false := own_frozenI HO1.out F
      have hO2 := (own_setI HO1.out F (u + a)).2
      have hv2 : (l.set F (u + a))[T]? = some v := by rw [List.getElem?_set_ne hFT]; exact hv
      have cv := ownI_at hO2 hv2
      have fv := own_frozenI hO2 T
      have hO3 := (own_setI hO2 T (v - a)).2
      have hK2 := HK1.out.far (p := ⟨g, F, none⟩) (fun e => HGw.out e.symm) (.int .i64 (u + a))
      have HB2 : Hid (Below w.heap.size w ((W1.setCell ⟨g, F, none⟩ (.int .i64 (u + a))).setCell ⟨g, T, none⟩ (.int .i64 (v - a)))) := ((HB1.out.setCell (p := ⟨g, F, none⟩) HGb.out _).setCell (p := ⟨g, T, none⟩) HGb.out _)
      have HSt : Hid ((l.set F (u + a)).set T (v - a) = lfL xs ps (k + 1)) := by
        show _ = _
        rw [lfL_succ HP.out, ← HL.out, pyA]
        simp [hu, hv]
      have HO3 := Lib.hid hO3
      have HK2 := Lib.hid hK2
      have HCv := Lib.hid cv
      have HFv := Lib.hid fv
      obtain ⟨hs1, hs2⟩ := hsu
      obtain ⟨hs3, hs4⟩ := hsv
      have HS3 := Lib.hid hs3
      have HS4 := Lib.hid hs4
      obtain ⟨hf1, hf2, ht1, ht2⟩ := HWr.out
      clear q4 hu hv hub hvb hv2 cv fv hO2 hO3 hK2 hFl hTl hfn htn ha0 han hs3 hs4 HWr
      go_wp2_with fail
      go_region
      obtain ⟨W2, hW2⟩ : ∃ WW, W1.setCell ⟨g, F, none⟩ (.int .i64 (u + a)) = WW := ⟨_, rfl⟩
      have hcv := HCv.out
      have hfv := HFv.out
      have hk2 := HK2.out
      have ho3 := HO3.out
      have hb2 := HB2.out
      rw [hW2] at hcv hfv hk2 ho3 hb2 ⊢
      have c0 : W2.cell? ⟨wa.heap.size, 0, none⟩ = some (.int .i8 (F : Int)) := hk2.cell 0
      have c1 : W2.cell? ⟨wa.heap.size, 1, none⟩ = some (.int .i8 (T : Int)) := hk2.cell 1
      have c2 : W2.cell? ⟨wa.heap.size, 2, none⟩ = some (.int .i64 a) := hk2.cell 2
      have HO4 := Lib.hid (own_keep' ho3 ((Below.refl _ _).drew.drew))
      have HB4 := Lib.hid hb2.drew.drew
      have hs3 := HS3.out
      have hs4 := HS4.out
      clear hW2 hk2 ho3 hb2 b0 b1 b2 cu fu HO3 HK2 HCv HFv HB2 hs1 hs2
      go_wp2_with fail
      go_region
      clear hcv hfv c0 c1 c2 hs3 hs4 hf1 hf2 ht1 ht2
      go_wp2
      go_roundw
      case rel => exact ⟨k + 1, (l.set F (u + a)).set T (v - a), by omega, by go_num, HSt.out, fun j p h1 h2 => by
        by_cases e : j = k
        · subst e; rw [HP.out] at h2; obtain rfl := Option.some.inj h2; exact HOk.out
        · exact HA.out j p (by omega) h2, HO4.out, HB4.out⟩
      case measure => simp [intOf]; omega
    · obtain rfl : k = ps.length := by omega
      have hcb := cpB_yes E2.out HA.out
      rw [← HL.out] at hcb
      have HCb := Lib.hid hcb
      clear hcb hk hlt hw1 hw2
      go_wp2_with fail
      go_loopw [10] (fun iv wr => ∃ (m : Nat), m ≤ l.length ∧ iv = .int .i64 m ∧ (∀ j x, j < m → l[j]? = some x → x = 0) ∧ wa = wr) (fun i _ => l.length - (intOf i).toNat)
      case atStart => exact ⟨0, by omega, rfl, fun j x h => absurd h (Nat.not_lt_zero _), rfl⟩
      case round =>
        obtain ⟨m, hm, rfl, hZ, rfl⟩ := hrel
        have HZ := Lib.hid hZ
        clear hZ
        have hm0 : (0 : Int) ≤ (m : Int) := Int.natCast_nonneg _
        by_cases hlt : m < l.length
        · have hm8 : (m : Int) < xs.length := by have := HLl.out; omega
          obtain ⟨x, hx⟩ : ∃ x, l[m]? = some x := ⟨_, List.getElem?_eq_getElem hlt⟩
          have cx : wa.cell? ⟨g, m, none⟩ = some (.int .i64 x) := ownI_at HO.out hx
          have HXm := Lib.hid hx
          clear hx
          by_cases h0 : x = 0
          · have hb0 : (x == 0) = true := by simp [h0]
            have HX0 := Lib.hid h0
            go_wp2
            go_roundw
            case rel => exact ⟨m + 1, by omega, by go_num, fun j y h1 h2 => by
              by_cases e : j = m
              · subst e; rw [HXm.out] at h2; obtain rfl := Option.some.inj h2; exact HX0.out
              · exact HZ.out j y (by omega) h2, by first | rfl | trivial⟩
            case measure => simp [intOf]; omega
          · have hb0 : (x == 0) = false := by simpa using h0
            have E : Hid (cpB xs ps = false) := by
              show _ = _
              rw [HCb.out, List.all_eq_false]
              exact ⟨x, List.mem_of_getElem? HXm.out, by simp [h0]⟩
            go_wp2
            go_ret2
            exact ⟨by (rw [E.out, E2.out]; rfl), HB.out⟩
        · obtain rfl : m = l.length := by omega
          have hm9 : ¬ (l.length : Int) < xs.length := by have := HLl.out; omega
          have E : Hid (cpB xs ps = true) := by
            show _ = _
            rw [HCb.out, List.all_eq_true]
            intro x hx
            obtain ⟨j, hj, rfl⟩ := List.mem_iff_getElem.1 hx
            simp [HZ.out j _ hj (List.getElem?_eq_getElem hj)]
          clear hm hlt
          go_wp2
          go_ret2
          exact ⟨by (rw [E.out, E2.out]; rfl), HB.out⟩

end Go.Proofs.YtcdoablhnlkkmaaDoor
