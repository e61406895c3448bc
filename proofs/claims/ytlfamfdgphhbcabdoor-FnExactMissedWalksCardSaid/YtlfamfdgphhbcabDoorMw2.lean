/-
  MissedWalks: the model's contract. Condition: rows and walkers read as told, their numbers fit their kinds.
-/
import Derived.Test.YtlfamfdgphhbcabDoorMw1
namespace Go.Proofs.YtlfamfdgphhbcabDoor
open Go.ChangeShapes Go.WideShapes Go.ChangeAt Go.RowKit Go.Deep

theorem own_grown_ne {w w1 : World} {row : Option Nat} {b size n : Nat} {e : TypeId} {v : Value} {xs : List Value} (h : w.ownsRow b e size v n xs) (hg : w.grownBy w1 row) (hne : ∀ k, v.ownBlock = some k → row ≠ some k) : w1.ownsRow b e size v n xs := by
  obtain ⟨h1, h2⟩ := h
  refine ⟨h1, ?_⟩
  rcases h2 with h2 | ⟨g, cap, cur, hv, hb, hh, hr⟩
  · exact .inl h2
  · exact .inr ⟨g, cap, cur, hv, hb, gk_blk (B := g) hh hg (hne g (by rw [hv]; rfl)), hr⟩
theorem own_two_ne {w : World} {b b' size size' n n' c c' : Nat} {t t' : TypeId} {A A' : Option Addr} {xs xs' : List Value} (h : w.ownsRow b t size (.slice A n c) n xs) (h' : w.ownsRow b' t' size' (.slice A' n' c') n' xs') (ht : t' ≠ t) : ∀ q, (Value.slice A n c).ownBlock = some q → A'.map (·.block) ≠ some q := by
  intro q e
  rcases h.2 with ⟨e1, -⟩ | ⟨g, cap, cur, e1, -, hg, -⟩
  · rw [e1] at e; cases e
  · rw [e1] at e
    obtain rfl : g = q := by simpa [Value.ownBlock] using e
    exact own_ne h' hg ht
theorem empty_ownP (w : World) (b : Nat) (hb : b ≤ w.heap.size) : (w.alloc (.cells #[] 83)).ownsRow b 83 2 (.slice (some ⟨w.heap.size, 0, none⟩) 0 0) ([] : List P2).length (([] : List P2).flatMap p2cells) :=
  ⟨rfl, .inr ⟨w.heap.size, 0, #[], rfl, hb, heap_alloc_new w _, Nat.le_refl _, by unfold maxLen; omega, by simp, by simp⟩⟩

set_option maxRecDepth 100000 in
set_option maxHeartbeats 4000000 in
theorem specMissed_any (r : List Int) (hy0 : ∀ a ∈ r, wfY a) (l : List Wal) (hwf : ∀ x ∈ l, wfV x) (d : Int) (s : List Int) (A B As : Option Addr) (ca c cs : Nat) (w : World) (hrl : r.length ≤ 1048576) (hl : l.length ≤ 1048576) (hsl : s.length ≤ 1048576) (hra : Rd w w.heap.size ycells A r) (hr : Rd w w.heap.size vcells B l) (hrs : Rd w w.heap.size ycells As s) :
    Calls Tryd.prog 15 #[.slice A r.length ca, .slice B l.length c, .int .i64 d, .slice As s.length cs] w fun e w' => ∃ v, e = .returned (.tuple #[v, .int .i64 (mwC r l d s)]) ∧ w'.ownsRow w.heap.size 83 2 v (mwL r l d s).length ((mwL r l d s).flatMap p2cells) ∧ Below w.heap.size w w' := by
  obtain ⟨i0, hi, hz0, hz1, hz2⟩ := info_parts Tryd.infoP2
  have HI := Lib.hid hi
  have HZ0 := Lib.hid hz0
  have HZ1 := Lib.hid hz1
  have HZ2 := Lib.hid hz2
  have HRa := Lib.hid hra
  have HR := Lib.hid hr
  have HRs := Lib.hid hrs
  clear hi hz0 hz1 hz2 hra hr hrs
  have HE0 : Hid ((w.alloc (.cells #[] 83)).ownsRow w.heap.size 83 2 (.slice (some ⟨w.heap.size, 0, none⟩) 0 0) ([] : List P2).length (([] : List P2).flatMap p2cells)) := empty_ownP w _ (Nat.le_refl _)
  have HB0 : Hid (Below w.heap.size w (w.alloc (.cells #[] 83))) := (Below.refl _ w).alloc (Nat.le_refl _) _
  go_enter Tryd.func15, Tryd.ntmps15
  go_wp2_with fail
  obtain ⟨W0, hW0⟩ : ∃ W0, w.alloc (.cells #[] 83) = W0 := ⟨_, rfl⟩
  rw [hW0] at HE0 HB0 ⊢
  clear hW0
  refine (l05Ok_any s As cs W0 hsl (HRs.out.keep HB0.out)).mono ?_
  rintro e w1 ⟨rfl, rfl⟩
  cases hys : yOk s
  · have E := Lib.hid (mw_seen (r := r) (l := l) (d := d) (Or.inl hys))
    clear hys
    go_wp2
    go_ret2
    refine ⟨_, by (rw [E.out.1]; first | done | rfl), ?_, HB0.out⟩
    rw [E.out.2]; exact HE0.out
  have HYS := Lib.hid hys
  by_cases hn : r.length = s.length
  · skip
    have HCode := Lib.hid (mw_code (r := r) (l := l) (d := d) hys hn)
    have HN := Lib.hid hn
    have nb : ((s.length : Int) != (r.length : Int)) = false := by rw [hn]; simp
    have nb2 : (s.length : Int) = (r.length : Int) := by omega
    clear hys hn
    go_wp2_with fail
    refine (l05Day_any d _).mono ?_
    rintro e w1 ⟨rfl, rfl⟩
    clear nb nb2
    have HRow : Hid (∀ f, Calls Tryd.prog 41 #[.slice A r.length ca, .slice B l.length c, .bool f] W0 fun e w' => e = .returned (.int .i64 (if yOk r = true then akV r.length l f else 1)) ∧ Below W0.heap.size W0 w') := fun f => l05Row_any r l hwf f A B ca c W0 hrl hl (HRa.out.keep HB0.out) (HR.out.keep HB0.out)
    cases hI : inS d
    · have hc : (if yOk r = true then akV r.length l false else 1) = mwC r l d s := by rw [← HCode.out, hI]; rfl
      have HCC := Lib.hid hc
      clear hI hc
      go_wp2_with fail
      refine (HRow.out false).mono ?_
      rintro e w2 ⟨rfl, hb⟩
      rw [HCC.out]
      have hnz : ∃ i, mwO r l d s = some i := by
        cases ho : mwO r l d s with
        | some i => exact ⟨i, rfl⟩
        | none =>
          exfalso
          have h0 := (mw_ok ho).1
          rw [← HCC.out] at h0
          revert h0
          unfold akV
          cases yOk r <;> cases vsOk (r.length : Int) l <;> simp
      obtain ⟨i, ho⟩ := hnz
      have E := Lib.hid (mw_bad ho)
      have hne : mwC r l d s ≠ 0 := by rw [E.out.1]; exact cdN_ne
      obtain ⟨cc, hcc⟩ : ∃ cc, mwC r l d s = cc := ⟨_, rfl⟩
      have HCx := Lib.hid hcc
      rw [hcc] at hne ⊢
      have hzb : (cc == 0) = false := by simpa using hne
      have hzb2 : (cc != 0) = true := by simpa using hne
      have HBe : Hid (Below w.heap.size w w2) := HB0.out.trans (hb.mono HB0.out.size)
      have HEe := Lib.hid (own_keep' HE0.out hb)
      clear ho hcc hb
      go_wp2
      go_ret2
      refine ⟨_, by (rw [HCx.out]; first | done | rfl), ?_, HBe.out⟩
      rw [E.out.2]; exact HEe.out
    by_cases h4 : d ≤ 400
    · have hc : (if yOk r = true then akV r.length l true else 1) = mwC r l d s := by rw [← HCode.out, hI, decide_eq_true h4]; rfl
      have HCC := Lib.hid hc
      clear hI hc
      go_wp2_with fail
      refine (HRow.out true).mono ?_
      rintro e w2 ⟨rfl, hb⟩
      rw [HCC.out]
      cases ho : mwO r l d s with
      | some i =>
        have E := Lib.hid (mw_bad ho)
        have hne : mwC r l d s ≠ 0 := by rw [E.out.1]; exact cdN_ne
        obtain ⟨cc, hcc⟩ : ∃ cc, mwC r l d s = cc := ⟨_, rfl⟩
        have HCx := Lib.hid hcc
        rw [hcc] at hne ⊢
        have hzb : (cc == 0) = false := by simpa using hne
        have hzb2 : (cc != 0) = true := by simpa using hne
        have HBe : Hid (Below w.heap.size w w2) := HB0.out.trans (hb.mono HB0.out.size)
        have HEe := Lib.hid (own_keep' HE0.out hb)
        clear ho hcc hb
        go_wp2
        go_ret2
        refine ⟨_, by (rw [HCx.out]; first | done | rfl), ?_, HBe.out⟩
        rw [E.out.2]; exact HEe.out
      | none =>
        clear HCC HCode HRow
        obtain ⟨h0, h1, hy, hv, -, -, hd0, hd4⟩ := mw_ok ho
        have hvs := vsOk_out hv
        have E0 := Lib.hid h0
        have E1 := Lib.hid h1
        have HR7 := Lib.hid (wfY_7 hy hy0)
        have HVS := Lib.hid hvs
        have HD : Hid (0 ≤ d ∧ d ≤ 400) := ⟨hd0, hd4⟩
        obtain ⟨N, hN⟩ : ∃ N, r.length = N := ⟨_, rfl⟩
        have HRN := Lib.hid hN
        have hsN : s.length = N := by rw [← HN.out, hN]
        have HSN := Lib.hid hsN
        rw [hN] at E1 HVS ⊢
        rw [hsN]
        have h1N : 1 ≤ N := by have := HVS.out.1.1; omega
        have h60N : N ≤ 60 := by have := HVS.out.1.2; omega
        have HRa0 := Lib.hid (HRa.out.keep HB0.out)
        have HR0 := Lib.hid (HR.out.keep HB0.out)
        have HWh : Hid (∀ z : World, Below W0.heap.size W0 z → Calls Tryd.prog 43 #[.slice A N ca, .slice B l.length c, .int .i64 d] z fun e w' => ∃ A' c', e = .returned (.slice A' N c') ∧ w'.ownsRow z.heap.size 5 1 (.slice A' N c') N ((tnA N l (fun x => unD x d) r l.length).flatMap ycells) ∧ Below z.heap.size z w') := fun z hz => by
          have := l05Whole_any l N h1N h60N HVS.out.2.2 d ⟨by have := HD.out; omega, by have := HD.out; omega⟩ r HRN.out HR7.out A B ca c z HVS.out.2.1 (HRa0.out.keep hz) (HR0.out.keep hz)
          rw [HRN.out] at this
          exact this
        rw [h0]
        have HB2 : Hid (Below w.heap.size w w2) := HB0.out.trans (hb.mono HB0.out.size)
        have HE2 := Lib.hid (own_keep' HE0.out hb)
        have HBW := Lib.hid hb
        have hl8 : l.length ≤ 8 := HVS.out.2.1
        clear ho h0 h1 hy hv hvs hd0 hd4 hN hsN hb h4
        go_wp2_with fail
        refine (HWh.out _ HBW.out).mono ?_
        rintro e w3 ⟨A3, c3, rfl, hO3, hb3⟩
        obtain ⟨R, hR⟩ : ∃ R, tnA N l (fun x => unD x d) r l.length = R := ⟨_, rfl⟩
        have HRl : Hid (R.length = N) := by show R.length = N; rw [← hR, tnA_len, HRN.out]
        have HRR7 : Hid (∀ a ∈ R, 0 ≤ a ∧ a ≤ 7) := by show ∀ a ∈ R, _; rw [← hR]; exact tnA_in HR7.out _
        rw [hR] at hO3 E1
        have HRd3 : Hid (w3.ownsRow w.heap.size 5 1 (.slice A3 N c3) N (R.flatMap ycells)) := own_base hO3 HB2.out.size
        have HB3 : Hid (Below w.heap.size w w3) := HB2.out.trans (hb3.mono HB2.out.size)
        have HE3 := Lib.hid (own_keep' HE2.out hb3)
        have HW3 : Hid (w.heap.size ≤ w3.heap.size) := HB3.out.size
        have HVv : Hid (Rd w3 w3.heap.size vcells B l) := HR.out.keep HB3.out
        have HSs : Hid (Rd w3 w3.heap.size ycells As s) := HRs.out.keep HB3.out
        clear hR hO3 hb3 HWh HB2 HE2 HBW HB0 HE0 HRa0 HR0
        go_wp2_with fail
        go_loopw [10, 13] (fun v i wr => ∃ (k : Nat) (L : List P2) (A1 : Option Addr) (c1 : Nat), k ≤ l.length ∧ i = .int .i64 k ∧ v = .slice A1 L.length c1 ∧ L = mwT N R s l d k ∧ wr.ownsRow w.heap.size 83 2 (.slice A1 L.length c1) L.length (L.flatMap p2cells) ∧ Below w.heap.size w wr ∧ wr.ownsRow w.heap.size 5 1 (.slice A3 N c3) N (R.flatMap ycells) ∧ Rd wr wr.heap.size vcells B l ∧ Rd wr wr.heap.size ycells As s)
          (fun _ i _ => l.length - (intOf i).toNat)
        case atStart => exact ⟨0, [], _, _, by omega, rfl, rfl, rfl, HE3.out, HB3.out, HRd3.out, HVv.out, HSs.out⟩
        case round =>
          clear HE3 HB3 HRd3 HVv HSs
          obtain ⟨wa, rfl⟩ : ∃ u, u = wr := ⟨_, rfl⟩
          obtain ⟨k, L, A1, c1, hk, rfl, rfl, hL, hO, hB, hRd, hVv, hSs⟩ := hrel
          have HL := Lib.hid hL
          have HO := Lib.hid hO
          have HB := Lib.hid hB
          have HRd := Lib.hid hRd
          have HVv := Lib.hid hVv
          have HSs := Lib.hid hSs
          clear hL hO hB hRd hVv hSs
          have hk0 : (0 : Int) ≤ (k : Int) := Int.natCast_nonneg _
          by_cases hlt : k < l.length
          · obtain ⟨⟨fi, ev, st, sp, co, tu⟩, hx⟩ : ∃ x, l[k]? = some x := ⟨_, List.getElem?_eq_getElem hlt⟩
            have HXL := Lib.hid hx
            have HVx := Lib.hid (HVS.out.2.2 _ (List.mem_of_getElem? hx))
            have HXO := Lib.hid (vOk_out HVx.out)
            have HLb : Hid (L.length ≤ 3300) := by
              show L.length ≤ 3300
              have := mwT_len N R s l d HD.out.2 k
              rw [HL.out]; omega
            obtain ⟨b1, o1, rfl, hbl, hrow⟩ := HVv.out.at_ vcells_length hx
            have d0 : wa.cell? ⟨b1, o1 + k * 6, none⟩ = some (.int .i16 fi) := hrow 0 _ rfl
            have d1 : wa.cell? ⟨b1, o1 + k * 6 + 1, none⟩ = some (.int .i16 ev) := hrow 1 _ rfl
            have d2 : wa.cell? ⟨b1, o1 + k * 6 + 2, none⟩ = some (.int .i16 st) := hrow 2 _ rfl
            have d3 : wa.cell? ⟨b1, o1 + k * 6 + 3, none⟩ = some (.int .i16 sp) := hrow 3 _ rfl
            have d4 : wa.cell? ⟨b1, o1 + k * 6 + 4, none⟩ = some (.int .i16 co) := hrow 4 _ rfl
            have d5 : wa.cell? ⟨b1, o1 + k * 6 + 5, none⟩ = some (.int .i8 tu) := hrow 5 _ rfl
            have nt : IntKind.i8.wrap (-tu) = -tu := IntWalk.i8_in _ (by have := HXO.out.2.2.2.2.2; simp only at this; omega)
            have hk8' : (k : Int) < l.length := by omega
            clear hx hrow
            go_wp2_with fail
            clear d0 d1 d2 d3 d4 d5 nt
            have HA1 : Hid (Below wa.heap.size wa (wa.alloc (.cells #[.int .i16 fi, .int .i16 ev, .int .i16 st, .int .i16 sp, .int .i16 co, .int .i8 (-tu)] 80))) := (Below.refl _ wa).alloc (Nat.le_refl _) _
            obtain ⟨W1, hW1⟩ : ∃ W1, wa.alloc (.cells #[.int .i16 fi, .int .i16 ev, .int .i16 st, .int .i16 sp, .int .i16 co, .int .i8 (-tu)] 80) = W1 := ⟨_, rfl⟩
            rw [hW1] at HA1 ⊢
            clear hW1
            have HTn : Hid (Calls Tryd.prog 45 #[.slice A3 N c3, .agg #[.int .i16 fi, .int .i16 ev, .int .i16 st, .int .i16 sp, .int .i16 co, .int .i8 (-tu)], .int .i64 1] W1 fun e w' => ∃ A' c', e = .returned (.slice A' N c') ∧ w'.ownsRow W1.heap.size 5 1 (.slice A' N c') N ((tnR R (byW N ⟨fi, ev, st, sp, co, tu⟩ (-1))).flatMap ycells) ∧ Below W1.heap.size W1 w') := by
              have := l05Turned_any N h1N h60N (bkW ⟨fi, ev, st, sp, co, tu⟩) (bkW_ok HVx.out) 1 ⟨by omega, by omega⟩ R HRl.out HRR7.out A3 c3 W1 (own_rd2 ycells_length (by rw [HRl.out]; exact own_keep' HRd.out HA1.out))
              rw [HRl.out, byW_bk] at this
              exact this
            refine HTn.out.mono ?_
            rintro e w4 ⟨A4, c4, rfl, hO4, hb4⟩
            obtain ⟨X, hX⟩ : ∃ X, tnR R (byW N ⟨fi, ev, st, sp, co, tu⟩ (-1)) = X := ⟨_, rfl⟩
            have HXE := Lib.hid hX
            have HXl : Hid (X.length = N) := by show X.length = N; rw [← hX, tnR_len, HRl.out]
            rw [hX] at hO4
            have HA4 : Hid (Below wa.heap.size wa w4) := HA1.out.trans (hb4.mono HA1.out.size)
            have HSame : Hid (Calls Tryd.prog 44 #[.slice A4 N c4, .slice As N cs] w4 fun e w' => e = .returned (.bool (decide (X = s))) ∧ Below w4.heap.size w4 w') := by
              have := specSameRow_any X s A4 As c4 cs w4 (by rw [HXl.out]; omega) hsl (own_rd2 ycells_length (by rw [HXl.out]; exact hO4)) (HSs.out.keep HA4.out)
              rw [HXl.out, HSN.out] at this
              exact this
            clear hO4 hb4 hX HTn HA1
            go_wp2_with fail
            refine HSame.out.mono ?_
            rintro e w5 ⟨rfl, hb5⟩
            have HA5 : Hid (Below wa.heap.size wa w5) := HA4.out.trans (hb5.mono HA4.out.size)
            have HB5 : Hid (Below w.heap.size w w5) := HB.out.trans (HA5.out.mono HB.out.size)
            have HO5 := Lib.hid (own_keep' HO.out HA5.out)
            have HRd5 := Lib.hid (own_keep' HRd.out HA5.out)
            have HVv5 := Lib.hid (HVv.out.keep HA5.out)
            have HSs5 := Lib.hid (HSs.out.keep HA5.out)
            clear hb5 HSame HA4 HA5
            by_cases hxs : X = s
            · have HT : Hid (mwT N R s l d (k + 1) = L ++ prD k (dnX ⟨fi, ev, st, sp, co, tu⟩ (d + 1).toNat)) := by
                show _ = _
                rw [HL.out]
                exact mwT_yes HXL.out (by rw [HXE.out]; exact hxs)
              rw [decide_eq_true hxs]
              clear hxs HB HO HRd HVv HSs HL
              go_wp2_with fail
              go_loopw [10, 15] (fun v i wr => ∃ (m : Nat) (M : List P2) (A6 : Option Addr) (c6 : Nat), m ≤ (d + 1).toNat ∧ i = .int .i64 m ∧ v = .slice A6 M.length c6 ∧ M = L ++ prD k (dnX ⟨fi, ev, st, sp, co, tu⟩ m) ∧ wr.ownsRow w.heap.size 83 2 (.slice A6 M.length c6) M.length (M.flatMap p2cells) ∧ Below w.heap.size w wr ∧ wr.ownsRow w.heap.size 5 1 (.slice A3 N c3) N (R.flatMap ycells) ∧ Rd wr wr.heap.size vcells (some ⟨b1, o1, none⟩) l ∧ Rd wr wr.heap.size ycells As s)
                (fun _ i _ => (d + 1).toNat - (intOf i).toNat)
              case atStart => exact ⟨0, L, A1, c1, by omega, rfl, rfl, by simp [dnX, prD], HO5.out, HB5.out, HRd5.out, HVv5.out, HSs5.out⟩
              case round =>
                clear HO5 HB5 HRd5 HVv5 HSs5
                obtain ⟨wb, rfl⟩ : ∃ u, u = wr := ⟨_, rfl⟩
                obtain ⟨m, M, A6, c6, hm, rfl, rfl, hM, hO6, hB6, hR6, hV6, hS6⟩ := hrel
                have HM := Lib.hid hM
                have HO6 := Lib.hid hO6
                have HB6 := Lib.hid hB6
                have HR6 := Lib.hid hR6
                have HV6 := Lib.hid hV6
                have HS6 := Lib.hid hS6
                have hD := HD.out
                have HMl : Hid (M.length ≤ 3800) := by
                  show M.length ≤ 3800
                  have := HLb.out
                  have := dnX_le ⟨fi, ev, st, sp, co, tu⟩ m
                  rw [HM.out, List.length_append, prD_len]; omega
                clear hM hO6 hB6 hR6 hV6 hS6
                have hm0 : (0 : Int) ≤ (m : Int) := Int.natCast_nonneg _
                by_cases hmd : (m : Int) ≤ d
                · obtain ⟨b2, o2, hbo, hbl2, hrow⟩ := HV6.out.at_ vcells_length HXL.out
                  cases hbo
                  have d0 : wb.cell? ⟨b1, o1 + k * 6, none⟩ = some (.int .i16 fi) := hrow 0 _ rfl
                  have d1 : wb.cell? ⟨b1, o1 + k * 6 + 1, none⟩ = some (.int .i16 ev) := hrow 1 _ rfl
                  have d2 : wb.cell? ⟨b1, o1 + k * 6 + 2, none⟩ = some (.int .i16 st) := hrow 2 _ rfl
                  have d3 : wb.cell? ⟨b1, o1 + k * 6 + 3, none⟩ = some (.int .i16 sp) := hrow 3 _ rfl
                  have d4 : wb.cell? ⟨b1, o1 + k * 6 + 4, none⟩ = some (.int .i16 co) := hrow 4 _ rfl
                  have d5 : wb.cell? ⟨b1, o1 + k * 6 + 5, none⟩ = some (.int .i8 tu) := hrow 5 _ rfl
                  clear hrow
                  have HOn : Hid (Calls Tryd.prog 46 #[.agg #[.int .i16 fi, .int .i16 ev, .int .i16 st, .int .i16 sp, .int .i16 co, .int .i8 tu], .int .i64 m] wb fun e w' => e = .returned (.bool (onD ⟨fi, ev, st, sp, co, tu⟩ m)) ∧ Below wb.heap.size wb w') :=
                    l05On_any ⟨fi, ev, st, sp, co, tu⟩ HXO.out.1 HXO.out.2.1 m ⟨by omega, by omega⟩ wb
                  go_wp2_with fail
                  clear d0 d1 d2 d3 d4 d5
                  refine HOn.out.mono ?_
                  rintro e w7 ⟨rfl, hb7⟩
                  have HO7 := Lib.hid (own_keep' HO6.out hb7)
                  have HB7 : Hid (Below w.heap.size w w7) := HB6.out.trans (hb7.mono HB6.out.size)
                  have HR7' := Lib.hid (own_keep' HR6.out hb7)
                  have HV7 := Lib.hid (HV6.out.keep hb7)
                  have HS7 := Lib.hid (HS6.out.keep hb7)
                  have HW7 : Hid (w.heap.size ≤ w7.heap.size) := HB7.out.size
                  clear hb7 HOn HO6 HB6 HR6 HV6 HS6
                  cases hon : onD ⟨fi, ev, st, sp, co, tu⟩ m
                  · have HM9 : Hid (M = L ++ prD k (dnX ⟨fi, ev, st, sp, co, tu⟩ (m + 1))) := by
                      show M = _
                      rw [dnX, hon, if_neg (by decide), List.append_nil, HM.out]
                    clear hon
                    go_wp2
                    go_roundw
                    case rel => exact ⟨m + 1, M, A6, c6, by omega, by go_num, rfl, HM9.out, HO7.out, HB7.out, HR7'.out, HV7.out, HS7.out⟩
                    case measure => simp [intOf]; omega
                  · have HM9 : Hid (M ++ [((k : Int), (m : Int))] = L ++ prD k (dnX ⟨fi, ev, st, sp, co, tu⟩ (m + 1))) := by
                      show M ++ [((k : Int), (m : Int))] = _
                      rw [dnX, hon, if_pos rfl, HM.out, List.append_assoc]
                      show _ = L ++ (dnX _ m ++ [(m : Int)]).map _
                      rw [List.map_append]; rfl
                    clear hon
                    go_wp2_with (at_builtin; refine wpList_append_any _ rfl (.tmp 76) (.tmp 80) 34 34 rfl w.heap.size 83 i0 (.agg #[.int .i64 0, .int .i64 0]) 2 16 Tryd.underlying34 HI.out HZ0.out HZ1.out HZ2.out rfl (by decide) (.slice A6 M.length c6) M.length (M.flatMap p2cells) rfl ?own2 _ 1 [.int .i64 k, .int .i64 m] rfl ?src2 ?e3 ?e4 ?e5 ?_)
                    case own2 => exact HO7.out.alloc _
                    case src2 => exact Src.ofSlice _ Tryd.underlying34 ⟨w7.heap.size, 0, none⟩ 1 1 _ rfl (two_cells w7 _ _ _) (by intro u hu; simp only [List.mem_cons, List.not_mem_nil, or_false] at hu; rcases hu with rfl | rfl <;> rfl)
                    case e3 => have := HMl.out; unfold maxLen; omega
                    case e4 => have := HMl.out; omega
                    case e5 => have := HW7.out; simp; omega
                    intro v8 w8 hown8 hg8 _
                    rw [ownBlock_slice] at hg8
                    have hown9 : w8.ownsRow w.heap.size 83 2 v8 (M ++ [((k : Int), (m : Int))]).length ((M ++ [((k : Int), (m : Int))]).flatMap p2cells) := by rw [List.length_append, List.flatMap_append]; simpa [p2cells] using hown8
                    obtain ⟨A8, c8, rfl, -, -⟩ := own_rd p2cells_length hown9
                    have HO9 := Lib.hid hown9
                    have HB8 : Hid (Below w.heap.size w w8) := (balP HB7.out _).grown hg8 (by have := HW7.out; simp; omega) (fun q e => by have := gk_ge HO7.out q e; omega)
                    have HR8 := Lib.hid (own_grown_ne (HR7'.out.alloc _) hg8 (own_two_ne HR7'.out HO7.out (by decide)))
                    have HV8 := Lib.hid (HR.out.keep HB8.out)
                    have HS8 := Lib.hid (HRs.out.keep HB8.out)
                    obtain ⟨M9, hM9⟩ : ∃ Z, M ++ [((k : Int), (m : Int))] = Z := ⟨_, rfl⟩
                    rw [hM9] at HO9 HM9 ⊢
                    clear hM9 hown8 hown9 hg8 HO7 HB7 HR7' HV7 HS7
                    go_wp2
                    go_roundw
                    case rel => exact ⟨m + 1, M9, A8, c8, by omega, by go_num, rfl, HM9.out, HO9.out, HB8.out, HR8.out, HV8.out, HS8.out⟩
                    case measure => simp [intOf]; omega
                · obtain rfl : m = (d + 1).toNat := by omega
                  go_wp2
                  go_roundw
                  case rel => exact ⟨k + 1, M, A6, c6, by omega, by go_num, rfl, by rw [HT.out]; exact HM.out, HO6.out, HB6.out, HR6.out, HV6.out, HS6.out⟩
                  case measure => simp [intOf]; omega
            · have HT : Hid (mwT N R s l d (k + 1) = L) := by
                show _ = _
                rw [HL.out]
                exact mwT_no HXL.out (by rw [HXE.out]; exact hxs)
              rw [decide_eq_false hxs]
              clear hxs
              go_wp2
              go_roundw
              case rel => exact ⟨k + 1, L, A1, c1, by omega, by go_num, rfl, HT.out.symm, HO5.out, HB5.out, HRd5.out, HVv5.out, HSs5.out⟩
              case measure => simp [intOf]; omega
          · obtain rfl : k = l.length := by omega
            have HE : Hid (L = mwL r l d s) := by show L = _; rw [HL.out, E1.out]
            go_wp2
            go_ret2
            refine ⟨_, by (rw [E0.out]; first | done | rfl), ?_, HB.out⟩
            rw [← HE.out]; exact HO.out
    · have hc : (if yOk r = true then akV r.length l false else 1) = mwC r l d s := by rw [← HCode.out, hI, decide_eq_false h4]; rfl
      have HCC := Lib.hid hc
      have h4b : 400 < d := by omega
      have h4c : decide (d ≤ 400) = false := decide_eq_false h4
      clear hI hc
      go_wp2_with fail
      refine (HRow.out false).mono ?_
      rintro e w2 ⟨rfl, hb⟩
      clear h4 h4b h4c
      rw [HCC.out]
      have hnz : ∃ i, mwO r l d s = some i := by
        cases ho : mwO r l d s with
        | some i => exact ⟨i, rfl⟩
        | none =>
          exfalso
          have h0 := (mw_ok ho).1
          rw [← HCC.out] at h0
          revert h0
          unfold akV
          cases yOk r <;> cases vsOk (r.length : Int) l <;> simp
      obtain ⟨i, ho⟩ := hnz
      have E := Lib.hid (mw_bad ho)
      have hne : mwC r l d s ≠ 0 := by rw [E.out.1]; exact cdN_ne
      obtain ⟨cc, hcc⟩ : ∃ cc, mwC r l d s = cc := ⟨_, rfl⟩
      have HCx := Lib.hid hcc
      rw [hcc] at hne ⊢
      have hzb : (cc == 0) = false := by simpa using hne
      have hzb2 : (cc != 0) = true := by simpa using hne
      have HBe : Hid (Below w.heap.size w w2) := HB0.out.trans (hb.mono HB0.out.size)
      have HEe := Lib.hid (own_keep' HE0.out hb)
      clear ho hcc hb
      go_wp2
      go_ret2
      refine ⟨_, by (rw [HCx.out]; first | done | rfl), ?_, HBe.out⟩
      rw [E.out.2]; exact HEe.out
  · have E := Lib.hid (mw_seen (r := r) (l := l) (d := d) (Or.inr hn))
    have nb : ((s.length : Int) != (r.length : Int)) = true := by simp; omega
    have nb2 : ¬ (s.length : Int) = (r.length : Int) := by omega
    clear hys hn
    go_wp2
    go_ret2
    refine ⟨_, by (rw [E.out.1]; first | done | rfl), ?_, HB0.out⟩
    rw [E.out.2]; exact HE0.out
end Go.Proofs.YtlfamfdgphhbcabDoor
