/-
  BusiestDay: the contracts, of the model and of the program. Condition: the walkers' numbers fit their kinds; the sentinel errors lie as the row lists them (the program's).
-/
import Derived.Test.YtjiihdljchaeiacDoorYb
namespace Go.Proofs.YtjiihdljchaeiacDoor
open Go.ChangeShapes Go.WideShapes Go.ChangeAt Go.RowKit Go.Deep

def sdT (l : List Wal) (f : Int) : Nat → Int × Int
  | 0 => (f, -1)
  | m + 1 => bdT l f m
theorem sdT_succ {l : List Wal} {f : Int} (hv : ∀ x ∈ l, 1 ≤ x.co ∧ x.co ≤ 60) (m : Nat) : sdT l f (m + 1) = if (sdT l f m).2 < cnD l (f + m) then (f + m, cnD l (f + m)) else sdT l f m := by
  cases m with
  | zero =>
    have := coT_in (d := f) hv l.length (Nat.le_refl _)
    have h0 : (-1 : Int) < cnD l (f + (0 : Nat)) := by simp only [cnD]; rw [show f + ((0 : Nat) : Int) = f from by simp]; omega
    rw [sdT, sdT, if_pos h0, bdT]; simp
  | succ m =>
    rw [sdT, sdT, bdT]
    rw [show f + ((m + 1 : Nat) : Int) = f + m + 1 from by omega]
theorem sdT_in {l : List Wal} {f : Int} (hv : ∀ x ∈ l, 1 ≤ x.co ∧ x.co ≤ 60) (h8 : l.length ≤ 8) (hf : 0 ≤ f ∧ f ≤ 10000) (m : Nat) (hm : m ≤ 400) : (0 ≤ (sdT l f m).1 ∧ (sdT l f m).1 ≤ 10400) ∧ (-1 ≤ (sdT l f m).2 ∧ (sdT l f m).2 ≤ 480) := by
  cases m with
  | zero => simp only [sdT]; omega
  | succ m => have := bdT_in hv h8 hf m (by omega); rw [sdT]; omega

set_option maxRecDepth 100000 in
set_option maxHeartbeats 4000000 in
theorem specBusiest_any (n : Int) (hn : wfI6 n) (l : List Wal) (hwf : ∀ x ∈ l, wfV x) (f t : Int) (A : Option Addr) (c : Nat) (w : World) (hl : l.length ≤ 1048576) (hr : Rd w w.heap.size vcells A l) :
    Calls Tryd.prog 19 #[.int .i64 n, .slice A l.length c, .int .i64 f, .int .i64 t] w fun e w' => e = .returned (.tuple #[.int .i64 (bdN n l f t).1, .int .i64 (bdN n l f t).2, .int .i64 (bdC n l f t)]) ∧ Below w.heap.size w w' := by
  have HR := Lib.hid hr
  clear hr
  go_enter Tryd.func19, Tryd.ntmps19
  go_wp2_with fail
  refine (l05From_any f t _).mono ?_
  rintro e w1 ⟨rfl, rfl⟩
  go_wp2_with fail
  refine (l05Asked_any n hn l hwf (spB f t) A c w hl HR.out).mono ?_
  rintro e w1 ⟨rfl, hb⟩
  have HB1 := Lib.hid hb
  clear hb
  have hcd : akV n l (spB f t) = 0 → (0 ≤ f ∧ f ≤ 10000) ∧ (0 ≤ t ∧ t ≤ 10000) := fun h => ⟨(spB_out (akV_yes h).2).1, (spB_out (akV_yes h).2).2.1⟩
  have hbc := bd_code n l f t
  obtain ⟨cd, hcd0⟩ : ∃ cd, akV n l (spB f t) = cd := ⟨_, rfl⟩
  rw [hcd0] at hcd hbc ⊢
  clear hcd0
  go_wp2_with fail
  refine (l05Span_any cd f t hcd _).mono ?_
  rintro e w2 ⟨rfl, rfl⟩
  rw [hbc]
  clear hbc hcd
  cases ho : bdO n l f t with
  | some i =>
    have E := Lib.hid (bd_bad ho)
    have hne : bdC n l f t ≠ 0 := by rw [E.out.1]; exact cdN_ne
    obtain ⟨cc, hcc⟩ : ∃ cc, bdC n l f t = cc := ⟨_, rfl⟩
    have HCC := Lib.hid hcc
    rw [hcc] at hne ⊢
    have hzb : (cc == 0) = false := by simpa using hne
    clear ho hcc
    go_wp2
    exact bodyPost_ret (v := .tuple #[.int .i64 0, .int .i64 0, .int .i64 cc]) (by simp [results, Tryd.results19, go_sem]) rfl ⟨by (rw [HCC.out, E.out.2]; first | done | rfl), HB1.out⟩
  | none =>
    obtain ⟨h0, h1, hv, hs, h4⟩ := bd_ok ho
    obtain ⟨⟨f0, f1⟩, ⟨t0, t1⟩, hft⟩ := spB_out hs
    have hvs := vsOk_out hv
    have hco : ∀ x ∈ l, 1 ≤ x.co ∧ x.co ≤ 60 := fun x hx => (vOk_out (hvs.2.2 x hx)).2.2.2.2.1
    have HCo := Lib.hid hco
    have HVS := Lib.hid hvs
    have H0 := Lib.hid h0
    have H1 := Lib.hid h1
    have h8 : l.length ≤ 8 := hvs.2.1
    obtain ⟨T, hT⟩ : ∃ T : Nat, (t - f).toNat = T := ⟨_, rfl⟩
    have hTf : t = f + T := by omega
    have HT := Lib.hid hT
    have HTf := Lib.hid hTf
    have HB1r : Hid (Rd w1 w1.heap.size vcells A l) := HR.out.keep HB1.out
    rw [h0]
    clear ho h0 h1 hv hs hvs hco hT hTf
    go_wp2_with fail
    go_loopw [12, 13, 14] (fun a b i wr => ∃ (m : Nat), m ≤ T + 1 ∧ i = .int .i64 (f + m) ∧ a = .int .i64 (sdT l f m).1 ∧ b = .int .i64 (sdT l f m).2 ∧ Below w.heap.size w wr)
      (fun _ _ i _ => (f + T + 1 - intOf i).toNat)
    case atStart => exact ⟨0, by omega, by simp, rfl, rfl, HB1.out⟩
    case round =>
      clear HB1
      obtain ⟨m, hm, rfl, rfl, rfl, hB⟩ := hrel
      have HB := Lib.hid hB
      clear hB
      have hsi := sdT_in (f := f) HCo.out h8 ⟨f0, f1⟩ m (by have := HTf.out; omega)
      obtain ⟨s1, hs1⟩ : ∃ s, (sdT l f m).1 = s := ⟨_, rfl⟩
      obtain ⟨s2, hs2⟩ : ∃ s, (sdT l f m).2 = s := ⟨_, rfl⟩
      have HS1 := Lib.hid hs1
      have HS2 := Lib.hid hs2
      rw [hs1, hs2] at hsi ⊢
      clear hs1 hs2
      obtain ⟨d, hd⟩ : ∃ d : Int, f + m = d := ⟨_, rfl⟩
      have HD := Lib.hid hd
      rw [hd]
      by_cases hlt : m ≤ T
      · have hdt : d ≤ t := by have := HTf.out; omega
        have hdB : dayB d := ⟨by omega, by omega⟩
        have HDB := Lib.hid hdB
        clear hd hdB
        go_wp2_with fail
        go_loopw [15, 16] (fun v i wr => ∃ (k : Nat), k ≤ l.length ∧ i = .int .i64 k ∧ v = .int .i64 (coT l d k) ∧ Below w.heap.size w wr)
          (fun _ i _ => l.length - (intOf i).toNat)
        case atStart => exact ⟨0, by omega, rfl, rfl, HB.out⟩
        case round =>
          clear HB
          obtain ⟨k, hk, rfl, rfl, hB⟩ := hrel
          have HB := Lib.hid hB
          clear hB
          have hin := coT_in (d := d) HCo.out k hk
          obtain ⟨v, hvv⟩ : ∃ v, coT l d k = v := ⟨_, rfl⟩
          have HVV := Lib.hid hvv
          rw [hvv] at hin ⊢
          clear hvv
          have hk0 : (0 : Int) ≤ (k : Int) := Int.natCast_nonneg _
          by_cases hlt2 : k < l.length
          · obtain ⟨x, hx⟩ : ∃ x, l[k]? = some x := ⟨_, List.getElem?_eq_getElem hlt2⟩
            obtain ⟨b, o, rfl, hbl, hrow⟩ := (HR.out.below (Nat.le_refl _) HB.out).at_ vcells_length hx
            have hxo := vOk_out (HVS.out.2.2 _ (List.mem_of_getElem? hx))
            have HXO := Lib.hid hxo
            have HX := Lib.hid hx
            have HRow := Lib.hid hrow
            have hk8 : (k : Int) < l.length := by omega
            have hbr : b < wr.heap.size := Nat.lt_of_lt_of_le hbl HB.out.size
            clear hx hxo hrow
            go_wp2_with (refine wpList_load_mid rfl 40 (.tmp 44) rfl b (o + k * 6) rfl (vcells x) _ HRow.out Tryd.underlying40 rfl Tryd.sizeVI ?_)
            refine (l05On_any x HXO.out.1 HXO.out.2.1 d HDB.out _).mono ?_
            rintro e w2 ⟨rfl, hb⟩
            have HB2 : Hid (Below w.heap.size w w2) := HB.out.trans (hb.mono HB.out.size)
            have e4 : w2.cell? ⟨b, o + k * 6 + 4, none⟩ = some (.int .i16 x.co) := (hb.cell (p := ⟨b, o + k * 6 + 4, none⟩) hbr).trans (HRow.out 4 _ rfl)
            obtain ⟨co, hcoe⟩ : ∃ co, x.co = co := ⟨_, rfl⟩
            have HCE := Lib.hid hcoe
            rw [hcoe] at e4
            clear hb hcoe
            cases ho : onD x d
            · have E : Hid (coT l d (k + 1) = v) := by show _ = v; rw [coT_no HX.out ho, HVV.out]
              clear ho
              go_wp2
              go_roundw
              case rel => exact ⟨k + 1, by omega, by go_num, by rw [E.out], HB2.out⟩
              case measure => simp [intOf]; omega
            · have E : Hid (coT l d (k + 1) = v + co) := by show _ = v + co; rw [coT_yes HX.out ho, HVV.out, HCE.out]
              have hb2 := HXO.out.2.2.2.2.1
              rw [HCE.out] at hb2
              have u1 : IntKind.i64.wrap co = co := IntWalk.i64_in _ ⟨by omega, by omega⟩
              have u2 : wrap64 co = co := IntWalk.wrap64_in _ ⟨by omega, by omega⟩
              have u3 : IntKind.i64.wrap (v + co) = v + co := IntWalk.i64_in _ ⟨by omega, by omega⟩
              have u4 : wrap64 (v + co) = v + co := IntWalk.wrap64_in _ ⟨by omega, by omega⟩
              clear ho hb2
              go_wp2
              go_roundw
              case rel => exact ⟨k + 1, by omega, by go_num, by rw [E.out], HB2.out⟩
              case measure => simp [intOf]; omega
          · obtain rfl : k = l.length := by omega
            have hst := sdT_succ (f := f) HCo.out m
            rw [HD.out, HS2.out, show cnD l d = v from HVV.out] at hst
            have HST := Lib.hid hst
            obtain ⟨q1, q2⟩ := HDB.out
            have u1 : IntKind.i64.wrap (d + 1) = d + 1 := IntWalk.i64_in _ ⟨by omega, by omega⟩
            have u2 : wrap64 (d + 1) = d + 1 := IntWalk.wrap64_in _ ⟨by omega, by omega⟩
            clear hst
            by_cases hgt : s2 < v
            · have E : Hid (sdT l f (m + 1) = (d, v)) := by show _ = (d, v); rw [HST.out, if_pos hgt]
              go_wp2
              go_roundw
              case rel => exact ⟨m + 1, by omega, by (have := HD.out; congr 1; omega), by rw [E.out], by rw [E.out], HB.out⟩
              case measure => have h5 := HTf.out; have h6 := HD.out; simp [intOf]; omega
            · have hge : v ≤ s2 := by omega
              have E : Hid (sdT l f (m + 1) = sdT l f m) := by show _ = _; rw [HST.out, if_neg hgt]
              go_wp2
              go_roundw
              case rel => exact ⟨m + 1, by omega, by (have := HD.out; congr 1; omega), by rw [E.out, HS1.out], by rw [E.out, HS2.out], HB.out⟩
              case measure => have h5 := HTf.out; have h6 := HD.out; simp [intOf]; omega
      · obtain rfl : m = T + 1 := by omega
        have hdt : t < d := by have := HTf.out; omega
        have E : Hid (bdN n l f t = sdT l f (T + 1)) := by show _ = _; rw [H1.out, HT.out]; rfl
        clear hd
        go_wp2
        exact bodyPost_ret (v := .tuple #[.int .i64 s1, .int .i64 s2, .int .i64 0]) (by simp [results, Tryd.results19, go_sem]) rfl ⟨by (rw [E.out, HS1.out, HS2.out, H0.out]; first | done | rfl), HB.out⟩
set_option maxRecDepth 100000 in
set_option maxHeartbeats 4000000 in
theorem implBusiest_any (n : Int) (hn : wfI6 n) (l : List Wal) (hwf : ∀ x ∈ l, wfV x) (f t : Int) (A : Option Addr) (c : Nat) (ad : Nat → Addr) (w : World) (hl : l.length ≤ 1048576) (hr : Rd w w.heap.size vcells A l) (hE : EW 7 w ad) :
    Calls Tryd.prog 20 #[.int .i64 n, .slice A l.length c, .int .i64 f, .int .i64 t] w fun e w' => e = .returned (.tuple #[.int .i64 (bdN n l f t).1, .int .i64 (bdN n l f t).2, .int .i64 (bdC n l f t)]) ∧ Below w.heap.size w w' := by
  have HR := Lib.hid hr
  have HE := Lib.hid hE
  clear hr hE
  go_enter Tryd.func20, Tryd.ntmps20
  go_wp2_with fail
  refine (checkWalkers_any n hn l hwf A c ad _ hl HR.out HE.out).mono ?_
  rintro e w1 ⟨rfl, hb⟩
  have HB1 := Lib.hid hb
  clear hb
  obtain ⟨v0, hv0⟩ : ∃ v, erO ad (chk 5 (vsOk n l)) = v := ⟨_, rfl⟩
  have HV0 := Lib.hid hv0
  have P0 : Hid (isE v0) := by show isE v0; rw [← hv0]; exact erO_isE _ _
  rw [hv0]
  clear hv0
  go_wp2_with fail
  refine (checkSpan_any f t ad _ (HE.out.below HB1.out (Nat.le_refl _))).mono ?_
  rintro e w2 ⟨rfl, hb⟩
  have HB2 : Hid (Below w.heap.size w w2) := HB1.out.trans (hb.mono HB1.out.size)
  clear hb HB1
  obtain ⟨v1, hv1⟩ : ∃ v, erO ad (spO f t) = v := ⟨_, rfl⟩
  have HV1 := Lib.hid hv1
  have P1 : Hid (isE v1) := by show isE v1; rw [← hv1]; exact erO_isE _ _
  rw [hv1]
  clear hv1
  go_wp2_with (refine wpList_twoErrs rfl (.tmp 19) (.tmp 22) rfl P0.out P1.out rfl rfl ?_)
  have q0 := new_cell2 w2 v0 v1 57
  rw [← HV0.out, ← HV1.out] at q0 ⊢
  refine (firstErr2_O ad _ _ _ _ _ q0.1 q0.2).mono ?_
  rintro e w9 ⟨rfl, rfl⟩
  rw [HV0.out, HV1.out]
  have L2 : Below w.heap.size w (w2.alloc (.cells #[v0, v1] 57)) := HB2.out.alloc HB2.out.size _
  obtain ⟨w3, hw3⟩ : ∃ w3, w2.alloc (.cells #[v0, v1] 57) = w3 := ⟨_, rfl⟩
  rw [hw3] at L2 ⊢
  have M2 := Lib.hid L2
  rw [show firstO [chk 5 (vsOk n l), spO f t] = bdO n l f t from rfl]
  clear q0 hw3 L2 HB2 HV0 HV1 P0 P1
  cases ho : bdO n l f t with
  | some i =>
    have hi : i < 7 := firstO_lt (os := [chk 5 (vsOk n l), spO f t]) (by
      simp only [List.mem_cons, List.not_mem_nil, or_false]
      rintro o (rfl | rfl)
      · exact chk_lt (by omega)
      · exact spO_lt) i ho
    have E := Lib.hid (bd_bad ho)
    have HIi := Lib.hid hi
    rw [erO_some]
    clear ho hi
    go_wp2_with fail
    refine (codeOf_O (HE.out.below M2.out (Nat.le_refl _)) i HIi.out).mono ?_
    rintro e w4 ⟨rfl, rfl⟩
    obtain ⟨cc, hcc⟩ : ∃ cc, cdN i = cc := ⟨_, rfl⟩
    have HCC := Lib.hid hcc
    rw [hcc]
    clear hcc
    go_wp2
    exact bodyPost_ret (v := .tuple #[.int .i64 0, .int .i64 0, .int .i64 cc]) (by simp [results, Tryd.results20, go_sem]) rfl ⟨by (rw [E.out.1, E.out.2, HCC.out]; first | done | rfl), M2.out⟩
  | none =>
    obtain ⟨h0, h1, hv, hs, h4⟩ := bd_ok ho
    obtain ⟨⟨f0, f1⟩, ⟨t0, t1⟩, hft⟩ := spB_out hs
    have hvs := vsOk_out hv
    obtain ⟨N, rfl⟩ : ∃ N : Nat, n = N := ⟨n.toNat, by omega⟩
    have hco : ∀ x ∈ l, 1 ≤ x.co ∧ x.co ≤ 60 := fun x hx => (vOk_out (hvs.2.2 x hx)).2.2.2.2.1
    have HCo := Lib.hid hco
    have HVS := Lib.hid hvs
    have H0 := Lib.hid h0
    have H1 := Lib.hid h1
    have h8 : l.length ≤ 8 := hvs.2.1
    obtain ⟨T, hT⟩ : ∃ T : Nat, (t - f).toNat = T := ⟨_, rfl⟩
    have hTf : t = f + T := by omega
    have HT := Lib.hid hT
    have HTf := Lib.hid hTf
    have hN1 : 1 ≤ N := by have := hvs.1.1; omega
    have hN60 : N ≤ 60 := by have := hvs.1.2; omega
    have w1 : IntKind.i64.wrap (f + 1) = f + 1 := IntWalk.i64_in _ ⟨by omega, by omega⟩
    have w2 : wrap64 (f + 1) = f + 1 := IntWalk.wrap64_in _ ⟨by omega, by omega⟩
    rw [erO_none]
    clear ho h0 h1 hv hs hvs hco hT hTf
    go_wp2_with fail
    refine (allWalks_any N hN1 hN60 l HVS.out.2.2 A c _ h8 (HR.out.keep M2.out)).mono ?_
    rintro e w4 ⟨A', c', ks, rfl, hO, hks, -, hb⟩
    have HB4 : Hid (Below w.heap.size w w4) := M2.out.trans (hb.mono M2.out.size)
    have HRd : Hid (Rd w4 w4.heap.size (kcw N) A' ks) := own_rd2 (kcw_length N) hO
    have HKS := Lib.hid hks
    clear hO hks hb
    have hfB : dayB f := ⟨by omega, by omega⟩
    have HFB := Lib.hid hfB
    clear hfB
    go_wp2_with fail
    refine (visitsOn_any N l HVS.out.2.2 ks HKS.out A' c' f HFB.out _ h8 HRd.out).mono ?_
    rintro e w5 ⟨rfl, hb⟩
    have HB5 : Hid (Below w4.heap.size w4 w5) := hb
    clear hb
    obtain ⟨cn0, hcn0⟩ : ∃ x, cnD l f = x := ⟨_, rfl⟩
    have HCN0 := Lib.hid hcn0
    rw [hcn0]
    clear hcn0
    go_wp2_with fail
    go_loopw [13, 14, 15] (fun a b i wr => ∃ (m : Nat), m ≤ T ∧ i = .int .i64 (f + m + 1) ∧ a = .int .i64 (bdT l f m).1 ∧ b = .int .i64 (bdT l f m).2 ∧ Below w4.heap.size w4 wr)
      (fun _ _ i _ => (f + T + 1 - intOf i).toNat)
    case atStart => exact ⟨0, by omega, by simp, rfl, by rw [← HCN0.out]; rfl, HB5.out⟩
    case round =>
      clear HB5 HCN0
      obtain ⟨m, hm, rfl, rfl, rfl, hB⟩ := hrel
      have HB := Lib.hid hB
      clear hB
      have hsi := bdT_in (f := f) HCo.out h8 ⟨f0, f1⟩ m (by have := HTf.out; omega)
      obtain ⟨s1, hs1⟩ : ∃ s, (bdT l f m).1 = s := ⟨_, rfl⟩
      obtain ⟨s2, hs2⟩ : ∃ s, (bdT l f m).2 = s := ⟨_, rfl⟩
      have HS1 := Lib.hid hs1
      have HS2 := Lib.hid hs2
      rw [hs1, hs2] at hsi ⊢
      clear hs1 hs2
      obtain ⟨d, hd⟩ : ∃ d : Int, f + m + 1 = d := ⟨_, rfl⟩
      have HD := Lib.hid hd
      rw [hd]
      by_cases hlt : m < T
      · have hdt : d ≤ t := by have := HTf.out; omega
        have hdB : dayB d := ⟨by omega, by omega⟩
        have HDB := Lib.hid hdB
        have u1 : IntKind.i64.wrap (d + 1) = d + 1 := IntWalk.i64_in _ ⟨by omega, by omega⟩
        have u2 : wrap64 (d + 1) = d + 1 := IntWalk.wrap64_in _ ⟨by omega, by omega⟩
        have hst : bdT l f (m + 1) = if (bdT l f m).2 < cnD l (f + m + 1) then (f + m + 1, cnD l (f + m + 1)) else bdT l f m := rfl
        rw [hd, HS2.out] at hst
        have HST := Lib.hid hst
        clear hd hdB hst
        go_wp2_with fail
        refine (visitsOn_any N l HVS.out.2.2 ks HKS.out A' c' d HDB.out _ h8 (HRd.out.keep HB.out)).mono ?_
        rintro e w6 ⟨rfl, hb⟩
        have HB6 : Hid (Below w4.heap.size w4 w6) := HB.out.trans (hb.mono HB.out.size)
        clear hb
        obtain ⟨v, hv⟩ : ∃ x, cnD l d = x := ⟨_, rfl⟩
        rw [hv] at HST ⊢
        clear hv
        by_cases hgt : s2 < v
        · have E : Hid (bdT l f (m + 1) = (d, v)) := by show _ = (d, v); rw [HST.out, if_pos hgt]
          go_wp2
          go_roundw
          case rel => exact ⟨m + 1, by omega, by (have := HD.out; congr 1; omega), by rw [E.out], by rw [E.out], HB6.out⟩
          case measure => have h5 := HTf.out; have h6 := HD.out; simp [intOf]; omega
        · have hge : v ≤ s2 := by omega
          have E : Hid (bdT l f (m + 1) = bdT l f m) := by show _ = _; rw [HST.out, if_neg hgt]
          go_wp2
          go_roundw
          case rel => exact ⟨m + 1, by omega, by (have := HD.out; congr 1; omega), by rw [E.out, HS1.out], by rw [E.out, HS2.out], HB6.out⟩
          case measure => have h5 := HTf.out; have h6 := HD.out; simp [intOf]; omega
      · obtain rfl : m = T := by omega
        have hdt : t < d := by have := HTf.out; omega
        have E : Hid (bdN N l f t = bdT l f m) := by show _ = _; rw [H1.out, HT.out]
        have HBf : Hid (Below w.heap.size w wr) := HB4.out.trans (HB.out.mono HB4.out.size)
        clear hd
        go_wp2
        exact bodyPost_ret (v := .tuple #[.int .i64 s1, .int .i64 s2, .int .i64 0]) (by simp [results, Tryd.results20, go_sem]) rfl ⟨by (rw [E.out, HS1.out, HS2.out, H0.out]; first | done | rfl), HBf.out⟩
end Go.Proofs.YtjiihdljchaeiacDoor
