/-
  NeverTurned: the contracts, of the model and of the program. Condition: the walkers' numbers fit their kinds; the sentinel errors lie as the row lists them (the program's).
-/
import Derived.Test.YtjiihdljchaeiacDoorYn
namespace Go.Proofs.YtjiihdljchaeiacDoor
open Go.ChangeShapes Go.WideShapes Go.ChangeAt Go.RowKit Go.Deep

theorem ne_inv {n : Int} {l : List Wal} (h : vsOk n l = false) : neC n l = 1 ∧ neL n l = [] := by
  have h1 : neC n l = 1 := akN_inv h
  exact ⟨h1, by rw [neL, if_neg (by omega)]⟩
theorem ne_ok {n : Nat} {l : List Wal} (h : vsOk n l = true) : neC n l = 0 ∧ neL n l = neT l n n := by
  have h1 : neC n l = 0 := akN_ok h
  exact ⟨h1, by rw [neL, if_pos h1, Int.toNat_natCast]⟩
set_option maxRecDepth 100000 in
set_option maxHeartbeats 4000000 in
theorem specNever_any (n : Int) (hn : wfI6 n) (l : List Wal) (hwf : ∀ x ∈ l, wfV x) (A : Option Addr) (c : Nat) (w : World) (hl : l.length ≤ 1048576) (hr : Rd w w.heap.size vcells A l) :
    Calls Tryd.prog 8 #[.int .i64 n, .slice A l.length c] w fun e w' => ∃ v, e = .returned (.tuple #[v, .int .i64 (neC n l)]) ∧ w'.ownsRow w.heap.size 2 1 v (neL n l).length ((neL n l).flatMap icells) ∧ Below w.heap.size w w' := by
  obtain ⟨i0, hi, hz0, hz1, hz2⟩ := info_parts Tryd.info64
  have HI := Lib.hid hi
  have HZ0 := Lib.hid hz0
  have HZ1 := Lib.hid hz1
  have HZ2 := Lib.hid hz2
  clear hi hz0 hz1 hz2
  have HR := Lib.hid hr
  clear hr
  have hA0 : Below w.heap.size w (w.alloc (.cells #[] 2)) := (Below.refl _ w).alloc (Nat.le_refl _) _
  have hO0 : (w.alloc (.cells #[] 2)).ownsRow w.heap.size 2 1 (.slice (some ⟨w.heap.size, 0, none⟩) 0 0) ([] : List Int).length (([] : List Int).flatMap icells) := empty_ownN w _ (Nat.le_refl _)
  have HA0 := Lib.hid hA0
  have HO0 := Lib.hid hO0
  clear hA0 hO0
  go_enter Tryd.func8, Tryd.ntmps8
  go_wp2_with fail
  refine (l05Asked_any n hn l hwf true A c _ hl (HR.out.keep HA0.out)).mono ?_
  rintro e w1 ⟨rfl, hb⟩
  have HB1 : Hid (Below w.heap.size w w1) := HA0.out.trans (hb.mono HA0.out.size)
  have HO1 := Lib.hid (own_keep' HO0.out hb)
  clear hb
  cases hv : vsOk n l
  · have E := Lib.hid (ne_inv hv)
    rw [akN_inv hv]
    clear hv
    go_wp2
    go_ret2
    refine ⟨_, by (rw [E.out.1]; first | done | rfl), ?_, HB1.out⟩
    rw [E.out.2]
    exact HO1.out
  have hvs := vsOk_out hv
  obtain ⟨N, rfl⟩ : ∃ N : Nat, n = N := ⟨n.toNat, by omega⟩
  have E := Lib.hid (ne_ok hv)
  have HVS := Lib.hid hvs
  have h8 : l.length ≤ 8 := hvs.2.1
  have hco : ∀ x ∈ l, 1 ≤ x.co ∧ x.co ≤ 60 := fun x hx => (vOk_out (hvs.2.2 x hx)).2.2.2.2.1
  have HCo := Lib.hid hco
  have hN1 : 1 ≤ N := by have := hvs.1.1; omega
  have hN60 : N ≤ 60 := by have := hvs.1.2; omega
  rw [akN_ok hv]
  clear hv hvs hco
  go_wp2_with fail
  go_loopw [6, 8] (fun v i wr => ∃ (k : Nat) (A1 : Option Addr) (c1 : Nat), k ≤ N ∧ i = .int .i64 k ∧ v = .slice A1 (neT l N k).length c1 ∧ wr.ownsRow w.heap.size 2 1 (.slice A1 (neT l N k).length c1) (neT l N k).length ((neT l N k).flatMap icells) ∧ Below w.heap.size w wr)
    (fun _ i _ => N - (intOf i).toNat)
  case atStart => exact ⟨0, _, _, by omega, rfl, rfl, HO1.out, HB1.out⟩
  case round =>
    clear HO1 HB1
    obtain ⟨k, A1, c1, hk, rfl, rfl, hO, hB⟩ := hrel
    have HO := Lib.hid hO
    have HB := Lib.hid hB
    clear hO hB
    have hk0 : (0 : Int) ≤ (k : Int) := Int.natCast_nonneg _
    obtain ⟨L, hL⟩ : ∃ L, (neT l N k).length = L := ⟨_, rfl⟩
    have HL := Lib.hid hL
    rw [hL]
    clear hL
    rename World => wo
    by_cases hlt : k < N
    · have hk8 : (k : Int) < N := by omega
      go_wp2_with fail
      go_loopw [9, 10] (fun v i wr => ∃ (j : Nat), j ≤ l.length ∧ i = .int .i64 j ∧ v = .int .i64 (tiT l N k j) ∧ Below wo.heap.size wo wr)
        (fun _ i _ => l.length - (intOf i).toNat)
      case atStart => exact ⟨0, by omega, rfl, rfl, Below.refl _ _⟩
      case round =>
        obtain ⟨j, hj, rfl, rfl, hB2⟩ := hrel
        have HB2 := Lib.hid hB2
        clear hB2
        obtain ⟨hin1, -⟩ := tiT_in (n := N) (k := k) HCo.out j hj
        obtain ⟨v, hvv⟩ : ∃ v, tiT l N k j = v := ⟨_, rfl⟩
        have HVV := Lib.hid hvv
        rw [hvv] at hin1 ⊢
        clear hvv
        have hj0 : (0 : Int) ≤ (j : Int) := Int.natCast_nonneg _
        by_cases hlt2 : j < l.length
        · obtain ⟨x, hx⟩ : ∃ x, l[j]? = some x := ⟨_, List.getElem?_eq_getElem hlt2⟩
          have HBw : Hid (Below w.heap.size w wr) := HB.out.trans (HB2.out.mono HB.out.size)
          obtain ⟨b, o, rfl, hbl, hrow⟩ := (HR.out.below (Nat.le_refl _) HBw.out).at_ vcells_length hx
          have HX := Lib.hid hx
          have HRow := Lib.hid hrow
          have hj8 : (j : Int) < l.length := by omega
          clear hx hrow
          go_wp2_with (refine wpList_load_mid rfl 40 (.tmp 34) rfl b (o + j * 6) rfl (vcells x) _ HRow.out Tryd.underlying40 rfl Tryd.sizeVI ?_)
          refine (l05Visits_any N hN1 hN60 x (HVS.out.2.2 x (List.mem_of_getElem? HX.out)) _).mono ?_
          rintro e w5 ⟨g, hg, rfl, hRv, hb⟩
          have HB5 : Hid (Below wo.heap.size wo w5) := HB2.out.trans (hb.mono HB2.out.size)
          have hvk : (vis N x)[k]? = some (vsA N x k) := by
            rw [vsA, List.getD_eq_getElem?_getD, List.getElem?_eq_getElem (by rw [vis_len]; exact hlt)]; rfl
          have q1 : w5.cell? ⟨g, k, none⟩ = some (.int .i64 (vsA N x k)) := icells_cell hRv hvk
          have hva := vsA_in (n := N) (HCo.out x (List.mem_of_getElem? HX.out)) k
          obtain ⟨a, ha⟩ : ∃ a, vsA N x k = a := ⟨_, rfl⟩
          have EA : Hid (tiT l N k (j + 1) = v + a) := by show _ = v + a; rw [tiT_succ HX.out, HVV.out, ha]
          rw [ha] at q1 hva
          have u3 : IntKind.i64.wrap (v + a) = v + a := IntWalk.i64_in _ ⟨by omega, by omega⟩
          have u4 : wrap64 (v + a) = v + a := IntWalk.wrap64_in _ ⟨by omega, by omega⟩
          clear hb hg hRv hvk ha
          go_wp2
          go_roundw
          case rel => exact ⟨j + 1, by omega, by go_num, by rw [EA.out], HB5.out⟩
          case measure => simp [intOf]; omega
        · obtain rfl : j = l.length := by omega
          have hta := tiT_all (n := N) (k := k) HCo.out
          rw [HVV.out] at hta
          have HBw : Hid (Below w.heap.size w wr) := HB.out.trans (HB2.out.mono HB.out.size)
          have HOa := Lib.hid (own_keep' HO.out HB2.out)
          by_cases hz : v = 0
          · subst hz
            have HSt : Hid (neT l N (k + 1) = neT l N k ++ [(k : Int)]) := by show _ = _; rw [neT, if_pos (by rw [← hta]; rfl)]
            clear hta
            rw [HL.out] at HOa
            go_wp2_with (at_builtin; refine wpList_append_own _ rfl (.tmp 43) (.tmp 45) 24 rfl w.heap.size 2 i0 (.int .i64 0) 1 8 Tryd.underlying24 HI.out HZ0.out HZ1.out HZ2.out rfl (by decide) _ _ _ rfl (HOa.out.alloc _) ⟨wr.heap.size, 0, none⟩ 1 1 [.int .i64 k] rfl rfl ?c1 ?c2 ?c3 ?c4 ?c5 ?_)
            case c1 => exact cell_one_new _ _ _
            case c2 => simp [Value.oneCell']
            case c3 => have := neT_len l N k; have h7 := HL.out; unfold maxLen; omega
            case c4 => have := neT_len l N k; have h7 := HL.out; omega
            case c5 => have := HBw.out.size; simp; omega
            intro v' w8 hown' hgrow _
            have hown8 : w8.ownsRow w.heap.size 2 1 v' (neT l N (k + 1)).length ((neT l N (k + 1)).flatMap icells) := by rw [HSt.out, List.length_append, List.flatMap_append, HL.out]; exact hown'
            obtain ⟨A8, c8, rfl, -, -⟩ := own_rd icells_length hown8
            have HO8 := Lib.hid hown8
            have HB8 : Hid (Below w.heap.size w w8) := (HBw.out.alloc HBw.out.size _).grown hgrow (by have := HBw.out.size; simp; omega) (fun r e => (HOa.out.lt r e).1)
            clear hown' hgrow hown8
            go_wp2
            go_roundw
            case rel => exact ⟨k + 1, A8, c8, by omega, by go_num, rfl, HO8.out, HB8.out⟩
            case measure => simp [intOf]; omega
          · have hzb : (v == 0) = false := by simpa using hz
            have HSt : Hid (neT l N (k + 1) = neT l N k) := by show _ = _; rw [neT, if_neg (by rw [← hta]; simpa using hz)]
            clear hta
            go_wp2
            go_roundw
            case rel => exact ⟨k + 1, A1, c1, by omega, by go_num, by rw [HSt.out, HL.out], by rw [HSt.out]; exact HOa.out, HBw.out⟩
            case measure => simp [intOf]; omega
    · obtain rfl : k = N := by omega
      go_wp2
      go_ret2
      refine ⟨_, by (rw [E.out.1]; first | done | rfl), ?_, HB.out⟩
      rw [E.out.2, ← HL.out]
      exact HO.out
set_option maxRecDepth 100000 in
set_option maxHeartbeats 4000000 in
theorem implNever_any (n : Int) (hn : wfI6 n) (l : List Wal) (hwf : ∀ x ∈ l, wfV x) (A : Option Addr) (c : Nat) (ad : Nat → Addr) (w : World) (hl : l.length ≤ 1048576) (hr : Rd w w.heap.size vcells A l) (hE : EW 7 w ad) :
    Calls Tryd.prog 10 #[.int .i64 n, .slice A l.length c] w fun e w' => ∃ v, e = .returned (.tuple #[v, .int .i64 (neC n l)]) ∧ w'.ownsRow w.heap.size 2 1 v (neL n l).length ((neL n l).flatMap icells) ∧ Below w.heap.size w w' := by
  obtain ⟨i0, hi, hz0, hz1, hz2⟩ := info_parts Tryd.info64
  have HI := Lib.hid hi
  have HZ0 := Lib.hid hz0
  have HZ1 := Lib.hid hz1
  have HZ2 := Lib.hid hz2
  clear hi hz0 hz1 hz2
  have HR := Lib.hid hr
  have HE := Lib.hid hE
  clear hr hE
  go_enter Tryd.func10, Tryd.ntmps10
  go_wp2_with fail
  refine (checkWalkers_any n hn l hwf A c ad _ hl HR.out HE.out).mono ?_
  rintro e w1 ⟨rfl, hb⟩
  have HB1 := Lib.hid hb
  clear hb
  cases hv : vsOk n l
  · have E := Lib.hid (ne_inv hv)
    rw [chk_no, erO_some]
    clear hv
    go_wp2_with fail
    refine (codeOf_O (HE.out.below HB1.out (Nat.le_refl _)) 5 (by omega)).mono ?_
    rintro e w2 ⟨rfl, rfl⟩
    go_wp2
    go_ret2
    refine ⟨_, by (rw [E.out.1]; first | done | rfl), ?_, HB1.out⟩
    rw [E.out.2]
    exact nil_ownI _ _
  have hvs := vsOk_out hv
  obtain ⟨N, rfl⟩ : ∃ N : Nat, n = N := ⟨n.toNat, by omega⟩
  have E := Lib.hid (ne_ok hv)
  have HVS := Lib.hid hvs
  have h8 : l.length ≤ 8 := hvs.2.1
  have hN1 : 1 ≤ N := by have := hvs.1.1; omega
  have hN60 : N ≤ 60 := by have := hvs.1.2; omega
  rw [chk_yes, erO_none]
  clear hv hvs
  go_wp2_with fail
  refine (allWalks_any N hN1 hN60 l HVS.out.2.2 A c _ h8 (HR.out.keep HB1.out)).mono ?_
  rintro e w4 ⟨A', c', ks, rfl, hO, hks, hok, hb⟩
  have HB4 : Hid (Below w.heap.size w w4) := HB1.out.trans (hb.mono HB1.out.size)
  have HRd : Hid (Rd w4 w4.heap.size (kcw N) A' ks) := own_rd2 (kcw_length N) hO
  have HKS := Lib.hid hks
  have HOK := Lib.hid hok
  have hkl : ks.length ≤ 8 := by have := congrArg List.length hks; rw [List.length_map] at this; omega
  clear hO hks hok hb HB1
  have hall : ∀ k, (ks.all fun s => vz N k s.1) = l.all (vz N k) := fun k => by
    rw [← HKS.out, List.all_map]; rfl
  have HAll := Lib.hid hall
  clear hall
  go_wp2_with fail
  go_loopw [8, 21] (fun v i wr => ∃ (k : Nat) (A1 : Option Addr) (c1 : Nat), k ≤ N ∧ i = .int .i64 k ∧ v = .slice A1 (neT l N k).length c1 ∧ wr.ownsRow w4.heap.size 2 1 (.slice A1 (neT l N k).length c1) (neT l N k).length ((neT l N k).flatMap icells) ∧ Below w4.heap.size w4 wr)
    (fun _ i _ => N - (intOf i).toNat)
  case atStart => exact ⟨0, _, _, by omega, rfl, rfl, nil_ownI _ _, Below.refl _ _⟩
  case round =>
    obtain ⟨k, A1, c1, hk, rfl, rfl, hO, hB⟩ := hrel
    have HO := Lib.hid hO
    have HB := Lib.hid hB
    clear hO hB
    have hk0 : (0 : Int) ≤ (k : Int) := Int.natCast_nonneg _
    obtain ⟨L, hL⟩ : ∃ L, (neT l N k).length = L := ⟨_, rfl⟩
    have HL := Lib.hid hL
    rw [hL]
    clear hL
    by_cases hlt : k < N
    · have hk8 : (k : Int) < N := by omega
      have hA1 : Below wr.heap.size wr (wr.alloc (.cells #[.int .i64 k] 2)) := (Below.refl _ wr).alloc (Nat.le_refl _) _
      have hK1 : Blk (wr.alloc (.cells #[.int .i64 k] 2)) wr.heap.size 2 #[.int .i64 k] := Blk.new wr _ _
      have HK1 := Lib.hid hK1
      have HAo : Hid (Below w4.heap.size w4 (wr.alloc (.cells #[.int .i64 k] 2))) := HB.out.trans (hA1.mono HB.out.size)
      have HA1 := Lib.hid hA1
      clear hA1 hK1
      go_wp2_with fail
      refine (containsK_any N ks k hlt hN60 A' c' wr.heap.size _ hkl (HRd.out.keep HAo.out) (Blk.cell HK1.out 0) (fun s hs => (HOK.out s hs).keep HAo.out)).mono ?_
      rintro e w6 ⟨rfl, hb⟩
      have HBr6 : Hid (Below wr.heap.size wr w6) := HA1.out.trans (hb.mono HA1.out.size)
      have HB6 : Hid (Below w4.heap.size w4 w6) := HB.out.trans (HBr6.out.mono HB.out.size)
      have e1 : w6.cell? ⟨wr.heap.size, 0, none⟩ = some (.int .i64 k) := Blk.cell (HK1.out.below hb HK1.out.lt) 0
      have HOa := Lib.hid (own_keep' HO.out HBr6.out)
      rw [HAll.out k]
      clear hb
      cases hz : l.all (vz N k)
      · have HSt : Hid (neT l N (k + 1) = neT l N k) := by show _ = _; rw [neT, if_neg (by rw [hz]; decide)]
        clear hz
        go_wp2
        go_roundw
        case rel => exact ⟨k + 1, A1, c1, by omega, by go_num, by rw [HSt.out, HL.out], by rw [HSt.out]; exact HOa.out, HB6.out⟩
        case measure => simp [intOf]; omega
      · have HSt : Hid (neT l N (k + 1) = neT l N k ++ [(k : Int)]) := by show _ = _; rw [neT, if_pos hz]
        clear hz
        rw [HL.out] at HOa
        go_wp2_with (at_builtin; refine wpList_append_own _ rfl (.tmp 28) (.tmp 30) 24 rfl w4.heap.size 2 i0 (.int .i64 0) 1 8 Tryd.underlying24 HI.out HZ0.out HZ1.out HZ2.out rfl (by decide) _ _ _ rfl (HOa.out.alloc _) ⟨w6.heap.size, 0, none⟩ 1 1 [.int .i64 k] rfl rfl ?c1 ?c2 ?c3 ?c4 ?c5 ?_)
        case c1 => exact cell_one_new _ _ _
        case c2 => simp [Value.oneCell']
        case c3 => have := neT_len l N k; have h7 := HL.out; unfold maxLen; omega
        case c4 => have := neT_len l N k; have h7 := HL.out; omega
        case c5 => have := HB6.out.size; simp; omega
        intro v' w8 hown' hgrow _
        have hown8 : w8.ownsRow w4.heap.size 2 1 v' (neT l N (k + 1)).length ((neT l N (k + 1)).flatMap icells) := by rw [HSt.out, List.length_append, List.flatMap_append, HL.out]; exact hown'
        obtain ⟨A8, c8, rfl, -, -⟩ := own_rd icells_length hown8
        have HO8 := Lib.hid hown8
        have HB8 : Hid (Below w4.heap.size w4 w8) := (HB6.out.alloc HB6.out.size _).grown hgrow (by have := HB6.out.size; simp; omega) (fun r e => (HOa.out.lt r e).1)
        clear hown' hgrow hown8
        go_wp2
        go_roundw
        case rel => exact ⟨k + 1, A8, c8, by omega, by go_num, rfl, HO8.out, HB8.out⟩
        case measure => simp [intOf]; omega
    · obtain rfl : k = N := by omega
      go_wp2
      go_ret2
      refine ⟨_, by (rw [E.out.1]; first | done | rfl), ?_, HB4.out.trans (HB.out.mono HB4.out.size)⟩
      rw [E.out.2, ← HL.out]
      exact own_base HO.out HB4.out.size
end Go.Proofs.YtjiihdljchaeiacDoor
