/-
  FirstUnfair: the model's contract. Condition: the lists read, their numbers fit their kinds, not more than 1048576.
-/
import Derived.Test.YtmfdgpinohbckaaDoorUf1
namespace Go.Proofs.YtmfdgpinohbckaaDoor
open Go.ChangeShapes Go.WideShapes Go.ChangeAt Go.RowKit Go.Deep

set_option maxRecDepth 100000 in
set_option maxHeartbeats 8000000 in
theorem specUnfair_any (ts : List Wnt) (hwt : ∀ x ∈ ts, wfW x) (ls : List Wnt) (hwl : ∀ x ∈ ls, wfW x) (s : Int) (A B : Option Addr) (c d : Nat) (w : World) (hlt : ts.length ≤ 1048576) (hll : ls.length ≤ 1048576) (hr : Rd w w.heap.size wcells A ts) (hb : Rd w w.heap.size wcells B ls) :
    Calls Tryd.prog 34 #[.slice A ts.length c, .slice B ls.length d, .int .i64 s] w fun e w' => e = .returned (.tuple #[.int .i64 (ufN s ts ls : Nat), .int .i64 (ufC s ts ls)]) ∧ Below w.heap.size w w' := by
  have HR := Lib.hid hr
  have HRb := Lib.hid hb
  have HWt := Lib.hid hwt
  have HWl := Lib.hid hwl
  clear hr hb hwt hwl
  go_enter Tryd.func34, Tryd.ntmps34
  go_wp2_with fail
  refine (l04All_any ts HWt.out A c w hlt HR.out).mono ?_
  rintro e w1 ⟨rfl, hb⟩
  have J1 := Lib.hid hb
  clear hb
  cases h1 : ts.all sV
  · have E := Lib.hid (uf_no (s := s) (ls := ls) (show ufO s ts ls = some 5 from by rw [ufO_is, h1]; rfl))
    clear h1
    go_wp2
    go_ret2
    exact ⟨by (rw [E.out.1, E.out.2]; rfl), J1.out⟩
  have H1 := Lib.hid h1
  clear h1
  go_wp2_with fail
  refine (l04All_any ls HWl.out B d w1 hll (HRb.out.keep J1.out)).mono ?_
  rintro e w2 ⟨rfl, hb⟩
  have J2 : Hid (Below w.heap.size w w2) := J1.out.trans (hb.mono J1.out.size)
  clear hb J1
  cases h2 : ls.all sV
  · have E := Lib.hid (uf_no (s := s) (ls := ls) (show ufO s ts ls = some 5 from by rw [ufO_is, H1.out, h2]; rfl))
    clear h2
    go_wp2
    go_ret2
    exact ⟨by (rw [E.out.1, E.out.2]; rfl), J2.out⟩
  have H2 := Lib.hid h2
  clear h2
  go_wp2_with fail
  refine (l04SlackK_any s w2).mono ?_
  rintro e w3 ⟨rfl, rfl⟩
  cases h3 : wi 0 2000 s
  · have E := Lib.hid (uf_no (s := s) (ls := ls) (show ufO s ts ls = some 0 from by rw [ufO_is, H1.out, H2.out, h3]; rfl))
    clear h3
    go_wp2
    go_ret2
    exact ⟨by (rw [E.out.1, E.out.2]; rfl), J2.out⟩
  have HO : Hid (ufO s ts ls = none) := by show _ = _; rw [ufO_is, H1.out, H2.out, h3]; rfl
  have H3 : Hid (0 ≤ s ∧ s ≤ 2000) := by have := h3; simp only [wi, Bool.and_eq_true, decide_eq_true_eq] at this; exact this
  clear h3
  go_wp2_with fail
  go_loopw [8] (fun i wr => ∃ (j : Nat), j ≤ ts.length ∧ i = .int .i64 j ∧ (∀ m, m < j → ufB s ts ls m = false) ∧ Below w.heap.size w wr) (fun i _ => ts.length - (intOf i).toNat)
  case atStart => exact ⟨0, by omega, rfl, fun m h => absurd h (Nat.not_lt_zero _), J2.out⟩
  case round =>
    clear J2
    obtain ⟨j, hj, rfl, hN, hB⟩ := hrel
    obtain ⟨wa, rfl⟩ : ∃ u, u = wr := ⟨_, rfl⟩
    have HN := Lib.hid hN
    have HB := Lib.hid hB
    clear hN hB
    have hj0 : (0 : Int) ≤ (j : Int) := Int.natCast_nonneg _
    by_cases hlt2 : j < ts.length
    · have hj8 : (j : Int) < ts.length := by omega
      obtain ⟨⟨⟨k1, y1⟩, n1⟩, hx⟩ : ∃ x, ts[j]? = some x := ⟨_, List.getElem?_eq_getElem hlt2⟩
      have hw1 := HWt.out _ (List.mem_of_getElem? hx)
      obtain ⟨bA, oA, rfl, hbA, hrow⟩ := HR.out.at_ wcells_length hx
      obtain ⟨p1, p2, p3⟩ := rowW hrow
      have HP := Lib.hid (And.intro p1 (And.intro p2 p3))
      have HXj := Lib.hid hx
      have HW1 : Hid (-32768 ≤ n1 ∧ n1 ≤ 32767) := hw1.2
      have HBA := Lib.hid hbA
      have HJ := Lib.hid hj
      clear hx hw1 hrow p1 p2 p3 hbA hj
      go_wp2_with fail
      go_loopw [9] (fun i wr => ∃ (k : Nat), j + 1 ≤ k ∧ k ≤ ts.length ∧ i = .int .i64 k ∧ (∀ m o, j < m → m < k → ts[m]? = some o → ufE s o ((k1, y1), n1) = false) ∧ Below w.heap.size w wr) (fun i _ => ts.length - (intOf i).toNat)
      case atStart => exact ⟨j + 1, by omega, by omega, by go_num, fun m o h1 h2 => by omega, HB.out⟩
      case round =>
        clear HB
        obtain ⟨k, hk1, hk, rfl, hU, hB⟩ := hrel
        obtain ⟨wb, rfl⟩ : ∃ u, u = wr := ⟨_, rfl⟩
        have HU := Lib.hid hU
        have HB := Lib.hid hB
        clear hU hB
        have hk0 : (0 : Int) ≤ (k : Int) := Int.natCast_nonneg _
        by_cases hlt3 : k < ts.length
        · have hk8 : (k : Int) < ts.length := by omega
          obtain ⟨⟨⟨k2, y2⟩, n2⟩, hx⟩ : ∃ x, ts[k]? = some x := ⟨_, List.getElem?_eq_getElem hlt3⟩
          obtain ⟨b9, o9, e9, hb9, hrow⟩ := HR.out.at_ wcells_length hx
          obtain ⟨rfl, rfl⟩ : bA = b9 ∧ oA = o9 := by simpa using e9
          obtain ⟨q1, q2, q3⟩ := rowW hrow
          have hw2 := (HWt.out _ (List.mem_of_getElem? hx)).2
          have HXk := Lib.hid hx
          obtain ⟨ue, hue⟩ : ∃ b, ufE s ((k2, y2), n2) ((k1, y1), n1) = b := ⟨_, rfl⟩
          have HEa : Hid (∀ W, Below w.heap.size w W → Calls Tryd.prog 55 #[.pointer (some ⟨bA, oA + k * 3, none⟩), .pointer (some ⟨bA, oA + j * 3, none⟩), .int .i64 s] W fun e w' => e = .returned (.bool ue) ∧ Below W.heap.size W w') := fun W h => by
            have := l04Early_any bA (oA + k * 3) bA (oA + j * 3) k2 y2 n2 k1 y1 n1 s W H3.out hw2 HW1.out (Nat.lt_of_lt_of_le HBA.out h.size) (Nat.lt_of_lt_of_le HBA.out h.size)
              ((h.cell (p := ⟨bA, oA + k * 3, none⟩) HBA.out).trans q1) ((h.cell (p := ⟨bA, oA + k * 3 + 1, none⟩) HBA.out).trans q2) ((h.cell (p := ⟨bA, oA + k * 3 + 2, none⟩) HBA.out).trans q3)
              ((h.cell (p := ⟨bA, oA + j * 3, none⟩) HBA.out).trans HP.out.1) ((h.cell (p := ⟨bA, oA + j * 3 + 1, none⟩) HBA.out).trans HP.out.2.1) ((h.cell (p := ⟨bA, oA + j * 3 + 2, none⟩) HBA.out).trans HP.out.2.2)
            rw [hue] at this; exact this
          have HUe := Lib.hid hue
          have HK1 := Lib.hid hk1
          clear hx e9 hb9 hrow q1 q2 q3 hw2 hue hk1
          go_wp2_with fail
          refine wp_region_held_drew (S := fun w' => Below wb.heap.size wb w') (by kernel_rfl) (Below.refl _ _).drew (fun hHeld => ?_)
          refine wpAnyH_take (i := 0) (v := .slice (some ⟨bA, oA, none⟩) ts.length c) rfl (by kernel_rfl) (by kernel_rfl) (by kernel_rfl) (fun _ _ _ h => h) (Or.inl ⟨by rfl, fun w' h => by go_simp⟩) (by assumption) ?_
          try simp only [Act.put, List.getElem_toArray, List.getElem_cons_zero, List.getElem_cons_succ, List.setIfInBounds_toArray, List.set_cons_zero, List.set_cons_succ]
          refine wpAnyH_take (i := 1) (v := .int .i64 k) rfl (by kernel_rfl) (by kernel_rfl) (by kernel_rfl) (fun _ _ _ h => h) (Or.inl ⟨by rfl, fun w' h => by go_simp⟩) (by assumption) ?_
          try simp only [Act.put, List.getElem_toArray, List.getElem_cons_zero, List.getElem_cons_succ, List.setIfInBounds_toArray, List.set_cons_zero, List.set_cons_succ]
          refine wpAnyH_take (i := 2) (v := .pointer (some ⟨bA, oA + k * 3, none⟩)) rfl (by kernel_rfl) (by kernel_rfl) (by kernel_rfl) (fun _ _ _ h => h) (Or.inl ⟨by rfl, fun w' h => by go_simp⟩) (by assumption) ?_
          try simp only [Act.put, List.getElem_toArray, List.getElem_cons_zero, List.getElem_cons_succ, List.setIfInBounds_toArray, List.set_cons_zero, List.set_cons_succ]
          refine wpAnyH_take (i := 3) (v := .slice (some ⟨bA, oA, none⟩) ts.length c) rfl (by kernel_rfl) (by kernel_rfl) (by kernel_rfl) (fun _ _ _ h => h) (Or.inl ⟨by rfl, fun w' h => by go_simp⟩) (by assumption) ?_
          try simp only [Act.put, List.getElem_toArray, List.getElem_cons_zero, List.getElem_cons_succ, List.setIfInBounds_toArray, List.set_cons_zero, List.set_cons_succ]
          refine wpAnyH_take (i := 4) (v := .int .i64 j) rfl (by kernel_rfl) (by kernel_rfl) (by kernel_rfl) (fun _ _ _ h => h) (Or.inl ⟨by rfl, fun w' h => by go_simp⟩) (by assumption) ?_
          try simp only [Act.put, List.getElem_toArray, List.getElem_cons_zero, List.getElem_cons_succ, List.setIfInBounds_toArray, List.set_cons_zero, List.set_cons_succ]
          refine wpAnyH_take (i := 5) (v := .pointer (some ⟨bA, oA + j * 3, none⟩)) rfl (by kernel_rfl) (by kernel_rfl) (by kernel_rfl) (fun _ _ _ h => h) (Or.inl ⟨by rfl, fun w' h => by go_simp⟩) (by assumption) ?_
          try simp only [Act.put, List.getElem_toArray, List.getElem_cons_zero, List.getElem_cons_succ, List.setIfInBounds_toArray, List.set_cons_zero, List.set_cons_succ]
          refine wpAnyH_take (i := 6) (v := .int .i64 s) rfl (by kernel_rfl) (by kernel_rfl) (by kernel_rfl) (fun _ _ _ h => h) (Or.inl ⟨by rfl, fun w' h => by go_simp⟩) (by assumption) ?_
          try simp only [Act.put, List.getElem_toArray, List.getElem_cons_zero, List.getElem_cons_succ, List.setIfInBounds_toArray, List.set_cons_zero, List.set_cons_succ]
          obtain ⟨D0, hD0⟩ : ∃ D0, wb.drew = D0 := ⟨_, rfl⟩
          rw [hD0] at hHeld ⊢
          clear hD0
          refine wpAnyH_ready (rs := [7]) (by kernel_rfl) (by simp) ?_
          refine AllReadyH.cons rfl (fun K hK => ?_) AllReadyH.nil
          refine if_wanted rfl ?_
          go_simp
          refine (HEa.out _ (HB.out.trans (hHeld.mono HB.out.size))).mono ?_
          rintro e w9 ⟨rfl, hb⟩
          have hH2 : Below wb.heap.size wb w9 := hHeld.trans (hb.mono hHeld.size)
          clear hb hHeld
          dsimp only
          refine hK.out _ _ hH2 (fun hHeld => ?_)
          clear hK K hH2
          try simp only [Act.put, List.getElem_toArray, List.getElem_cons_zero, List.getElem_cons_succ, List.setIfInBounds_toArray, List.set_cons_zero, List.set_cons_succ]
          refine wpAnyH_done (by kernel_rfl) ?_ _
          try simp only [Act.put, List.getElem_toArray, List.getElem_cons_zero, List.getElem_cons_succ, List.setIfInBounds_toArray, List.set_cons_zero, List.set_cons_succ]
          have hb := hHeld
          clear hHeld
          have HB9 : Hid (Below w.heap.size w w9) := HB.out.trans (hb.mono HB.out.size)
          clear hb HB HEa
          cases ue
          · go_wp2
            go_roundw
            case rel => exact ⟨k + 1, by have := HK1.out; omega, by omega, by go_num, fun m o h1 h2 h3 => by
              by_cases e : m = k
              · subst e; rw [HXk.out] at h3; obtain rfl := Option.some.inj h3; exact HUe.out
              · exact HU.out m o h1 (by omega) h3, HB9.out⟩
            case measure => simp [intOf]; omega
          · have E := Lib.hid (uf_some HO.out hlt2 (ufB_ts HXj.out (by have := HK1.out; omega) HXk.out HUe.out) HN.out)
            go_wp2
            go_ret2
            exact ⟨by (rw [E.out.1, E.out.2]; first | done | rfl), HB9.out⟩
        · obtain rfl : k = ts.length := by omega
          have HU2 : Hid (∀ m o, j < m → ts[m]? = some o → ufE s o ((k1, y1), n1) = false) := fun m o h1 h2 => HU.out m o h1 (List.getElem?_eq_some_iff.1 h2).1 h2
          clear HU hk hk1
          go_wp2_with fail
          go_loopw [10] (fun i wr => ∃ (k : Nat), k ≤ ls.length ∧ i = .int .i64 k ∧ (∀ m o, m < k → ls[m]? = some o → ufE s o ((k1, y1), n1) = false) ∧ Below w.heap.size w wr) (fun i _ => ls.length - (intOf i).toNat)
          case atStart => exact ⟨0, by omega, rfl, fun m o h1 => absurd h1 (Nat.not_lt_zero _), HB.out⟩
          case round =>
            clear HB
            obtain ⟨k, hk, rfl, hU, hB⟩ := hrel
            obtain ⟨wc, rfl⟩ : ∃ u, u = wr := ⟨_, rfl⟩
            have HU := Lib.hid hU
            have HB := Lib.hid hB
            clear hU hB
            have hk0 : (0 : Int) ≤ (k : Int) := Int.natCast_nonneg _
            by_cases hlt4 : k < ls.length
            · have hk8 : (k : Int) < ls.length := by omega
              obtain ⟨⟨⟨k2, y2⟩, n2⟩, hx⟩ : ∃ x, ls[k]? = some x := ⟨_, List.getElem?_eq_getElem hlt4⟩
              obtain ⟨bB, oB, rfl, hbB, hrow⟩ := HRb.out.at_ wcells_length hx
              obtain ⟨q1, q2, q3⟩ := rowW hrow
              have hw2 := (HWl.out _ (List.mem_of_getElem? hx)).2
              have HXk := Lib.hid hx
              obtain ⟨ue, hue⟩ : ∃ b, ufE s ((k2, y2), n2) ((k1, y1), n1) = b := ⟨_, rfl⟩
              have HEa : Hid (∀ W, Below w.heap.size w W → Calls Tryd.prog 55 #[.pointer (some ⟨bB, oB + k * 3, none⟩), .pointer (some ⟨bA, oA + j * 3, none⟩), .int .i64 s] W fun e w' => e = .returned (.bool ue) ∧ Below W.heap.size W w') := fun W h => by
                have := l04Early_any bB (oB + k * 3) bA (oA + j * 3) k2 y2 n2 k1 y1 n1 s W H3.out hw2 HW1.out (Nat.lt_of_lt_of_le hbB h.size) (Nat.lt_of_lt_of_le HBA.out h.size)
                  ((h.cell (p := ⟨bB, oB + k * 3, none⟩) hbB).trans q1) ((h.cell (p := ⟨bB, oB + k * 3 + 1, none⟩) hbB).trans q2) ((h.cell (p := ⟨bB, oB + k * 3 + 2, none⟩) hbB).trans q3)
                  ((h.cell (p := ⟨bA, oA + j * 3, none⟩) HBA.out).trans HP.out.1) ((h.cell (p := ⟨bA, oA + j * 3 + 1, none⟩) HBA.out).trans HP.out.2.1) ((h.cell (p := ⟨bA, oA + j * 3 + 2, none⟩) HBA.out).trans HP.out.2.2)
                rw [hue] at this; exact this
              have HUe := Lib.hid hue
              clear hx hbB hrow q1 q2 q3 hw2 hue
              go_wp2_with fail
              refine wp_region_held_drew (S := fun w' => Below wc.heap.size wc w') (by kernel_rfl) (Below.refl _ _).drew (fun hHeld => ?_)
              refine wpAnyH_take (i := 0) (v := .slice (some ⟨bB, oB, none⟩) ls.length d) rfl (by kernel_rfl) (by kernel_rfl) (by kernel_rfl) (fun _ _ _ h => h) (Or.inl ⟨by rfl, fun w' h => by go_simp⟩) (by assumption) ?_
              try simp only [Act.put, List.getElem_toArray, List.getElem_cons_zero, List.getElem_cons_succ, List.setIfInBounds_toArray, List.set_cons_zero, List.set_cons_succ]
              refine wpAnyH_take (i := 1) (v := .int .i64 k) rfl (by kernel_rfl) (by kernel_rfl) (by kernel_rfl) (fun _ _ _ h => h) (Or.inl ⟨by rfl, fun w' h => by go_simp⟩) (by assumption) ?_
              try simp only [Act.put, List.getElem_toArray, List.getElem_cons_zero, List.getElem_cons_succ, List.setIfInBounds_toArray, List.set_cons_zero, List.set_cons_succ]
              refine wpAnyH_take (i := 2) (v := .pointer (some ⟨bB, oB + k * 3, none⟩)) rfl (by kernel_rfl) (by kernel_rfl) (by kernel_rfl) (fun _ _ _ h => h) (Or.inl ⟨by rfl, fun w' h => by go_simp⟩) (by assumption) ?_
              try simp only [Act.put, List.getElem_toArray, List.getElem_cons_zero, List.getElem_cons_succ, List.setIfInBounds_toArray, List.set_cons_zero, List.set_cons_succ]
              refine wpAnyH_take (i := 3) (v := .slice (some ⟨bA, oA, none⟩) ts.length c) rfl (by kernel_rfl) (by kernel_rfl) (by kernel_rfl) (fun _ _ _ h => h) (Or.inl ⟨by rfl, fun w' h => by go_simp⟩) (by assumption) ?_
              try simp only [Act.put, List.getElem_toArray, List.getElem_cons_zero, List.getElem_cons_succ, List.setIfInBounds_toArray, List.set_cons_zero, List.set_cons_succ]
              refine wpAnyH_take (i := 4) (v := .int .i64 j) rfl (by kernel_rfl) (by kernel_rfl) (by kernel_rfl) (fun _ _ _ h => h) (Or.inl ⟨by rfl, fun w' h => by go_simp⟩) (by assumption) ?_
              try simp only [Act.put, List.getElem_toArray, List.getElem_cons_zero, List.getElem_cons_succ, List.setIfInBounds_toArray, List.set_cons_zero, List.set_cons_succ]
              refine wpAnyH_take (i := 5) (v := .pointer (some ⟨bA, oA + j * 3, none⟩)) rfl (by kernel_rfl) (by kernel_rfl) (by kernel_rfl) (fun _ _ _ h => h) (Or.inl ⟨by rfl, fun w' h => by go_simp⟩) (by assumption) ?_
              try simp only [Act.put, List.getElem_toArray, List.getElem_cons_zero, List.getElem_cons_succ, List.setIfInBounds_toArray, List.set_cons_zero, List.set_cons_succ]
              refine wpAnyH_take (i := 6) (v := .int .i64 s) rfl (by kernel_rfl) (by kernel_rfl) (by kernel_rfl) (fun _ _ _ h => h) (Or.inl ⟨by rfl, fun w' h => by go_simp⟩) (by assumption) ?_
              try simp only [Act.put, List.getElem_toArray, List.getElem_cons_zero, List.getElem_cons_succ, List.setIfInBounds_toArray, List.set_cons_zero, List.set_cons_succ]
              obtain ⟨D0, hD0⟩ : ∃ D0, wc.drew = D0 := ⟨_, rfl⟩
              rw [hD0] at hHeld ⊢
              clear hD0
              refine wpAnyH_ready (rs := [7]) (by kernel_rfl) (by simp) ?_
              refine AllReadyH.cons rfl (fun K hK => ?_) AllReadyH.nil
              refine if_wanted rfl ?_
              go_simp
              refine (HEa.out _ (HB.out.trans (hHeld.mono HB.out.size))).mono ?_
              rintro e w9 ⟨rfl, hb⟩
              have hH2 : Below wc.heap.size wc w9 := hHeld.trans (hb.mono hHeld.size)
              clear hb hHeld
              dsimp only
              refine hK.out _ _ hH2 (fun hHeld => ?_)
              clear hK K hH2
              try simp only [Act.put, List.getElem_toArray, List.getElem_cons_zero, List.getElem_cons_succ, List.setIfInBounds_toArray, List.set_cons_zero, List.set_cons_succ]
              refine wpAnyH_done (by kernel_rfl) ?_ _
              try simp only [Act.put, List.getElem_toArray, List.getElem_cons_zero, List.getElem_cons_succ, List.setIfInBounds_toArray, List.set_cons_zero, List.set_cons_succ]
              have hb := hHeld
              clear hHeld
              have HB9 : Hid (Below w.heap.size w w9) := HB.out.trans (hb.mono HB.out.size)
              clear hb HB HEa
              cases ue
              · go_wp2
                go_roundw
                case rel => exact ⟨k + 1, by omega, by go_num, fun m o h2 h3 => by
                  by_cases e : m = k
                  · subst e; rw [HXk.out] at h3; obtain rfl := Option.some.inj h3; exact HUe.out
                  · exact HU.out m o (by omega) h3, HB9.out⟩
                case measure => simp [intOf]; omega
              · have E := Lib.hid (uf_some HO.out hlt2 (ufB_ls HXj.out HXk.out HUe.out) HN.out)
                go_wp2
                go_ret2
                exact ⟨by (rw [E.out.1, E.out.2]; first | done | rfl), HB9.out⟩
            · obtain rfl : k = ls.length := by omega
              have hno := ufB_no HXj.out HU2.out (fun m o h => HU.out m o (List.getElem?_eq_some_iff.1 h).1 h)
              have HNo := Lib.hid hno
              clear hno hk
              go_wp2
              go_roundw
              case rel => exact ⟨j + 1, by omega, by go_num, fun m h => by
                by_cases e : m = j
                · subst e; exact HNo.out
                · exact HN.out m (by omega), HB.out⟩
              case measure => simp [intOf]; omega
    · obtain rfl : j = ts.length := by omega
      have E := Lib.hid (uf_none HO.out HN.out)
      go_wp2
      go_ret2
      exact ⟨by (rw [E.out.1, E.out.2]; first | done | rfl), HB.out⟩

end Go.Proofs.YtmfdgpinohbckaaDoor
