/-
  The program's contract of BlockedIn. Condition: the rack is a new one that reads as lists of things that are stored, whose numbers fit their kinds; the sentinel errors lie as the row lists them.
-/
import Derived.Test.YtceinefoljcgkaaDoorBk2
import Derived.Test.YtceinefoljcgkaaDoorAh
import Derived.Test.YtceinefoljcgkaaDoorGk
namespace Go.Proofs.YtceinefoljcgkaaDoor
open Go.ChangeShapes Go.WideShapes Go.ChangeAt Go.RowKit Go.Deep

/-- How many a spot's one blocks; the first j spots'. -/
def bC (xss : List (List Wnt)) (s : Core) : Nat := cntB (xss.getD s.2.1 []) s.1.2 s.2.2
def nB (xss : List (List Wnt)) (cs : List Core) : Nat := (cs.map (bC xss)).sum
theorem nB_snoc (xss : List (List Wnt)) (cs : List Core) (s : Core) : nB xss (cs ++ [s]) = nB xss cs + bC xss s := by simp [nB]
theorem nB_app (xss : List (List Wnt)) (cs ds : List Core) : nB xss (cs ++ ds) = nB xss cs + nB xss ds := by simp [nB]
theorem nB_row {xss : List (List Wnt)} {l : Nat} {xs : List Wnt} (h : xss[l]? = some xs) : ∀ m, nB xss (coR xs l m) = rowB xs m
  | 0 => rfl
  | m + 1 => by rw [coR, nB_snoc, nB_row h m, rowB]; simp [bC, h]
theorem nB_tot (xss : List (List Wnt)) : ∀ i, i ≤ xss.length → nB xss (coT xss i) = totB xss i
  | 0, _ => rfl
  | i + 1, h => by
    have hx : xss[i]? = some (xss[i]'(by omega)) := List.getElem?_eq_getElem (by omega)
    rw [coT_succ hx, totB_succ hx, nB_app, nB_tot xss i (by omega), nB_row hx]
theorem nB_le {xss : List (List Wnt)} : ∀ cs : List Core, (∀ s ∈ cs, bC xss s ≤ 6) → nB xss cs ≤ 6 * cs.length
  | [], _ => by simp [nB]
  | s :: cs, h => by
    have h1 := nB_le cs (fun t ht => h t (List.mem_cons_of_mem _ ht))
    have h2 := h s (List.mem_cons_self ..)
    simp only [nB, List.map_cons, List.sum_cons, List.length_cons] at h1 ⊢
    omega

set_option maxRecDepth 100000 in
set_option maxHeartbeats 4000000 in
theorem implBlocked_any (xss : List (List Wnt)) (hwf : ∀ xs ∈ xss, ∀ x ∈ xs, wfW x) (g c : Nat) (gs : List Nat) (ad : Nat → Addr) (w : World) (hl : xss.length ≤ 1048576) (hx : ∀ xs ∈ xss, xs.length ≤ 1048576) (hr : RsN w g 59 45 wcells xss gs) (hE : EW 7 w ad) :
    Calls Tryd.prog 12 #[.slice (some ⟨g, 0, none⟩) xss.length c] w fun e w' => e = .returned (.tuple #[.int .i64 (rkN xss (totB xss xss.length)), .int .i64 (rkC xss)]) ∧ Below w.heap.size w w' := by
  have HR := Lib.hid hr
  have HW := Lib.hid hwf
  have HX := Lib.hid hx
  have HE := Lib.hid hE
  clear hr hwf hx hE
  go_enter Tryd.func12, Tryd.ntmps12
  go_wp2_with fail
  refine (checkRack_any xss _ c ad w hl HX.out HR.out.rd HE.out).mono ?_
  rintro e w1 ⟨rfl, hb⟩
  have HB := Lib.hid hb
  clear hb
  obtain ⟨v0, hv0⟩ : ∃ v, erV ad 5 (rkOk xss) = v := ⟨_, rfl⟩
  rw [hv0]
  have V0 := Lib.hid hv0
  clear hv0
  cases hv : rkOk xss
  · have E1 := Lib.hid (rkN_no hv (totB xss xss.length))
    have E2 := Lib.hid (rkC_no hv)
    have hq : v0 = .iface 135 (.pointer (some (ad 5))) := by rw [← V0.out, hv]; rfl
    rw [hq]
    clear hv hq V0
    go_wp2_with fail
    refine (codeOf_5 (HE.out.below HB.out (Nat.le_refl _))).mono ?_
    rintro e w4 ⟨rfl, rfl⟩
    go_wp2
    go_ret2
    exact ⟨by (rw [E1.out, E2.out]; first | done | rfl), HB.out⟩
  have hq : v0 = .nilIface := by rw [← V0.out, hv]; rfl
  rw [hq]
  have E1 := Lib.hid (rkN_yes hv (totB xss xss.length))
  have E2 := Lib.hid (rkC_yes hv)
  have H8 := rkOk_len hv
  have H6 : Hid (∀ xs ∈ xss, xs.length ≤ 6) := fun xs h => (rkOk_lane hv h).1
  clear hv hq V0
  go_wp2_with fail
  refine (spotsIn_any xss HW.out g c gs w1 H8 H6.out (HR.out.keep HB.out)).mono ?_
  rintro e w2 ⟨A', c', ss, rfl, hO, hC, hS, hb⟩
  have HB2 : Hid (Below w.heap.size w w2) := HB.out.trans (hb.mono HB.out.size)
  have HRd : Hid (Rd w2 w2.heap.size spcells A' ss) := own_rd2 spcells_length hO
  have HT : Hid (nB xss (ss.map (·.1)) = totB xss xss.length) := by show nB xss (ss.map (·.1)) = _; rw [hC]; exact nB_tot xss _ (Nat.le_refl _)
  have hsl : ss.length ≤ 48 := by
    have h1 := coT_le H6.out xss.length
    rw [← hC, List.length_map] at h1; omega
  have HS : Hid (∀ s ∈ ss, okS xss w2 s) := fun s hs => (hS s hs).keep hb
  have HB6 : Hid (∀ s ∈ ss.map (·.1), bC xss s ≤ 6) := by
    intro s hs
    obtain ⟨t, ht, rfl⟩ := List.mem_map.1 hs
    obtain ⟨xs, g', h1, h2, -, -⟩ := hS t ht
    have h3 := H6.out xs (List.mem_of_getElem? h1)
    have h4 := (List.getElem?_eq_some_iff.1 h2).1
    exact Nat.le_trans (cntB_le _ _ _) (by omega)
  clear hO hC hS hb
  go_wp2_with fail
  go_loopw [5, 17] (fun n j wr => ∃ (k : Nat), k ≤ ss.length ∧ j = .int .i64 k ∧ n = .int .i64 (nB xss ((ss.map (·.1)).take k) : Nat) ∧ Below w2.heap.size w2 wr)
    (fun _ j _ => ss.length - (intOf j).toNat)
  case atStart => exact ⟨0, by omega, rfl, by simp [nB], Below.refl _ _⟩
  case round =>
    obtain ⟨k, hk, rfl, rfl, hB⟩ := hrel
    have HBr := Lib.hid hB
    clear hB
    have hk0 : (0 : Int) ≤ (k : Int) := Int.natCast_nonneg _
    by_cases hlt : k < ss.length
    · obtain ⟨⟨⟨⟨⟨k1, y1⟩, d⟩, l, i⟩, a, n, c2⟩, hs⟩ : ∃ s, ss[k]? = some s := ⟨_, List.getElem?_eq_getElem hlt⟩
      obtain ⟨xs, g', h1, h2, h3, h4⟩ := HS.out _ (List.mem_of_getElem? hs)
      dsimp only at h1 h2 h3
      cases h3
      have HX1 := Lib.hid h1
      have hxl := H6.out xs (List.mem_of_getElem? h1)
      have hil := (List.getElem?_eq_some_iff.1 h2).1
      have HWx : Hid (∀ x ∈ xs, wfW x) := HW.out xs (List.mem_of_getElem? h1)
      have HXr := Lib.hid (h4.keep HBr.out)
      obtain ⟨b1, o1, rfl, hb1, hrow⟩ := (HRd.out.keep HBr.out).at_ spcells_length hs
      obtain ⟨D1, D2, D3, D4, D5, D6⟩ := rowSp hrow
      dsimp only at D1 D2 D3 D4 D5 D6
      have htk : nB xss ((ss.map (·.1)).take (k + 1)) = nB xss ((ss.map (·.1)).take k) + cntB xs d i := by
        rw [List.take_add_one, List.getElem?_map, hs]
        simp only [Option.map_some, Option.toList_some]
        rw [nB_snoc]
        simp [bC, h1]
      have hnl : nB xss ((ss.map (·.1)).take k) ≤ 6 * k := Nat.le_trans (nB_le _ (fun s h => HB6.out s (List.mem_of_mem_take h))) (Nat.mul_le_mul_left 6 (by simp; omega))
      have hcl := cntB_le xs d i
      obtain ⟨C, hC⟩ : ∃ C, cntB xs d i = C := ⟨_, rfl⟩
      obtain ⟨S, hS⟩ : ∃ S, nB xss ((ss.map (·.1)).take k) = S := ⟨_, rfl⟩
      rw [hC, hS] at htk
      rw [hC] at hcl
      rw [hS] at hnl ⊢
      have HCC := Lib.hid hC
      clear hC hS
      have hs0 : (0 : Int) ≤ (S : Int) := Int.natCast_nonneg _
      have hc0 : (0 : Int) ≤ (C : Int) := Int.natCast_nonneg _
      have hw1 : IntKind.i64.wrap ((S : Int) + C) = (S : Int) + C := IntWalk.i64_in _ ⟨by omega, by omega⟩
      have hw2 : wrap64 ((S : Int) + C) = (S : Int) + C := IntWalk.wrap64_in _ ⟨by omega, by omega⟩
      have HTk := Lib.hid htk
      have hk8 : (k : Int) < ss.length := by omega
      clear h1 h2 h4 hs hrow htk
      go_wp2_with fail
      have hbx : Below wr.heap.size wr (wr.alloc (.cells (spC k1 y1 d l i (some ⟨g', 0, none⟩) xs.length xs.length) 68)) := (Below.refl _ wr).alloc (Nat.le_refl _) _
      refine (blocked_any xs k1 y1 d l i (some ⟨g', 0, none⟩) _ (by omega) (Nat.le_of_lt hil) HWx.out (HXr.out.keep hbx)).mono ?_
      rw [HCC.out]
      rintro e w5 ⟨rfl, hb⟩
      have HB5 : Hid (Below w2.heap.size w2 w5) := (HBr.out.trans (hbx.mono HBr.out.size)).trans (hb.mono (HBr.out.trans (hbx.mono HBr.out.size)).size)
      clear hb hbx D1 D2 D3 D4 D5 D6
      go_wp2
      go_roundw
      case rel => exact ⟨k + 1, by omega, by go_num, by rw [HTk.out]; simp, HB5.out⟩
      case measure => simp [intOf]; omega
    · obtain rfl : k = ss.length := by omega
      have HN : Hid (nB xss ((ss.map (·.1)).take ss.length) = totB xss xss.length) := by show nB xss ((ss.map (·.1)).take ss.length) = _; rw [← HT.out, List.take_of_length_le (by simp)]
      go_wp2
      go_ret2
      exact ⟨by (rw [E1.out, E2.out, HN.out]; first | done | rfl), HB2.out.trans (HBr.out.mono HB2.out.size)⟩
end Go.Proofs.YtceinefoljcgkaaDoor
