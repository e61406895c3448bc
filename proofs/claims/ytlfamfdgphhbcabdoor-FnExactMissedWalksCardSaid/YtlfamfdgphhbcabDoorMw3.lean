/-
  MissedWalks: the program's contract. Condition: rows and walkers read as told, their numbers fit their kinds; the sentinel errors lie as the row lists them.
-/
import Derived.Test.YtlfamfdgphhbcabDoorMw1
import Derived.Test.YtlfamfdgphhbcabDoorFn4
namespace Go.Proofs.YtlfamfdgphhbcabDoor
open Go.ChangeShapes Go.WideShapes Go.ChangeAt Go.RowKit Go.Deep

theorem checkSame_any (r s : List Int) (A As : Option Addr) (ca cs : Nat) (ad : Nat → Addr) (w : World) (hE : EW 7 w ad) :
    Calls Tryd.prog 51 #[.slice A r.length ca, .slice As s.length cs] w fun e w' => e = .returned (erO ad (chk 5 (decide (r.length = s.length)))) ∧ w = w' := by
  have c0 : w.cell? ⟨6, 0, none⟩ = some (.iface 189 (.pointer (some (ad 5)))) := hE.cell 5 (by omega)
  clear hE
  by_cases h : r.length = s.length
  · rw [decide_eq_true h]
    obtain ⟨N, hN⟩ : ∃ N, r.length = N := ⟨_, rfl⟩
    rw [← h, hN]
    clear h hN
    go_enter Tryd.func51, Tryd.ntmps51
    go_wp2
    go_ret
    exact ⟨rfl, rfl⟩
  · rw [decide_eq_false h]
    have hb : ((r.length : Int) != (s.length : Int)) = true := by simp; omega
    have hb2 : ¬ (r.length : Int) = (s.length : Int) := by omega
    go_enter Tryd.func51, Tryd.ntmps51
    go_wp2
    go_ret
    exact ⟨rfl, rfl⟩

set_option maxRecDepth 100000 in
set_option maxHeartbeats 2000000 in
theorem implMissed_any (r : List Int) (hy0 : ∀ a ∈ r, wfY a) (l : List Wal) (hwf : ∀ x ∈ l, wfV x) (d : Int) (s : List Int) (A B As : Option Addr) (ca c cs : Nat) (ad : Nat → Addr) (w : World) (hrl : r.length ≤ 1048576) (hl : l.length ≤ 1048576) (hsl : s.length ≤ 1048576) (hra : Rd w w.heap.size ycells A r) (hr : Rd w w.heap.size vcells B l) (hrs : Rd w w.heap.size ycells As s) (hE : EW 7 w ad) :
    Calls Tryd.prog 18 #[.slice A r.length ca, .slice B l.length c, .int .i64 d, .slice As s.length cs] w fun e w' => ∃ v, e = .returned (.tuple #[v, .int .i64 (mwC r l d s)]) ∧ w'.ownsRow w.heap.size 83 2 v (mwL r l d s).length ((mwL r l d s).flatMap p2cells) ∧ Below w.heap.size w w' := by
  have HRa := Lib.hid hra
  have HR := Lib.hid hr
  have HRs := Lib.hid hrs
  have HE := Lib.hid hE
  clear hra hr hrs hE
  go_enter Tryd.func18, Tryd.ntmps18
  go_wp2_with fail
  refine (checkRowWalkers_any r l hwf A B ca c ad _ hrl hl HRa.out HR.out HE.out).mono ?_
  rintro e w1 ⟨rfl, hb⟩
  have HB1 := Lib.hid hb
  clear hb
  obtain ⟨v0, hv0⟩ : ∃ v, erO ad (rwO r l) = v := ⟨_, rfl⟩
  have HV0 := Lib.hid hv0
  have P0 : Hid (isE v0) := by show isE v0; rw [← hv0]; exact erO_isE _ _
  rw [hv0]
  clear hv0
  have hc0 : (w1.alloc (.cells #[.slice As s.length cs] 37)).cell? ⟨w1.heap.size, 0, none⟩ = some (.slice As s.length cs) := by
    rw [cell_of_row _ _ _ _ _ _ (heap_alloc_new w1 (.cells #[.slice As s.length cs] 37))]; rfl
  have HA1 : Hid (Below w.heap.size w (w1.alloc (.cells #[.slice As s.length cs] 37))) := HB1.out.alloc HB1.out.size _
  have HCh : Hid (Calls Tryd.prog 50 #[.slice (some ⟨w1.heap.size, 0, none⟩) 1 1] (w1.alloc (.cells #[.slice As s.length cs] 37)) fun e w' => e = .returned (erO ad (chk 5 (yOk s))) ∧ Below (w1.alloc (.cells #[.slice As s.length cs] 37)).heap.size (w1.alloc (.cells #[.slice As s.length cs] 37)) w') :=
    checkRows1_any s As cs w1.heap.size 1 ad _ hsl hc0 (HRs.out.keep HA1.out) (HE.out.below HA1.out (Nat.le_refl _))
  clear hc0
  go_wp2_with fail
  refine HCh.out.mono ?_
  rintro e w2 ⟨rfl, hb⟩
  have HB2 : Hid (Below w.heap.size w w2) := HA1.out.trans (hb.mono HA1.out.size)
  clear hb HCh HA1
  obtain ⟨v1, hv1⟩ : ∃ v, erO ad (chk 5 (yOk s)) = v := ⟨_, rfl⟩
  have HV1 := Lib.hid hv1
  have P1 : Hid (isE v1) := by show isE v1; rw [← hv1]; exact erO_isE _ _
  rw [hv1]
  clear hv1
  go_wp2_with fail
  refine (checkSame_any r s A As ca cs ad w2 (HE.out.below HB2.out (Nat.le_refl _))).mono ?_
  rintro e w3 ⟨rfl, rfl⟩
  obtain ⟨v2, hv2⟩ : ∃ v, erO ad (chk 5 (decide (r.length = s.length))) = v := ⟨_, rfl⟩
  have HV2 := Lib.hid hv2
  have P2 : Hid (isE v2) := by show isE v2; rw [← hv2]; exact erO_isE _ _
  rw [hv2]
  clear hv2
  go_wp2_with fail
  refine (checkWithin_any d 0 400 ad w2 (HE.out.below HB2.out (Nat.le_refl _))).mono ?_
  rintro e w3 ⟨rfl, rfl⟩
  obtain ⟨v3, hv3⟩ : ∃ v, erO ad (chk 0 (decide (0 ≤ d) && decide (d ≤ 400))) = v := ⟨_, rfl⟩
  have HV3 := Lib.hid hv3
  have P3 : Hid (isE v3) := by show isE v3; rw [← hv3]; exact erO_isE _ _
  rw [hv3]
  clear hv3
  go_wp2_with (refine wpList_fourErrs rfl (.tmp 14) (.tmp 17) (.tmp 20) (.tmp 22) rfl P0.out P1.out P2.out P3.out rfl rfl rfl rfl ?_)
  have q0 := new_cells4 w2 v0 v1 v2 v3 71
  rw [← HV0.out, ← HV1.out, ← HV2.out, ← HV3.out] at q0 ⊢
  refine (firstErr4_O ad _ _ _ _ _ _ _ q0.1 q0.2.1 q0.2.2.1 q0.2.2.2).mono ?_
  rintro e w9 ⟨rfl, rfl⟩
  rw [HV0.out, HV1.out, HV2.out, HV3.out]
  have L2 : Below w.heap.size w (w2.alloc (.cells #[v0, v1, v2, v3] 71)) := HB2.out.alloc HB2.out.size _
  obtain ⟨w3, hw3⟩ : ∃ w3, w2.alloc (.cells #[v0, v1, v2, v3] 71) = w3 := ⟨_, rfl⟩
  rw [hw3] at L2 ⊢
  have M2 := Lib.hid L2
  rw [show firstO [rwO r l, chk 5 (yOk s), chk 5 (decide (r.length = s.length)), chk 0 (decide (0 ≤ d) && decide (d ≤ 400))] = mwO r l d s from rfl]
  clear q0 hw3 L2 HB1 HB2 HV0 HV1 HV2 HV3 P0 P1 P2 P3
  cases ho : mwO r l d s with
  | some i =>
    have hi : i < 7 := mwO_lt i ho
    have E := Lib.hid (mw_bad ho)
    have HIi := Lib.hid hi
    rw [erO_some]
    clear ho hi
    go_wp2_with fail
    refine (codeOf_O (HE.out.below M2.out (Nat.le_refl _)) i HIi.out).mono ?_
    rintro e w4 ⟨rfl, rfl⟩
    obtain ⟨cc, hcc⟩ : ∃ cc, cdN i = cc := ⟨_, rfl⟩
    have HCC := Lib.hid hcc
    rw [hcc]
    clear hcc
    go_wp2
    go_ret2
    refine ⟨_, by (rw [E.out.1, HCC.out]; first | done | rfl), ?_, M2.out⟩
    rw [E.out.2]
    exact ⟨rfl, .inl ⟨rfl, rfl⟩⟩
  | none =>
    obtain ⟨h0, h1, hy, hv, -, hn, hd0, hd4⟩ := mw_ok ho
    have hvs := vsOk_out hv
    have E0 := Lib.hid h0
    have E1 := Lib.hid h1
    have HR7 := Lib.hid (wfY_7 hy hy0)
    have HVS := Lib.hid hvs
    have HD : Hid (0 ≤ d ∧ d ≤ 400) := ⟨hd0, hd4⟩
    obtain ⟨N, hN⟩ : ∃ N, r.length = N := ⟨_, rfl⟩
    have HN := Lib.hid hN
    have hsN : s.length = N := by rw [← hn, hN]
    have HSN := Lib.hid hsN
    have HRa3 : Hid (Rd w3 w3.heap.size ycells A r) := HRa.out.keep M2.out
    have HRs3 : Hid (Rd w3 w3.heap.size ycells As s) := HRs.out.keep M2.out
    rw [hN] at E1 HVS ⊢
    rw [hsN]
    rw [erO_none]
    have h1N : 1 ≤ N := by have := HVS.out.1.1; omega
    have h60N : N ≤ 60 := by have := HVS.out.1.2; omega
    clear ho h0 h1 hy hv hvs hd0 hd4 hN hsN hn
    go_wp2_with fail
    refine (allWalks_any N h1N h60N l HVS.out.2.2 B c _ HVS.out.2.1 (HR.out.keep M2.out)).mono ?_
    rintro e w4 ⟨A', c', ks, rfl, hO, hks, hok, hb⟩
    have HB4 : Hid (Below w.heap.size w w4) := M2.out.trans (hb.mono M2.out.size)
    have HRd : Hid (Rd w4 w4.heap.size (kcw N) A' ks) := own_rd2 (kcw_length N) hO
    have HKS := Lib.hid hks
    have HOK := Lib.hid hok
    have HRa4 : Hid (Rd w4 w4.heap.size ycells A r) := HRa3.out.keep hb
    have HRs4 : Hid (Rd w4 w4.heap.size ycells As s) := HRs3.out.keep hb
    clear hO hks hok hb
    go_wp2_with fail
    refine (turned_any N h60N l HVS.out.2.2 ks HKS.out HVS.out.2.1 0 d ⟨by omega, by omega⟩ ⟨by have := HD.out; omega, by have := HD.out; omega⟩ r HN.out HR7.out A A' ca c' _ HRa4.out HOK.out HRd.out).mono ?_
    rintro e w5 ⟨A5, c5, rfl, hO, hb⟩
    have HB5 : Hid (Below w.heap.size w w5) := HB4.out.trans (hb.mono HB4.out.size)
    have hcg : tnA N l (mW 0 d) r l.length = tnA N l (fun x => unD x d) r l.length := tnA_congr (fun x hx => by
      have := (vOk_out (HVS.out.2.2 x hx)).1.1
      rw [mW, unD_m1 this, Int.sub_zero]) _ (Nat.le_refl _)
    rw [hcg] at hO
    obtain ⟨R, hR⟩ : ∃ R, tnA N l (fun x => unD x d) r l.length = R := ⟨_, rfl⟩
    have HRl : Hid (R.length = N) := by show R.length = N; rw [← hR, tnA_len, HN.out]
    have HRR7 : Hid (∀ a ∈ R, 0 ≤ a ∧ a ≤ 7) := by show ∀ a ∈ R, _; rw [← hR]; exact tnA_in HR7.out _
    rw [hR] at hO E1
    have HRd5 : Hid (Rd w5 w5.heap.size ycells A5 R) := own_rd2 ycells_length (by rw [HRl.out]; exact hO)
    have HMW : Hid (Calls Tryd.prog 54 #[.slice A5 N c5, .slice A' ks.length c', .int .i64 d, .slice As N cs] w5 fun e w' => ∃ A' c', e = .returned (.slice A' (mwT N R s l d l.length).length c') ∧ w'.ownsRow w5.heap.size 83 2 (.slice A' (mwT N R s l d l.length).length c') (mwT N R s l d l.length).length ((mwT N R s l d l.length).flatMap p2cells) ∧ Below w5.heap.size w5 w') :=
      missedWalks_any N h60N l HVS.out.2.2 ks HKS.out HVS.out.2.1 d HD.out R s HRl.out HRR7.out HSN.out A5 A' As c5 c' cs w5 HRd5.out (fun t ht => okW.keep (HOK.out t ht) hb) (HRd.out.keep hb) (HRs4.out.keep hb)
    clear hO hb hcg hR
    go_wp2_with fail
    refine HMW.out.mono ?_
    rintro e w6 ⟨A6, c6, rfl, hO6, hb6⟩
    have HB6 : Hid (Below w.heap.size w w6) := HB5.out.trans (hb6.mono HB5.out.size)
    have HO6 := Lib.hid hO6
    clear hO6 hb6 HMW
    go_wp2
    go_ret2
    refine ⟨_, by (rw [E0.out]; first | done | rfl), ?_, HB6.out⟩
    rw [E1.out]
    exact own_base HO6.out HB5.out.size
end Go.Proofs.YtlfamfdgphhbcabDoor
