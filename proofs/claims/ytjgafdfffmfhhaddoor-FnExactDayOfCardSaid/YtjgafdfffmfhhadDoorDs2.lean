/-
  DaysOf and DayOf: the contracts, of the program. Condition: the row and the walkers read as told; the sentinel errors lie as the row lists them.
-/
import Derived.Test.YtjgafdfffmfhhadDoorDs0
namespace Go.Proofs.YtjgafdfffmfhhadDoor
open Go.ChangeShapes Go.WideShapes Go.ChangeAt Go.RowKit Go.Deep

set_option maxRecDepth 100000 in
set_option maxHeartbeats 2000000 in
theorem implDays_any (r : List Int) (hy0 : ∀ a ∈ r, wfY a) (l : List Wal) (hwf : ∀ x ∈ l, wfV x) (f t : Int) (A B : Option Addr) (ca c : Nat) (ad : Nat → Addr) (w : World) (hrl : r.length ≤ 1048576) (hl : l.length ≤ 1048576) (hra : Rd w w.heap.size ycells A r) (hr : Rd w w.heap.size vcells B l) (hE : EW 7 w ad) :
    Calls Tryd.prog 64 #[.slice A r.length ca, .slice B l.length c, .int .i64 f, .int .i64 t] w fun e w' => ∃ v, e = .returned (.tuple #[v, .int .i64 (dsC r l f t)]) ∧ w'.ownsRow w.heap.size 5 1 v (dsL r l f t).length ((dsL r l f t).flatMap ycells) ∧ Below w.heap.size w w' := by
  have HRa := Lib.hid hra
  have HR := Lib.hid hr
  have HE := Lib.hid hE
  clear hra hr hE
  go_enter Tryd.func64, Tryd.ntmps64
  go_wp2_with fail
  refine (checkRowWalkers_any r l hwf A B ca c ad _ hrl hl HRa.out HR.out HE.out).mono ?_
  rintro e w1 ⟨rfl, hb⟩
  have HB1 := Lib.hid hb
  clear hb
  obtain ⟨v0, hv0⟩ : ∃ v, erO ad (rwO r l) = v := ⟨_, rfl⟩
  have HV0 := Lib.hid hv0
  have P0 : Hid (isE v0) := by show isE v0; rw [← hv0]; exact erO_isE _ _
  rw [hv0]
  clear hv0
  go_wp2_with fail
  refine (checkSpan_any f t ad _ (HE.out.below HB1.out (Nat.le_refl _))).mono ?_
  rintro e w2 ⟨rfl, hb⟩
  have HB2 : Hid (Below w.heap.size w w2) := HB1.out.trans (hb.mono HB1.out.size)
  clear hb
  obtain ⟨v1, hv1⟩ : ∃ v, erO ad (spO f t) = v := ⟨_, rfl⟩
  have HV1 := Lib.hid hv1
  have P1 : Hid (isE v1) := by show isE v1; rw [← hv1]; exact erO_isE _ _
  rw [hv1]
  clear hv1
  go_wp2_with (refine wpList_twoErrs rfl (.tmp 13) (.tmp 16) rfl P0.out P1.out rfl rfl ?_)
  have q0 := new_cell2 w2 v0 v1 82
  rw [← HV0.out, ← HV1.out] at q0 ⊢
  refine (firstErr2_O ad _ _ _ _ _ q0.1 q0.2).mono ?_
  rintro e w9 ⟨rfl, rfl⟩
  rw [HV0.out, HV1.out]
  have L2 : Below w.heap.size w (w2.alloc (.cells #[v0, v1] 82)) := HB2.out.alloc HB2.out.size _
  obtain ⟨w3, hw3⟩ : ∃ w3, w2.alloc (.cells #[v0, v1] 82) = w3 := ⟨_, rfl⟩
  rw [hw3] at L2 ⊢
  have M2 := Lib.hid L2
  rw [show firstO [rwO r l, spO f t] = dsO r l f t from rfl]
  clear q0 hw3 L2 HB1 HB2 HV0 HV1 P0 P1
  cases ho : dsO r l f t with
  | some i =>
    have hi : i < 7 := dsO_lt i ho
    have E := Lib.hid (ds_bad ho)
    have HIi := Lib.hid hi
    rw [erO_some]
    clear ho hi
    go_wp2_with fail
    refine (codeOf_O (HE.out.below M2.out (Nat.le_refl _)) i HIi.out).mono ?_
    rintro e w4 ⟨rfl, rfl⟩
    obtain ⟨cc, hcc⟩ : ∃ cc, cdN i = cc := ⟨_, rfl⟩
    have HCC := Lib.hid hcc
    rw [hcc]
    clear hcc
    go_wp2
    go_ret2
    refine ⟨_, by (rw [E.out.1, HCC.out]; first | done | rfl), ?_, M2.out⟩
    rw [E.out.2]
    exact nil_ownR _ _
  | none =>
    obtain ⟨h0, h1, hy, hv, hs, h4⟩ := ds_ok ho
    have hvs := vsOk_out hv
    have hdi := spB_out hs
    have E0 := Lib.hid h0
    have E1 := Lib.hid h1
    have hr7 := wfY_7 hy hy0
    have HR7 := Lib.hid hr7
    have HVS := Lib.hid hvs
    have HDI := Lib.hid hdi
    obtain ⟨N, hN⟩ : ∃ N, r.length = N := ⟨_, rfl⟩
    have HN := Lib.hid hN
    have HRa3 : Hid (Rd w3 w3.heap.size ycells A r) := HRa.out.keep M2.out
    rw [hN] at E1 HVS ⊢
    rw [erO_none]
    have h1N : 1 ≤ N := by have := HVS.out.1.1; omega
    have h60N : N ≤ 60 := by have := HVS.out.1.2; omega
    clear ho h0 h1 hy hv hs hvs hdi hr7 hN
    go_wp2_with fail
    refine (allWalks_any N h1N h60N l HVS.out.2.2 B c _ HVS.out.2.1 (HR.out.keep M2.out)).mono ?_
    rintro e w4 ⟨A', c', ks, rfl, hO, hks, hok, hb⟩
    have HB4 : Hid (Below w.heap.size w w4) := M2.out.trans (hb.mono M2.out.size)
    have HRd : Hid (Rd w4 w4.heap.size (kcw N) A' ks) := own_rd2 (kcw_length N) hO
    have HKS := Lib.hid hks
    have HOK := Lib.hid hok
    have HRa4 : Hid (Rd w4 w4.heap.size ycells A r) := HRa3.out.keep hb
    clear hO hks hok hb
    go_wp2_with fail
    refine (turned_any N h60N l HVS.out.2.2 ks HKS.out HVS.out.2.1 f t ⟨by have := HDI.out; omega, by have := HDI.out; omega⟩ ⟨by have := HDI.out; omega, by have := HDI.out; omega⟩ r HN.out HR7.out A A' ca c' _ HRa4.out HOK.out HRd.out).mono ?_
    rintro e w5 ⟨A5, c5, rfl, hO, hb⟩
    have HB5 : Hid (Below w.heap.size w w5) := HB4.out.trans (hb.mono HB4.out.size)
    have HO5 := Lib.hid hO
    clear hO hb
    go_wp2
    go_ret2
    refine ⟨_, by (rw [E0.out]; first | done | rfl), ?_, HB5.out⟩
    rw [E1.out, tnA_len, HN.out]
    exact own_base HO5.out HB4.out.size

theorem implDay_any (r : List Int) (hy0 : ∀ a ∈ r, wfY a) (l : List Wal) (hwf : ∀ x ∈ l, wfV x) (d : Int) (A B : Option Addr) (ca c : Nat) (ad : Nat → Addr) (w : World) (hrl : r.length ≤ 1048576) (hl : l.length ≤ 1048576) (hra : Rd w w.heap.size ycells A r) (hr : Rd w w.heap.size vcells B l) (hE : EW 7 w ad) :
    Calls Tryd.prog 32 #[.slice A r.length ca, .slice B l.length c, .int .i64 d] w fun e w' => ∃ v, e = .returned (.tuple #[v, .int .i64 (dsC r l d d)]) ∧ w'.ownsRow w.heap.size 5 1 v (dsL r l d d).length ((dsL r l d d).flatMap ycells) ∧ Below w.heap.size w w' := by
  have HC := Lib.hid (implDays_any r hy0 l hwf d d A B ca c ad w hrl hl hra hr hE)
  clear hra hr hE
  go_enter Tryd.func32, Tryd.ntmps32
  go_wp2_with fail
  refine HC.out.mono ?_
  rintro e w1 ⟨v, rfl, hO, hb⟩
  have HO := Lib.hid hO
  have HB := Lib.hid hb
  clear hO hb
  go_wp2
  go_ret2
  exact ⟨_, rfl, HO.out, HB.out⟩
end Go.Proofs.YtjgafdfffmfhhadDoor
