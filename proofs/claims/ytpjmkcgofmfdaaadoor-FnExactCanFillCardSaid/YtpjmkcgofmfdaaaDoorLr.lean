/-
  The contracts of the program's ShortIn, CanFill, LackBehind, CheckOpen and UsefulIn. Condition: the lists read as crates, wants and numbers, which fit their kinds; the sentinel errors lie as the row lists them.
-/
import Derived.Test.YtpjmkcgofmfdaaaDoorLq
import Derived.Test.YtpjmkcgofmfdaaaDoorWi
import Derived.Test.YtpjmkcgofmfdaaaDoorCk2
import Derived.Test.YtpjmkcgofmfdaaaDoorIp
import Derived.Maps.OwnSet
namespace Go.Proofs.YtpjmkcgofmfdaaaDoor
open Go.ChangeShapes Go.WideShapes Go.ChangeAt Go.RowKit Go.Deep
open Go.Maps (Keyed)

theorem erV5_no (ad : Nat → Addr) : erV ad 5 false = .iface 128 (.pointer (some (ad 5))) := rfl
theorem erV0_no (ad : Nat → Addr) : erV ad 0 false = .iface 128 (.pointer (some (ad 0))) := rfl
theorem erV_yes (ad : Nat → Addr) (k : Nat) : erV ad k true = .nilIface := rfl
theorem nil_own (w : World) (b : Nat) : w.ownsRow b 61 3 (.slice none 0 0) ([] : List Wnt).length (([] : List Wnt).flatMap wcells) := ⟨rfl, .inl ⟨rfl, rfl⟩⟩

set_option maxHeartbeats 1000000 in
theorem implShort_any (xs : List Crt) (ord : List Wnt) (hw : ∀ x ∈ ord, wfW x) (A A2 : Option Addr) (c c2 : Nat) (ad : Nat → Addr) (w : World) (hl : xs.length ≤ 1048576) (hl2 : ord.length ≤ 1048576) (hr : Rd w w.heap.size kcells A xs) (hr2 : Rd w w.heap.size wcells A2 ord) (hE : EW 7 w ad) :
    Calls Tryd.prog 13 #[.slice A xs.length c, .slice A2 ord.length c2] w fun e w' => ∃ v, e = .returned (.tuple #[v, .int .i64 (askC xs ord)]) ∧ w'.ownsRow w.heap.size 61 3 v (siL xs ord).length ((siL xs ord).flatMap wcells) ∧ Below w.heap.size w w' := by
  have HR := Lib.hid hr
  have HR2 := Lib.hid hr2
  have HW := Lib.hid hw
  have HE := Lib.hid hE
  clear hr hr2 hw hE
  go_enter Tryd.func13, Tryd.ntmps13
  go_wp2_with fail
  refine (checkFilling_any xs ord HW.out A A2 c c2 ad w hl hl2 HR.out HR2.out HE.out).mono ?_
  rintro e w1 ⟨rfl, hb⟩
  have HB := Lib.hid hb
  clear hb
  cases ha : askOk xs ord
  · have E := Lib.hid (si_no ha)
    clear ha
    rw [erV5_no]
    go_wp2_with fail
    refine (codeOf_5 (HE.out.below HB.out (Nat.le_refl _))).mono ?_
    rintro e w2 ⟨rfl, rfl⟩
    go_wp2
    go_ret2
    exact ⟨_, by (rw [E.out.2.1]; first | done | rfl), by rw [E.out.1]; exact nil_own _ _, HB.out⟩
  · have E := Lib.hid (si_yes ha)
    have HA := Lib.hid (ask_yes ha)
    clear ha
    rw [erV_yes]
    go_wp2_with fail
    refine (shortIn_any xs ord HW.out A A2 c c2 w1 (okS_len HA.out.1) hl2 (HR.out.keep HB.out) (HR2.out.keep HB.out)).mono ?_
    rintro e w3 ⟨v3, rfl, hown, hb⟩
    have HB3 : Hid (Below w.heap.size w w3) := HB.out.trans (hb.mono HB.out.size)
    have HO := Lib.hid hown
    clear hb hown
    go_wp2
    go_ret2
    exact ⟨_, by (rw [E.out.2.1]; first | done | rfl), by rw [E.out.1]; exact own_base HO.out HB.out.size, HB3.out⟩

set_option maxHeartbeats 1000000 in
theorem implCanFill_any (xs : List Crt) (ord : List Wnt) (hw : ∀ x ∈ ord, wfW x) (A A2 : Option Addr) (c c2 : Nat) (ad : Nat → Addr) (w : World) (hl : xs.length ≤ 1048576) (hl2 : ord.length ≤ 1048576) (hr : Rd w w.heap.size kcells A xs) (hr2 : Rd w w.heap.size wcells A2 ord) (hE : EW 7 w ad) :
    Calls Tryd.prog 20 #[.slice A xs.length c, .slice A2 ord.length c2] w fun e w' => e = .returned (.tuple #[.bool (cfB xs ord), .int .i64 (askC xs ord)]) ∧ Below w.heap.size w w' := by
  have HR := Lib.hid hr
  have HR2 := Lib.hid hr2
  have HW := Lib.hid hw
  have HE := Lib.hid hE
  clear hr hr2 hw hE
  go_enter Tryd.func20, Tryd.ntmps20
  go_wp2_with fail
  refine (implShort_any xs ord HW.out A A2 c c2 ad w hl hl2 HR.out HR2.out HE.out).mono ?_
  rintro e w1 ⟨v, rfl, hown, hb⟩
  have HB := Lib.hid hb
  clear hb
  obtain ⟨A4, c4, rfl, -, -⟩ := own_rd wcells_length hown
  clear hown
  cases ha : askOk xs ord
  · have E := Lib.hid (si_no ha)
    clear ha
    have e0 : askC xs ord = 1 := E.out.2.1
    rw [e0]
    clear e0
    go_wp2
    go_ret2
    exact ⟨by (rw [E.out.2.1, E.out.2.2]; first | done | rfl), HB.out⟩
  · have E := Lib.hid (si_yes ha)
    clear ha
    have e0 : askC xs ord = 0 := E.out.2.1
    rw [e0]
    clear e0
    have hL : siL xs ord = lack (cntAll xs) ord := E.out.1
    rw [hL]
    clear hL
    go_wp2
    go_ret2
    exact ⟨by (rw [E.out.2.1, E.out.2.2, nat_zero]; first | done | rfl), HB.out⟩

set_option maxHeartbeats 1000000 in
theorem implUseful_any (x : Crt) (ord : List Wnt) (hw : ∀ x ∈ ord, wfW x) (A2 : Option Addr) (c2 : Nat) (ad : Nat → Addr) (w : World) (hl2 : ord.length ≤ 1048576) (hr2 : Rd w w.heap.size wcells A2 ord) (hE : EW 7 w ad) :
    Calls Tryd.prog 23 #[.agg (ccells x.1).toArray, .slice A2 ord.length c2] w fun e w' => e = .returned (.tuple #[.int .i64 (uiN x ord), .int .i64 (uiC x ord)]) ∧ Below w.heap.size w w' := by
  have HR2 := Lib.hid hr2
  have HW := Lib.hid hw
  have HE := Lib.hid hE
  clear hr2 hw hE
  have h1 := CBlk.new w 47 x.1
  have h2 : Below w.heap.size w (w.alloc (.cells (ccells x.1).toArray 47)) := (Below.refl _ w).alloc (Nat.le_refl _) _
  obtain ⟨W0, hW0⟩ : ∃ W0, w.alloc (.cells (ccells x.1).toArray 47) = W0 := ⟨_, rfl⟩
  rw [hW0] at h1 h2
  have H1 := Lib.hid h1
  have H2 := Lib.hid h2
  clear h1 h2
  go_enter Tryd.func23, Tryd.ntmps23
  go_wp2_with (first
    | (refine wpList_load_row rfl 47 (.tmp 2) rfl w.heap.size rfl 47 _ (0, 0) _ H1.out Tryd.underlying47 rfl (size_of_crate Tryd.sizeCr _ x.2.1) ?_)
    | (refine wpList_oneCrate rfl 29 47 (.tmp 7) rfl x.1 x.2.1 rfl Tryd.underlying29 Tryd.sizeCr Tryd.zeroCr ?_))
  clear hW0
  have hA : Below W0.heap.size W0 (W0.alloc (.cells (ccells x.1).toArray 47)) := (Below.refl _ W0).alloc (Nat.le_refl _) _
  refine (checkOne_any x.1 x.2 W0.heap.size _ ad _ (CBlk.new W0 47 x.1) (HE.out.below (H2.out.trans (hA.mono H2.out.size)) (Nat.le_refl _))).mono ?_
  rintro e w1 ⟨rfl, hb1⟩
  have hB1 : Below W0.heap.size W0 w1 := hA.trans (hb1.mono hA.size)
  have J1 : Hid (CBlk w1 w.heap.size 47 x.1) := H1.out.below hB1 H1.out.lt
  have J2 : Hid (Below w.heap.size w w1) := H2.out.trans (hB1.mono H2.out.size)
  clear hb1 hA hB1 H1 H2
  rw [chkV_erV]
  obtain ⟨v0, hv0⟩ : ∃ v, erV ad 5 (okC x.1) = v := ⟨_, rfl⟩
  have hp0 := erV_isE ad 5 (okC x.1)
  rw [hv0] at hp0 ⊢
  have V0 := Lib.hid hv0
  have P0 := Lib.hid hp0
  clear hv0 hp0
  go_wp2_with fail
  have hA : Below w1.heap.size w1 (w1.alloc (.cells #[.slice A2 ord.length c2] 26)) := (Below.refl _ _).alloc (Nat.le_refl _) _
  refine (checkOrd_any ord HW.out A2 c2 w1.heap.size _ ad _ hl2 (HR2.out.keep (J2.out.trans (hA.mono J2.out.size))) (new_cell w1 _ _).1 (HE.out.below (J2.out.trans (hA.mono J2.out.size)) (Nat.le_refl _))).mono ?_
  rintro e w2 ⟨rfl, hb⟩
  have hA2 : Below w1.heap.size w1 w2 := hA.trans (hb.mono hA.size)
  have K1 : Hid (CBlk w2 w.heap.size 47 x.1) := J1.out.below hA2 J1.out.lt
  have K2 : Hid (Below w.heap.size w w2) := J2.out.trans (hA2.mono J2.out.size)
  clear hb hA hA2 J1 J2
  rw [chkV_erV]
  obtain ⟨v1, hv1⟩ : ∃ v, erV ad 5 (ordOk ord) = v := ⟨_, rfl⟩
  have hp1 := erV_isE ad 5 (ordOk ord)
  rw [hv1] at hp1 ⊢
  have V1 := Lib.hid hv1
  have P1 := Lib.hid hp1
  clear hv1 hp1
  go_wp2_with (refine wpList_twoErrs rfl (.tmp 9) (.tmp 12) rfl P0.out P1.out rfl rfl ?_)
  have q0 := new_cell2 w2 v0 v1 66
  refine (first2_any P0.out P1.out _ _ _ q0.1 q0.2).mono ?_
  rintro e w9 ⟨rfl, rfl⟩
  have HV : Hid (firstV v0 v1 = erV ad 5 (uiOk x ord)) := by show firstV v0 v1 = erV ad 5 (uiOk x ord); rw [← V0.out, ← V1.out, firstV_both]; rfl
  have L1 : CBlk (w2.alloc (.cells #[v0, v1] 66)) w.heap.size 47 x.1 := K1.out.alloc _
  have L2 : Below w.heap.size w (w2.alloc (.cells #[v0, v1] 66)) := K2.out.alloc K2.out.size _
  obtain ⟨w3, hw3⟩ : ∃ w3, w2.alloc (.cells #[v0, v1] 66) = w3 := ⟨_, rfl⟩
  rw [hw3] at L1 L2 ⊢
  have M1 := Lib.hid L1
  have M2 := Lib.hid L2
  clear q0 hw3 L1 L2 K1 K2
  rw [HV.out]
  clear HV
  cases ha : uiOk x ord
  · have E := Lib.hid (ui_no ha)
    clear ha
    rw [erV5_no]
    go_wp2_with fail
    refine (codeOf_5 (HE.out.below M2.out (Nat.le_refl _))).mono ?_
    rintro e w4 ⟨rfl, rfl⟩
    go_wp2
    go_ret2
    exact ⟨by (rw [E.out.1, E.out.2]; first | done | rfl), M2.out⟩
  · have E := Lib.hid (ui_yes ha)
    clear ha
    rw [erV_yes]
    go_wp2_with (refine wpList_load_row rfl 47 (.tmp 2) rfl w.heap.size rfl 47 _ (0, 0) _ M1.out Tryd.underlying47 rfl (size_of_crate Tryd.sizeCr _ x.2.1) ?_)
    refine (usefulIn_any x ord HW.out A2 c2 w3 hl2 (HR2.out.keep M2.out)).mono ?_
    rintro e w4 ⟨rfl, hb⟩
    have HB3 : Hid (Below w.heap.size w w4) := M2.out.trans (hb.mono M2.out.size)
    clear hb
    go_wp2
    go_ret2
    exact ⟨by (rw [E.out.1, E.out.2]; first | done | rfl), HB3.out⟩

theorem kcells_snoc (xs : List Crt) (x : Crt) : (xs ++ [x]).flatMap kcells = xs.flatMap kcells ++ ccells x.1 := by rw [List.flatMap_append]; simp [kcells]
theorem ccells_size' (x : Crt) : (ccells x.1).length = 1 * 24 := by have := ccells_size x.1 x.2.1; simpa using this
theorem crate_new (W : World) (X : List Bot) (t : TypeId) (j : Nat) (u : Value) (h : (ccells X)[j]? = some u) : (W.alloc (.cells (ccells X).toArray t)).cell? ((⟨W.heap.size, 0, none⟩ : Addr).add j) = some u := by
  have e : (⟨W.heap.size, 0, none⟩ : Addr).add j = ⟨W.heap.size, j, none⟩ := by cases j <;> simp [Addr.add]
  rw [e, (CBlk.new W t X).cell j, h]
theorem pick_take {xs : List Crt} {is : List Int} {m : Nat} {c : Int} {x : Crt} (h : is[m]? = some c) (hx : xs[c.toNat]? = some x) : pick xs (is.take (m + 1)) = pick xs (is.take m) ++ [x] := by
  obtain ⟨h1, h2⟩ := List.getElem?_eq_some_iff.1 h
  rw [List.take_succ_eq_append_getElem h1, h2, pick_snoc hx]
set_option maxRecDepth 100000 in
set_option maxHeartbeats 4000000 in
theorem implLack_any (xs : List Crt) (ord : List Wnt) (cr : List Int) (hw : ∀ x ∈ ord, wfW x) (A A2 A3 : Option Addr) (c c2 c3 : Nat) (ad : Nat → Addr) (w : World) (hl : xs.length ≤ 1048576) (hl2 : ord.length ≤ 1048576) (hl3 : cr.length ≤ 1048576) (hr : Rd w w.heap.size kcells A xs) (hr2 : Rd w w.heap.size wcells A2 ord) (hr3 : Rd w w.heap.size icells A3 cr) (hwf : ∀ c ∈ cr, wfI c) (hE : EW 7 w ad) :
    Calls Tryd.prog 26 #[.slice A xs.length c, .slice A2 ord.length c2, .slice A3 cr.length c3] w fun e w' => ∃ v, e = .returned (.tuple #[v, .int .i64 (opC xs ord cr)]) ∧ w'.ownsRow w.heap.size 61 3 v (lbL xs ord cr).length ((lbL xs ord cr).flatMap wcells) ∧ Below w.heap.size w w' := by
  have HR := Lib.hid hr
  have HR2 := Lib.hid hr2
  have HR3 := Lib.hid hr3
  have HW := Lib.hid hw
  have HWf := Lib.hid hwf
  have HE := Lib.hid hE
  clear hr hr2 hr3 hw hE hwf
  go_enter Tryd.func26, Tryd.ntmps26
  go_wp2_with fail
  refine (checkFilling_any xs ord HW.out A A2 c c2 ad w hl hl2 HR.out HR2.out HE.out).mono ?_
  rintro e w1 ⟨rfl, hb⟩
  have HB := Lib.hid hb
  clear hb
  obtain ⟨v0, hv0⟩ : ∃ v, erV ad 5 (askOk xs ord) = v := ⟨_, rfl⟩
  have hp0 := erV_isE ad 5 (askOk xs ord)
  rw [hv0] at hp0 ⊢
  have V0 := Lib.hid hv0
  have P0 := Lib.hid hp0
  clear hv0 hp0
  go_wp2_with fail
  refine (checkIndices_any cr xs.length A3 c3 ad w1 hl3 hl (HR3.out.keep HB.out) (HE.out.below HB.out (Nat.le_refl _))).mono ?_
  rintro e w2 ⟨rfl, hb⟩
  have HB2 : Hid (Below w.heap.size w w2) := HB.out.trans (hb.mono HB.out.size)
  clear hb HB
  obtain ⟨v1, hv1⟩ : ∃ v, erV ad 0 (inR xs.length cr) = v := ⟨_, rfl⟩
  have hp1 := erV_isE ad 0 (inR xs.length cr)
  rw [hv1] at hp1 ⊢
  have V1 := Lib.hid hv1
  have P1 := Lib.hid hp1
  clear hv1 hp1
  go_wp2_with (refine wpList_twoErrs rfl (.tmp 14) (.tmp 18) rfl P0.out P1.out rfl rfl ?_)
  have q0 := new_cell2 w2 v0 v1 66
  refine (first2_any P0.out P1.out _ _ _ q0.1 q0.2).mono ?_
  rintro e w9 ⟨rfl, rfl⟩
  have L2 : Below w.heap.size w (w2.alloc (.cells #[v0, v1] 66)) := HB2.out.alloc HB2.out.size _
  obtain ⟨w3, hw3⟩ : ∃ w3, w2.alloc (.cells #[v0, v1] 66) = w3 := ⟨_, rfl⟩
  rw [hw3] at L2 ⊢
  have M2 := Lib.hid L2
  clear q0 hw3 L2 HB2
  cases ha : askOk xs ord
  · have hv : firstV v0 v1 = .iface 128 (.pointer (some (ad 5))) := by rw [← V0.out, ha]; rfl
    rw [hv]
    have h0 : opC xs ord cr = 1 := by simp [opC, ha]
    have E := Lib.hid (op_no (xs := xs) (ord := ord) (cr := cr) (by omega))
    have HOc := Lib.hid h0
    clear hv h0 ha
    go_wp2_with fail
    refine (codeOf_5 (HE.out.below M2.out (Nat.le_refl _))).mono ?_
    rintro e w4 ⟨rfl, rfl⟩
    go_wp2
    go_ret2
    exact ⟨_, by (rw [HOc.out]; first | done | rfl), by rw [E.out.1]; exact nil_own _ _, M2.out⟩
  cases hi : inR xs.length cr
  · have hv : firstV v0 v1 = .iface 128 (.pointer (some (ad 0))) := by rw [← V0.out, ← V1.out, ha, hi]; rfl
    rw [hv]
    have h0 : opC xs ord cr = 2 := by simp [opC, ha, hi]
    have E := Lib.hid (op_no (xs := xs) (ord := ord) (cr := cr) (by omega))
    have HOc := Lib.hid h0
    clear hv h0 ha hi
    go_wp2_with fail
    refine (codeOf_0 (EW.less (HE.out.below M2.out (Nat.le_refl _)) (by omega))).mono ?_
    rintro e w4 ⟨rfl, rfl⟩
    go_wp2
    go_ret2
    exact ⟨_, by (rw [HOc.out]; first | done | rfl), by rw [E.out.1]; exact nil_own _ _, M2.out⟩
  have hv : firstV v0 v1 = .nilIface := by rw [← V0.out, ← V1.out, ha, hi]; rfl
  rw [hv]
  have h0 : opC xs ord cr = 0 := by simp [opC, ha, hi]
  have E := Lib.hid (op_yes h0)
  have HOc := Lib.hid h0
  have hs12 := okS_len (ask_yes ha).1
  have HIn := Lib.hid (inR_mem hi)
  clear hv h0 ha hi V0 V1 P0 P1
  go_wp2_with fail
  refine (eachOnce_any cr HWf.out A3 c3 w3 hl3 (HR3.out.keep M2.out)).mono ?_
  rintro e w4 ⟨v4, rfl, hown4, hb⟩
  obtain ⟨A5, c5, rfl, -, hr5⟩ := own_rd icells_length hown4
  have hIs : ∀ c ∈ onceTo cr cr.length, 0 ≤ c ∧ c < xs.length := fun c hc => HIn.out c (List.mem_of_mem_take ((onceTo_mem _ c).1 hc))
  have hIl := onceTo_le HIn.out cr.length
  have hcnt : cntOf xs cr = fun b => cntAll (pick xs (onceTo cr cr.length)) b := rfl
  obtain ⟨is, his⟩ : ∃ l, onceTo cr cr.length = l := ⟨_, rfl⟩
  rw [his] at hr5 hIs hIl hcnt ⊢
  have HIs := Lib.hid hIs
  have HCn := Lib.hid hcnt
  have N2 : Hid (Below w.heap.size w w4) := M2.out.trans (hb.mono M2.out.size)
  have HR5 := Lib.hid hr5
  clear hb hown4 hr5 his hIs hcnt
  obtain ⟨i0, hi, hz0, hz1, hz2⟩ := info_parts Tryd.infoCr
  have HI := Lib.hid hi
  have HZ0 := Lib.hid hz0
  have HZ1 := Lib.hid hz1
  have HZ2 := Lib.hid hz2
  clear hi hz0 hz1 hz2
  go_wp2_with fail
  go_loopw [9, 28] (fun v i wr => ∃ k : Nat, k ≤ is.length ∧ i = .int .i64 k ∧ wr.ownsRow w4.heap.size 47 24 v (pick xs (is.take k)).length ((pick xs (is.take k)).flatMap kcells) ∧ Below w4.heap.size w4 wr) (fun _ i _ => is.length - (intOf i).toNat)
  case atStart => exact ⟨0, by omega, rfl, ⟨rfl, .inl ⟨rfl, rfl⟩⟩, Below.refl _ _⟩
  case round =>
    obtain ⟨k, hk, rfl, q1, q2⟩ := hrel
    have Q1 := Lib.hid q1
    have Q2 := Lib.hid q2
    have Q3 : Hid (Below w.heap.size w wr) := N2.out.trans (q2.mono N2.out.size)
    clear q1 q2
    by_cases hlt : k < is.length
    · obtain ⟨ci, hci⟩ : ∃ x, is[k]? = some x := ⟨_, List.getElem?_eq_getElem hlt⟩
      obtain ⟨hci0, hci1⟩ := HIs.out ci (List.mem_of_getElem? hci)
      obtain ⟨j, rfl⟩ : ∃ j : Nat, ci = (j : Int) := ⟨ci.toNat, (Int.toNat_of_nonneg hci0).symm⟩
      obtain ⟨b3, o3, rfl, hbl3, hrow3⟩ := (HR5.out.keep Q2.out).at_ icells_length hci
      have e3 := rowI hrow3
      obtain ⟨x, hxc⟩ : ∃ x, xs[j]? = some x := ⟨_, List.getElem?_eq_getElem (by omega)⟩
      obtain ⟨bc, oc, rfl, hblc, hrowc⟩ := HR.out.at_ kcells_length hxc
      have HRowC : Hid (wr.rangeAt bc (oc + j * 24) (kcells x)) := rangeAt_below hrowc Q3.out hblc
      have HSt := Lib.hid (pick_take hci (by simpa using hxc))
      have hk0 : (0 : Int) ≤ (k : Int) := Int.natCast_nonneg _
      have hk8 : (k : Int) < is.length := by omega
      have hj0 : (0 : Int) ≤ (j : Int) := Int.natCast_nonneg _
      have hj8 : (j : Int) < xs.length := by omega
      have hpl : (pick xs (is.take k)).length ≤ 12 := Nat.le_trans (pick_length _ _) (by rw [List.length_take]; omega)
      clear hci hrow3 hrowc hxc
      go_wp2_with (first
        | (refine wpList_load_mid rfl 47 (.tmp 35) rfl bc (oc + j * 24) rfl (kcells x) _ HRowC.out Tryd.underlying47 rfl (size_k Tryd.sizeCr x) ?_)
        | (refine wpList_oneCrate rfl 29 47 (.tmp 36) rfl x.1 x.2.1 rfl Tryd.underlying29 Tryd.sizeCr Tryd.zeroCr ?_)
        | (at_builtin; refine wpList_append_own _ rfl (.tmp 32) (.tmp 37) 29 rfl w4.heap.size 47 i0 _ 24 48 Tryd.underlying29 HI.out HZ0.out HZ1.out HZ2.out rfl (by decide) _ _ _ rfl (Q1.out.alloc _) ⟨wr.heap.size, 0, none⟩ 1 1 (ccells x.1) rfl ?c0 ?c1 ?c2 ?c3 ?c4 ?c5 ?_))
      case c0 => rw [ccells_size' x]
      case c1 => exact fun j' u hu => crate_new _ _ _ _ _ hu
      case c2 => exact fun u hu => by have := ccells_one x.1; rw [Array.all_eq_true_iff_forall_mem] at this; exact this u (by simpa using hu)
      case c3 => unfold maxLen; omega
      case c4 => omega
      case c5 => have := Q2.out.size; first | omega | (simp; omega)
      intro v' w5 hown' hgrow _
      have R3 := Lib.hid hown'
      have B3 : Hid (Below w4.heap.size w4 w5) := (Q2.out.alloc Q2.out.size _).grown hgrow (by have := Q2.out.size; simp; omega) (fun r e => by have := (Q1.out.lt r e).1; omega)
      clear hown' hgrow e3
      go_wp2
      go_roundw
      case rel => exact ⟨k + 1, by omega, by go_num, by rw [HSt.out, kcells_snoc, List.length_append]; exact R3.out, B3.out⟩
      case measure => simp [intOf]; omega
    · obtain rfl : k = is.length := by omega
      have hq := Q1.out
      rw [List.take_length] at hq
      obtain ⟨A6, c6, rfl, -, hr6⟩ := own_rd kcells_length hq
      have HR6 := Lib.hid hr6
      clear hq hr6
      have hpl : (pick xs is).length ≤ 12 := Nat.le_trans (pick_length _ _) (by omega)
      have hft : pick xs (is.take is.length) = pick xs is := by rw [List.take_length]
      go_wp2_with fail
      refine (shortIn_any (pick xs is) ord HW.out A6 A2 c6 c2 wr hpl hl2 HR6.out (HR2.out.keep Q3.out)).mono ?_
      rintro e w7 ⟨v7, rfl, hown, hb⟩
      have HB3 : Hid (Below w.heap.size w w7) := Q3.out.trans (hb.mono Q3.out.size)
      have hL : lbL xs ord cr = lack (cntAll (pick xs is)) ord := by rw [E.out.2.2.1, HCn.out]
      have HL := Lib.hid hL
      have HO := Lib.hid hown
      clear hb hown hL hft
      go_wp2
      go_ret2
      exact ⟨_, by (rw [HOc.out]; first | done | rfl), by rw [HL.out]; exact own_base HO.out Q3.out.size, HB3.out⟩

set_option maxHeartbeats 1000000 in
theorem implCheckOpen_any (xs : List Crt) (ord : List Wnt) (cr : List Int) (hw : ∀ x ∈ ord, wfW x) (A A2 A3 : Option Addr) (c c2 c3 : Nat) (ad : Nat → Addr) (w : World) (hl : xs.length ≤ 1048576) (hl2 : ord.length ≤ 1048576) (hl3 : cr.length ≤ 1048576) (hr : Rd w w.heap.size kcells A xs) (hr2 : Rd w w.heap.size wcells A2 ord) (hr3 : Rd w w.heap.size icells A3 cr) (hwf : ∀ c ∈ cr, wfI c) (hE : EW 7 w ad) :
    Calls Tryd.prog 30 #[.slice A xs.length c, .slice A2 ord.length c2, .slice A3 cr.length c3] w fun e w' => e = .returned (.tuple #[.bool (coB xs ord cr), .int .i64 (opC xs ord cr)]) ∧ Below w.heap.size w w' := by
  have HR := Lib.hid hr
  have HR2 := Lib.hid hr2
  have HR3 := Lib.hid hr3
  have HW := Lib.hid hw
  have HWf := Lib.hid hwf
  have HE := Lib.hid hE
  clear hr hr2 hr3 hw hE hwf
  go_enter Tryd.func30, Tryd.ntmps30
  go_wp2_with fail
  refine (implLack_any xs ord cr HW.out A A2 A3 c c2 c3 ad w hl hl2 hl3 HR.out HR2.out HR3.out HWf.out HE.out).mono ?_
  rintro e w1 ⟨v, rfl, hown, hb⟩
  have HB := Lib.hid hb
  clear hb
  obtain ⟨A4, c4, rfl, -, -⟩ := own_rd wcells_length hown
  clear hown
  by_cases h0 : opC xs ord cr = 0
  · have E := Lib.hid (op_yes h0)
    have HOc := Lib.hid h0
    have hL : lbL xs ord cr = lack (cntOf xs cr) ord := E.out.2.2.1
    rw [hL, h0]
    clear hL h0
    go_wp2
    go_ret2
    exact ⟨by (rw [E.out.2.2.2, HOc.out, nat_zero]; first | done | rfl), HB.out⟩
  · have E := Lib.hid (op_no h0)
    have hc := op_cases xs ord cr
    obtain ⟨oc, hoc⟩ : ∃ n, opC xs ord cr = n := ⟨_, rfl⟩
    rw [hoc] at h0 hc ⊢
    have HOc := Lib.hid hoc
    clear hoc
    rcases hc with hc | rfl | rfl
    · exact absurd hc h0
    all_goals
      clear h0
      go_wp2
      go_ret2
      exact ⟨by (rw [E.out.2, HOc.out]; first | done | rfl), HB.out⟩
end Go.Proofs.YtpjmkcgofmfdaaaDoor
