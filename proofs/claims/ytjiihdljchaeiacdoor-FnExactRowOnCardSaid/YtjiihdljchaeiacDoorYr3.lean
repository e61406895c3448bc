/-
  RowOn: the contracts, of the model and of the program. Condition: the row and the walkers read as told; the sentinel errors lie as the row lists them (the program's).
-/
import Derived.Test.YtjiihdljchaeiacDoorYr2
namespace Go.Proofs.YtjiihdljchaeiacDoor
open Go.ChangeShapes Go.WideShapes Go.ChangeAt Go.RowKit Go.Deep

def rwO (r : List Int) (l : List Wal) : Option Nat := firstO [chk 5 (yOk r), chk 5 (vsOk r.length l)]
theorem rwO_lt {r : List Int} {l : List Wal} : ∀ i, rwO r l = some i → i < 7 := by
  refine firstO_lt ?_
  simp only [List.mem_cons, List.not_mem_nil, or_false]
  rintro o (rfl | rfl) <;> exact chk_lt (by omega)
def roO (r : List Int) (l : List Wal) (d : Int) : Option Nat := firstO [rwO r l, chk 0 (inS d)]
theorem roO_lt {r : List Int} {l : List Wal} {d : Int} : ∀ i, roO r l d = some i → i < 7 := by
  refine firstO_lt ?_
  simp only [List.mem_cons, List.not_mem_nil, or_false]
  rintro o (rfl | rfl)
  · exact rwO_lt
  · exact chk_lt (by omega)
def roC (r : List Int) (l : List Wal) (d : Int) : Int := cdO (roO r l d)
def roL (r : List Int) (l : List Wal) (d : Int) : List Int := if roC r l d = 0 then tnA r.length l (fun x => unD x d) r l.length else []
theorem roL_len (r : List Int) (l : List Wal) (d : Int) : (roL r l d).length ≤ r.length := by
  unfold roL; split
  · rw [tnA_len]; exact Nat.le_refl _
  · simp
theorem ro_bad {r : List Int} {l : List Wal} {d : Int} {i : Nat} (h : roO r l d = some i) : roC r l d = cdN i ∧ roL r l d = [] := by
  have h1 : roC r l d = cdN i := by rw [roC, h]; rfl
  exact ⟨h1, by rw [roL, if_neg (by rw [h1]; exact cdN_ne)]⟩
theorem ro_ok {r : List Int} {l : List Wal} {d : Int} (h : roO r l d = none) : roC r l d = 0 ∧ roL r l d = tnA r.length l (fun x => unD x d) r l.length ∧ yOk r = true ∧ vsOk r.length l = true ∧ inS d = true := by
  have h1 : roC r l d = 0 := by rw [roC, h]; rfl
  have hy : yOk r = true := by
    cases hy : yOk r
    · rw [roO, rwO, hy] at h; cases h
    · rfl
  have hv : vsOk r.length l = true := by
    cases hv : vsOk r.length l
    · rw [roO, rwO, hy, hv] at h; cases h
    · rfl
  have hd : inS d = true := by
    cases hd : inS d
    · rw [roO, rwO, hy, hv, hd] at h; cases h
    · rfl
  exact ⟨h1, by rw [roL, if_pos h1], hy, hv, hd⟩
theorem ro_code (r : List Int) (l : List Wal) (d : Int) : (if yOk r = true then akV r.length l (inS d) else 1) = roC r l d := by
  cases hy : yOk r
  · rw [if_neg (by decide), roC, roO, rwO, hy]; rfl
  rw [if_pos rfl]
  cases hv : vsOk r.length l
  · rw [show akV r.length l (inS d) = 1 from by simp [akV, hv], roC, roO, rwO, hy, hv]; rfl
  cases hd : inS d
  · rw [show akV r.length l false = 2 from by simp [akV, hv], roC, roO, rwO, hy, hv, hd]; rfl
  · rw [show akV r.length l true = 0 from by simp [akV, hv], roC, roO, rwO, hy, hv, hd]; rfl
theorem unD_m1 {x : Wal} (hf : 0 ≤ x.fi) : unD x (0 - 1) = 0 := by rw [unD, if_pos (by omega)]
theorem tnA_congr {n : Nat} {l : List Wal} {m m' : Wal → Int} {r : List Int} (h : ∀ x ∈ l, m x = m' x) : ∀ k, k ≤ l.length → tnA n l m r k = tnA n l m' r k
  | 0, _ => rfl
  | k + 1, hk => by
    have hx : l[k]? = some l[k] := List.getElem?_eq_getElem (by omega)
    rw [tnA_succ hx, tnA_succ hx, tnA_congr h k (by omega), h _ (List.getElem_mem _)]
theorem nil_ownR (w : World) (b : Nat) : w.ownsRow b 5 1 (.slice none 0 0) ([] : List Int).length (([] : List Int).flatMap ycells) := ⟨rfl, .inl ⟨rfl, rfl⟩⟩
theorem empty_ownR (w : World) (b : Nat) (hb : b ≤ w.heap.size) : (w.alloc (.cells #[] 5)).ownsRow b 5 1 (.slice (some ⟨w.heap.size, 0, none⟩) 0 0) ([] : List Int).length (([] : List Int).flatMap ycells) :=
  ⟨rfl, .inr ⟨w.heap.size, 0, #[], rfl, hb, heap_alloc_new w _, Nat.le_refl _, by unfold maxLen; omega, by simp, by simp⟩⟩

set_option maxHeartbeats 1000000 in
theorem l05Row_any (r : List Int) (l : List Wal) (hwf : ∀ x ∈ l, wfV x) (f : Bool) (A B : Option Addr) (ca c : Nat) (w : World) (hrl : r.length ≤ 1048576) (hl : l.length ≤ 1048576) (hra : Rd w w.heap.size ycells A r) (hr : Rd w w.heap.size vcells B l) :
    Calls Tryd.prog 46 #[.slice A r.length ca, .slice B l.length c, .bool f] w fun e w' => e = .returned (.int .i64 (if yOk r = true then akV r.length l f else 1)) ∧ Below w.heap.size w w' := by
  have HRa := Lib.hid hra
  have HR := Lib.hid hr
  clear hra hr
  obtain ⟨u, hu⟩ : ∃ u : Int, (if yOk r = true then akV r.length l f else 1) = u := ⟨_, rfl⟩
  rw [hu]
  go_enter Tryd.func46, Tryd.ntmps46
  go_wp2_with fail
  refine (l05Ok_any r A ca w hrl HRa.out).mono ?_
  rintro e w1 ⟨rfl, rfl⟩
  cases hy : yOk r
  · have E : Hid (u = 1) := by show u = 1; rw [← hu, hy]; rfl
    clear hy hu
    go_wp2
    go_ret
    exact ⟨by (rw [E.out]; first | done | rfl), Below.refl _ _⟩
  have E : Hid (akV r.length l f = u) := by show _ = u; rw [← hu, hy]; rfl
  clear hy hu
  go_wp2_with fail
  refine (l05Asked_any r.length ⟨by omega, by omega⟩ l hwf f B c w hl HR.out).mono ?_
  rintro e w1 ⟨rfl, hb⟩
  have HB := Lib.hid hb
  rw [E.out]
  clear hb
  go_wp2
  go_ret
  exact ⟨rfl, HB.out⟩

set_option maxRecDepth 100000 in
set_option maxHeartbeats 2000000 in
theorem specRowOn_any (r : List Int) (hy0 : ∀ a ∈ r, wfY a) (l : List Wal) (hwf : ∀ x ∈ l, wfV x) (d : Int) (A B : Option Addr) (ca c : Nat) (w : World) (hrl : r.length ≤ 1048576) (hl : l.length ≤ 1048576) (hra : Rd w w.heap.size ycells A r) (hr : Rd w w.heap.size vcells B l) :
    Calls Tryd.prog 21 #[.slice A r.length ca, .slice B l.length c, .int .i64 d] w fun e w' => ∃ v, e = .returned (.tuple #[v, .int .i64 (roC r l d)]) ∧ w'.ownsRow w.heap.size 5 1 v (roL r l d).length ((roL r l d).flatMap ycells) ∧ Below w.heap.size w w' := by
  have HRa := Lib.hid hra
  have HR := Lib.hid hr
  clear hra hr
  go_enter Tryd.func21, Tryd.ntmps21
  go_wp2_with fail
  refine (l05Day_any d _).mono ?_
  rintro e w1 ⟨rfl, rfl⟩
  go_wp2_with fail
  refine (l05Row_any r l hwf (inS d) A B ca c w hrl hl HRa.out HR.out).mono ?_
  rintro e w1 ⟨rfl, hb⟩
  have HB1 := Lib.hid hb
  rw [ro_code]
  clear hb
  cases ho : roO r l d with
  | some i =>
    have E := Lib.hid (ro_bad ho)
    have hne : roC r l d ≠ 0 := by rw [E.out.1]; exact cdN_ne
    obtain ⟨cc, hcc⟩ : ∃ cc, roC r l d = cc := ⟨_, rfl⟩
    have HCC := Lib.hid hcc
    rw [hcc] at hne ⊢
    have hzb : (cc == 0) = false := by simpa using hne
    clear ho hcc
    go_wp2
    go_ret2
    refine ⟨_, by (rw [HCC.out]; first | done | rfl), ?_, HB1.out.alloc HB1.out.size _⟩
    rw [E.out.2]
    exact empty_ownR _ _ HB1.out.size
  | none =>
    obtain ⟨h0, h1, hy, hv, hd⟩ := ro_ok ho
    have hvs := vsOk_out hv
    have E0 := Lib.hid h0
    have E1 := Lib.hid h1
    have HC : Hid (∀ z : World, Below w.heap.size w z → Calls Tryd.prog 47 #[.slice A r.length ca, .slice B l.length c, .int .i64 d] z fun e w' => ∃ A' c', e = .returned (.slice A' r.length c') ∧ w'.ownsRow z.heap.size 5 1 (.slice A' r.length c') r.length ((tnA r.length l (fun x => unD x d) r l.length).flatMap ycells) ∧ Below z.heap.size z w') :=
      fun z hz => l05Whole_any l r.length (by omega) (by omega) hvs.2.2 d (inS_out hd) r rfl (wfY_7 hy hy0) A B ca c z hvs.2.1 (HRa.out.keep hz) (HR.out.keep hz)
    rw [h0]
    clear ho h0 h1 hy hv hd hvs
    go_wp2_with fail
    refine (HC.out _ HB1.out).mono ?_
    rintro e w2 ⟨A', c', rfl, hO, hb⟩
    have HO := Lib.hid hO
    have HB2 : Hid (Below w.heap.size w w2) := HB1.out.trans (hb.mono HB1.out.size)
    clear hO hb
    go_wp2
    go_ret2
    refine ⟨_, by (rw [E0.out]; first | done | rfl), ?_, HB2.out⟩
    rw [E1.out, tnA_len]
    exact own_base HO.out HB1.out.size

set_option maxRecDepth 100000 in
set_option maxHeartbeats 2000000 in
theorem turned_any (n : Nat) (h60 : n ≤ 60) (l : List Wal) (hv : ∀ x ∈ l, vOk n x = true) (ks : List KW) (hkl : ks.map (·.1) = l) (hl : l.length ≤ 8) (f t : Int) (hf : -1 ≤ f - 1 ∧ f ≤ 19000000) (ht : -1 ≤ t ∧ t ≤ 19000000) (r : List Int) (hrn : r.length = n) (hr7 : ∀ a ∈ r, 0 ≤ a ∧ a ≤ 7)
    (A Ak : Option Addr) (c ck : Nat) (w : World) (hr : Rd w w.heap.size ycells A r) (hs : ∀ s ∈ ks, okW n w s) (hkr : Rd w w.heap.size (kcw n) Ak ks) :
    Calls Tryd.prog 49 #[.slice A n c, .slice Ak ks.length ck, .int .i64 f, .int .i64 t] w fun e w' => ∃ A' c', e = .returned (.slice A' n c') ∧ w'.ownsRow w.heap.size 5 1 (.slice A' n c') n ((tnA n l (mW f t) r l.length).flatMap ycells) ∧ Below w.heap.size w w' := by
  have HS := Lib.hid hs
  have HKR := Lib.hid hkr
  have HClone : Hid (Calls Tryd.prog 62 #[.slice A n c] w fun e w' => ∃ A' c', e = .returned (.slice A' n c') ∧ w'.ownsRow w.heap.size 5 1 (.slice A' n c') n (r.flatMap ycells) ∧ Below w.heap.size w w') := by
    have := cloneY_any r A c w (by omega) hr
    rw [hrn] at this
    exact this
  have HAll : Hid (∀ (z : World) (A' : Option Addr) (c' : Nat), Below w.heap.size w z → z.ownsRow w.heap.size 5 1 (.slice A' n c') n (r.flatMap ycells) → Calls Tryd.prog 63 #[.slice A' n c', .slice Ak ks.length ck, .int .i64 f, .int .i64 t] z fun e w' => e = .returned (.tuple #[]) ∧ w'.ownsRow w.heap.size 5 1 (.slice A' n c') n ((tnA n l (mW f t) r l.length).flatMap ycells) ∧ Below w.heap.size z w' ∧ z.grownBy w' (A'.map (·.block))) :=
    fun z A' c' hz hO => turnAll_any n h60 l hv ks hkl hl f t hf ht r hrn hr7 w.heap.size A' Ak c' ck z hz.size (fun s hm => ⟨(HS.out s hm).keep hz, Blk.lt (HS.out s hm)⟩) (HKR.out.below (Nat.le_refl _) hz) hO
  clear hs hkr hr hv hkl hf ht hrn hr7
  go_enter Tryd.func49, Tryd.ntmps49
  go_wp2_with fail
  refine HClone.out.mono ?_
  rintro e w1 ⟨A', c', rfl, hO, hb⟩
  have HB1 := Lib.hid hb
  have HO := Lib.hid hO
  clear hO hb
  go_wp2_with fail
  refine (HAll.out w1 A' c' HB1.out HO.out).mono ?_
  rintro e w2 ⟨rfl, hO, hb, -⟩
  have HB2 : Hid (Below w.heap.size w w2) := HB1.out.trans hb
  have HO2 := Lib.hid hO
  clear hO hb
  go_wp2
  go_ret
  exact ⟨_, _, rfl, HO2.out, HB2.out⟩

set_option maxRecDepth 100000 in
set_option maxHeartbeats 2000000 in
theorem checkRowWalkers_any (r : List Int) (l : List Wal) (hwf : ∀ x ∈ l, wfV x) (A B : Option Addr) (ca c : Nat) (ad : Nat → Addr) (w : World) (hrl : r.length ≤ 1048576) (hl : l.length ≤ 1048576) (hra : Rd w w.heap.size ycells A r) (hr : Rd w w.heap.size vcells B l) (hE : EW 7 w ad) :
    Calls Tryd.prog 48 #[.slice A r.length ca, .slice B l.length c] w fun e w' => e = .returned (erO ad (rwO r l)) ∧ Below w.heap.size w w' := by
  have HRa := Lib.hid hra
  have HR := Lib.hid hr
  have HE := Lib.hid hE
  clear hra hr hE
  have hA0 : Below w.heap.size w (w.alloc (.cells #[.slice A r.length ca] 47)) := (Below.refl _ w).alloc (Nat.le_refl _) _
  have hc0 : (w.alloc (.cells #[.slice A r.length ca] 47)).cell? ⟨w.heap.size, 0, none⟩ = some (.slice A r.length ca) := by
    rw [cell_of_row _ _ _ _ _ _ (heap_alloc_new w (.cells #[.slice A r.length ca] 47))]; rfl
  have HCh : Hid (Calls Tryd.prog 61 #[.slice (some ⟨w.heap.size, 0, none⟩) 1 1] (w.alloc (.cells #[.slice A r.length ca] 47)) fun e w' => e = .returned (erO ad (chk 5 (yOk r))) ∧ Below (w.alloc (.cells #[.slice A r.length ca] 47)).heap.size (w.alloc (.cells #[.slice A r.length ca] 47)) w') :=
    checkRows1_any r A ca w.heap.size 1 ad _ hrl hc0 (HRa.out.keep hA0) (HE.out.below hA0 (Nat.le_refl _))
  clear hc0
  go_enter Tryd.func48, Tryd.ntmps48
  go_wp2_with fail
  refine HCh.out.mono ?_
  rintro e w1 ⟨rfl, hb⟩
  have HB1 : Hid (Below w.heap.size w w1) := hA0.trans (hb.mono hA0.size)
  clear hb hA0 HCh
  obtain ⟨v0, hv0⟩ : ∃ v, erO ad (chk 5 (yOk r)) = v := ⟨_, rfl⟩
  have HV0 := Lib.hid hv0
  have P0 : Hid (isE v0) := by show isE v0; rw [← hv0]; exact erO_isE _ _
  rw [hv0]
  clear hv0
  go_wp2_with fail
  refine (checkWalkers_any r.length ⟨by omega, by omega⟩ l hwf B c ad _ hl (HR.out.keep HB1.out) (HE.out.below HB1.out (Nat.le_refl _))).mono ?_
  rintro e w2 ⟨rfl, hb⟩
  have HB2 : Hid (Below w.heap.size w w2) := HB1.out.trans (hb.mono HB1.out.size)
  clear hb HB1
  obtain ⟨v1, hv1⟩ : ∃ v, erO ad (chk 5 (vsOk r.length l)) = v := ⟨_, rfl⟩
  have HV1 := Lib.hid hv1
  have P1 : Hid (isE v1) := by show isE v1; rw [← hv1]; exact erO_isE _ _
  rw [hv1]
  clear hv1
  go_wp2_with (refine wpList_twoErrs rfl (.tmp 7) (.tmp 11) rfl P0.out P1.out rfl rfl ?_)
  have q0 := new_cell2 w2 v0 v1 57
  rw [← HV0.out, ← HV1.out] at q0 ⊢
  refine (firstErr2_O ad _ _ _ _ _ q0.1 q0.2).mono ?_
  rintro e w9 ⟨rfl, rfl⟩
  rw [show firstO [chk 5 (yOk r), chk 5 (vsOk r.length l)] = rwO r l from rfl]
  obtain ⟨v2, hv2⟩ : ∃ v, erO ad (rwO r l) = v := ⟨_, rfl⟩
  have HV2 := Lib.hid hv2
  rw [hv2]
  clear q0 hv2
  have L2 := Lib.hid (HB2.out.alloc HB2.out.size (.cells #[erO ad (chk 5 (yOk r)), erO ad (chk 5 (vsOk r.length l))] 57))
  go_wp2
  go_ret
  exact ⟨by (rw [HV2.out]; first | done | rfl), L2.out⟩
set_option maxRecDepth 100000 in
set_option maxHeartbeats 2000000 in
theorem implRowOn_any (r : List Int) (hy0 : ∀ a ∈ r, wfY a) (l : List Wal) (hwf : ∀ x ∈ l, wfV x) (d : Int) (A B : Option Addr) (ca c : Nat) (ad : Nat → Addr) (w : World) (hrl : r.length ≤ 1048576) (hl : l.length ≤ 1048576) (hra : Rd w w.heap.size ycells A r) (hr : Rd w w.heap.size vcells B l) (hE : EW 7 w ad) :
    Calls Tryd.prog 23 #[.slice A r.length ca, .slice B l.length c, .int .i64 d] w fun e w' => ∃ v, e = .returned (.tuple #[v, .int .i64 (roC r l d)]) ∧ w'.ownsRow w.heap.size 5 1 v (roL r l d).length ((roL r l d).flatMap ycells) ∧ Below w.heap.size w w' := by
  have HRa := Lib.hid hra
  have HR := Lib.hid hr
  have HE := Lib.hid hE
  clear hra hr hE
  go_enter Tryd.func23, Tryd.ntmps23
  go_wp2_with fail
  refine (checkRowWalkers_any r l hwf A B ca c ad _ hrl hl HRa.out HR.out HE.out).mono ?_
  rintro e w1 ⟨rfl, hb⟩
  have HB1 := Lib.hid hb
  clear hb
  obtain ⟨v0, hv0⟩ : ∃ v, erO ad (rwO r l) = v := ⟨_, rfl⟩
  have HV0 := Lib.hid hv0
  have P0 : Hid (isE v0) := by show isE v0; rw [← hv0]; exact erO_isE _ _
  rw [hv0]
  clear hv0
  go_wp2_with fail
  refine (checkDay_any d ad _ (HE.out.below HB1.out (Nat.le_refl _))).mono ?_
  rintro e w2 ⟨rfl, rfl⟩
  obtain ⟨v1, hv1⟩ : ∃ v, erO ad (chk 0 (inS d)) = v := ⟨_, rfl⟩
  have HV1 := Lib.hid hv1
  have P1 : Hid (isE v1) := by show isE v1; rw [← hv1]; exact erO_isE _ _
  rw [hv1]
  clear hv1
  go_wp2_with (refine wpList_twoErrs rfl (.tmp 11) (.tmp 13) rfl P0.out P1.out rfl rfl ?_)
  have q0 := new_cell2 w1 v0 v1 57
  rw [← HV0.out, ← HV1.out] at q0 ⊢
  refine (firstErr2_O ad _ _ _ _ _ q0.1 q0.2).mono ?_
  rintro e w9 ⟨rfl, rfl⟩
  rw [HV0.out, HV1.out]
  have L2 : Below w.heap.size w (w1.alloc (.cells #[v0, v1] 57)) := HB1.out.alloc HB1.out.size _
  obtain ⟨w3, hw3⟩ : ∃ w3, w1.alloc (.cells #[v0, v1] 57) = w3 := ⟨_, rfl⟩
  rw [hw3] at L2 ⊢
  have M2 := Lib.hid L2
  rw [show firstO [rwO r l, chk 0 (inS d)] = roO r l d from rfl]
  clear q0 hw3 L2 HB1 HV0 HV1 P0 P1
  cases ho : roO r l d with
  | some i =>
    have hi : i < 7 := roO_lt i ho
    have E := Lib.hid (ro_bad ho)
    have HIi := Lib.hid hi
    rw [erO_some]
    clear ho hi
    go_wp2_with fail
    refine (codeOf_O (HE.out.below M2.out (Nat.le_refl _)) i HIi.out).mono ?_
    rintro e w4 ⟨rfl, rfl⟩
    obtain ⟨cc, hcc⟩ : ∃ cc, cdN i = cc := ⟨_, rfl⟩
    have HCC := Lib.hid hcc
    rw [hcc]
    clear hcc
    go_wp2
    go_ret2
    refine ⟨_, by (rw [E.out.1, HCC.out]; first | done | rfl), ?_, M2.out⟩
    rw [E.out.2]
    exact nil_ownR _ _
  | none =>
    obtain ⟨h0, h1, hy, hv, hd⟩ := ro_ok ho
    have hvs := vsOk_out hv
    have hdi := inS_out hd
    have E0 := Lib.hid h0
    have E1 := Lib.hid h1
    have hr7 := wfY_7 hy hy0
    have HR7 := Lib.hid hr7
    have HVS := Lib.hid hvs
    have HDI := Lib.hid hdi
    obtain ⟨N, hN⟩ : ∃ N, r.length = N := ⟨_, rfl⟩
    have HN := Lib.hid hN
    have HRa3 : Hid (Rd w3 w3.heap.size ycells A r) := HRa.out.keep M2.out
    rw [hN] at E1 HVS ⊢
    rw [erO_none]
    have h1N : 1 ≤ N := by have := HVS.out.1.1; omega
    have h60N : N ≤ 60 := by have := HVS.out.1.2; omega
    clear ho h0 h1 hy hv hd hvs hdi hr7 hN
    go_wp2_with fail
    refine (allWalks_any N h1N h60N l HVS.out.2.2 B c _ HVS.out.2.1 (HR.out.keep M2.out)).mono ?_
    rintro e w4 ⟨A', c', ks, rfl, hO, hks, hok, hb⟩
    have HB4 : Hid (Below w.heap.size w w4) := M2.out.trans (hb.mono M2.out.size)
    have HRd : Hid (Rd w4 w4.heap.size (kcw N) A' ks) := own_rd2 (kcw_length N) hO
    have HKS := Lib.hid hks
    have HOK := Lib.hid hok
    have HRa4 : Hid (Rd w4 w4.heap.size ycells A r) := HRa3.out.keep hb
    clear hO hks hok hb
    go_wp2_with fail
    refine (turned_any N h60N l HVS.out.2.2 ks HKS.out HVS.out.2.1 0 d ⟨by omega, by omega⟩ ⟨by have := HDI.out; omega, by have := HDI.out; omega⟩ r HN.out HR7.out A A' ca c' _ HRa4.out HOK.out HRd.out).mono ?_
    rintro e w5 ⟨A5, c5, rfl, hO, hb⟩
    have HB5 : Hid (Below w.heap.size w w5) := HB4.out.trans (hb.mono HB4.out.size)
    have HO5 := Lib.hid hO
    clear hO hb
    go_wp2
    go_ret2
    refine ⟨_, by (rw [E0.out]; first | done | rfl), ?_, HB5.out⟩
    have hcg : tnA N l (mW 0 d) r l.length = tnA N l (fun x => unD x d) r l.length := tnA_congr (fun x hx => by
      have := (vOk_out (HVS.out.2.2 x hx)).1.1
      rw [mW, unD_m1 this, Int.sub_zero]) _ (Nat.le_refl _)
    rw [E1.out, ← hcg, tnA_len, HN.out]
    exact own_base HO5.out HB4.out.size
end Go.Proofs.YtjiihdljchaeiacDoor
