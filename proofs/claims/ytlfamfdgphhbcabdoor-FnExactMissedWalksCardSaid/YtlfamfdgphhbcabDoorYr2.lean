/-
  RowOn: the contracts, of the model and of the program. Condition: the row and the walkers read as told; the sentinel errors lie as the row lists them (the program's).
-/
import Derived.Test.YtlfamfdgphhbcabDoorYr1
import Derived.Test.YtlfamfdgphhbcabDoorYd
namespace Go.Proofs.YtlfamfdgphhbcabDoor
open Go.ChangeShapes Go.WideShapes Go.ChangeAt Go.RowKit Go.Deep

theorem wfY_7 {r : List Int} (hv : yOk r = true) (hwf : ∀ a ∈ r, wfY a) : ∀ a ∈ r, 0 ≤ a ∧ a ≤ 7 := fun a ha => ⟨(hwf a ha).1, (yOk_out hv).1 a ha⟩
set_option maxRecDepth 100000 in
set_option maxHeartbeats 4000000 in
theorem l05Whole_any (l : List Wal) (n : Nat) (h1 : 1 ≤ n) (h60 : n ≤ 60) (hv : ∀ x ∈ l, vOk n x = true) (d : Int) (hd : 0 ≤ d ∧ d ≤ 10000) (r : List Int) (hrn : r.length = n) (hr7 : ∀ a ∈ r, 0 ≤ a ∧ a ≤ 7) (A B : Option Addr) (ca c : Nat) (w : World) (hl : l.length ≤ 8) (hra : Rd w w.heap.size ycells A r) (hr : Rd w w.heap.size vcells B l) :
    Calls Tryd.prog 43 #[.slice A r.length ca, .slice B l.length c, .int .i64 d] w fun e w' => ∃ A' c', e = .returned (.slice A' n c') ∧ w'.ownsRow w.heap.size 5 1 (.slice A' n c') n ((tnA n l (fun x => unD x d) r l.length).flatMap ycells) ∧ Below w.heap.size w w' := by
  obtain ⟨i0, hi, hz0, hz1, hz2⟩ := info_parts Tryd.infoY
  have HI := Lib.hid hi
  have HZ0 := Lib.hid hz0
  have HZ1 := Lib.hid hz1
  have HZ2 := Lib.hid hz2
  clear hi hz0 hz1 hz2
  have HRa := Lib.hid hra
  have HR := Lib.hid hr
  have HV := Lib.hid hv
  have HR7 := Lib.hid hr7
  have HRN := Lib.hid hrn
  have HD := Lib.hid hd
  have hdb : dayB d := ⟨by omega, by omega⟩
  have HDB := Lib.hid hdb
  have hrl : r.length ≤ 60 := by omega
  clear hra hr hv hr7 hrn hd hdb
  go_enter Tryd.func43, Tryd.ntmps43
  go_wp2_with (at_builtin; refine wpList_append_any _ rfl (.tmp 9) (.tmp 10) 37 37 rfl w.heap.size 5 i0 (.int .u8 0) 1 1 Tryd.underlying37 HI.out HZ0.out HZ1.out HZ2.out rfl (by decide) _ 0 [] rfl ?own _ r.length (r.flatMap ycells) rfl ?src ?c3 ?c4 ?c5 ?_)
  case own => exact empty_own w _ 1
  case src => exact src_of_rd _ Tryd.underlying37 ycells_length ycells_one (HRa.out.keep ((Below.refl _ w).alloc (Nat.le_refl _) _))
  case c3 => unfold maxLen; omega
  case c4 => omega
  case c5 => simp
  intro v' w2 hown hg _
  have hB : Below w.heap.size w w2 := ((Below.refl _ w).alloc (Nat.le_refl _) _).grown hg (by simp) (fun k e => by
    have e2 : w.heap.size = k := by simpa [Value.ownBlock] using e
    omega)
  have hown2 : w2.ownsRow w.heap.size 5 1 v' r.length (r.flatMap ycells) := by simpa using hown
  obtain ⟨A', c', rfl, -, -⟩ := own_rd ycells_length hown2
  clear hown hg
  have HO2 := Lib.hid hown2
  have HB2 := Lib.hid hB
  clear hB hown2
  obtain ⟨N, hN⟩ : ∃ N, r.length = N := ⟨_, rfl⟩
  have HN := Lib.hid hN
  have hNn : N = n := by rw [← hN, HRN.out]
  subst hNn
  rw [hN] at HO2 hrl ⊢
  clear hN
  go_wp2_with fail
  go_loopw [7, 8] (fun v i wr => ∃ (k : Nat) (A1 : Option Addr) (c1 : Nat), k ≤ l.length ∧ i = .int .i64 k ∧ v = .slice A1 N c1 ∧ wr.ownsRow w.heap.size 5 1 (.slice A1 N c1) N ((tnA N l (fun x => unD x d) r k).flatMap ycells) ∧ Below w.heap.size w wr)
    (fun _ i _ => l.length - (intOf i).toNat)
  case atStart => exact ⟨0, _, _, by omega, rfl, rfl, HO2.out, HB2.out⟩
  case round =>
    clear HO2 HB2
    obtain ⟨k, A1, c1, hk, rfl, rfl, hO, hB⟩ := hrel
    have HO := Lib.hid hO
    have HBw := Lib.hid hB
    clear hO hB
    have hk0 : (0 : Int) ≤ (k : Int) := Int.natCast_nonneg _
    by_cases hlt : k < l.length
    · obtain ⟨x, hx⟩ : ∃ x, l[k]? = some x := ⟨_, List.getElem?_eq_getElem hlt⟩
      obtain ⟨b, o, rfl, hbl, hrow⟩ := HR.out.at_ vcells_length hx
      have hvx := HV.out x (List.mem_of_getElem? hx)
      have HXO := Lib.hid (vOk_out hvx)
      have hui := unD_in (x := x) HXO.out.1.1 HXO.out.2.1.1 HDB.out.1
      have hTn : tnA N l (fun x => unD x d) r (k + 1) = tnR (tnA N l (fun x => unD x d) r k) (byW N x (unD x d)) := tnA_succ hx
      obtain ⟨ud, hud⟩ : ∃ u, unD x d = u := ⟨_, rfl⟩
      have HUD := Lib.hid hud
      rw [hud] at hui hTn
      have hm : 0 ≤ ud ∧ ud ≤ 20000000 := ⟨hui.1, by have := HD.out; omega⟩
      have HTN := Lib.hid hTn
      obtain ⟨X, hX⟩ : ∃ X, tnA N l (fun x => unD x d) r k = X := ⟨_, rfl⟩
      have HXl : Hid (X.length = N) := by show X.length = N; rw [← hX, tnA_len, HN.out]
      have HX7 : Hid (∀ a ∈ X, 0 ≤ a ∧ a ≤ 7) := by show ∀ a ∈ X, _; rw [← hX]; exact tnA_in HR7.out k
      rw [hX] at HO HTN
      have HTurn : Hid (∀ z : World, Below wr.heap.size wr z → Calls Tryd.prog 45 #[.slice A1 N c1, .agg (vcells x).toArray, .int .i64 ud] z fun e w' => ∃ A' c', e = .returned (.slice A' N c') ∧ w'.ownsRow z.heap.size 5 1 (.slice A' N c') N ((tnR X (byW N x ud)).flatMap ycells) ∧ Below z.heap.size z w') := by
        intro z hz
        have hown := own_keep' HO.out hz
        have hrd : Rd z z.heap.size ycells A1 X := own_rd2 ycells_length (by rw [HXl.out]; exact hown)
        have := l05Turned_any N h1 h60 x hvx ud hm X HXl.out HX7.out A1 c1 z hrd
        rw [HXl.out] at this
        exact this
      have HRow := Lib.hid hrow
      have hk8 : (k : Int) < l.length := by omega
      clear hx hvx hui hTn hud hm hX hrow
      go_wp2_with fail
      refine wp_region_held_drew (S := fun w' => Below wr.heap.size wr w') (by kernel_rfl) (Below.refl _ _).drew (fun hHeld => ?_)
      refine wpAnyH_take (i := 0) (v := .slice A1 N c1) rfl (by kernel_rfl) (by kernel_rfl) (by kernel_rfl) (fun _ _ _ h => h) (Or.inl ⟨by rfl, fun w' h => by go_simp⟩) (by assumption) ?_
      try simp only [Act.put, List.getElem_toArray, List.getElem_cons_zero, List.getElem_cons_succ, List.setIfInBounds_toArray, List.set_cons_zero, List.set_cons_succ]
      refine wpAnyH_take (i := 1) (v := .slice (some ⟨b, o, none⟩) l.length c) rfl (by kernel_rfl) (by kernel_rfl) (by kernel_rfl) (fun _ _ _ h => h) (Or.inl ⟨by rfl, fun w' h => by go_simp⟩) (by assumption) ?_
      try simp only [Act.put, List.getElem_toArray, List.getElem_cons_zero, List.getElem_cons_succ, List.setIfInBounds_toArray, List.set_cons_zero, List.set_cons_succ]
      refine wpAnyH_take (i := 2) (v := .int .i64 k) rfl (by kernel_rfl) (by kernel_rfl) (by kernel_rfl) (fun _ _ _ h => h) (Or.inl ⟨by rfl, fun w' h => by go_simp⟩) (by assumption) ?_
      try simp only [Act.put, List.getElem_toArray, List.getElem_cons_zero, List.getElem_cons_succ, List.setIfInBounds_toArray, List.set_cons_zero, List.set_cons_succ]
      refine wpAnyH_take (i := 3) (v := .pointer (some ⟨b, o + k * 6, none⟩)) rfl (by kernel_rfl) (by kernel_rfl) (by kernel_rfl) (fun _ _ _ h => h) (Or.inl ⟨by rfl, fun w' h => by go_simp⟩) (by assumption) ?_
      try simp only [Act.put, List.getElem_toArray, List.getElem_cons_zero, List.getElem_cons_succ, List.setIfInBounds_toArray, List.set_cons_zero, List.set_cons_succ]
      refine' wpAnyH_take (i := 4) (v := _) rfl (by kernel_rfl) (by kernel_rfl) (by kernel_rfl) (fun _ _ _ h => h) (yieldsIf_load_mid (by rfl) 80 (.tmp 21) rfl b (o + k * 6) rfl (vcells x) _ (fun w' h => fun j v hv => (rangeAt_below HRow.out (HBw.out.trans (h.mono HBw.out.size)) hbl) j v hv) Tryd.underlying80 rfl Tryd.sizeVI) (by assumption) ?_
      try simp only [Act.put, List.getElem_toArray, List.getElem_cons_zero, List.getElem_cons_succ, List.setIfInBounds_toArray, List.set_cons_zero, List.set_cons_succ]
      refine wpAnyH_take (i := 5) (v := .slice (some ⟨b, o, none⟩) l.length c) rfl (by kernel_rfl) (by kernel_rfl) (by kernel_rfl) (fun _ _ _ h => h) (Or.inl ⟨by rfl, fun w' h => by go_simp⟩) (by assumption) ?_
      try simp only [Act.put, List.getElem_toArray, List.getElem_cons_zero, List.getElem_cons_succ, List.setIfInBounds_toArray, List.set_cons_zero, List.set_cons_succ]
      refine wpAnyH_take (i := 6) (v := .int .i64 k) rfl (by kernel_rfl) (by kernel_rfl) (by kernel_rfl) (fun _ _ _ h => h) (Or.inl ⟨by rfl, fun w' h => by go_simp⟩) (by assumption) ?_
      try simp only [Act.put, List.getElem_toArray, List.getElem_cons_zero, List.getElem_cons_succ, List.setIfInBounds_toArray, List.set_cons_zero, List.set_cons_succ]
      refine wpAnyH_take (i := 7) (v := .pointer (some ⟨b, o + k * 6, none⟩)) rfl (by kernel_rfl) (by kernel_rfl) (by kernel_rfl) (fun _ _ _ h => h) (Or.inl ⟨by rfl, fun w' h => by go_simp⟩) (by assumption) ?_
      try simp only [Act.put, List.getElem_toArray, List.getElem_cons_zero, List.getElem_cons_succ, List.setIfInBounds_toArray, List.set_cons_zero, List.set_cons_succ]
      refine' wpAnyH_take (i := 8) (v := _) rfl (by kernel_rfl) (by kernel_rfl) (by kernel_rfl) (fun _ _ _ h => h) (yieldsIf_load_mid (by rfl) 80 (.tmp 25) rfl b (o + k * 6) rfl (vcells x) _ (fun w' h => fun j v hv => (rangeAt_below HRow.out (HBw.out.trans (h.mono HBw.out.size)) hbl) j v hv) Tryd.underlying80 rfl Tryd.sizeVI) (by assumption) ?_
      try simp only [Act.put, List.getElem_toArray, List.getElem_cons_zero, List.getElem_cons_succ, List.setIfInBounds_toArray, List.set_cons_zero, List.set_cons_succ]
      refine wpAnyH_take (i := 9) (v := .int .i64 d) rfl (by kernel_rfl) (by kernel_rfl) (by kernel_rfl) (fun _ _ _ h => h) (Or.inl ⟨by rfl, fun w' h => by go_simp⟩) (by assumption) ?_
      try simp only [Act.put, List.getElem_toArray, List.getElem_cons_zero, List.getElem_cons_succ, List.setIfInBounds_toArray, List.set_cons_zero, List.set_cons_succ]
      obtain ⟨D0, hD0⟩ : ∃ D0, wr.drew = D0 := ⟨_, rfl⟩
      rw [hD0] at hHeld ⊢
      clear hD0
      refine wpAnyH_ready (rs := [10]) (by kernel_rfl) (by simp) ?_
      refine AllReadyH.cons rfl (fun K hK => ?_) AllReadyH.nil
      refine if_wanted rfl ?_
      go_simp
      refine (l05Until_any x HXO.out.1 HXO.out.2.1 d HDB.out _).mono ?_
      rintro e z1 ⟨rfl, hb⟩
      have hH2 : Below wr.heap.size wr z1 := hHeld.trans (hb.mono hHeld.size)
      clear hb hHeld
      dsimp only
      refine hK.out _ _ hH2 (fun hHeld => ?_)
      clear hK K hH2
      try simp only [Act.put, List.getElem_toArray, List.getElem_cons_zero, List.getElem_cons_succ, List.setIfInBounds_toArray, List.set_cons_zero, List.set_cons_succ]
      rw [show unD x d = ud from HUD.out]
      refine wpAnyH_ready (rs := [11]) (by kernel_rfl) (by simp) ?_
      refine AllReadyH.cons rfl (fun K hK => ?_) AllReadyH.nil
      refine if_wanted rfl ?_
      go_simp
      refine (HTurn.out z1 hHeld).mono ?_
      rintro e z2 ⟨A2, c2, rfl, hO2, hb⟩
      have hH2 : Below wr.heap.size wr z2 := hHeld.trans (hb.mono hHeld.size)
      have HO2 := Lib.hid hO2
      have hz1 := hHeld.size
      clear hO2
      clear hb hHeld
      dsimp only
      refine hK.out _ _ hH2 (fun hHeld => ?_)
      clear hK K hH2
      try simp only [Act.put, List.getElem_toArray, List.getElem_cons_zero, List.getElem_cons_succ, List.setIfInBounds_toArray, List.set_cons_zero, List.set_cons_succ]
      refine wpAnyH_ready (rs := [12]) (by kernel_rfl) (by simp) ?_
      refine AllReadyH.cons rfl (fun K hK => ?_) AllReadyH.nil
      refine if_wanted rfl ?_
      refine wp_assign0 (v := .slice A2 N c2) rfl rfl ?_
      refine hK.out _ _ hHeld (fun hHeld => ?_)
      clear hK K
      try simp only [Act.put, List.getElem_toArray, List.getElem_cons_zero, List.getElem_cons_succ, List.setIfInBounds_toArray, List.set_cons_zero, List.set_cons_succ]
      refine wpAnyH_done (by kernel_rfl) ?_ _
      try simp only [Act.put, List.getElem_toArray, List.getElem_cons_zero, List.getElem_cons_succ, List.setIfInBounds_toArray, List.set_cons_zero, List.set_cons_succ]
      have hb := hHeld
      clear hHeld
      have HB2 : Hid (Below w.heap.size w z2) := HBw.out.trans (hb.mono HBw.out.size)
      have HOz : Hid (z2.ownsRow w.heap.size 5 1 (.slice A2 N c2) N ((tnA N l (fun x => unD x d) r (k + 1)).flatMap ycells)) := by show z2.ownsRow _ _ _ _ _ _; rw [HTN.out]; exact own_base HO2.out (Nat.le_trans HBw.out.size hz1)
      clear hb hz1
      go_wp2
      go_roundw
      case rel => exact ⟨k + 1, A2, c2, by omega, by go_num, rfl, HOz.out, HB2.out⟩
      case measure => simp [intOf]; omega
    · obtain rfl : k = l.length := by omega
      go_wp2
      go_ret
      exact ⟨_, _, rfl, HO.out, HBw.out⟩
end Go.Proofs.YtlfamfdgphhbcabDoor
