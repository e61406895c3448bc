/-
  DaysOf and DayOf: the contracts, of the model. Condition: the row and the walkers read as told.
-/
import Derived.Test.YtjgafdfffmfhhadDoorDs0
namespace Go.Proofs.YtjgafdfffmfhhadDoor
open Go.ChangeShapes Go.WideShapes Go.ChangeAt Go.RowKit Go.Deep

theorem onB_in (d : Int) (x : Wal) : 0 ≤ onB d x ∧ onB d x ≤ 1 := by unfold onB; split <;> omega
set_option maxRecDepth 100000 in
set_option maxHeartbeats 4000000 in
theorem l05Behind_any (l : List Wal) (n : Nat) (h1 : 1 ≤ n) (h60 : n ≤ 60) (hv : ∀ x ∈ l, vOk n x = true) (d : Int) (hd : 0 ≤ d ∧ d ≤ 10000) (r : List Int) (hrn : r.length = n) (hr7 : ∀ a ∈ r, 0 ≤ a ∧ a ≤ 7) (A B : Option Addr) (ca c : Nat) (w : World) (hl : l.length ≤ 8) (hra : Rd w w.heap.size ycells A r) (hr : Rd w w.heap.size vcells B l) :
    Calls Tryd.prog 62 #[.slice A n ca, .slice B l.length c, .int .i64 d] w fun e w' => ∃ A' c', e = .returned (.slice A' n c') ∧ w'.ownsRow w.heap.size 5 1 (.slice A' n c') n ((tnA n l (onB d) r l.length).flatMap ycells) ∧ Below w.heap.size w w' := by
  obtain ⟨i0, hi, hz0, hz1, hz2⟩ := info_parts Tryd.infoY
  have HI := Lib.hid hi
  have HZ0 := Lib.hid hz0
  have HZ1 := Lib.hid hz1
  have HZ2 := Lib.hid hz2
  clear hi hz0 hz1 hz2
  have HRa := Lib.hid hra
  have HR := Lib.hid hr
  have HV := Lib.hid hv
  have HR7 := Lib.hid hr7
  have HRN := Lib.hid hrn
  have HD := Lib.hid hd
  have hdb : dayB d := ⟨by omega, by omega⟩
  have HDB := Lib.hid hdb
  have hrl : n ≤ 60 := h60
  have HSrc : Hid (r.length = n) := hrn
  clear hra hr hv hr7 hrn hd hdb
  go_enter Tryd.func62, Tryd.ntmps62
  go_wp2_with (at_builtin; refine wpList_append_any _ rfl (.tmp 9) (.tmp 10) 58 58 rfl w.heap.size 5 i0 (.int .u8 0) 1 1 Tryd.underlying58 HI.out HZ0.out HZ1.out HZ2.out rfl (by decide) _ 0 [] rfl ?own _ n (r.flatMap ycells) rfl ?src ?c3 ?c4 ?c5 ?_)
  case own => exact empty_own w _ 1
  case src =>
    rw [show n = r.length from HSrc.out.symm]
    exact src_of_rd _ Tryd.underlying58 ycells_length ycells_one (HRa.out.keep ((Below.refl _ w).alloc (Nat.le_refl _) _))
  case c3 => unfold maxLen; omega
  case c4 => omega
  case c5 => simp [HSrc.out]
  intro v' w2 hown hg _
  have hB : Below w.heap.size w w2 := ((Below.refl _ w).alloc (Nat.le_refl _) _).grown hg (by simp) (fun k e => by
    have e2 : w.heap.size = k := by simpa [Value.ownBlock] using e
    omega)
  have hown2 : w2.ownsRow w.heap.size 5 1 v' n (r.flatMap ycells) := by simpa using hown
  have hown3 : w2.ownsRow w.heap.size 5 1 v' r.length (r.flatMap ycells) := by rw [HSrc.out]; exact hown2
  obtain ⟨A', c', rfl, -, -⟩ := own_rd ycells_length hown3
  rw [HSrc.out] at hown2
  clear hown hg hown3
  rw [HSrc.out]
  have HO2 := Lib.hid hown2
  have HB2 := Lib.hid hB
  clear hB hown2
  go_wp2_with fail
  go_loopw [7, 8] (fun v i wr => ∃ (k : Nat) (A1 : Option Addr) (c1 : Nat), k ≤ l.length ∧ i = .int .i64 k ∧ v = .slice A1 n c1 ∧ wr.ownsRow w.heap.size 5 1 (.slice A1 n c1) n ((tnA n l (onB d) r k).flatMap ycells) ∧ Below w.heap.size w wr)
    (fun _ i _ => l.length - (intOf i).toNat)
  case atStart => exact ⟨0, _, _, by omega, rfl, rfl, HO2.out, HB2.out⟩
  case round =>
    clear HO2 HB2
    obtain ⟨k, A1, c1, hk, rfl, rfl, hO, hB⟩ := hrel
    have HO := Lib.hid hO
    have HBw := Lib.hid hB
    clear hO hB
    have hk0 : (0 : Int) ≤ (k : Int) := Int.natCast_nonneg _
    by_cases hlt : k < l.length
    · obtain ⟨x, hx⟩ : ∃ x, l[k]? = some x := ⟨_, List.getElem?_eq_getElem hlt⟩
      obtain ⟨b, o, rfl, hbl, hrow⟩ := HR.out.at_ vcells_length hx
      have hvx := HV.out x (List.mem_of_getElem? hx)
      have HXO := Lib.hid (vOk_out hvx)
      have hTn : tnA n l (onB d) r (k + 1) = tnR (tnA n l (onB d) r k) (byW n x (onB d x)) := tnA_succ hx
      obtain ⟨X, hX⟩ : ∃ X, tnA n l (onB d) r k = X := ⟨_, rfl⟩
      have HXl : Hid (X.length = n) := by show X.length = n; rw [← hX, tnA_len, HRN.out]
      have HX7 : Hid (∀ a ∈ X, 0 ≤ a ∧ a ≤ 7) := by show ∀ a ∈ X, _; rw [← hX]; exact tnA_in HR7.out k
      rw [hX] at HO hTn
      have HTurn : Hid (∀ z : World, Below wr.heap.size wr z → Calls Tryd.prog 92 #[.slice A1 n c1, .agg (vcells x).toArray, .int .i64 1] z fun e w' => ∃ A' c', e = .returned (.slice A' n c') ∧ w'.ownsRow z.heap.size 5 1 (.slice A' n c') n ((tnR X (byW n x 1)).flatMap ycells) ∧ Below z.heap.size z w') := by
        intro z hz
        have hown := own_keep' HO.out hz
        have hrd : Rd z z.heap.size ycells A1 X := own_rd2 ycells_length (by rw [HXl.out]; exact hown)
        have := l05Turned_any n h1 h60 x hvx 1 (by omega) X HXl.out HX7.out A1 c1 z hrd
        rw [HXl.out] at this
        exact this
      have HRow : Hid (wr.rangeAt b (o + k * 6) (vcells x)) := rangeAt_below hrow HBw.out hbl
      have hbl2 : Hid (b < wr.heap.size) := Nat.lt_of_lt_of_le hbl HBw.out.size
      have hk8 : (k : Int) < l.length := by omega
      cases hon : onD x d
      · have hXX : tnA n l (onB d) r (k + 1) = X := by
          rw [hTn, show onB d x = 0 from by rw [onB, hon]; rfl, show byW n x 0 = fun _ => 0 from funext fun i => by simp [byW], tnR_zero HX7.out]
        have HXX := Lib.hid hXX
        have HON := Lib.hid hon
        clear hx hvx hTn hX hrow hon hXX
        go_wp2_with (refine wpList_load_mid rfl 111 (.tmp 20) rfl b (o + k * 6) rfl (vcells x) _ HRow.out Tryd.underlying111 rfl Tryd.sizeVI ?_)
        refine (l05On_any x HXO.out.1 HXO.out.2.1 d HDB.out _).mono ?_
        rintro e z1 ⟨rfl, hb⟩
        have HB1 : Hid (Below w.heap.size w z1) := HBw.out.trans (hb.mono HBw.out.size)
        have HO1 := Lib.hid (own_keep' HO.out hb)
        rw [HON.out]
        clear hb
        go_wp2
        go_roundw
        case rel => exact ⟨k + 1, A1, c1, by omega, by go_num, rfl, by rw [HXX.out]; exact HO1.out, HB1.out⟩
        case measure => simp [intOf]; omega
      · have hXX : tnA n l (onB d) r (k + 1) = tnR X (byW n x 1) := by
          rw [hTn, show onB d x = 1 from by rw [onB, hon]; rfl]
        have HXX := Lib.hid hXX
        have HON := Lib.hid hon
        clear hx hvx hTn hX hrow hon hXX
        go_wp2_with (refine wpList_load_mid rfl 111 (.tmp 20) rfl b (o + k * 6) rfl (vcells x) _ HRow.out Tryd.underlying111 rfl Tryd.sizeVI ?_)
        refine (l05On_any x HXO.out.1 HXO.out.2.1 d HDB.out _).mono ?_
        rintro e z1 ⟨rfl, hb⟩
        have HBz : Hid (Below wr.heap.size wr z1) := hb
        have HRow1 : Hid (z1.rangeAt b (o + k * 6) (vcells x)) := rangeAt_below HRow.out hb hbl2.out
        rw [HON.out]
        clear hb
        go_wp2_with (refine wpList_load_mid rfl 111 (.tmp 27) rfl b (o + k * 6) rfl (vcells x) _ HRow1.out Tryd.underlying111 rfl Tryd.sizeVI ?_)
        refine (HTurn.out z1 HBz.out).mono ?_
        rintro e z2 ⟨A2, c2, rfl, hO2, hb⟩
        have HO2 := Lib.hid hO2
        have HZ1 : Hid (wr.heap.size ≤ z1.heap.size) := HBz.out.size
        have HB2 : Hid (Below w.heap.size w z2) := HBw.out.trans ((HBz.out.trans (hb.mono HBz.out.size)).mono HBw.out.size)
        clear hO2 hb
        go_wp2
        go_roundw
        case rel => exact ⟨k + 1, A2, c2, by omega, by go_num, rfl, by rw [HXX.out]; exact own_base HO2.out (Nat.le_trans HBw.out.size HZ1.out), HB2.out⟩
        case measure => simp [intOf]; omega
    · obtain rfl : k = l.length := by omega
      go_wp2
      go_ret
      exact ⟨_, _, rfl, HO.out, HBw.out⟩

set_option maxRecDepth 100000 in
set_option maxHeartbeats 4000000 in
theorem specDay_any (r : List Int) (hy0 : ∀ a ∈ r, wfY a) (l : List Wal) (hwf : ∀ x ∈ l, wfV x) (d : Int) (A B : Option Addr) (ca c : Nat) (w : World) (hrl : r.length ≤ 1048576) (hl : l.length ≤ 1048576) (hra : Rd w w.heap.size ycells A r) (hr : Rd w w.heap.size vcells B l) :
    Calls Tryd.prog 29 #[.slice A r.length ca, .slice B l.length c, .int .i64 d] w fun e w' => ∃ v, e = .returned (.tuple #[v, .int .i64 (dsC r l d d)]) ∧ w'.ownsRow w.heap.size 5 1 v (dsL r l d d).length ((dsL r l d d).flatMap ycells) ∧ Below w.heap.size w w' := by
  have HRa := Lib.hid hra
  have HR := Lib.hid hr
  clear hra hr
  go_enter Tryd.func29, Tryd.ntmps29
  go_wp2_with fail
  refine (l05Day_any d _).mono ?_
  rintro e w0 ⟨rfl, rfl⟩
  go_wp2_with fail
  refine (l05Row_any r l hwf (inS d) A B ca c w hrl hl HRa.out HR.out).mono ?_
  rintro e w1 ⟨rfl, hb⟩
  have HB1 := Lib.hid hb
  rw [ds_code1]
  clear hb
  cases ho : dsO r l d d with
  | some i =>
    have E := Lib.hid (ds_bad ho)
    have hne : dsC r l d d ≠ 0 := by rw [E.out.1]; exact cdN_ne
    obtain ⟨cc, hcc⟩ : ∃ cc, dsC r l d d = cc := ⟨_, rfl⟩
    have HCC := Lib.hid hcc
    rw [hcc] at hne ⊢
    have hzb : (cc == 0) = false := by simpa using hne
    clear ho hcc
    go_wp2
    go_ret2
    refine ⟨_, by (rw [HCC.out]; first | done | rfl), ?_, HB1.out.alloc HB1.out.size _⟩
    rw [E.out.2]
    exact empty_ownR _ _ HB1.out.size
  | none =>
    obtain ⟨h0, h1, hy, hv, hs, h4⟩ := ds_ok ho
    have hvs := vsOk_out hv
    obtain ⟨⟨d0, d1⟩, -, -⟩ := spB_out hs
    have E0 := Lib.hid h0
    have E1 := Lib.hid h1
    have HVS := Lib.hid hvs
    have HR7 := Lib.hid (wfY_7 hy hy0)
    have HSt : Hid (tnA r.length l (onB d) r l.length = tnA r.length l (mW d d) r l.length) := by
      show _ = _
      have := days_step (n := r.length) (wfY_7 hy hy0) (fun x hx => (vOk_out (hvs.2.2 x hx)).2.1.1) d d
      rw [days_none (wfY_7 hy hy0)] at this
      exact this
    obtain ⟨N, hN⟩ : ∃ N, r.length = N := ⟨_, rfl⟩
    have HN := Lib.hid hN
    have h1N : 1 ≤ N := by have := hvs.1.1; omega
    have h60N : N ≤ 60 := by have := hvs.1.2; omega
    rw [h0]
    rw [hN] at E1 HVS HSt ⊢
    clear ho h0 h1 hy hv hs hvs hN
    go_wp2_with fail
    refine (l05Behind_any l N h1N h60N HVS.out.2.2 d ⟨d0, d1⟩ r HN.out HR7.out A B ca c w1 HVS.out.2.1 (HRa.out.keep HB1.out) (HR.out.keep HB1.out)).mono ?_
    rintro e w4 ⟨A4, c4, rfl, hO4, hb⟩
    have HO4 := Lib.hid hO4
    have HB4 : Hid (Below w.heap.size w w4) := HB1.out.trans (hb.mono HB1.out.size)
    have HB1s : Hid (w.heap.size ≤ w1.heap.size) := HB1.out.size
    clear hO4 hb
    go_wp2
    go_ret2
    refine ⟨_, by (rw [E0.out]; first | done | rfl), ?_, HB4.out⟩
    rw [E1.out, tnA_len, HN.out, ← HSt.out]
    exact own_base HO4.out HB1s.out
end Go.Proofs.YtjgafdfffmfhhadDoor
