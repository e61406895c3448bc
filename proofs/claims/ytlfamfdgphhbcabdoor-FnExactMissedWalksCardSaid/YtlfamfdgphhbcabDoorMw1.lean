/-
  missedWalks: its contract. Condition: a valid row, valid walkers with what is told of their walks, a day from 0 to 400.
-/
import Derived.Test.YtlfamfdgphhbcabDoorMw0
import Derived.Test.YtlfamfdgphhbcabDoorYk2
import Derived.Test.YtlfamfdgphhbcabDoorYs
namespace Go.Proofs.YtlfamfdgphhbcabDoor
open Go.ChangeShapes Go.WideShapes Go.ChangeAt Go.RowKit Go.Deep

theorem Tryd.infoP2 : (Tryd.prog.info? 83).map (fun i => (i.zero, i.size, i.bytes)) = some (some (.agg #[.int .i64 0, .int .i64 0]), 2, 16) := by kernel_rfl
theorem two_cells (W : World) (t : TypeId) (x y : Int) : ∀ (j : Nat) (u : Value), [Value.int .i64 x, .int .i64 y][j]? = some u → (W.alloc (.cells #[.int .i64 x, .int .i64 y] t)).cell? ((⟨W.heap.size, 0, none⟩ : Addr).add j) = some u := fun j u hu => by
  have e : (⟨W.heap.size, 0, none⟩ : Addr).add j = ⟨W.heap.size, j, none⟩ := by cases j <;> simp [Addr.add]
  rw [e, Blk.cell (Blk.new W t #[.int .i64 x, .int .i64 y])]
  simpa using hu
theorem own_ne {w : World} {b size n c B : Nat} {t t' : TypeId} {A : Option Addr} {xs : List Value} {cs : Array Value} (h : w.ownsRow b t size (.slice A n c) n xs) (hk : Blk w B t' cs) (ht : t ≠ t') : A.map (·.block) ≠ some B := by
  intro e
  rcases h.2 with ⟨e1, -⟩ | ⟨g, cap, cur, e1, -, hg, -⟩
  · cases e1; cases e
  · cases e1
    obtain rfl : g = B := by simpa using e
    unfold Blk at hk
    rw [hk] at hg
    simp only [Option.some.injEq, Obj.cells.injEq] at hg
    exact ht hg.2.1.symm
theorem balP {w v : World} (h : Below w.heap.size w v) (o : Obj) : Below w.heap.size w (v.alloc o) := h.alloc h.size o

set_option maxRecDepth 100000 in
set_option maxHeartbeats 4000000 in
theorem missedWalks_any (n : Nat) (h60 : n ≤ 60) (l : List Wal) (hv : ∀ x ∈ l, vOk n x = true) (ks : List KW) (hkl : ks.map (·.1) = l) (hl : l.length ≤ 8) (d : Int) (hd : 0 ≤ d ∧ d ≤ 400) (R s : List Int) (hrn : R.length = n) (hr7 : ∀ a ∈ R, 0 ≤ a ∧ a ≤ 7) (hsn : s.length = n)
    (A Ak As : Option Addr) (c ck cs : Nat) (w : World) (hr : Rd w w.heap.size ycells A R) (hs : ∀ s ∈ ks, okW n w s) (hkr : Rd w w.heap.size (kcw n) Ak ks) (hse : Rd w w.heap.size ycells As s) :
    Calls Tryd.prog 54 #[.slice A n c, .slice Ak ks.length ck, .int .i64 d, .slice As n cs] w fun e w' => ∃ A' c', e = .returned (.slice A' (mwT n R s l d l.length).length c') ∧ w'.ownsRow w.heap.size 83 2 (.slice A' (mwT n R s l d l.length).length c') (mwT n R s l d l.length).length ((mwT n R s l d l.length).flatMap p2cells) ∧ Below w.heap.size w w' := by
  obtain ⟨i0, hi, hz0, hz1, hz2⟩ := info_parts Tryd.infoP2
  have HI := Lib.hid hi
  have HZ0 := Lib.hid hz0
  have HZ1 := Lib.hid hz1
  have HZ2 := Lib.hid hz2
  have HV := Lib.hid hv
  have HKL := Lib.hid hkl
  have HS := Lib.hid hs
  have HKR := Lib.hid hkr
  have HR := Lib.hid hr
  have HSE := Lib.hid hse
  have HR7 := Lib.hid hr7
  have HRN := Lib.hid hrn
  have HSN := Lib.hid hsn
  have hlen : ks.length = l.length := by rw [← hkl, List.length_map]
  have HLEN := Lib.hid hlen
  have hk8 : ks.length ≤ 8 := by omega
  have hDB : dayB d := ⟨by omega, by omega⟩
  have HDB := Lib.hid hDB
  have HD := Lib.hid hd
  clear hi hz0 hz1 hz2 hv hkl hs hkr hr hse hr7 hrn hsn hlen hDB hd
  go_enter Tryd.func54, Tryd.ntmps54
  go_wp2_with fail
  go_loopw [9, 16] (fun v i wr => ∃ (k : Nat) (L : List P2) (A1 : Option Addr) (c1 : Nat), k ≤ ks.length ∧ i = .int .i64 k ∧ v = .slice A1 L.length c1 ∧ L = mwT n R s l d k ∧ wr.ownsRow w.heap.size 83 2 (.slice A1 L.length c1) L.length (L.flatMap p2cells) ∧ Below w.heap.size w wr)
    (fun _ i _ => ks.length - (intOf i).toNat)
  case atStart => exact ⟨0, [], none, 0, by omega, rfl, rfl, rfl, ⟨rfl, .inl ⟨rfl, rfl⟩⟩, Below.refl _ _⟩
  case round =>
    obtain ⟨wa, rfl⟩ : ∃ u, u = wr := ⟨_, rfl⟩
    obtain ⟨k, L, A1, c1, hk, rfl, rfl, hL, hO, hB⟩ := hrel
    have HO := Lib.hid hO
    have HB := Lib.hid hB
    have HL := Lib.hid hL
    clear hO hB hL
    by_cases hlt : k < ks.length
    · obtain ⟨⟨⟨fi, ev, st, sp, co, tu⟩, gv⟩, hx⟩ : ∃ x, ks[k]? = some x := ⟨_, List.getElem?_eq_getElem hlt⟩
      have hxl : l[k]? = some ⟨fi, ev, st, sp, co, tu⟩ := by rw [← HKL.out, List.getElem?_map, hx]; rfl
      have hvx := HV.out _ (List.mem_of_getElem? hxl)
      have hxo := vOk_out hvx
      simp only at hxo
      have HOk := Lib.hid (HS.out _ (List.mem_of_getElem? hx))
      have hgv : gv < w.heap.size := Blk.lt HOk.out
      have HGV := Lib.hid hgv
      have HXO := Lib.hid hxo
      have HVx := Lib.hid hvx
      have HXL := Lib.hid hxl
      have HUI := Lib.hid (unD_in (x := ⟨fi, ev, st, sp, co, tu⟩) hxo.1.1 hxo.2.1.1 HDB.out.1)
      have HLb : Hid (L.length ≤ 3300) := by
        show L.length ≤ 3300
        have := mwT_len n R s l d HD.out.2 k
        rw [HL.out]; omega
      obtain ⟨b1, o1, rfl, hbl, hrow⟩ := (HKR.out.below (Nat.le_refl _) HB.out).at_ (kcw_length n) hx
      have d0 : wa.cell? ⟨b1, o1 + k * 9, none⟩ = some (.int .i16 fi) := hrow 0 _ rfl
      have d1 : wa.cell? ⟨b1, o1 + k * 9 + 1, none⟩ = some (.int .i16 ev) := hrow 1 _ rfl
      have d2 : wa.cell? ⟨b1, o1 + k * 9 + 2, none⟩ = some (.int .i16 st) := hrow 2 _ rfl
      have d3 : wa.cell? ⟨b1, o1 + k * 9 + 3, none⟩ = some (.int .i16 sp) := hrow 3 _ rfl
      have d4 : wa.cell? ⟨b1, o1 + k * 9 + 4, none⟩ = some (.int .i16 co) := hrow 4 _ rfl
      have d5 : wa.cell? ⟨b1, o1 + k * 9 + 5, none⟩ = some (.int .i8 tu) := hrow 5 _ rfl
      have d6 : wa.cell? ⟨b1, o1 + k * 9 + 6, none⟩ = some (.int .i64 fi) := hrow 6 _ rfl
      have d7 : wa.cell? ⟨b1, o1 + k * 9 + 7, none⟩ = some (.int .i64 ev) := hrow 7 _ rfl
      have d8 : wa.cell? ⟨b1, o1 + k * 9 + 8, none⟩ = some (.slice (some ⟨gv, 0, none⟩) n n) := hrow 8 _ rfl
      have hk0 : (0 : Int) ≤ (k : Int) := Int.natCast_nonneg _
      have hk8' : (k : Int) < ks.length := by omega
      have HA1 : Hid (Below wa.heap.size wa (wa.alloc (.cells #[.int .i16 fi, .int .i16 ev, .int .i16 st, .int .i16 sp, .int .i16 co, .int .i8 tu, .int .i64 fi, .int .i64 ev, .slice (some ⟨gv, 0, none⟩) n n] 133))) := (Below.refl _ wa).alloc (Nat.le_refl _) _
      have HK1 : Hid (Blk (wa.alloc (.cells #[.int .i16 fi, .int .i16 ev, .int .i16 st, .int .i16 sp, .int .i16 co, .int .i8 tu, .int .i64 fi, .int .i64 ev, .slice (some ⟨gv, 0, none⟩) n n] 133)) wa.heap.size 133 #[.int .i16 fi, .int .i16 ev, .int .i16 st, .int .i16 sp, .int .i16 co, .int .i8 tu, .int .i64 fi, .int .i64 ev, .slice (some ⟨gv, 0, none⟩) n n]) := Blk.new wa _ _
      clear hx hxl hvx hxo hrow hgv
      go_wp2_with fail
      clear d0 d1 d2 d3 d4 d5 d6 d7 d8
      obtain ⟨W1, hW1⟩ : ∃ W1, wa.alloc (.cells #[.int .i16 fi, .int .i16 ev, .int .i16 st, .int .i16 sp, .int .i16 co, .int .i8 tu, .int .i64 fi, .int .i64 ev, .slice (some ⟨gv, 0, none⟩) n n] 133) = W1 := ⟨_, rfl⟩
      rw [hW1] at HA1 HK1 ⊢
      clear hW1
      have HCl : Hid (Calls Tryd.prog 81 #[.slice A n c] W1 fun e w' => ∃ A' c', e = .returned (.slice A' n c') ∧ w'.ownsRow W1.heap.size 5 1 (.slice A' n c') n (R.flatMap ycells) ∧ Below W1.heap.size W1 w') := by
        have := cloneY_any R A c W1 (by rw [HRN.out]; omega) ((HR.out.keep HB.out).keep HA1.out)
        rw [HRN.out] at this
        exact this
      refine HCl.out.mono ?_
      rintro e w2 ⟨A2, c2, rfl, hO2, hb2⟩
      have HW1 : Hid (wa.heap.size < W1.heap.size) := HK1.out.lt
      have HO2 := Lib.hid hO2
      have HK2 := Lib.hid (HK1.out.keep hb2)
      have HA2 : Hid (Below wa.heap.size wa w2) := HA1.out.trans (hb2.mono HA1.out.size)
      have HS2 : Hid (W1.heap.size ≤ w2.heap.size) := hb2.size
      have e0 : w2.cell? ⟨wa.heap.size, 0, none⟩ = some (.int .i16 fi) := HK2.out.cell 0
      have e1 : w2.cell? ⟨wa.heap.size, 1, none⟩ = some (.int .i16 ev) := HK2.out.cell 1
      have e2 : w2.cell? ⟨wa.heap.size, 2, none⟩ = some (.int .i16 st) := HK2.out.cell 2
      have e3 : w2.cell? ⟨wa.heap.size, 3, none⟩ = some (.int .i16 sp) := HK2.out.cell 3
      have e4 : w2.cell? ⟨wa.heap.size, 4, none⟩ = some (.int .i16 co) := HK2.out.cell 4
      have e5 : w2.cell? ⟨wa.heap.size, 5, none⟩ = some (.int .i8 tu) := HK2.out.cell 5
      have e6 : w2.cell? ⟨wa.heap.size, 6, none⟩ = some (.int .i64 fi) := HK2.out.cell 6
      have e7 : w2.cell? ⟨wa.heap.size, 7, none⟩ = some (.int .i64 ev) := HK2.out.cell 7
      have e8 : w2.cell? ⟨wa.heap.size, 8, none⟩ = some (.slice (some ⟨gv, 0, none⟩) n n) := HK2.out.cell 8
      clear hO2 hb2 HCl HK1 HA1
      go_wp2_with fail
      clear e0 e1 e2 e3 e4 e5 e6 e7 e8
      have HTurn : Hid (Calls Tryd.prog 82 #[.slice A2 n c2, .agg #[.int .i16 fi, .int .i16 ev, .int .i16 st, .int .i16 sp, .int .i16 co, .int .i8 tu, .int .i64 fi, .int .i64 ev, .slice (some ⟨gv, 0, none⟩) n n], .int .i64 (-1)] w2 fun e w' => e = .returned (.tuple #[]) ∧ w'.ownsRow W1.heap.size 5 1 (.slice A2 n c2) n ((tnR R (byW n ⟨fi, ev, st, sp, co, tu⟩ (-1))).flatMap ycells) ∧ Below W1.heap.size w2 w' ∧ w2.grownBy w' (A2.map (·.block))) := by
        have hsz : w.heap.size ≤ W1.heap.size := by have := HB.out.size; have := HW1.out; omega
        have := turn_any n h60 (⟨fi, ev, st, sp, co, tu⟩, gv) HVx.out (-1) ⟨by omega, by omega⟩ R HRN.out HR7.out W1.heap.size A2 c2 w2 HS2.out (okW.keep HOk.out (HB.out.trans (HA2.out.mono HB.out.size))) (Nat.lt_of_lt_of_le HGV.out hsz) (by rw [HRN.out]; exact HO2.out)
        rw [HRN.out] at this
        exact this
      refine HTurn.out.mono ?_
      rintro e w3 ⟨rfl, hO3, hb3, hg3⟩
      have HK3 : Hid (Blk w3 wa.heap.size 133 #[.int .i16 fi, .int .i16 ev, .int .i16 st, .int .i16 sp, .int .i16 co, .int .i8 tu, .int .i64 fi, .int .i64 ev, .slice (some ⟨gv, 0, none⟩) n n]) := Blk.below HK2.out hb3 HW1.out
      have HA3 : Hid (Below wa.heap.size wa w3) := HA2.out.trans (hb3.mono (Nat.le_of_lt HW1.out))
      obtain ⟨X, hX⟩ : ∃ X, tnR R (byW n ⟨fi, ev, st, sp, co, tu⟩ (-1)) = X := ⟨_, rfl⟩
      have HXE := Lib.hid hX
      have HXl : Hid (X.length = n) := by show X.length = n; rw [← hX, tnR_len, HRN.out]
      rw [hX] at hO3
      have HSame : Hid (Calls Tryd.prog 83 #[.slice A2 n c2, .slice As n cs] w3 fun e w' => e = .returned (.bool (decide (X = s))) ∧ Below w3.heap.size w3 w') := by
        have := implSameRow_any X s A2 As c2 cs w3 (by rw [HXl.out]; omega) (by rw [HSN.out]; omega) (own_rd2 ycells_length (by rw [HXl.out]; exact hO3)) ((HSE.out.keep HB.out).keep HA3.out)
        rw [HXl.out, HSN.out] at this
        exact this
      clear hO3 hb3 hg3 hX HTurn HO2 HK2 HA2
      go_wp2_with fail
      refine HSame.out.mono ?_
      rintro e w4 ⟨rfl, hb4⟩
      have HK4 := Lib.hid (HK3.out.keep hb4)
      have HA4 : Hid (Below wa.heap.size wa w4) := HA3.out.trans (hb4.mono HA3.out.size)
      have HB4 : Hid (Below w.heap.size w w4) := HB.out.trans (HA4.out.mono HB.out.size)
      have HO4 := Lib.hid (own_keep' HO.out HA4.out)
      clear hb4 HSame HK3 HA3
      by_cases hxs : X = s
      · have hT := mwT_yes (n := n) (R := R) (s := s) (d := d) HXL.out (by rw [HXE.out]; exact hxs)
        have HT0 := Lib.hid hT
        rw [decide_eq_true hxs]
        have f6 : w4.cell? ⟨wa.heap.size, 6, none⟩ = some (.int .i64 fi) := HK4.out.cell 6
        have f7 : w4.cell? ⟨wa.heap.size, 7, none⟩ = some (.int .i64 ev) := HK4.out.cell 7
        clear hxs hT
        go_wp2_with fail
        refine (until_any fi ev HXO.out.1 HXO.out.2.1 d HDB.out _).mono ?_
        rintro e w5 ⟨rfl, hb5⟩
        obtain ⟨u, hu⟩ : ∃ u : Nat, (if d < fi then 0 else (d - fi) / ev + 1) = (u : Int) := ⟨(unD ⟨fi, ev, st, sp, co, tu⟩ d).toNat, by have := HUI.out.1; show unD ⟨fi, ev, st, sp, co, tu⟩ d = _; omega⟩
        have HU : Hid (unD ⟨fi, ev, st, sp, co, tu⟩ d = (u : Int)) := hu
        have hu401 : u ≤ 401 := by have := HUI.out.2; have := HU.out; have := HD.out; omega
        rw [hu]
        have HT : Hid (mwT n R s l d (k + 1) = L ++ prD k (dkX ⟨fi, ev, st, sp, co, tu⟩ u)) := by
          show _ = _
          rw [HT0.out, ← HL.out, dn_dk HXO.out.1.1 HXO.out.2.1.1, show (((d + 1).toNat : Nat) : Int) - 1 = d from by have := HD.out; omega, HU.out, Int.toNat_natCast]
        have HK5 := Lib.hid (HK4.out.keep hb5)
        have HB5 : Hid (Below w.heap.size w w5) := HB4.out.trans (hb5.mono HB4.out.size)
        have HO5 := Lib.hid (own_keep' HO4.out hb5)
        have hB5lt : wa.heap.size < w5.heap.size := HK5.out.lt
        clear hb5 f6 f7 hu HK4 HB4 HO4
        have hu0 : (0 : Int) ≤ (u : Int) := Int.natCast_nonneg _
        go_wp2_with fail
        go_loopw [9, 34] (fun v i wr => ∃ (m : Nat) (M : List P2) (A6 : Option Addr) (c6 : Nat), m ≤ u ∧ i = .int .i64 m ∧ v = .slice A6 M.length c6 ∧ M = L ++ prD k (dkX ⟨fi, ev, st, sp, co, tu⟩ m) ∧ wr.ownsRow w.heap.size 83 2 (.slice A6 M.length c6) M.length (M.flatMap p2cells) ∧ Blk wr wa.heap.size 133 #[.int .i16 fi, .int .i16 ev, .int .i16 st, .int .i16 sp, .int .i16 co, .int .i8 tu, .int .i64 fi, .int .i64 ev, .slice (some ⟨gv, 0, none⟩) n n] ∧ Below w.heap.size w wr)
          (fun _ i _ => u - (intOf i).toNat)
        case atStart =>
          exact ⟨0, L, A1, c1, by omega, rfl, rfl, by simp [dkX, prD], HO5.out, HK5.out, HB5.out⟩
        case round =>
          obtain ⟨wb, rfl⟩ : ∃ u, u = wr := ⟨_, rfl⟩
          obtain ⟨m, M, A6, c6, hm, rfl, rfl, hM, hO6, hK6, hB6⟩ := hrel
          have HM := Lib.hid hM
          have HO6 := Lib.hid hO6
          have HK6 := Lib.hid hK6
          have HB6 := Lib.hid hB6
          have HMl : Hid (M.length ≤ 3800) := by
            show M.length ≤ 3800
            have := HLb.out
            rw [HM.out, List.length_append, prD_len, dkX_len]; omega
          clear hM hO6 hK6 hB6
          have hm0 : (0 : Int) ≤ (m : Int) := Int.natCast_nonneg _
          by_cases hmu : m < u
          · have hmu' : (m : Int) < u := by omega
            have g6 : wb.cell? ⟨wa.heap.size, 6, none⟩ = some (.int .i64 fi) := HK6.out.cell 6
            have g7 : wb.cell? ⟨wa.heap.size, 7, none⟩ = some (.int .i64 ev) := HK6.out.cell 7
            go_wp2_with fail
            refine (daysAt_any fi ev HXO.out.1 HXO.out.2.1 m ⟨by omega, by omega⟩ _).mono ?_
            rintro e w7 ⟨rfl, hb7⟩
            have HK7 := Lib.hid (HK6.out.keep hb7)
            have HO7 := Lib.hid (own_keep' HO6.out hb7)
            have HB7 : Hid (Below w.heap.size w w7) := HB6.out.trans (hb7.mono HB6.out.size)
            obtain ⟨q, hq⟩ : ∃ q, fi + (m : Int) * ev = q := ⟨_, rfl⟩
            have HQ := Lib.hid hq
            rw [hq]
            clear hb7 g6 g7 hq HK6 HO6 HB6
            have hsz7 : wa.heap.size < w7.heap.size := HK7.out.lt
            go_wp2_with (at_builtin; refine wpList_append_any _ rfl (.tmp 37) (.tmp 44) 34 34 rfl w.heap.size 83 i0 (.agg #[.int .i64 0, .int .i64 0]) 2 16 Tryd.underlying34 HI.out HZ0.out HZ1.out HZ2.out rfl (by decide) (.slice A6 M.length c6) M.length (M.flatMap p2cells) rfl ?own2 _ 1 [.int .i64 k, .int .i64 q] rfl ?src2 ?d3 ?d4 ?d5 ?_)
            case own2 => exact HO7.out.alloc _
            case src2 => exact Src.ofSlice _ Tryd.underlying34 ⟨w7.heap.size, 0, none⟩ 1 1 _ rfl (two_cells w7 _ _ _) (by intro u hu; simp only [List.mem_cons, List.not_mem_nil, or_false] at hu; rcases hu with rfl | rfl <;> rfl)
            case d3 => have := HMl.out; unfold maxLen; omega
            case d4 => have := HMl.out; omega
            case d5 => have := HB7.out.size; simp; omega
            intro v8 w8 hown8 hg8 _
            rw [ownBlock_slice] at hg8
            have hown9 : w8.ownsRow w.heap.size 83 2 v8 (M ++ [((k : Int), q)]).length ((M ++ [((k : Int), q)]).flatMap p2cells) := by rw [List.length_append, List.flatMap_append]; simpa [p2cells] using hown8
            obtain ⟨A8, c8, rfl, -, -⟩ := own_rd p2cells_length hown9
            have HO9 := Lib.hid hown9
            have HB8 : Hid (Below w.heap.size w w8) := (balP HB7.out _).grown hg8 (by have := HB7.out.size; simp; omega) (fun q e => by have := gk_ge HO7.out q e; omega)
            have HK8 : Hid (Blk w8 wa.heap.size 133 #[.int .i16 fi, .int .i16 ev, .int .i16 st, .int .i16 sp, .int .i16 co, .int .i8 tu, .int .i64 fi, .int .i64 ev, .slice (some ⟨gv, 0, none⟩) n n]) := gk_blk (HK7.out.alloc _) hg8 (own_ne HO7.out HK7.out (by decide))
            have HM9 : Hid (M ++ [((k : Int), q)] = L ++ prD k (dkX ⟨fi, ev, st, sp, co, tu⟩ (m + 1))) := by
              show M ++ [((k : Int), q)] = _
              rw [HM.out, List.append_assoc, dkX]
              show _ = L ++ (dkX _ m ++ [fi + (m : Int) * ev]).map _
              rw [List.map_append, HQ.out]; rfl
            obtain ⟨M9, hM9⟩ : ∃ Z, M ++ [((k : Int), q)] = Z := ⟨_, rfl⟩
            rw [hM9] at HO9 HM9 ⊢
            clear hM9 hown8 hown9 hg8 HO7 HK7 HB7
            go_wp2
            go_roundw
            case rel => exact ⟨m + 1, M9, A8, c8, by omega, by go_num, rfl, HM9.out, HO9.out, HK8.out, HB8.out⟩
            case measure => simp [intOf]; omega
          · obtain rfl : m = u := by omega
            go_wp2
            go_roundw
            case rel => exact ⟨k + 1, M, A6, c6, by omega, by go_num, rfl, by rw [HT.out]; exact HM.out, HO6.out, HB6.out⟩
            case measure => simp [intOf]; omega
      · have hT := mwT_no (n := n) (R := R) (s := s) (d := d) HXL.out (by rw [HXE.out]; exact hxs)
        have HT := Lib.hid hT
        rw [decide_eq_false hxs]
        clear hxs hT
        go_wp2
        go_roundw
        case rel => exact ⟨k + 1, L, A1, c1, by omega, by go_num, rfl, by rw [HT.out]; exact HL.out, HO4.out, HB4.out⟩
        case measure => simp [intOf]; omega
    · obtain rfl : k = ks.length := by omega
      have HE : Hid (L = mwT n R s l d l.length) := by show L = _; rw [HL.out, HLEN.out]
      go_wp2
      go_ret
      rw [← HE.out]
      exact ⟨_, _, rfl, HO.out, HB.out⟩
end Go.Proofs.YtlfamfdgphhbcabDoor
