/-
  RepeatsBehind: the model's contract. Condition: the walkers read, their numbers fit their kinds, not more than 1048576.
-/
import Derived.Test.YtcalooahafgfbaaDoorRb1
namespace Go.Proofs.YtcalooahafgfbaaDoor
open Go.ChangeShapes Go.WideShapes Go.ChangeAt Go.RowKit Go.Deep

theorem own_rd2c {w : World} {b N c : Nat} {A : Option Addr} {xs : List Int} (h : w.ownsRow b 5 1 (.slice A N c) N (xs.flatMap ycells)) (hl : xs.length = N) : Rd w w.heap.size ycells A xs := by
  subst hl
  exact own_rd2 ycells_length h
theorem src_of_rdN {w : World} {A : Option Addr} {c N : Nat} {xs : List Int} (hl : xs.length = N) (h : Rd w w.heap.size ycells A xs) : Src Tryd.prog 1 31 (.slice A N c) N (xs.flatMap ycells) w := by
  subst hl
  exact src_of_rd _ Tryd.underlying31 ycells_length ycells_one h
theorem aeC_vs {n : Int} {l : List Wal} (h : aeC n l = 0) : vsOk n l = true ∧ lcmA l ≤ 1000000 ∧ aeN n l = lcmA l := by
  cases hv : vsOk n l with
  | false => rw [(aeC_inv hv).1] at h; cases h
  | true =>
    cases hb : evB l with
    | false => rw [(aeC_big hv hb).1] at h; cases h
    | true => exact ⟨rfl, of_decide_eq_true hb, (aeC_ok hv hb).2⟩
theorem rb_walker {n : Int} {l : List Wal} (h : vsOk n l = true) {x : Wal} (hx : x ∈ l) : vOk n x = true := by
  simp only [vsOk, Bool.and_eq_true] at h
  exact List.all_eq_true.1 h.2.2 x hx
theorem rb_step {N : Nat} {a c : Int} {k : Nat} (ha : a = ((k : Int) * c) % 8) : (a + c % 8) % 8 = (((k + 1 : Nat) : Int) * c) % 8 := by
  rw [ha, ← Int.add_emod, show ((k + 1 : Nat) : Int) = (k : Int) + 1 from by omega, Int.add_mul, Int.one_mul]

set_option maxRecDepth 100000 in
set_option maxHeartbeats 8000000 in
theorem specRepeats_any (n : Int) (hn : wfI6 n) (l : List Wal) (hwf : ∀ x ∈ l, wfV x) (A : Option Addr) (c : Nat) (w : World) (hl : l.length ≤ 1048576) (hr : Rd w w.heap.size vcells A l) :
    Calls Tryd.prog 5 #[.int .i64 n, .slice A l.length c] w fun e w' => e = .returned (.tuple #[.int .i64 (rbN n l), .int .i64 (aeC n l)]) ∧ Below w.heap.size w w' := by
  obtain ⟨i0, hi, hz0, hz1, hz2⟩ := info_parts Tryd.infoY
  have HI := Lib.hid hi
  have HZ0 := Lib.hid hz0
  have HZ1 := Lib.hid hz1
  have HZ2 := Lib.hid hz2
  have HR := Lib.hid hr
  have HWf := Lib.hid hwf
  have HAw := Lib.hid (specAllWalk_any n hn l hwf A c w hl hr)
  clear hr hwf
  go_enter Tryd.func5, Tryd.ntmps5
  go_wp2_with fail
  refine HAw.out.mono ?_
  rintro e w1 ⟨rfl, hb⟩
  have HB1 := Lib.hid hb
  clear hb HAw
  by_cases h0 : ¬ aeC n l = 0
  · have E : Hid (rbN n l = 0) := by show _ = _; rw [rbN, if_neg h0]
    obtain ⟨cd, hcd⟩ : ∃ cd, aeC n l = cd := ⟨_, rfl⟩
    have HCd := Lib.hid hcd
    rw [hcd] at h0 ⊢
    have hb0 : (cd == 0) = false := by simpa using h0
    clear hcd hi hz0 hz1 hz2
    go_wp2
    go_ret2
    exact ⟨by (rw [E.out, HCd.out]; rfl), HB1.out⟩
  have h0 : aeC n l = 0 := Classical.not_not.1 h0
  obtain ⟨hv, hA6, hAn⟩ := aeC_vs h0
  have HC0 := Lib.hid h0
  have HV := Lib.hid hv
  obtain ⟨hl8, hev⟩ := vsOk_ev hv
  have hnn : 1 ≤ n ∧ n ≤ 60 := by simp only [vsOk, Bool.and_eq_true, decide_eq_true_eq] at hv; exact hv.1
  obtain ⟨N, rfl⟩ : ∃ N : Nat, n = N := ⟨n.toNat, by omega⟩
  have hN1 : 1 ≤ N := by omega
  have hN60 : N ≤ 60 := by omega
  have HEv0 := Lib.hid hev
  rw [h0, hAn]
  clear h0 hv hAn hev hnn hn
  have hn0 : (0 : Int) ≤ (N : Int) := Int.natCast_nonneg _
  go_wp2_with (refine wpList_make_full _ rfl (.tmp 22) (.tmp 22) 31 rfl w1.heap.size 5 i0 _ 1 Tryd.underlying31 hi hz0 hz1 .i64 .i64 _ _ N rfl rfl rfl rfl (by rw [hz2]; omega) (by unfold maxLen; omega) (Nat.le_refl _) ?_; intro w2 hown hg)
  have hR0 : Rs w2 w1.heap.size 5 ycells (rbZ N) := by
    have := blk_of_make hown
    rw [made_rows ycells_length 0 (Value.int IntKind.u8 0).cells rfl (by omega)] at this
    exact this
  have hB0 : Below w1.heap.size w1 w2 := (Below.refl _ w1).grown hg (Nat.le_refl _) (fun _ h => by cases h)
  have HRd0 : Hid (Rd w2 w2.heap.size ycells (some ⟨w1.heap.size, 0, none⟩) (rbZ N)) := Rs.rd hR0 hR0.lt
  have HB2 : Hid (Below w.heap.size w w2) := HB1.out.trans (hB0.mono HB1.out.size)
  clear hR0 hB0 hown hg hi hz0 hz1 hz2
  go_wp2_with fail
  go_loopw [8, 9] (fun rv iv wr => ∃ (k : Nat) (A8 : Option Addr) (c8 : Nat), k ≤ l.length ∧ rv = .slice A8 N c8 ∧ iv = .int .i64 k ∧ Rd wr wr.heap.size ycells A8 (tnA N l (rbM (lcmA l)) (rbZ N) k) ∧ Below w.heap.size w wr) (fun _ i _ => l.length - (intOf i).toNat)
  case atStart => exact ⟨0, _, N, by omega, rfl, rfl, HRd0.out, HB2.out⟩
  case round =>
    clear HRd0 HB2
    obtain ⟨k, A8, c8, hk, rfl, rfl, hR8, hB⟩ := hrel
    obtain ⟨wa, rfl⟩ : ∃ u, u = wr := ⟨_, rfl⟩
    have HR8 := Lib.hid hR8
    have HB := Lib.hid hB
    clear hR8 hB
    have hk0 : (0 : Int) ≤ (k : Int) := Int.natCast_nonneg _
    by_cases hlt : k < l.length
    · have hk8 : (k : Int) < l.length := by omega
      obtain ⟨x, hx⟩ : ∃ x, l[k]? = some x := ⟨_, List.getElem?_eq_getElem hlt⟩
      have hxm := List.mem_of_getElem? hx
      obtain ⟨b, o, rfl, hbl, hrow⟩ := (HR.out.keep HB.out).at_ vcells_length hx
      have HX := Lib.hid hx
      have HRow := Lib.hid hrow
      obtain ⟨ev, hevx⟩ : ∃ e, x.ev = e := ⟨_, rfl⟩
      have he1 : 1 ≤ ev ∧ ev ≤ 100 := by rw [← hevx]; exact HEv0.out x hxm
      have hc1 := (rowV hrow).2.1
      rw [hevx] at hc1
      have HEv := Lib.hid hc1
      obtain ⟨Q, hQ⟩ : ∃ Q, Int.tdiv ((lcmA l : Nat) : Int) ev = Q := ⟨_, rfl⟩
      have hQe : Q = ((lcmA l : Nat) : Int) / ev := by rw [← hQ]; exact Int.tdiv_eq_ediv_of_nonneg (Int.natCast_nonneg _)
      have hQ0 : 0 ≤ Q ∧ Q ≤ 1000000 := by
        rw [hQe]
        refine ⟨Int.ediv_nonneg (Int.natCast_nonneg _) (by omega), ?_⟩
        have := Int.ediv_le_self ev (Int.natCast_nonneg (lcmA l))
        omega
      have HTu : Hid (∀ W, Below wa.heap.size wa W → Calls Tryd.prog 10 #[.slice A8 N c8, .agg (vcells x).toArray, .int .i64 Q] W fun e w' => ∃ A' c', e = .returned (.slice A' N c') ∧ w'.ownsRow W.heap.size 5 1 (.slice A' N c') N ((tnR (tnA N l (rbM (lcmA l)) (rbZ N) k) (byW N x Q)).flatMap ycells) ∧ Below W.heap.size W w') := fun W h => by
        have := l05Turned_any N hN1 hN60 x (rb_walker HV.out hxm) Q (by omega) (tnA N l (rbM (lcmA l)) (rbZ N) k) (by rw [tnA_len, rbZ, List.length_replicate]) (tnA_in (rbZ_in N) k) A8 c8 W (HR8.out.keep h)
        rw [show (tnA N l (rbM (lcmA l)) (rbZ N) k).length = N from by rw [tnA_len, rbZ, List.length_replicate]] at this
        exact this
      have HSt : Hid (tnA N l (rbM (lcmA l)) (rbZ N) (k + 1) = tnR (tnA N l (rbM (lcmA l)) (rbZ N) k) (byW N x Q)) := by
        show _ = _
        rw [tnA_succ hx, rbM, hevx, hQe]
      have hev0 : ¬ ev = 0 := by omega
      have hez : (ev == 0) = false := by simpa using hev0
      have hwq1 : IntKind.i64.wrap Q = Q := IntWalk.i64_in _ ⟨by omega, by omega⟩
      have hwq2 : wrap64 Q = Q := IntWalk.wrap64_in _ ⟨by omega, by omega⟩
      have hwe1 : IntKind.i64.wrap ev = ev := IntWalk.i64_in _ ⟨by omega, by omega⟩
      have hwe2 : wrap64 ev = ev := IntWalk.wrap64_in _ ⟨by omega, by omega⟩
      clear hx hxm hrow hevx he1 hc1 hQe hQ0
      go_wp2_with fail
      refine wp_region_held_drew (S := fun w' => Below wa.heap.size wa w') (by kernel_rfl) (Below.refl _ _).drew (fun hHeld => ?_)
      refine wpAnyH_take (i := 0) (v := .slice A8 N c8) rfl (by kernel_rfl) (by kernel_rfl) (by kernel_rfl) (fun _ _ _ h => h) (Or.inl ⟨by rfl, fun w' h => by go_simp⟩) (by assumption) ?_
      try simp only [Act.put, List.getElem_toArray, List.getElem_cons_zero, List.getElem_cons_succ, List.setIfInBounds_toArray, List.set_cons_zero, List.set_cons_succ]
      refine wpAnyH_take (i := 1) (v := .slice (some ⟨b, o, none⟩) l.length c) rfl (by kernel_rfl) (by kernel_rfl) (by kernel_rfl) (fun _ _ _ h => h) (Or.inl ⟨by rfl, fun w' h => by go_simp⟩) (by assumption) ?_
      try simp only [Act.put, List.getElem_toArray, List.getElem_cons_zero, List.getElem_cons_succ, List.setIfInBounds_toArray, List.set_cons_zero, List.set_cons_succ]
      refine wpAnyH_take (i := 2) (v := .int .i64 k) rfl (by kernel_rfl) (by kernel_rfl) (by kernel_rfl) (fun _ _ _ h => h) (Or.inl ⟨by rfl, fun w' h => by go_simp⟩) (by assumption) ?_
      try simp only [Act.put, List.getElem_toArray, List.getElem_cons_zero, List.getElem_cons_succ, List.setIfInBounds_toArray, List.set_cons_zero, List.set_cons_succ]
      refine wpAnyH_take (i := 3) (v := .pointer (some ⟨b, o + k * 6, none⟩)) rfl (by kernel_rfl) (by kernel_rfl) (by kernel_rfl) (fun _ _ _ h => h) (Or.inl ⟨by rfl, fun w' h => by go_simp⟩) (by assumption) ?_
      try simp only [Act.put, List.getElem_toArray, List.getElem_cons_zero, List.getElem_cons_succ, List.setIfInBounds_toArray, List.set_cons_zero, List.set_cons_succ]
      refine' wpAnyH_take (i := 4) (v := _) rfl (by kernel_rfl) (by kernel_rfl) (by kernel_rfl) (fun _ _ _ h => h) (yieldsIf_load_mid (by rfl) 36 (.tmp 33) rfl b (o + k * 6) rfl (vcells x) _ (fun w' h => fun j v hv => ((rangeAt_below HRow.out h hbl)) j v hv) Tryd.underlying36 rfl Tryd.sizeVI) (by assumption) ?_
      try simp only [Act.put, List.getElem_toArray, List.getElem_cons_zero, List.getElem_cons_succ, List.setIfInBounds_toArray, List.set_cons_zero, List.set_cons_succ]
      refine wpAnyH_take (i := 5) (v := .int .i64 (lcmA l : Nat)) rfl (by kernel_rfl) (by kernel_rfl) (by kernel_rfl) (fun _ _ _ h => h) (Or.inl ⟨by rfl, fun w' h => by go_simp⟩) (by assumption) ?_
      try simp only [Act.put, List.getElem_toArray, List.getElem_cons_zero, List.getElem_cons_succ, List.setIfInBounds_toArray, List.set_cons_zero, List.set_cons_succ]
      refine wpAnyH_take (i := 6) (v := .slice (some ⟨b, o, none⟩) l.length c) rfl (by kernel_rfl) (by kernel_rfl) (by kernel_rfl) (fun _ _ _ h => h) (Or.inl ⟨by rfl, fun w' h => by go_simp⟩) (by assumption) ?_
      try simp only [Act.put, List.getElem_toArray, List.getElem_cons_zero, List.getElem_cons_succ, List.setIfInBounds_toArray, List.set_cons_zero, List.set_cons_succ]
      refine wpAnyH_take (i := 7) (v := .int .i64 k) rfl (by kernel_rfl) (by kernel_rfl) (by kernel_rfl) (fun _ _ _ h => h) (Or.inl ⟨by rfl, fun w' h => by go_simp⟩) (by assumption) ?_
      try simp only [Act.put, List.getElem_toArray, List.getElem_cons_zero, List.getElem_cons_succ, List.setIfInBounds_toArray, List.set_cons_zero, List.set_cons_succ]
      refine wpAnyH_take (i := 8) (v := .pointer (some ⟨b, o + k * 6, none⟩)) rfl (by kernel_rfl) (by kernel_rfl) (by kernel_rfl) (fun _ _ _ h => h) (Or.inl ⟨by rfl, fun w' h => by go_simp⟩) (by assumption) ?_
      try simp only [Act.put, List.getElem_toArray, List.getElem_cons_zero, List.getElem_cons_succ, List.setIfInBounds_toArray, List.set_cons_zero, List.set_cons_succ]
      refine wpAnyH_take (i := 9) (v := .pointer (some ⟨b, o + k * 6 + 1, none⟩)) rfl (by kernel_rfl) (by kernel_rfl) (by kernel_rfl) (fun _ _ _ h => h) (Or.inl ⟨by rfl, fun w' h => by go_simp⟩) (by assumption) ?_
      try simp only [Act.put, List.getElem_toArray, List.getElem_cons_zero, List.getElem_cons_succ, List.setIfInBounds_toArray, List.set_cons_zero, List.set_cons_succ]
      refine wpAnyH_take (i := 10) (v := .int .i16 ev) rfl (by kernel_rfl) (by kernel_rfl) (by kernel_rfl) (fun _ _ _ h => h) (Or.inl ⟨by rfl, fun w' h => by (have g0 := (h.cell (p := ⟨b, o + k * 6 + 1, none⟩) hbl).trans HEv.out; go_simp)⟩) (by assumption) ?_
      try simp only [Act.put, List.getElem_toArray, List.getElem_cons_zero, List.getElem_cons_succ, List.setIfInBounds_toArray, List.set_cons_zero, List.set_cons_succ]
      refine wpAnyH_take (i := 11) (v := .int .i64 ev) rfl (by kernel_rfl) (by kernel_rfl) (by kernel_rfl) (fun _ _ _ h => h) (Or.inl ⟨by rfl, fun w' h => by go_simp⟩) (by assumption) ?_
      try simp only [Act.put, List.getElem_toArray, List.getElem_cons_zero, List.getElem_cons_succ, List.setIfInBounds_toArray, List.set_cons_zero, List.set_cons_succ]
      refine wpAnyH_take (i := 12) (v := .int .i64 Q) rfl (by kernel_rfl) (by kernel_rfl) (by kernel_rfl) (fun _ _ _ h => h) (Or.inl ⟨by rfl, fun w' h => by go_simp⟩) (by assumption) ?_
      try simp only [Act.put, List.getElem_toArray, List.getElem_cons_zero, List.getElem_cons_succ, List.setIfInBounds_toArray, List.set_cons_zero, List.set_cons_succ]
      obtain ⟨D0, hD0⟩ : ∃ D0, wa.drew = D0 := ⟨_, rfl⟩
      rw [hD0] at hHeld ⊢
      clear hD0
      refine wpAnyH_ready (rs := [13]) (by kernel_rfl) (by simp) ?_
      refine AllReadyH.cons rfl (fun K hK => ?_) AllReadyH.nil
      refine if_wanted rfl ?_
      go_simp
      refine (HTu.out _ hHeld).mono ?_
      rintro e w9 ⟨A9, c9, rfl, hO9, hb⟩
      have hH2 : Below wa.heap.size wa w9 := hHeld.trans (hb.mono hHeld.size)
      have HO9 := Lib.hid (own_rd2c hO9 (by rw [tnR_len, tnA_len, rbZ, List.length_replicate]))
      clear hO9
      clear hb hHeld
      dsimp only
      refine hK.out _ _ hH2 (fun hHeld => ?_)
      clear hK K hH2
      try simp only [Act.put, List.getElem_toArray, List.getElem_cons_zero, List.getElem_cons_succ, List.setIfInBounds_toArray, List.set_cons_zero, List.set_cons_succ]
      refine wpAnyH_ready (rs := [14]) (by kernel_rfl) (by simp) ?_
      refine AllReadyH.cons rfl (fun K hK => ?_) AllReadyH.nil
      refine if_wanted rfl ?_
      refine wp_assign0 (v := .slice A9 N c9) rfl rfl ?_
      refine hK.out _ _ hHeld (fun hHeld => ?_)
      clear hK K
      try simp only [Act.put, List.getElem_toArray, List.getElem_cons_zero, List.getElem_cons_succ, List.setIfInBounds_toArray, List.set_cons_zero, List.set_cons_succ]
      refine wpAnyH_done (by kernel_rfl) ?_ _
      try simp only [Act.put, List.getElem_toArray, List.getElem_cons_zero, List.getElem_cons_succ, List.setIfInBounds_toArray, List.set_cons_zero, List.set_cons_succ]
      have hb := hHeld
      clear hHeld
      have HB9 : Hid (Below w.heap.size w w9) := HB.out.trans (hb.mono HB.out.size)
      clear hb hwq1 hwq2 hwe1 hwe2
      go_wp2
      go_roundw
      case rel => exact ⟨k + 1, A9, c9, by omega, rfl, by go_num, by rw [HSt.out]; exact HO9.out, HB9.out⟩
      case measure => simp [intOf]; omega
    · obtain rfl : k = l.length := by omega
      have hR1 : Rd wa wa.heap.size ycells A8 (rbR N l 1) := by rw [rbR_one]; exact HR8.out
      have HR1 := Lib.hid hR1
      have hrl : (rbR N l 1).length = N := rbR_len N l 1
      have HRl := Lib.hid hrl
      have hOe : Hid ((wa.alloc (.cells #[] 5)).ownsRow wa.heap.size 5 1 (.slice (some ⟨wa.heap.size, 0, none⟩) 0 0) 0 []) := empty_own wa _ 1
      clear hR1 hrl hk hlt HR8
      go_wp2_with (at_builtin; refine wpList_append_any _ rfl (.tmp 44) (.tmp 45) 31 31 rfl wa.heap.size 5 i0 (.int .u8 0) 1 1 Tryd.underlying31 HI.out HZ0.out HZ1.out HZ2.out rfl (by decide) _ 0 [] rfl ?own _ N ((rbR N l 1).flatMap ycells) rfl ?src ?c3 ?c4 ?c5 ?_)
      case own => exact empty_own wa _ 1
      case src => exact src_of_rdN HRl.out (HR1.out.keep ((Below.refl _ wa).alloc (Nat.le_refl _) _))
      case c3 => unfold maxLen; omega
      case c4 => omega
      case c5 => simp
      intro v' w4 hown hg _
      have hB : Below wa.heap.size wa w4 := ((Below.refl _ wa).alloc (Nat.le_refl _) _).grown hg (by simp) (fun k e => by
        have e2 : wa.heap.size = k := by simpa [Value.ownBlock] using e
        omega)
      have hown2 : w4.ownsRow wa.heap.size 5 1 v' (rbR N l 1).length ((rbR N l 1).flatMap ycells) := by rw [HRl.out]; simpa using hown
      obtain ⟨A7, c7, rfl, -, -⟩ := own_rd ycells_length hown2
      obtain ⟨g, rfl⟩ : ∃ g, A7 = some ⟨g, 0, none⟩ := by
        rcases hown2.2 with ⟨e, h0⟩ | ⟨g, cap, cur, hv, -⟩
        · have := HRl.out; omega
        · exact ⟨g, (Value.slice.inj hv).1⟩
      rw [HRl.out]
      have HO4 := Lib.hid hown2
      have HBa := Lib.hid hB
      have HGa : Hid (wa.heap.size ≤ g) := (own_block hown2 rfl).1
      clear hown hown2 hg hB hOe
      go_wp2_with fail
      go_loopw [10] (fun tv wr => ∃ (k : Nat) (X : List Int), (1 ≤ k ∧ k ≤ 8) ∧ X = rbR N l k ∧ tv = .int .i64 k ∧ (∀ j, 1 ≤ j → j < k → rbU N l j = false) ∧ wr.ownsRow wa.heap.size 5 1 (.slice (some ⟨g, 0, none⟩) X.length c7) X.length (X.flatMap ycells) ∧ Below wa.heap.size wa wr) (fun t _ => 8 - (intOf t).toNat)
      case atStart => exact ⟨1, _, ⟨by omega, by omega⟩, rfl, rfl, fun j h1 h2 => by omega, HO4.out, HBa.out⟩
      case round =>
        clear HO4 HBa
        obtain ⟨k, X, hk, hX, rfl, hU, hO, hB⟩ := hrel
        obtain ⟨wb, rfl⟩ : ∃ u, u = wr := ⟨_, rfl⟩
        have HK := Lib.hid hk
        have HX := Lib.hid hX
        have HU := Lib.hid hU
        have HO := Lib.hid hO
        have HBb := Lib.hid hB
        have hXl : X.length = N := by rw [hX, rbR_len]
        have HXl := Lib.hid hXl
        have hup := l05Upright_any X (some ⟨g, 0, none⟩) c7 wb (by omega) (own_rd2 ycells_length hO)
        rw [hXl, show upB X = rbU N l k from by rw [hX]; rfl] at hup
        have HUp := Lib.hid hup
        clear hk hX hU hO hB hXl hup
        go_wp2_with fail
        refine HUp.out.mono ?_
        rintro e w5 ⟨rfl, rfl⟩
        cases hu : rbU N l k with
        | true =>
          have hkk := rbK_is HK.out.1 HK.out.2 hu HU.out
          have E : Hid (rbN (N : Int) l = ((k * lcmA l : Nat) : Int)) := by show _ = _; rw [rbN, if_pos HC0.out, show (N : Int).toNat = N from by omega, hkk]
          obtain ⟨P, hP⟩ : ∃ P : Int, (k : Int) * ((lcmA l : Nat) : Int) = P := ⟨_, rfl⟩
          have hPe : P = ((k * lcmA l : Nat) : Int) := by rw [← hP]; push_cast; rfl
          have hPb : 0 ≤ P ∧ P ≤ 8000000 := by
            have := Nat.mul_le_mul HK.out.2 hA6
            rw [hPe]; omega
          have HPe := Lib.hid hPe
          have hw1 : IntKind.i64.wrap P = P := IntWalk.i64_in _ ⟨by omega, by omega⟩
          have hw2 : wrap64 P = P := IntWalk.wrap64_in _ ⟨by omega, by omega⟩
          have HBw : Hid (Below w.heap.size w wb) := HB.out.trans (HBb.out.mono HB.out.size)
          clear hkk hPe hPb
          go_wp2
          go_ret2
          exact ⟨by (rw [E.out, HC0.out, ← HPe.out]; first | done | rfl), HBw.out⟩
        | false =>
          have hk8 : k < 8 := by
            rcases Nat.lt_or_ge k 8 with h | h
            · exact h
            · exfalso
              obtain rfl : k = 8 := by have := HK.out.2; omega
              rw [rbU_eight] at hu; cases hu
          have HK8 := Lib.hid hk8
          have HUk := Lib.hid hu
          clear hu hk8
          go_wp2_with fail
          go_loopw [12] (fun iv wr => ∃ (i : Nat) (Y : List Int), i ≤ N ∧ iv = .int .i64 i ∧ PartT X (rbR N l (k + 1)) Y i ∧ wr.ownsRow wa.heap.size 5 1 (.slice (some ⟨g, 0, none⟩) Y.length c7) Y.length (Y.flatMap ycells) ∧ Below wa.heap.size wa wr) (fun i _ => N - (intOf i).toNat)
          case atStart => exact ⟨0, X, by omega, rfl, PartT.zero _ _, HO.out, HBb.out⟩
          case round =>
            clear HO HBb
            obtain ⟨i, Y, hi, rfl, hP, hO, hB⟩ := hrel
            obtain ⟨wc, rfl⟩ : ∃ u, u = wr := ⟨_, rfl⟩
            have HP := Lib.hid hP
            have HO := Lib.hid hO
            have HBc := Lib.hid hB
            have hYl : Y.length = N := by rw [hP.1, HXl.out]
            have HYl := Lib.hid hYl
            clear hP hO hB hYl
            have hi0 : (0 : Int) ≤ (i : Int) := Int.natCast_nonneg _
            by_cases hlt : i < N
            · have hi8 : (i : Int) < N := by omega
              obtain ⟨cc, hcc⟩ : ∃ q, rbC N l i = q := ⟨_, rfl⟩
              have hXi : X[i]? = some (((k : Int) * cc) % 8) := by rw [HX.out, rbR_at hlt, hcc]
              have hYi : Y[i]? = some (((k : Int) * cc) % 8) := by rw [HP.out.2.2 i (Nat.le_refl _)]; exact hXi
              have hRi : (rbR N l 1)[i]? = some (cc % 8) := by rw [rbR_at hlt, hcc]; simp
              obtain ⟨a, ha⟩ : ∃ a, ((k : Int) * cc) % 8 = a := ⟨_, rfl⟩
              obtain ⟨d, hd⟩ : ∃ d, cc % 8 = d := ⟨_, rfl⟩
              have ha7 : 0 ≤ a ∧ a ≤ 7 := by omega
              have hd7 : 0 ≤ d ∧ d ≤ 7 := by omega
              rw [ha] at hYi
              rw [hd] at hRi
              obtain ⟨y, hy⟩ : ∃ y, Int.tmod (a + d) 8 = y := ⟨_, rfl⟩
              have hy2 : y = (((k + 1 : Nat) : Int) * cc) % 8 := by
                rw [← hy, Int.tmod_eq_emod_of_nonneg (by omega), ← hd, rb_step (N := N) ha.symm]
              have hyb : 0 ≤ y ∧ y ≤ 7 := by rw [hy2]; omega
              have hNx : (rbR N l (k + 1))[i]? = some y := by rw [rbR_at hlt, hcc, hy2]
              obtain ⟨b9, o9, rfl, hb9, hrow9⟩ := (HR1.out.keep HBc.out).at_ ycells_length hRi
              have g1 : wc.cell? ⟨b9, o9 + i, none⟩ = some (.int .u8 d) := rowY hrow9
              have g0 : wc.cell? ⟨g, i, none⟩ = some (.int .u8 a) := ownY_at HO.out hYi
              have gf : wc.frozen? ⟨g, i, none⟩ = false := own_frozenYb HO.out i
              have hst := HP.out.step (by rw [HXl.out]; exact hlt) hNx
              have HSt := Lib.hid hst
              have hO2 := (own_setYb HO.out i y).2
              have HO2 := Lib.hid hO2
              have HB2 : Hid (Below wa.heap.size wa (wc.setCell ⟨g, i, none⟩ (.int .u8 y))) := HBc.out.setCell (p := ⟨g, i, none⟩) HGa.out _
              obtain ⟨sm, hsm⟩ : ∃ s, a + d = s := ⟨_, rfl⟩
              rw [hsm] at hy
              have hw1 : IntKind.u8.wrap sm = sm := IntWalk.u8_in _ ⟨by omega, by omega⟩
              have hw2 : IntKind.u8.wrap y = y := IntWalk.u8_in _ ⟨by omega, by omega⟩
              clear hXi hYi hRi ha hd ha7 hd7 hy2 hyb hNx hrow9 hst hO2 hcc
              go_wp2_with fail
              go_region
              have HO3 := Lib.hid (own_keep' HO2.out (Below.refl _ _).drew)
              clear hw1 hw2 g0 g1 gf
              go_wp2
              go_roundw
              case rel => exact ⟨i + 1, Y.set i y, by omega, by go_num, HSt.out, HO3.out, HB2.out.drew⟩
              case measure => simp [intOf]; omega
            · obtain rfl : i = N := by omega
              have hY : Y = rbR i l (k + 1) := PartT.all (r := X) (by rw [HXl.out]; exact HP.out) (by rw [rbR_len, HXl.out])
              have HY := Lib.hid hY
              have hk0 : (0 : Int) ≤ (k : Int) := Int.natCast_nonneg _
              have hk10 : (k : Int) < 8 := by have := HK8.out; omega
              have HNx : Hid (∀ j, 1 ≤ j → j < k + 1 → rbU i l j = false) := fun j h1 h2 => by
                by_cases e : j = k
                · subst e; exact HUk.out
                · exact HU.out j h1 (by omega)
              have HKn : Hid (1 ≤ k + 1 ∧ k + 1 ≤ 8) := by have := HK8.out; show _ ∧ _; omega
              clear hY hi hlt
              go_wp2
              go_roundw
              case rel => exact ⟨k + 1, Y, HKn.out, HY.out, by go_num, HNx.out, HO.out, HBc.out⟩
              case measure => simp [intOf]; omega

end Go.Proofs.YtcalooahafgfbaaDoor
