/-
  Rows that are turned: the program's turn, the model's l05Turned. Condition: a valid row of one's own, a valid walker, not too many walks.
-/
import Derived.Test.YtcalooahafgfbaaDoorYc
import Derived.Test.YtcalooahafgfbaaDoorYh
import Derived.Deep.RegionWith
namespace Go.Proofs.YtcalooahafgfbaaDoor
open Go.ChangeShapes Go.WideShapes Go.ChangeAt Go.RowKit Go.Deep

theorem gk_any {w w' : World} (h : w.grownBy w' none) (row : Option Nat) : w.grownBy w' row := ⟨h.os, h.tape, h.output, h.size, fun k hk _ => h.block k hk (by intro e; cases e)⟩
theorem gk_drew {w w' : World} {row : Option Nat} (h : w.grownBy w' row) : w.grownBy w'.drew row := ⟨h.os, h.tape, h.output, h.size, h.block⟩
/-- By how much so many walks turn each bottle. -/
def byW (n : Nat) (x : Wal) (m : Int) : Nat → Int := fun i => (vis n x).getD i 0 * m * x.tu
/-- A row of which the first places have been turned. -/
def PartT (r R X : List Int) (k : Nat) : Prop := X.length = r.length ∧ (∀ j, j < k → X[j]? = R[j]?) ∧ ∀ j, k ≤ j → X[j]? = r[j]?
theorem PartT.zero (r R : List Int) : PartT r R r 0 := ⟨rfl, fun j h => absurd h (Nat.not_lt_zero _), fun _ _ => rfl⟩
theorem PartT.step {r R X : List Int} {k : Nat} (h : PartT r R X k) (hk : k < r.length) {y : Int} (hy : R[k]? = some y) : PartT r R (X.set k y) (k + 1) := by
  refine ⟨by rw [List.length_set, h.1], fun j hj => ?_, fun j hj => ?_⟩
  · by_cases e : j = k
    · subst e; rw [List.getElem?_set_self (by rw [h.1]; exact hk), hy]
    · rw [List.getElem?_set_ne (by omega)]; exact h.2.1 j (by omega)
  · rw [List.getElem?_set_ne (by omega)]; exact h.2.2 j (by omega)
theorem PartT.all {r R X : List Int} (h : PartT r R X r.length) (hR : R.length = r.length) : X = R := by
  apply List.ext_getElem?
  intro j
  by_cases hj : j < r.length
  · exact h.2.1 j hj
  · rw [List.getElem?_eq_none (by rw [h.1]; omega), List.getElem?_eq_none (by omega)]

set_option maxRecDepth 100000 in
set_option maxHeartbeats 4000000 in
theorem turn_any (n : Nat) (h60 : n ≤ 60) (s : KW) (hx : vOk n s.1 = true) (m : Int) (hm : -20000000 ≤ m ∧ m ≤ 20000000) (r : List Int) (hrn : r.length = n) (hr7 : ∀ a ∈ r, 0 ≤ a ∧ a ≤ 7) (b : Nat) (A : Option Addr) (c : Nat) (w : World) (hbw : b ≤ w.heap.size) (hs : okW n w s) (hlt : s.2 < b) (hO : w.ownsRow b 5 1 (.slice A r.length c) r.length (r.flatMap ycells)) :
    Calls Tryd.prog 31 #[.slice A r.length c, .agg (kcw n s).toArray, .int .i64 m] w fun e w' => e = .returned (.tuple #[]) ∧ w'.ownsRow b 5 1 (.slice A r.length c) r.length ((tnR r (byW n s.1 m)).flatMap ycells) ∧ Below b w w' ∧ w.grownBy w' (A.map (·.block)) := by
  subst hrn
  obtain ⟨n, hn⟩ : ∃ n, r.length = n := ⟨_, rfl⟩
  have HN := Lib.hid hn
  rw [hn] at h60 hx hs hO ⊢
  have hxo := vOk_out hx
  obtain ⟨⟨fi, ev, st, sp, co, tu⟩, gv⟩ := s
  simp only at hxo hlt
  obtain ⟨m0, m1⟩ := hm
  show Calls Tryd.prog 31 #[.slice A n c, .agg #[.int .i16 fi, .int .i16 ev, .int .i16 st, .int .i16 sp, .int .i16 co, .int .i8 tu, .int .i64 fi, .int .i64 ev, .slice (some ⟨gv, 0, none⟩) n n], .int .i64 m] w _
  have hA : Below b w (w.alloc (.cells #[.int .i16 fi, .int .i16 ev, .int .i16 st, .int .i16 sp, .int .i16 co, .int .i8 tu, .int .i64 fi, .int .i64 ev, .slice (some ⟨gv, 0, none⟩) n n] 60)) := (Below.refl _ w).alloc hbw _
  have hAw : Below w.heap.size w (w.alloc (.cells #[.int .i16 fi, .int .i16 ev, .int .i16 st, .int .i16 sp, .int .i16 co, .int .i8 tu, .int .i64 fi, .int .i64 ev, .slice (some ⟨gv, 0, none⟩) n n] 60)) := (Below.refl _ w).alloc (Nat.le_refl _) _
  have hK : Blk (w.alloc (.cells #[.int .i16 fi, .int .i16 ev, .int .i16 st, .int .i16 sp, .int .i16 co, .int .i8 tu, .int .i64 fi, .int .i64 ev, .slice (some ⟨gv, 0, none⟩) n n] 60)) w.heap.size 60 #[.int .i16 fi, .int .i16 ev, .int .i16 st, .int .i16 sp, .int .i16 co, .int .i8 tu, .int .i64 fi, .int .i64 ev, .slice (some ⟨gv, 0, none⟩) n n] := Blk.new w _ _
  obtain ⟨W1, hW1⟩ : ∃ W1, w.alloc (.cells #[.int .i16 fi, .int .i16 ev, .int .i16 st, .int .i16 sp, .int .i16 co, .int .i8 tu, .int .i64 fi, .int .i64 ev, .slice (some ⟨gv, 0, none⟩) n n] 60) = W1 := ⟨_, rfl⟩
  rw [hW1] at hA hK hAw
  have HQ : Hid (∀ q, A.map (·.block) = some q → q < w.heap.size) := fun q e => (own_block hO (by rw [ownBlock_slice']; exact e)).2
  have HO1 := Lib.hid (own_keep' hO hAw)
  have HA := Lib.hid hA
  have HG0 : Hid (w.grownBy W1 (A.map (·.block))) := gk_any (grown_of_below hAw) _
  have HK := Lib.hid hK
  have HS1 : Hid (okW n W1 (⟨fi, ev, st, sp, co, tu⟩, gv)) := okW.keep hs hAw
  have HR7 := Lib.hid hr7
  have HXO := Lib.hid hxo
  have HBW : Hid (b ≤ w.heap.size) := hbw
  have c8 : W1.cell? ⟨w.heap.size, 8, none⟩ = some (.slice (some ⟨gv, 0, none⟩) n n) := Blk.cell hK 8
  have hlenT : (tnR r (byW n ⟨fi, ev, st, sp, co, tu⟩ m)).length = n := by rw [tnR_len, hn]
  have HLT := Lib.hid hlenT
  clear hA hAw hK hs hr7 hx hO hbw hlenT hxo hn
  go_enter Tryd.func31, Tryd.ntmps31
  go_wp2_with fail
  clear c8 hW1
  go_loopw [11] (fun i wr => ∃ (k : Nat) (X : List Int), k ≤ n ∧ i = .int .i64 k ∧ PartT r (tnR r (byW n ⟨fi, ev, st, sp, co, tu⟩ m)) X k ∧ wr.ownsRow b 5 1 (.slice A X.length c) X.length (X.flatMap ycells) ∧ okW n wr (⟨fi, ev, st, sp, co, tu⟩, gv) ∧ Blk wr w.heap.size 60 #[.int .i16 fi, .int .i16 ev, .int .i16 st, .int .i16 sp, .int .i16 co, .int .i8 tu, .int .i64 fi, .int .i64 ev, .slice (some ⟨gv, 0, none⟩) n n] ∧ Below b w wr ∧ w.grownBy wr (A.map (·.block)))
    (fun i _ => n - (intOf i).toNat)
  case atStart => exact ⟨0, r, by omega, rfl, PartT.zero _ _, by rw [HN.out]; exact HO1.out, HS1.out, HK.out, HA.out, HG0.out⟩
  case round =>
    clear HO1 HS1 HK HA HG0
    obtain ⟨k, X, hk, rfl, hP, hO, hs, hK, hB, hG⟩ := hrel
    have HGr := Lib.hid hG
    clear hG
    have HP := Lib.hid hP
    have HO := Lib.hid hO
    have HS := Lib.hid hs
    have HK := Lib.hid hK
    have HB := Lib.hid hB
    have hk0 : (0 : Int) ≤ (k : Int) := Int.natCast_nonneg _
    by_cases hltk : k < n
    · have hXl : X.length = n := by rw [hP.1, HN.out]
      have hrl : r.length = n := HN.out
      obtain ⟨a, ha⟩ : ∃ a, r[k]? = some a := ⟨_, List.getElem?_eq_getElem (by omega)⟩
      have hXa : X[k]? = some a := by rw [hP.2.2 k (Nat.le_refl _), ha]
      have ha7 := HR7.out a (List.mem_of_getElem? ha)
      have hva : (vis n ⟨fi, ev, st, sp, co, tu⟩)[k]? = some ((vis n ⟨fi, ev, st, sp, co, tu⟩).getD k 0) := by rw [List.getD_eq_getElem?_getD, List.getElem?_eq_getElem (by rw [vis_len]; exact hltk)]; rfl
      have d1 : wr.cell? ⟨gv, k, none⟩ = some (.int .i64 ((vis n ⟨fi, ev, st, sp, co, tu⟩).getD k 0)) := icells_cell hs hva
      have hvin := visTo_in n st.toNat sp.toNat co.toNat k
      have d5 : wr.cell? ⟨w.heap.size, 5, none⟩ = some (.int .i8 tu) := Blk.cell hK 5
      obtain ⟨g, rfl, hgb, hgl, hcell, hfr, hset⟩ := own_cellY hO hXa
      have hgw := HQ.out g rfl
      have HGW := Lib.hid hgw
      have hT := tnR_get (byW n ⟨fi, ev, st, sp, co, tu⟩ m) ha
      have htu := HXO.out.2.2.2.2.2
      have hcob := HXO.out.2.2.2.2.1
      obtain ⟨v, hv⟩ : ∃ v, (vis n ⟨fi, ev, st, sp, co, tu⟩).getD k 0 = v := ⟨_, rfl⟩
      have hv0 : 0 ≤ v := by rw [← hv]; exact hvin.1
      have hv60 : v ≤ 60 := by have := hvin.2; rw [← hv]; show (visTo n st.toNat sp.toNat co.toNat).getD k 0 ≤ 60; omega
      rw [show byW n ⟨fi, ev, st, sp, co, tu⟩ m k = v * m * tu from by rw [← hv]; rfl] at hT
      rw [hv] at d1
      have p1 : ∃ p, v * m = p ∧ -1200000000 ≤ p ∧ p ≤ 1200000000 := by
        refine ⟨_, rfl, ?_, ?_⟩
        · have h1 : v * (-20000000) ≤ v * m := Int.mul_le_mul_of_nonneg_left m0 hv0
          omega
        · have h1 : v * m ≤ v * 20000000 := Int.mul_le_mul_of_nonneg_left m1 hv0
          omega
      obtain ⟨p, hp, hp0, hp1⟩ := p1
      have q1 : ∃ q, p * tu = q ∧ -100000000000 ≤ q ∧ q ≤ 100000000000 := by
        refine ⟨_, rfl, ?_, ?_⟩ <;> (have : tu = -7 ∨ tu = -6 ∨ tu = -5 ∨ tu = -4 ∨ tu = -3 ∨ tu = -2 ∨ tu = -1 ∨ tu = 0 ∨ tu = 1 ∨ tu = 2 ∨ tu = 3 ∨ tu = 4 ∨ tu = 5 ∨ tu = 6 ∨ tu = 7 := by omega) <;> (rcases this with h | h | h | h | h | h | h | h | h | h | h | h | h | h | h) <;> rw [h] <;> omega
      obtain ⟨q, hq, hq0, hq1⟩ := q1
      rw [hp, hq] at hT
      obtain ⟨y, hy⟩ : ∃ y, (a + q) % 8 = y := ⟨_, rfl⟩
      rw [hy] at hT
      have HT := Lib.hid hT
      have HY := Lib.hid hy
      have HSet := Lib.hid (hset y)
      have hk8 : (k : Int) < n := by omega
      have hk9 : (k : Int) < X.length := by omega
      have u1 : IntKind.i64.wrap a = a := IntWalk.i64_in _ ⟨by omega, by omega⟩
      have u2 : wrap64 a = a := IntWalk.wrap64_in _ ⟨by omega, by omega⟩
      have u3 : IntKind.i64.wrap p = p := IntWalk.i64_in _ ⟨by omega, by omega⟩
      have u4 : wrap64 p = p := IntWalk.wrap64_in _ ⟨by omega, by omega⟩
      have u5 : IntKind.i64.wrap q = q := IntWalk.i64_in _ ⟨by omega, by omega⟩
      have u6 : wrap64 q = q := IntWalk.wrap64_in _ ⟨by omega, by omega⟩
      have u7 : IntKind.i64.wrap tu = tu := IntWalk.i64_in _ ⟨by omega, by omega⟩
      have u8 : wrap64 tu = tu := IntWalk.wrap64_in _ ⟨by omega, by omega⟩
      have u9 : IntKind.i64.wrap (a + q) = a + q := IntWalk.i64_in _ ⟨by omega, by omega⟩
      have u0 : wrap64 (a + q) = a + q := IntWalk.wrap64_in _ ⟨by omega, by omega⟩
      have hb8 : -1000000000000 ≤ a + q ∧ a + q ≤ 1000000000000 := ⟨by omega, by omega⟩
      have HB8 := Lib.hid hb8
      have HXl := Lib.hid hXl
      rw [hXl] at hk9
      clear hT hy hset hP hO hs hK hB ha hXa hva hv hvin hb8 hXl hrl hgw
      have HC8 : Hid (∀ W, Calls Tryd.prog 42 #[.int .i64 (a + q)] W fun e w' => e = .returned (.int .u8 y) ∧ W = w') := fun W => by
        have := eighths_any (a + q) HB8.out W
        rw [HY.out] at this
        exact this
      go_wp2_with fail
      go_region_with (refine (HC8.out _).mono ?_; rintro e w5 ⟨rfl, rfl⟩)
      all_goals
        go_wp2
        go_roundw
        case rel =>
          refine ⟨k + 1, X.set k y, by omega, by go_num, HP.out.step (by rw [HN.out]; exact hltk) HT.out, ?_, ?_, ?_, ?_, ?_⟩
          · exact HSet.out
          · exact Blk.far (p := ⟨g, k, none⟩) HS.out (by dsimp only; omega) _
          · exact Blk.far (p := ⟨g, k, none⟩) HK.out (by have := HGW.out; dsimp only; omega) _
          · exact (HB.out.setCell (p := ⟨g, k, none⟩) hgb _).drew
          · exact gk_drew (gk_set HGr.out _)
        case measure => simp [intOf]; omega
    · obtain rfl : k = n := by omega
      have e : X = tnR r (byW k ⟨fi, ev, st, sp, co, tu⟩ m) := PartT.all (by rw [HN.out]; exact hP) (tnR_len _ _)
      subst e
      rw [HLT.out] at hO
      have HOf := Lib.hid hO
      clear hO hP hs hK hB
      go_wp2
      first | go_end0 | (refine bodyPost_ret (results_none rfl _ _ _) rfl ?_)
      exact ⟨rfl, HOf.out, HB.out, HGr.out⟩
end Go.Proofs.YtcalooahafgfbaaDoor
