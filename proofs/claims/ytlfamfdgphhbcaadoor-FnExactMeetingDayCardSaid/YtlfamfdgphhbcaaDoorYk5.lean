/-
  MeetingDay, the model's contract and the program's. Condition: the numbers fit their kinds; the sentinel errors lie as the row lists them (the program's).
-/
import Derived.Test.YtlfamfdgphhbcaaDoorYk4
import Derived.Test.YtlfamfdgphhbcaaDoorFn4
namespace Go.Proofs.YtlfamfdgphhbcaaDoor
open Go.ChangeShapes Go.WideShapes Go.ChangeAt Go.RowKit Go.Deep

set_option maxRecDepth 100000 in
set_option maxHeartbeats 1000000 in
theorem maxS_any (a b : Int) (w : World) : Calls Tryd.prog 25 #[.int .i64 a, .int .i64 b] w fun e w' => e = .returned (.int .i64 (if a < b then b else a)) ∧ w = w' := by
  by_cases h : a < b
  · have h2 : ¬ b < a := by omega
    have h3 : ¬ b ≤ a := by omega
    rw [if_pos h]
    go_enter Tryd.func25, Tryd.ntmps25
    go_wp2
    go_ret
    exact ⟨rfl, rfl⟩
  · rw [if_neg h]
    by_cases h2 : b < a
    · go_enter Tryd.func25, Tryd.ntmps25
      go_wp2
      go_ret
      exact ⟨rfl, rfl⟩
    · obtain rfl : a = b := by omega
      clear h h2
      go_enter Tryd.func25, Tryd.ntmps25
      go_wp2
      go_ret
      exact ⟨rfl, rfl⟩
theorem rngV {w : World} {g : Nat} {t : TypeId} {x : Wal} (h : Blk w g t (vcells x).toArray) : w.rangeAt g 0 (vcells x) := fun j v hv => by
  rw [Nat.zero_add, h.cell]; simpa using hv
theorem Tryd.sizeVI2 : (Tryd.prog.info? 28).map (·.size) = some 6 := by kernel_rfl

set_option maxRecDepth 100000 in
set_option maxHeartbeats 4000000 in
theorem specMeet_any (n : Int) (hn : wfI6 n) (a b : Wal) (hwa : wfV a) (hwb : wfV b) (f : Int) (w : World) :
    Calls Tryd.prog 7 #[.int .i64 n, .agg (vcells a).toArray, .agg (vcells b).toArray, .int .i64 f] w fun e w' => e = .returned (.tuple #[.int .i64 (mtV n a b f), .int .i64 (mtC n a b f)]) ∧ Below w.heap.size w w' := by
  have HASK : Hid (∀ W : World, Calls Tryd.prog 23 #[.int .i64 n, .slice (some ⟨W.heap.size, 0, none⟩) 2 2, .bool (inS f)] (W.alloc (.cells (vcells a ++ vcells b).toArray 28)) fun e w' => e = .returned (.int .i64 (akV n [a, b] (inS f))) ∧ Below (W.alloc (.cells (vcells a ++ vcells b).toArray 28)).heap.size (W.alloc (.cells (vcells a ++ vcells b).toArray 28)) w') :=
    fun W => l05Asked_any n hn [a, b] (fun y hy => by simp at hy; rcases hy with rfl | rfl <;> assumption) (inS f) _ 2 _ (by simp) (rd_twoW a b W)
  obtain ⟨cd, hcd⟩ : ∃ c, akV n [a, b] (inS f) = c := ⟨_, rfl⟩
  have HCD := Lib.hid hcd
  rw [hcd] at HASK
  clear hcd hwa hwb
  obtain ⟨afi, aev, ast, asp, aco, atu⟩ := a
  obtain ⟨bfi, bev, bst, bsp, bco, btu⟩ := b
  obtain ⟨W0, hW0⟩ : ∃ W0, (w.alloc (.cells #[.int .i16 afi, .int .i16 aev, .int .i16 ast, .int .i16 asp, .int .i16 aco, .int .i8 atu] 28)).alloc (.cells #[.int .i16 bfi, .int .i16 bev, .int .i16 bst, .int .i16 bsp, .int .i16 bco, .int .i8 btu] 28) = W0 := ⟨_, rfl⟩
  have hB0 : Below w.heap.size w W0 := by rw [← hW0]; exact ((Below.refl _ w).alloc (Nat.le_refl _) _).alloc (by simp) _
  have hKa : Blk W0 w.heap.size 28 #[.int .i16 afi, .int .i16 aev, .int .i16 ast, .int .i16 asp, .int .i16 aco, .int .i8 atu] := by rw [← hW0]; exact (Blk.new w _ _).alloc _
  have hKb : Blk W0 (w.heap.size + 1) 28 #[.int .i16 bfi, .int .i16 bev, .int .i16 bst, .int .i16 bsp, .int .i16 bco, .int .i8 btu] := by rw [← hW0]; exact Blk.new' (by simp) rfl
  show Calls Tryd.prog 7 #[.int .i64 n, .agg #[.int .i16 afi, .int .i16 aev, .int .i16 ast, .int .i16 asp, .int .i16 aco, .int .i8 atu], .agg #[.int .i16 bfi, .int .i16 bev, .int .i16 bst, .int .i16 bsp, .int .i16 bco, .int .i8 btu], .int .i64 f] w _
  have HB0 := Lib.hid hB0
  have HKa := Lib.hid hKa
  have HKb := Lib.hid hKb
  clear hB0 hKa hKb
  go_enter Tryd.func7, Tryd.ntmps7
  go_wp2_with fail
  clear hW0
  refine wp_region_held_drew (S := fun w' => Below W0.heap.size W0 w') (by kernel_rfl) (Below.refl _ _).drew (fun hHeld => ?_)
  refine wpAnyH_take (i := 0) (v := .int .i64 n) rfl (by kernel_rfl) (by kernel_rfl) (by kernel_rfl) (fun _ _ _ h => h) (Or.inl ⟨by rfl, fun w' h => by go_simp⟩) (by assumption) ?_
  try simp only [Act.put, List.getElem_toArray, List.getElem_cons_zero, List.getElem_cons_succ, List.setIfInBounds_toArray, List.set_cons_zero, List.set_cons_succ]
  refine' wpAnyH_take (i := 1) (v := _) rfl (by kernel_rfl) (by kernel_rfl) (by kernel_rfl) (fun _ _ _ h => h) (yieldsIf_load_mid (by rfl) 28 (.tmp 5) rfl w.heap.size (0) rfl (vcells (⟨afi, aev, ast, asp, aco, atu⟩ : Wal)) _ (fun w' h => fun j v hv => (rngV (x := (⟨afi, aev, ast, asp, aco, atu⟩ : Wal)) (HKa.out.below h HKa.out.lt)) j v hv) Tryd.underlying28 rfl Tryd.sizeVI2) (by assumption) ?_
  try simp only [Act.put, List.getElem_toArray, List.getElem_cons_zero, List.getElem_cons_succ, List.setIfInBounds_toArray, List.set_cons_zero, List.set_cons_succ]
  refine' wpAnyH_take (i := 2) (v := _) rfl (by kernel_rfl) (by kernel_rfl) (by kernel_rfl) (fun _ _ _ h => h) (yieldsIf_load_mid (by rfl) 28 (.tmp 6) rfl (w.heap.size + 1) (0) rfl (vcells (⟨bfi, bev, bst, bsp, bco, btu⟩ : Wal)) _ (fun w' h => fun j v hv => (rngV (x := (⟨bfi, bev, bst, bsp, bco, btu⟩ : Wal)) (HKb.out.below h HKb.out.lt)) j v hv) Tryd.underlying28 rfl Tryd.sizeVI2) (by assumption) ?_
  try simp only [Act.put, List.getElem_toArray, List.getElem_cons_zero, List.getElem_cons_succ, List.setIfInBounds_toArray, List.set_cons_zero, List.set_cons_succ]
  refine wpAnyH_take (i := 4) (v := .int .i64 f) rfl (by kernel_rfl) (by kernel_rfl) (by kernel_rfl) (fun _ _ _ h => h) (Or.inl ⟨by rfl, fun w' h => by go_simp⟩) (by assumption) ?_
  try simp only [Act.put, List.getElem_toArray, List.getElem_cons_zero, List.getElem_cons_succ, List.setIfInBounds_toArray, List.set_cons_zero, List.set_cons_succ]
  obtain ⟨D0, hD0⟩ : ∃ D0, W0.drew = D0 := ⟨_, rfl⟩
  rw [hD0] at hHeld ⊢
  clear hD0
  refine wpAnyH_ready (rs := [3, 5]) (by kernel_rfl) (by simp) ?_
  refine AllReadyH.cons rfl (fun K hK => ?bo1) (AllReadyH.cons rfl (fun K hK => ?bo2) AllReadyH.nil)
  case' bo1 =>
    refine if_wanted rfl ?_
    refine wp_twoWals (.tmp 14) (.tmp 15) rfl (⟨afi, aev, ast, asp, aco, atu⟩ : Wal) (⟨bfi, bev, bst, bsp, bco, btu⟩ : Wal) rfl rfl ?_
    have hH2 : Below W0.heap.size W0 (D0.alloc (.cells (vcells (⟨afi, aev, ast, asp, aco, atu⟩ : Wal) ++ vcells (⟨bfi, bev, bst, bsp, bco, btu⟩ : Wal)).toArray 28)) := hHeld.alloc hHeld.size _
    try dsimp only
    refine hK.out _ _ hH2 (fun hHeld => ?_)
    clear hK K hH2
    try simp only [Act.put, List.getElem_toArray, List.getElem_cons_zero, List.getElem_cons_succ, List.setIfInBounds_toArray, List.set_cons_zero, List.set_cons_succ]
    refine wpAnyH_ready (rs := [5]) (by kernel_rfl) (by simp) ?_
    refine AllReadyH.cons rfl (fun K hK => ?_) AllReadyH.nil
    refine if_wanted rfl ?_
    go_simp
    refine (l05Day_any _ _).mono ?_
    rintro e wd ⟨rfl, rfl⟩
    dsimp only
    refine hK.out _ _ hHeld (fun hHeld => ?_)
    clear hK K
    try simp only [Act.put, List.getElem_toArray, List.getElem_cons_zero, List.getElem_cons_succ, List.setIfInBounds_toArray, List.set_cons_zero, List.set_cons_succ]
  case' bo2 =>
    refine if_wanted rfl ?_
    go_simp
    refine (l05Day_any _ _).mono ?_
    rintro e wd ⟨rfl, rfl⟩
    dsimp only
    refine hK.out _ _ hHeld (fun hHeld => ?_)
    clear hK K
    try simp only [Act.put, List.getElem_toArray, List.getElem_cons_zero, List.getElem_cons_succ, List.setIfInBounds_toArray, List.set_cons_zero, List.set_cons_succ]
    refine wpAnyH_ready (rs := [3]) (by kernel_rfl) (by simp) ?_
    refine AllReadyH.cons rfl (fun K hK => ?_) AllReadyH.nil
    refine if_wanted rfl ?_
    refine wp_twoWals (.tmp 14) (.tmp 15) rfl (⟨afi, aev, ast, asp, aco, atu⟩ : Wal) (⟨bfi, bev, bst, bsp, bco, btu⟩ : Wal) rfl rfl ?_
    have hH2 : Below W0.heap.size W0 (D0.alloc (.cells (vcells (⟨afi, aev, ast, asp, aco, atu⟩ : Wal) ++ vcells (⟨bfi, bev, bst, bsp, bco, btu⟩ : Wal)).toArray 28)) := hHeld.alloc hHeld.size _
    try dsimp only
    refine hK.out _ _ hH2 (fun hHeld => ?_)
    clear hK K hH2
    try simp only [Act.put, List.getElem_toArray, List.getElem_cons_zero, List.getElem_cons_succ, List.setIfInBounds_toArray, List.set_cons_zero, List.set_cons_succ]
  all_goals
    refine wpAnyH_ready (rs := [6]) (by kernel_rfl) (by simp) ?_
    refine AllReadyH.cons rfl (fun K hK => ?_) AllReadyH.nil
    refine if_wanted rfl ?_
    go_simp
    refine (HASK.out D0).mono ?_
    rintro e w2 ⟨rfl, hb⟩
    have hH2 : Below W0.heap.size W0 w2 := hHeld.trans (hb.mono hHeld.size)
    clear hb hHeld
    dsimp only
    refine hK.out _ _ hH2 (fun hHeld => ?_)
    clear hK K hH2
    try simp only [Act.put, List.getElem_toArray, List.getElem_cons_zero, List.getElem_cons_succ, List.setIfInBounds_toArray, List.set_cons_zero, List.set_cons_succ]
    refine wpAnyH_ready (rs := [7]) (by kernel_rfl) (by simp) ?_
    refine AllReadyH.cons rfl (fun K hK => ?_) AllReadyH.nil
    refine if_wanted rfl ?_
    refine wp_assign0 (v := .int .i64 cd) rfl rfl ?_
    refine hK.out _ _ hHeld (fun hHeld => ?_)
    clear hK K
    try simp only [Act.put, List.getElem_toArray, List.getElem_cons_zero, List.getElem_cons_succ, List.setIfInBounds_toArray, List.set_cons_zero, List.set_cons_succ]
    refine wpAnyH_done (by kernel_rfl) ?_ _
    try simp only [Act.put, List.getElem_toArray, List.getElem_cons_zero, List.getElem_cons_succ, List.setIfInBounds_toArray, List.set_cons_zero, List.set_cons_succ]
    have hb := hHeld
    clear hHeld
    have HKa2 : Hid (Blk w2 w.heap.size 28 #[.int .i16 afi, .int .i16 aev, .int .i16 ast, .int .i16 asp, .int .i16 aco, .int .i8 atu]) := HKa.out.keep hb
    have HKb2 : Hid (Blk w2 (w.heap.size + 1) 28 #[.int .i16 bfi, .int .i16 bev, .int .i16 bst, .int .i16 bsp, .int .i16 bco, .int .i8 btu]) := HKb.out.keep hb
    have HB2 := Lib.hid (HB0.out.trans (hb.mono HB0.out.size))
    clear hb HKa HKb HB0 HASK
    by_cases h0 : cd = 0
    rotate_left
    · have E := Lib.hid (mt_no (n := n) (a := (⟨afi, aev, ast, asp, aco, atu⟩ : Wal)) (b := (⟨bfi, bev, bst, bsp, bco, btu⟩ : Wal)) (f := f) (by rw [HCD.out]; exact h0))
      go_wp2
      go_ret2
      exact ⟨by (rw [E.out.1, E.out.2, HCD.out]; first | done | rfl), HB2.out⟩
    subst h0
    obtain ⟨hv, hs⟩ := akV_yes HCD.out
    obtain ⟨-, hva, hvb⟩ := vsOk_two hv
    have hxa := vOk_out hva
    have hxb := vOk_out hvb
    simp only at hxa hxb
    obtain ⟨⟨f0, f1⟩, ⟨e0, e1⟩, -, -, -, -⟩ := hxa
    obtain ⟨⟨g0, g1⟩, ⟨d0, d1⟩, -, -, -, -⟩ := hxb
    have hf0 : 0 ≤ f ∧ f ≤ 10000 := by simpa [inS] using hs
    have u1 : IntKind.i64.wrap afi = afi := IntWalk.i64_in _ ⟨by omega, by omega⟩
    have u2 : wrap64 afi = afi := IntWalk.wrap64_in _ ⟨by omega, by omega⟩
    have u3 : IntKind.i64.wrap bfi = bfi := IntWalk.i64_in _ ⟨by omega, by omega⟩
    have u4 : wrap64 bfi = bfi := IntWalk.wrap64_in _ ⟨by omega, by omega⟩
    have u5 : IntKind.i64.wrap aev = aev := IntWalk.i64_in _ ⟨by omega, by omega⟩
    have u6 : wrap64 aev = aev := IntWalk.wrap64_in _ ⟨by omega, by omega⟩
    have u7 : IntKind.i64.wrap bev = bev := IntWalk.i64_in _ ⟨by omega, by omega⟩
    have u8 : wrap64 bev = bev := IntWalk.wrap64_in _ ⟨by omega, by omega⟩
    obtain ⟨F, hF⟩ : ∃ F, mdF (⟨afi, aev, ast, asp, aco, atu⟩ : Wal) (⟨bfi, bev, bst, bsp, bco, btu⟩ : Wal) f = F := ⟨_, rfl⟩
    have hF2 : (if f < (if afi < bfi then bfi else afi) then (if afi < bfi then bfi else afi) else f) = F := hF
    have hFb : 0 ≤ F ∧ F ≤ 10000 := by rw [← hF2]; omega
    have hmul := mul_in (a := aev) (b := bev) (A := 100) (B := 100) ⟨by omega, e1⟩ ⟨by omega, d1⟩
    obtain ⟨P, hP⟩ : ∃ P, aev * bev = P := ⟨_, rfl⟩
    rw [hP] at hmul
    have v1 : IntKind.i64.wrap (aev * bev) = P := by rw [hP]; exact IntWalk.i64_in _ ⟨by omega, by omega⟩
    have v2 : wrap64 (aev * bev) = P := by rw [hP]; exact IntWalk.wrap64_in _ ⟨by omega, by omega⟩
    have HP := Lib.hid hP
    have HF := Lib.hid hF
    have HM1 : Hid (∀ W, Calls Tryd.prog 25 #[.int .i64 afi, .int .i64 bfi] W fun e w' => e = .returned (.int .i64 (if afi < bfi then bfi else afi)) ∧ W = w') := maxS_any afi bfi
    obtain ⟨G, hG⟩ : ∃ G, (if afi < bfi then bfi else afi) = G := ⟨_, rfl⟩
    rw [hG] at HM1 hF2
    have HM2 : Hid (∀ W, Calls Tryd.prog 25 #[.int .i64 f, .int .i64 G] W fun e w' => e = .returned (.int .i64 F) ∧ W = w') := fun W => by
      have := maxS_any f G W
      rw [hF2] at this
      exact this
    have HAb := Lib.hid (And.intro (And.intro f0 f1) (And.intro e0 e1))
    have HBb := Lib.hid (And.intro (And.intro g0 g1) (And.intro d0 d1))
    clear hv hs hva hvb hF hF2 hG hP f0 f1 e0 e1 g0 g1 d0 d1 hf0
    have ca0 : w2.cell? ⟨w.heap.size, 0, none⟩ = some (.int .i16 afi) := HKa2.out.cell 0
    have ca1 : w2.cell? ⟨w.heap.size, 1, none⟩ = some (.int .i16 aev) := HKa2.out.cell 1
    have cb0 : w2.cell? ⟨w.heap.size + 1, 0, none⟩ = some (.int .i16 bfi) := HKb2.out.cell 0
    have cb1 : w2.cell? ⟨w.heap.size + 1, 1, none⟩ = some (.int .i16 bev) := HKb2.out.cell 1
    go_wp2_with fail
    refine (HM1.out _).mono ?_
    rintro e w3 ⟨rfl, rfl⟩
    go_wp2_with fail
    refine (HM2.out _).mono ?_
    rintro e w3 ⟨rfl, rfl⟩
    clear HM1 HM2
    go_wp2_with fail
    clear ca0 ca1 cb0 cb1
    go_loopw [12] (fun i wr => ∃ k : Nat, (k : Int) ≤ P ∧ i = .int .i64 k ∧ (∀ j : Nat, j < k → hitD (⟨afi, aev, ast, asp, aco, atu⟩ : Wal) (⟨bfi, bev, bst, bsp, bco, btu⟩ : Wal) (F + j) = false) ∧ Below w2.heap.size w2 wr) (fun i _ => P.toNat - (intOf i).toNat)
    case atStart => exact ⟨0, by omega, rfl, fun j h => absurd h (Nat.not_lt_zero _), Below.refl _ _⟩
    case round =>
      obtain ⟨k, hk, rfl, hn9, hb⟩ := hrel
      have HN := Lib.hid hn9
      have HBr := Lib.hid hb
      have hk0 : (0 : Int) ≤ (k : Int) := Int.natCast_nonneg _
      have hKa := HKa2.out.keep hb
      have hKb := HKb2.out.keep hb
      have ca0 : wr.cell? ⟨w.heap.size, 0, none⟩ = some (.int .i16 afi) := hKa.cell 0
      have ca1 : wr.cell? ⟨w.heap.size, 1, none⟩ = some (.int .i16 aev) := hKa.cell 1
      have ca2 : wr.cell? ⟨w.heap.size, 2, none⟩ = some (.int .i16 ast) := hKa.cell 2
      have ca3 : wr.cell? ⟨w.heap.size, 3, none⟩ = some (.int .i16 asp) := hKa.cell 3
      have ca4 : wr.cell? ⟨w.heap.size, 4, none⟩ = some (.int .i16 aco) := hKa.cell 4
      have ca5 : wr.cell? ⟨w.heap.size, 5, none⟩ = some (.int .i8 atu) := hKa.cell 5
      have cb0 : wr.cell? ⟨w.heap.size + 1, 0, none⟩ = some (.int .i16 bfi) := hKb.cell 0
      have cb1 : wr.cell? ⟨w.heap.size + 1, 1, none⟩ = some (.int .i16 bev) := hKb.cell 1
      have cb2 : wr.cell? ⟨w.heap.size + 1, 2, none⟩ = some (.int .i16 bst) := hKb.cell 2
      have cb3 : wr.cell? ⟨w.heap.size + 1, 3, none⟩ = some (.int .i16 bsp) := hKb.cell 3
      have cb4 : wr.cell? ⟨w.heap.size + 1, 4, none⟩ = some (.int .i16 bco) := hKb.cell 4
      have cb5 : wr.cell? ⟨w.heap.size + 1, 5, none⟩ = some (.int .i8 btu) := hKb.cell 5
      clear hn9 hb hKa hKb
      by_cases hlt : (k : Int) < P
      · have hday : dayB (F + k) := ⟨by clear u1 u2 u3 u4 u5 u6 u7 u8 v1 v2; omega, by clear u1 u2 u3 u4 u5 u6 u7 u8 v1 v2; omega⟩
        have hk1 : ((k + 1 : Nat) : Int) ≤ P := by clear u1 u2 u3 u4 u5 u6 u7 u8 v1 v2; omega
        have hms : P.toNat - (k + 1) < P.toNat - k := by clear u1 u2 u3 u4 u5 u6 u7 u8 v1 v2; omega
        have HK1 := Lib.hid hk1
        have HMs := Lib.hid hms
        have HKl : Hid (k < P.toNat) := by show _ < _; clear u1 u2 u3 u4 u5 u6 u7 u8 v1 v2; omega
        clear hk1 hms
        have s1 : IntKind.i64.wrap (F + k) = F + k := IntWalk.i64_in _ ⟨by clear u1 u2 u3 u4 u5 u6 u7 u8 v1 v2; omega, by clear u1 u2 u3 u4 u5 u6 u7 u8 v1 v2; omega⟩
        have s2 : wrap64 (F + k) = F + k := IntWalk.wrap64_in _ ⟨by clear s1 u1 u2 u3 u4 u5 u6 u7 u8 v1 v2; omega, by clear s1 u1 u2 u3 u4 u5 u6 u7 u8 v1 v2; omega⟩
        have s3 : IntKind.i64.wrap ((k : Int) + 1) = k + 1 := IntWalk.i64_in _ ⟨by clear s1 u1 u2 u3 u4 u5 u6 u7 u8 v1 v2; omega, by clear s1 u1 u2 u3 u4 u5 u6 u7 u8 v1 v2; omega⟩
        have s4 : wrap64 ((k : Int) + 1) = k + 1 := IntWalk.wrap64_in _ ⟨by clear s1 u1 u2 u3 u4 u5 u6 u7 u8 v1 v2; omega, by clear s1 u1 u2 u3 u4 u5 u6 u7 u8 v1 v2; omega⟩
        have HOa : Hid (∀ W, Calls Tryd.prog 26 #[.agg #[.int .i16 afi, .int .i16 aev, .int .i16 ast, .int .i16 asp, .int .i16 aco, .int .i8 atu], .int .i64 (F + k)] W fun e w' => e = .returned (.bool (onD (⟨afi, aev, ast, asp, aco, atu⟩ : Wal) (F + k))) ∧ Below W.heap.size W w') := fun W => l05On_any (⟨afi, aev, ast, asp, aco, atu⟩ : Wal) HAb.out.1 HAb.out.2 (F + k) hday W
        have HOb : Hid (∀ W, Calls Tryd.prog 26 #[.agg #[.int .i16 bfi, .int .i16 bev, .int .i16 bst, .int .i16 bsp, .int .i16 bco, .int .i8 btu], .int .i64 (F + k)] W fun e w' => e = .returned (.bool (onD (⟨bfi, bev, bst, bsp, bco, btu⟩ : Wal) (F + k))) ∧ Below W.heap.size W w') := fun W => l05On_any (⟨bfi, bev, bst, bsp, bco, btu⟩ : Wal) HBb.out.1 HBb.out.2 (F + k) hday W
        have HH : Hid (hitD (⟨afi, aev, ast, asp, aco, atu⟩ : Wal) (⟨bfi, bev, bst, bsp, bco, btu⟩ : Wal) (F + k) = (onD (⟨afi, aev, ast, asp, aco, atu⟩ : Wal) (F + k) && onD (⟨bfi, bev, bst, bsp, bco, btu⟩ : Wal) (F + k))) := rfl
        obtain ⟨pa, hpa⟩ : ∃ q, onD (⟨afi, aev, ast, asp, aco, atu⟩ : Wal) (F + k) = q := ⟨_, rfl⟩
        obtain ⟨pb, hpb⟩ : ∃ q, onD (⟨bfi, bev, bst, bsp, bco, btu⟩ : Wal) (F + k) = q := ⟨_, rfl⟩
        rw [hpa] at HOa HH
        rw [hpb] at HOb HH
        clear hpa hpb hday hmul hFb
        cases pa
        · have HNo : Hid (∀ j : Nat, j < k + 1 → hitD (⟨afi, aev, ast, asp, aco, atu⟩ : Wal) (⟨bfi, bev, bst, bsp, bco, btu⟩ : Wal) (F + j) = false) := fun j hj => by
            by_cases e : j = k
            · rw [e, HH.out]; rfl
            · exact HN.out j (Nat.lt_of_le_of_ne (Nat.le_of_lt_succ hj) e)
          clear HH
          go_wp2_with fail
          refine (HOa.out _).mono ?_
          rintro e w3 ⟨rfl, hb3⟩
          go_wp2
          go_roundw
          case rel => exact ⟨k + 1, HK1.out, by go_num, HNo.out, HBr.out.trans (hb3.mono HBr.out.size)⟩
          case measure => first | exact HMs.out | (have hms := HMs.out; clear s1 s2 s3 s4; simp [intOf]; omega)
        · go_wp2_with fail
          refine (HOa.out _).mono ?_
          rintro e w3 ⟨rfl, hb3⟩
          have hKa3 := (HKa2.out.keep HBr.out).keep hb3
          have hKb3 := (HKb2.out.keep HBr.out).keep hb3
          have da0 : w3.cell? ⟨w.heap.size, 0, none⟩ = some (.int .i16 afi) := hKa3.cell 0
          have da1 : w3.cell? ⟨w.heap.size, 1, none⟩ = some (.int .i16 aev) := hKa3.cell 1
          have da2 : w3.cell? ⟨w.heap.size, 2, none⟩ = some (.int .i16 ast) := hKa3.cell 2
          have da3 : w3.cell? ⟨w.heap.size, 3, none⟩ = some (.int .i16 asp) := hKa3.cell 3
          have da4 : w3.cell? ⟨w.heap.size, 4, none⟩ = some (.int .i16 aco) := hKa3.cell 4
          have da5 : w3.cell? ⟨w.heap.size, 5, none⟩ = some (.int .i8 atu) := hKa3.cell 5
          have db0 : w3.cell? ⟨w.heap.size + 1, 0, none⟩ = some (.int .i16 bfi) := hKb3.cell 0
          have db1 : w3.cell? ⟨w.heap.size + 1, 1, none⟩ = some (.int .i16 bev) := hKb3.cell 1
          have db2 : w3.cell? ⟨w.heap.size + 1, 2, none⟩ = some (.int .i16 bst) := hKb3.cell 2
          have db3 : w3.cell? ⟨w.heap.size + 1, 3, none⟩ = some (.int .i16 bsp) := hKb3.cell 3
          have db4 : w3.cell? ⟨w.heap.size + 1, 4, none⟩ = some (.int .i16 bco) := hKb3.cell 4
          have db5 : w3.cell? ⟨w.heap.size + 1, 5, none⟩ = some (.int .i8 btu) := hKb3.cell 5
          have HB3 : Hid (Below w2.heap.size w2 w3) := HBr.out.trans (hb3.mono HBr.out.size)
          clear hKa3 hKb3 hb3
          cases pb
          · have HNo : Hid (∀ j : Nat, j < k + 1 → hitD (⟨afi, aev, ast, asp, aco, atu⟩ : Wal) (⟨bfi, bev, bst, bsp, bco, btu⟩ : Wal) (F + j) = false) := fun j hj => by
              by_cases e : j = k
              · rw [e, HH.out]; rfl
              · exact HN.out j (Nat.lt_of_le_of_ne (Nat.le_of_lt_succ hj) e)
            clear HH
            go_wp2_with fail
            refine (HOb.out _).mono ?_
            rintro e w4 ⟨rfl, hb4⟩
            go_wp2
            go_roundw
            case rel => exact ⟨k + 1, HK1.out, by go_num, HNo.out, HB3.out.trans (hb4.mono HB3.out.size)⟩
            case measure => first | exact HMs.out | (have hms := HMs.out; clear s1 s2 s3 s4; simp [intOf]; omega)
          · have HR : Hid (mdO (⟨afi, aev, ast, asp, aco, atu⟩ : Wal) (⟨bfi, bev, bst, bsp, bco, btu⟩ : Wal) f = some (F + k)) := by
              show fstH _ (mdF (⟨afi, aev, ast, asp, aco, atu⟩ : Wal) (⟨bfi, bev, bst, bsp, bco, btu⟩ : Wal) f) _ = _
              rw [HF.out]
              refine fstH_some HN.out (by rw [HH.out]; rfl) _ ?_
              show k < (aev * bev).toNat
              rw [HP.out]; exact HKl.out
            have E := Lib.hid (mt_day HCD.out HR.out)
            clear HH
            go_wp2_with fail
            refine (HOb.out _).mono ?_
            rintro e w4 ⟨rfl, hb4⟩
            go_wp2
            go_ret2
            exact ⟨by (rw [E.out.1, E.out.2]; first | done | rfl | simp [s1, s2]), HB2.out.trans ((HB3.out.trans (hb4.mono HB3.out.size)).mono HB2.out.size)⟩
      · have HR : Hid (mdO (⟨afi, aev, ast, asp, aco, atu⟩ : Wal) (⟨bfi, bev, bst, bsp, bco, btu⟩ : Wal) f = none) := by
          show fstH _ (mdF (⟨afi, aev, ast, asp, aco, atu⟩ : Wal) (⟨bfi, bev, bst, bsp, bco, btu⟩ : Wal) f) _ = _
          rw [HF.out]
          refine fstH_none _ (fun j hj => HN.out j ?_)
          have : j < (aev * bev).toNat := hj
          rw [HP.out] at this; clear u1 u2 u3 u4 u5 u6 u7 u8 v1 v2; omega
        have E := Lib.hid (mt_none HCD.out HR.out)
        clear hmul hFb
        go_wp2
        go_ret2
        exact ⟨by (rw [E.out.1, E.out.2]; first | done | rfl), HB2.out.trans (HBr.out.mono HB2.out.size)⟩
end Go.Proofs.YtlfamfdgphhbcaaDoor
