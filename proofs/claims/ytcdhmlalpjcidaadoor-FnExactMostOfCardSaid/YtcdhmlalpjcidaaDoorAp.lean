/-
  The contract of the program's bottlesOf. No condition but the crate's length and that its numbers fit their kinds.
-/
import Derived.Test.YtcdhmlalpjcidaaDoorAo
import Derived.Test.YtcdhmlalpjcidaaDoorIb
import Derived.RangeFuncBox
import Derived.RegionIn
namespace Go.Proofs.YtcdhmlalpjcidaaDoor
open Go.RowKit Go.Shelf Go.Deep
attribute [local go_sem] Oper.semAt_some

theorem if_wantedIn {F : Fence} {n : Nat} {P : Program} {ops : Array Oper} {o : Oper} {a : Act} {w : World} {K : Act → World → Prop} {Q : Exit → Act → World → Prop} {E : Prop} (hg : o.guard = none) (h : Oper.wpIn F n P o a w K Q) :
    if Region.wanted o (yielded ops a.tmps) = true then Oper.wpIn F n P o a w K Q else E := by
  have hw : Region.wanted o (yielded ops a.tmps) = true := by simp [Region.wanted, hg]
  rw [if_pos hw]
  exact h
theorem wpIn_append_own {F : Fence} {n : Nat} {P : Program} (w : World) {o : Oper} {a : Act} {K : Act → World → Prop} {Q : Exit → Act → World → Prop}
    (s x : Operand) (t : TypeId) (hop : o.op = Op.call { callee := Callee.builtin Builtin.append, args := #[s, x], argTypes := #[t, t] })
    (base : Nat) (e : TypeId) (i : TypeInfo) (z : Value) (size bytes : Nat) (h1 : P.underlying t = some (.slice e)) (h2 : P.info? e = some i) (h3 : i.zero = some z) (h4 : i.size = size) (h5 : i.bytes = bytes) (h6 : z.cells.size = size) (h7 : 0 < size)
    (v : Value) (k : Nat) (xs : List Value) (hs : a.eval s = v) (hown : w.ownsRow base e size v k xs) (ad : Addr) (m c : Nat) (news : List Value) (hx : a.eval x = .slice (some ad) m c) (hn : news.length = m * size)
    (hc : ∀ j u, news[j]? = some u → w.cell? (ad.add j) = some u) (h1c : ∀ u ∈ news, u.oneCell' = true) (b1 : k + m ≤ maxLen) (b2 : (k + m) * bytes ≤ 140737488355328) (b3 : base ≤ w.heap.size)
    (hK : ∀ v' w', w'.ownsRow base e size v' (k + m) (xs ++ news) → w.grownBy w' v.ownBlock → K (a.put o.dst v') w') : Oper.wpIn F n P o a w K Q := by
  obtain ⟨v', w', hrun, r1, r2, r3⟩ := run_append_own (P := P) w base t o.type e i z size bytes h1 h2 h3 h4 h5 h6 h7 v k xs hown ad m c news hn hc h1c b1 b2 b3
  unfold Oper.wpIn
  refine ⟨?_, ?_⟩
  · simp [Oper.about, hop, resolve, Target.leads, Sem.run_pure]
  · rw [Oper.semAt_plain F _ _ (by rw [hop]; intro c hc'; cases hc')]
    simp [execOp, hop, resolve, invoke, builtin, hs, hx, hrun, Result.andThen]
    exact hK v' w' r1 r2

theorem own_baseB {W : World} {base base' : Nat} {e : TypeId} {size : Nat} {v : Value} {k : Nat} {xs : List Value} (h : W.ownsRow base e size v k xs) (hb : base' ≤ base) : W.ownsRow base' e size v k xs := by
  refine ⟨h.1, ?_⟩
  rcases h.2 with hn | ⟨g, cap, cur, hv, hbg, rest⟩
  · exact .inl hn
  · exact .inr ⟨g, cap, cur, hv, Nat.le_trans hb hbg, rest⟩
theorem pl_at {bs : List Bot} {p : Bot → Bool} (x : Pl bs p) : ∃ k y, bs[x.1]? = some (k, y) ∧ bs.getD x.1 (0, 0) = (k, y) := by
  have := x.2
  cases h : bs[x.1]? with
  | none => rw [h] at this; simp at this
  | some b => exact ⟨b.1, b.2, rfl, by simp [h]⟩
theorem allB_pl (bs : List Bot) : allB bs 12 = (plTo bs (fun b => !eB b) 12).map fun x => bs.getD x.1 (0, 0) := by simp [allB, usedN, List.map_map, Function.comp_def]

set_option maxRecDepth 100000 in
set_option maxHeartbeats 4000000 in
theorem bottlesOf_in (n : Nat) (hn : 6 ≤ n) (bs : List Bot) (hwf : WfC bs) (w : World) :
    CallsIn Fence.wide n Tryd.prog 87 #[.agg (ccells bs).toArray] w
      fun e w' => ∃ v, e = .returned v ∧ w'.ownsRow w.heap.size 26 2 v (allB bs 12).length (ccells (allB bs 12)) ∧ Below w.heap.size w w' := by
  have h1 : 1 ≤ n := by omega
  obtain ⟨i0, hi, hz0, hz1, hz2⟩ := info_parts Tryd.infoBt
  have HI := Lib.hid hi
  have HZ0 := Lib.hid hz0
  have HZ1 := Lib.hid hz1
  have HZ2 := Lib.hid hz2
  have HW := Lib.hid hwf
  clear hwf hi hz0 hz1 hz2
  refine callsIn_of_wp_marks Tryd.func87 rfl trivial ?_ rfl
  simp only [Tryd.ntmps87, List.size_toArray, List.length_cons, List.length_nil, Nat.reduceAdd, Nat.reduceSub, Array.replicate_succ, Array.replicate_zero, List.push_toArray, List.append_toArray, List.nil_append, List.cons_append]
  have HL := Lib.hid ((CBlk.new w 30 bs).alloc (.cells #[.slice none 0 0] 40))
  gi_wp2_with (first
    | (refine wpListIn_load_rowC rfl 30 (.tmp 1) rfl w.heap.size rfl 30 _ (0, 0) _ HL.out Tryd.underlying30 rfl (size_of_crate Tryd.sizeCr _ HW.out.1) ?_)
    | (refine ⟨trivial, ?_⟩; gi_at_call 97; refine (callsIn_wide.2 (placesWith_any bs _ ⟨_, _, rfl⟩ _)).mono ?_; rintro e w' ⟨rfl, rfl⟩))
  clear HL
  obtain ⟨W0, hW0⟩ : ∃ W0, (((w.alloc (Obj.cells (ccells bs).toArray 30)).alloc (Obj.cells #[Value.slice none 0 0] 40)).alloc (Obj.cells (ccells bs).toArray 30)).alloc (Obj.cells #[Value.func (Fn.func 104) #[] #[]] 97) = W0 := ⟨_, rfl⟩
  have hsz : W0.heap.size = w.heap.size + 1 + 1 + 1 + 1 := by rw [← hW0]; simp
  have k0 : CBlk W0 w.heap.size 30 bs := by rw [← hW0]; exact (((CBlk.new w _ bs).alloc _).alloc _).alloc _
  have hbx : Boxed W0 (w.heap.size + 1) 40 (.slice none 0 0) := by
    have q := Boxed.new (w.alloc (Obj.cells (ccells bs).toArray 30)) 40 (.slice none 0 0)
    simp only [World.size_alloc] at q
    rw [← hW0]; exact (q.alloc _).alloc _
  have k2 : CBlk W0 (w.heap.size + 1 + 1) 30 bs := by
    rw [← hW0]; refine CBlk.alloc ?_ _
    exact CBlk.new' (by simp) rfl
  have hbf : Boxed W0 (w.heap.size + 1 + 1 + 1) 97 (.func (.func 104) #[] #[]) := by
    have q := Boxed.new (((w.alloc (Obj.cells (ccells bs).toArray 30)).alloc (Obj.cells #[Value.slice none 0 0] 40)).alloc (Obj.cells (ccells bs).toArray 30)) 97 (.func (.func 104) #[] #[])
    simp only [World.size_alloc] at q
    rw [← hW0]; exact q
  have hB0 : Below w.heap.size w W0 := by rw [← hW0]; exact (by repeat (first | exact Below.refl _ _ | refine Below.drew ?_ | refine Below.alloc ?_ (by simp <;> omega) _ | refine Below.setCell ?_ (by simp <;> omega) _))
  rw [hW0]
  clear hW0
  refine wpIn_rangeFunc_ownF rfl h1 (gf := 110) (lb := #[.pointer (some ⟨w.heap.size + 1 + 1, 0, none⟩), .pointer (some ⟨w.heap.size + 1 + 1 + 1, 0, none⟩)]) rfl trivial (enters_of Tryd.func110 (by kernel_rfl) rfl)
    (places_stopsB bs HW.out (fun b => !eB b) 104 #[] (enters_of Tryd.func104 (by kernel_rfl) rfl) (n - 1) (by omega) (w.heap.size + 1 + 1) (w.heap.size + 1 + 1 + 1) W0 (fun b W _ => isBottle_any b.1 b.2 W) k2 (by omega) hbf.cell)
    (fun h k => KeepB.trans h k) (keepB_b (by omega)) (Below.refl _ _) (fun _ => rfl)
    (fun pre W => ((∃ v, Boxed W (w.heap.size + 1) 40 v ∧ W.ownsRow (w.heap.size + 1) 26 2 v pre.length (ccells (pre.map fun x => bs.getD x.1 (0, 0))) ∧ True) ∧ Boxed W (w.heap.size + 1 + 1 + 1) 97 (.func (.func 104) #[] #[])) ∧ Below (w.heap.size + 1) W0 W)
    (fun _ _ _ => False)
    (OwnFrom.and (OwnFrom.and (Own.from (holdsRow_own (w.heap.size + 1) (w.heap.size + 1) 40 26 2 (fun pre : List (Pl bs (fun b => !eB b)) => pre.length) (fun pre => ccells (pre.map fun x => bs.getD x.1 (0, 0))) (fun _ _ => True)) _) (Own.from (boxed_own _ _ (fun _ => .func (.func 104) #[] #[])) _)) (ownFrom_below (by omega) (by omega)))
    (fun c => fun _ _ _ _ hs _ _ => hs)
    ⟨⟨⟨_, hbx, ⟨rfl, .inl ⟨rfl, rfl⟩⟩, trivial⟩, hbf⟩, Below.refl _ _⟩
    (fun x => { tmps := #[.agg (ccells bs).toArray, .pointer (some ⟨w.heap.size, 0, none⟩), .slice none 0 0, .pointer (some ⟨w.heap.size + 1, 0, none⟩), .int .i64 (x.1 : Int), .agg (ccells bs).toArray,
      .func (.func 110) #[] #[.pointer (some ⟨w.heap.size + 1 + 1, 0, none⟩), .pointer (some ⟨w.heap.size + 1 + 1 + 1, 0, none⟩)], .int .i64 (x.1 : Int), undef, undef, undef, undef, undef, undef, undef], defers := [] }) ?assign ?body ?done ?stop
  case assign =>
    intro l x W K hK
    gi_wp2
    exact hK
  case body =>
    rintro l pre ⟨j, hj⟩ W ⟨⟨⟨v, hv, hrow, -⟩, hf⟩, hBB⟩ hpre
    obtain ⟨k1, y1, hbj, hgd⟩ := pl_at ⟨j, hj⟩
    have hj12 : j < 12 := by
      have := (List.getElem?_eq_some_iff.1 hbj).1
      rw [HW.out.1] at this; exact this
    have hc := k0.below hBB (by omega)
    have e1 := hc.kind' hbj
    have e2 := hc.year' hbj
    have HV := Lib.hid hv
    have HR := Lib.hid hrow
    have HB := Lib.hid hBB
    have HF := Lib.hid hf
    have HG := Lib.hid hgd
    have HK0 := Lib.hid k0
    have hle : w.heap.size + 1 ≤ W.heap.size := by have := hBB.size; omega
    have hlt : w.heap.size + 1 < W.heap.size := hv.lt
    have hl0 : (0 : Int) ≤ j := by omega
    have hl1 : (j : Int) < 12 := by omega
    clear hv hrow hBB hf k0 k2 hbx hbf hbj hgd hc hB0
    dsimp only
    gi_wp2_with fail
    refine wpIn_region_any (by kernel_rfl) ?_
    change wpAnyIn _ _ _ _ _ _ _ _ _ (World.drew _)
    obtain ⟨D0, hD0⟩ : ∃ D0, W.drew = D0 := ⟨_, rfl⟩
    have hWD : Below W.heap.size W D0 := by rw [← hD0]; exact (Below.refl _ _).drew
    have hHd : D0.heap = W.heap := by rw [← hD0]; rfl
    have dv : Boxed D0 (w.heap.size + 1) 40 v := by rw [← hD0]; exact HV.out
    have df : Boxed D0 (w.heap.size + 1 + 1 + 1) 97 (.func (.func 104) #[] #[]) := by rw [← hD0]; exact HF.out
    have dr : D0.ownsRow (w.heap.size + 1) 26 2 v pre.length (ccells (pre.map fun x => bs.getD x.1 (0, 0))) := by rw [← hD0]; exact HR.out
    have c0 : D0.cell? ⟨w.heap.size + 1, 0, none⟩ = some v := dv.cell
    have e1d : D0.cell? ⟨w.heap.size, j * 2, none⟩ = some (.int .u8 k1) := by rw [← hD0]; exact e1
    have e2d : D0.cell? ⟨w.heap.size, j * 2 + 1, none⟩ = some (.int .i16 y1) := by rw [← hD0]; exact e2
    have hle2 : w.heap.size + 1 ≤ D0.heap.size := by rw [hHd]; exact hle
    have hlt2 : w.heap.size + 1 < D0.heap.size := by rw [hHd]; exact hlt
    have DV := Lib.hid dv
    have DF := Lib.hid df
    have DR := Lib.hid dr
    have WD := Lib.hid hWD
    have HH := Lib.hid hHd
    rw [hD0]
    clear hD0 dv df dr hWD hHd e1 e2 HV HR
    refine wpAnyIn_ready (rs := [0, 1]) (by kernel_rfl) (by simp) ?_
    refine AllReadyIn.cons rfl (fun K hK => ?_) ?_
    · skip
      refine if_wantedIn rfl ?_
      go_simp
      refine hK _ _ ?_
      clear hK K
      try simp only [Act.put, List.getElem_toArray, List.getElem_cons_zero, List.getElem_cons_succ, List.setIfInBounds_toArray, List.set_cons_zero, List.set_cons_succ]
      refine wpAnyIn_ready (rs := [1]) (by kernel_rfl) (by simp) ?_
      refine AllReadyIn.cons rfl (fun K hK => ?_) AllReadyIn.nil
      refine if_wantedIn rfl ?_
      go_simp
      refine hK _ _ ?_
      clear hK K
      try simp only [Act.put, List.getElem_toArray, List.getElem_cons_zero, List.getElem_cons_succ, List.setIfInBounds_toArray, List.set_cons_zero, List.set_cons_succ]
      refine wpAnyIn_ready (rs := [2]) (by kernel_rfl) (by simp) ?_
      refine AllReadyIn.cons rfl (fun K hK => ?_) AllReadyIn.nil
      refine if_wantedIn rfl ?_
      go_simp
      refine hK _ _ ?_
      clear hK K
      try simp only [Act.put, List.getElem_toArray, List.getElem_cons_zero, List.getElem_cons_succ, List.setIfInBounds_toArray, List.set_cons_zero, List.set_cons_succ]
      refine wpAnyIn_ready (rs := [3]) (by kernel_rfl) (by simp) ?_
      refine AllReadyIn.cons rfl (fun K hK => ?_) AllReadyIn.nil
      refine if_wantedIn rfl ?_
      go_simp
      refine hK _ _ ?_
      clear hK K
      try simp only [Act.put, List.getElem_toArray, List.getElem_cons_zero, List.getElem_cons_succ, List.setIfInBounds_toArray, List.set_cons_zero, List.set_cons_succ]
      refine wpAnyIn_ready (rs := [4]) (by kernel_rfl) (by simp) ?_
      refine AllReadyIn.cons rfl (fun K hK => ?_) AllReadyIn.nil
      refine if_wantedIn rfl ?_
      go_simp
      refine hK _ _ ?_
      clear hK K
      try simp only [Act.put, List.getElem_toArray, List.getElem_cons_zero, List.getElem_cons_succ, List.setIfInBounds_toArray, List.set_cons_zero, List.set_cons_succ]
      refine wpAnyIn_ready (rs := [5]) (by kernel_rfl) (by simp) ?_
      refine AllReadyIn.cons rfl (fun K hK => ?_) AllReadyIn.nil
      refine if_wantedIn rfl (wpIn_append_own _ (.tmp 8) (.tmp 12) 40 rfl (w.heap.size + 1) 26 i0 (.agg #[.int .u8 0, .int .i16 0]) 2 4 Tryd.underlying40 HI.out HZ0.out HZ1.out HZ2.out rfl (by decide) _ _ _ rfl (DR.out.alloc _) ⟨D0.heap.size, 0, none⟩ 1 1 [.int .u8 k1, .int .i16 y1] rfl rfl (cell_two_new _ _ _ _) (two_one _ _) (by unfold maxLen; omega) (by omega) (by simp; omega) ?_)
      intro v' w3 hown' hg3
      obtain ⟨q1, q2, q3, q4, q5⟩ := Boxed.appended DV.out (by decide) DR.out hle2 (Nat.le_refl _) hown' hg3
      have f3 : Boxed w3 (w.heap.size + 1 + 1 + 1) 97 (.func (.func 104) #[] #[]) := (DF.out.alloc _).kept hg3 (DF.out.not_row (by decide) DR.out)
      have f4 : Boxed (w3.setCell ⟨w.heap.size + 1, 0, none⟩ v') (w.heap.size + 1 + 1 + 1) 97 (.func (.func 104) #[] #[]) := (Below.heap_setCell w3 ⟨w.heap.size + 1, 0, none⟩ v' _ (by show w.heap.size + 1 + 1 + 1 ≠ w.heap.size + 1; omega)).trans f3
      have f5 : KeepB (w.heap.size + 1 + 1 + 1) W (w3.setCell ⟨w.heap.size + 1, 0, none⟩ v') := ⟨Nat.le_trans WD.out.size q5.size, (show _ = _ from f4).trans (show W.heap[w.heap.size + 1 + 1 + 1]? = _ from HF.out).symm⟩
      have f6 : KeepsOthers W (w3.setCell ⟨w.heap.size + 1, 0, none⟩ v') := (keepsOthers_of_below WD.out).trans q4
      have f7 : Below (w.heap.size + 1) W0 (w3.setCell ⟨w.heap.size + 1, 0, none⟩ v') := (HB.out.trans (WD.out.mono hle)).trans q5
      obtain ⟨g', cap', rfl⟩ := ownsRow_succ hown'
      have r1 := q1.cell
      have r2 := q1.frozen
      have Q2 := Lib.hid q2
      have Q3 := Lib.hid q3
      have F4 := Lib.hid f4
      have F5 := Lib.hid f5
      have F6 := Lib.hid f6
      have F7 := Lib.hid f7
      clear q1 q2 q3 q4 q5 f3 f4 f5 f6 f7 hown' hg3
      refine hK _ _ ?_
      clear hK K
      try simp only [Act.put, List.getElem_toArray, List.getElem_cons_zero, List.getElem_cons_succ, List.setIfInBounds_toArray, List.set_cons_zero, List.set_cons_succ]
      refine wpAnyIn_ready (rs := [6]) (by kernel_rfl) (by simp) ?_
      refine AllReadyIn.cons rfl (fun K hK => ?_) AllReadyIn.nil
      refine if_wantedIn rfl ?_
      go_simp
      refine hK _ _ ?_
      clear hK K
      try simp only [Act.put, List.getElem_toArray, List.getElem_cons_zero, List.getElem_cons_succ, List.setIfInBounds_toArray, List.set_cons_zero, List.set_cons_succ]
      refine wpAnyIn_done (by kernel_rfl) ?_ _
      refine ⟨F6.out, F5.out, ⟨⟨_, Q2.out, ?_, trivial⟩, F4.out⟩, F7.out⟩
      rw [List.map_append, List.length_append, List.map_cons, List.map_nil, HG.out, ccells_snoc]
      exact Q3.out
    refine AllReadyIn.cons rfl (fun K hK => ?_) AllReadyIn.nil
    refine if_wantedIn rfl ?_
    go_simp
    refine hK _ _ ?_
    clear hK K
    try simp only [Act.put, List.getElem_toArray, List.getElem_cons_zero, List.getElem_cons_succ, List.setIfInBounds_toArray, List.set_cons_zero, List.set_cons_succ]
    refine wpAnyIn_ready (rs := [0, 2]) (by kernel_rfl) (by simp) ?_
    refine AllReadyIn.cons rfl (fun K hK => ?_) ?_
    · skip
      refine if_wantedIn rfl ?_
      go_simp
      refine hK _ _ ?_
      clear hK K
      try simp only [Act.put, List.getElem_toArray, List.getElem_cons_zero, List.getElem_cons_succ, List.setIfInBounds_toArray, List.set_cons_zero, List.set_cons_succ]
      refine wpAnyIn_ready (rs := [2]) (by kernel_rfl) (by simp) ?_
      refine AllReadyIn.cons rfl (fun K hK => ?_) AllReadyIn.nil
      refine if_wantedIn rfl ?_
      go_simp
      refine hK _ _ ?_
      clear hK K
      try simp only [Act.put, List.getElem_toArray, List.getElem_cons_zero, List.getElem_cons_succ, List.setIfInBounds_toArray, List.set_cons_zero, List.set_cons_succ]
      refine wpAnyIn_ready (rs := [3]) (by kernel_rfl) (by simp) ?_
      refine AllReadyIn.cons rfl (fun K hK => ?_) AllReadyIn.nil
      refine if_wantedIn rfl ?_
      go_simp
      refine hK _ _ ?_
      clear hK K
      try simp only [Act.put, List.getElem_toArray, List.getElem_cons_zero, List.getElem_cons_succ, List.setIfInBounds_toArray, List.set_cons_zero, List.set_cons_succ]
      refine wpAnyIn_ready (rs := [4]) (by kernel_rfl) (by simp) ?_
      refine AllReadyIn.cons rfl (fun K hK => ?_) AllReadyIn.nil
      refine if_wantedIn rfl ?_
      go_simp
      refine hK _ _ ?_
      clear hK K
      try simp only [Act.put, List.getElem_toArray, List.getElem_cons_zero, List.getElem_cons_succ, List.setIfInBounds_toArray, List.set_cons_zero, List.set_cons_succ]
      refine wpAnyIn_ready (rs := [5]) (by kernel_rfl) (by simp) ?_
      refine AllReadyIn.cons rfl (fun K hK => ?_) AllReadyIn.nil
      refine if_wantedIn rfl (wpIn_append_own _ (.tmp 8) (.tmp 12) 40 rfl (w.heap.size + 1) 26 i0 (.agg #[.int .u8 0, .int .i16 0]) 2 4 Tryd.underlying40 HI.out HZ0.out HZ1.out HZ2.out rfl (by decide) _ _ _ rfl (DR.out.alloc _) ⟨D0.heap.size, 0, none⟩ 1 1 [.int .u8 k1, .int .i16 y1] rfl rfl (cell_two_new _ _ _ _) (two_one _ _) (by unfold maxLen; omega) (by omega) (by simp; omega) ?_)
      intro v' w3 hown' hg3
      obtain ⟨q1, q2, q3, q4, q5⟩ := Boxed.appended DV.out (by decide) DR.out hle2 (Nat.le_refl _) hown' hg3
      have f3 : Boxed w3 (w.heap.size + 1 + 1 + 1) 97 (.func (.func 104) #[] #[]) := (DF.out.alloc _).kept hg3 (DF.out.not_row (by decide) DR.out)
      have f4 : Boxed (w3.setCell ⟨w.heap.size + 1, 0, none⟩ v') (w.heap.size + 1 + 1 + 1) 97 (.func (.func 104) #[] #[]) := (Below.heap_setCell w3 ⟨w.heap.size + 1, 0, none⟩ v' _ (by show w.heap.size + 1 + 1 + 1 ≠ w.heap.size + 1; omega)).trans f3
      have f5 : KeepB (w.heap.size + 1 + 1 + 1) W (w3.setCell ⟨w.heap.size + 1, 0, none⟩ v') := ⟨Nat.le_trans WD.out.size q5.size, (show _ = _ from f4).trans (show W.heap[w.heap.size + 1 + 1 + 1]? = _ from HF.out).symm⟩
      have f6 : KeepsOthers W (w3.setCell ⟨w.heap.size + 1, 0, none⟩ v') := (keepsOthers_of_below WD.out).trans q4
      have f7 : Below (w.heap.size + 1) W0 (w3.setCell ⟨w.heap.size + 1, 0, none⟩ v') := (HB.out.trans (WD.out.mono hle)).trans q5
      obtain ⟨g', cap', rfl⟩ := ownsRow_succ hown'
      have r1 := q1.cell
      have r2 := q1.frozen
      have Q2 := Lib.hid q2
      have Q3 := Lib.hid q3
      have F4 := Lib.hid f4
      have F5 := Lib.hid f5
      have F6 := Lib.hid f6
      have F7 := Lib.hid f7
      clear q1 q2 q3 q4 q5 f3 f4 f5 f6 f7 hown' hg3
      refine hK _ _ ?_
      clear hK K
      try simp only [Act.put, List.getElem_toArray, List.getElem_cons_zero, List.getElem_cons_succ, List.setIfInBounds_toArray, List.set_cons_zero, List.set_cons_succ]
      refine wpAnyIn_ready (rs := [6]) (by kernel_rfl) (by simp) ?_
      refine AllReadyIn.cons rfl (fun K hK => ?_) AllReadyIn.nil
      refine if_wantedIn rfl ?_
      go_simp
      refine hK _ _ ?_
      clear hK K
      try simp only [Act.put, List.getElem_toArray, List.getElem_cons_zero, List.getElem_cons_succ, List.setIfInBounds_toArray, List.set_cons_zero, List.set_cons_succ]
      refine wpAnyIn_done (by kernel_rfl) ?_ _
      refine ⟨F6.out, F5.out, ⟨⟨_, Q2.out, ?_, trivial⟩, F4.out⟩, F7.out⟩
      rw [List.map_append, List.length_append, List.map_cons, List.map_nil, HG.out, ccells_snoc]
      exact Q3.out
    refine AllReadyIn.cons rfl (fun K hK => ?_) AllReadyIn.nil
    refine if_wantedIn rfl ?_
    go_simp
    refine hK _ _ ?_
    clear hK K
    try simp only [Act.put, List.getElem_toArray, List.getElem_cons_zero, List.getElem_cons_succ, List.setIfInBounds_toArray, List.set_cons_zero, List.set_cons_succ]
    refine wpAnyIn_ready (rs := [0, 3]) (by kernel_rfl) (by simp) ?_
    refine AllReadyIn.cons rfl (fun K hK => ?_) ?_
    · skip
      refine if_wantedIn rfl ?_
      go_simp
      refine hK _ _ ?_
      clear hK K
      try simp only [Act.put, List.getElem_toArray, List.getElem_cons_zero, List.getElem_cons_succ, List.setIfInBounds_toArray, List.set_cons_zero, List.set_cons_succ]
      refine wpAnyIn_ready (rs := [3]) (by kernel_rfl) (by simp) ?_
      refine AllReadyIn.cons rfl (fun K hK => ?_) AllReadyIn.nil
      refine if_wantedIn rfl ?_
      go_simp
      refine hK _ _ ?_
      clear hK K
      try simp only [Act.put, List.getElem_toArray, List.getElem_cons_zero, List.getElem_cons_succ, List.setIfInBounds_toArray, List.set_cons_zero, List.set_cons_succ]
      refine wpAnyIn_ready (rs := [4]) (by kernel_rfl) (by simp) ?_
      refine AllReadyIn.cons rfl (fun K hK => ?_) AllReadyIn.nil
      refine if_wantedIn rfl ?_
      go_simp
      refine hK _ _ ?_
      clear hK K
      try simp only [Act.put, List.getElem_toArray, List.getElem_cons_zero, List.getElem_cons_succ, List.setIfInBounds_toArray, List.set_cons_zero, List.set_cons_succ]
      refine wpAnyIn_ready (rs := [5]) (by kernel_rfl) (by simp) ?_
      refine AllReadyIn.cons rfl (fun K hK => ?_) AllReadyIn.nil
      refine if_wantedIn rfl (wpIn_append_own _ (.tmp 8) (.tmp 12) 40 rfl (w.heap.size + 1) 26 i0 (.agg #[.int .u8 0, .int .i16 0]) 2 4 Tryd.underlying40 HI.out HZ0.out HZ1.out HZ2.out rfl (by decide) _ _ _ rfl (DR.out.alloc _) ⟨D0.heap.size, 0, none⟩ 1 1 [.int .u8 k1, .int .i16 y1] rfl rfl (cell_two_new _ _ _ _) (two_one _ _) (by unfold maxLen; omega) (by omega) (by simp; omega) ?_)
      intro v' w3 hown' hg3
      obtain ⟨q1, q2, q3, q4, q5⟩ := Boxed.appended DV.out (by decide) DR.out hle2 (Nat.le_refl _) hown' hg3
      have f3 : Boxed w3 (w.heap.size + 1 + 1 + 1) 97 (.func (.func 104) #[] #[]) := (DF.out.alloc _).kept hg3 (DF.out.not_row (by decide) DR.out)
      have f4 : Boxed (w3.setCell ⟨w.heap.size + 1, 0, none⟩ v') (w.heap.size + 1 + 1 + 1) 97 (.func (.func 104) #[] #[]) := (Below.heap_setCell w3 ⟨w.heap.size + 1, 0, none⟩ v' _ (by show w.heap.size + 1 + 1 + 1 ≠ w.heap.size + 1; omega)).trans f3
      have f5 : KeepB (w.heap.size + 1 + 1 + 1) W (w3.setCell ⟨w.heap.size + 1, 0, none⟩ v') := ⟨Nat.le_trans WD.out.size q5.size, (show _ = _ from f4).trans (show W.heap[w.heap.size + 1 + 1 + 1]? = _ from HF.out).symm⟩
      have f6 : KeepsOthers W (w3.setCell ⟨w.heap.size + 1, 0, none⟩ v') := (keepsOthers_of_below WD.out).trans q4
      have f7 : Below (w.heap.size + 1) W0 (w3.setCell ⟨w.heap.size + 1, 0, none⟩ v') := (HB.out.trans (WD.out.mono hle)).trans q5
      obtain ⟨g', cap', rfl⟩ := ownsRow_succ hown'
      have r1 := q1.cell
      have r2 := q1.frozen
      have Q2 := Lib.hid q2
      have Q3 := Lib.hid q3
      have F4 := Lib.hid f4
      have F5 := Lib.hid f5
      have F6 := Lib.hid f6
      have F7 := Lib.hid f7
      clear q1 q2 q3 q4 q5 f3 f4 f5 f6 f7 hown' hg3
      refine hK _ _ ?_
      clear hK K
      try simp only [Act.put, List.getElem_toArray, List.getElem_cons_zero, List.getElem_cons_succ, List.setIfInBounds_toArray, List.set_cons_zero, List.set_cons_succ]
      refine wpAnyIn_ready (rs := [6]) (by kernel_rfl) (by simp) ?_
      refine AllReadyIn.cons rfl (fun K hK => ?_) AllReadyIn.nil
      refine if_wantedIn rfl ?_
      go_simp
      refine hK _ _ ?_
      clear hK K
      try simp only [Act.put, List.getElem_toArray, List.getElem_cons_zero, List.getElem_cons_succ, List.setIfInBounds_toArray, List.set_cons_zero, List.set_cons_succ]
      refine wpAnyIn_done (by kernel_rfl) ?_ _
      refine ⟨F6.out, F5.out, ⟨⟨_, Q2.out, ?_, trivial⟩, F4.out⟩, F7.out⟩
      rw [List.map_append, List.length_append, List.map_cons, List.map_nil, HG.out, ccells_snoc]
      exact Q3.out
    refine AllReadyIn.cons rfl (fun K hK => ?_) AllReadyIn.nil
    refine if_wantedIn rfl ?_
    go_simp
    refine hK _ _ ?_
    clear hK K
    try simp only [Act.put, List.getElem_toArray, List.getElem_cons_zero, List.getElem_cons_succ, List.setIfInBounds_toArray, List.set_cons_zero, List.set_cons_succ]
    refine wpAnyIn_ready (rs := [0, 4]) (by kernel_rfl) (by simp) ?_
    refine AllReadyIn.cons rfl (fun K hK => ?_) ?_
    · skip
      refine if_wantedIn rfl ?_
      go_simp
      refine hK _ _ ?_
      clear hK K
      try simp only [Act.put, List.getElem_toArray, List.getElem_cons_zero, List.getElem_cons_succ, List.setIfInBounds_toArray, List.set_cons_zero, List.set_cons_succ]
      refine wpAnyIn_ready (rs := [4]) (by kernel_rfl) (by simp) ?_
      refine AllReadyIn.cons rfl (fun K hK => ?_) AllReadyIn.nil
      refine if_wantedIn rfl ?_
      go_simp
      refine hK _ _ ?_
      clear hK K
      try simp only [Act.put, List.getElem_toArray, List.getElem_cons_zero, List.getElem_cons_succ, List.setIfInBounds_toArray, List.set_cons_zero, List.set_cons_succ]
      refine wpAnyIn_ready (rs := [5]) (by kernel_rfl) (by simp) ?_
      refine AllReadyIn.cons rfl (fun K hK => ?_) AllReadyIn.nil
      refine if_wantedIn rfl (wpIn_append_own _ (.tmp 8) (.tmp 12) 40 rfl (w.heap.size + 1) 26 i0 (.agg #[.int .u8 0, .int .i16 0]) 2 4 Tryd.underlying40 HI.out HZ0.out HZ1.out HZ2.out rfl (by decide) _ _ _ rfl (DR.out.alloc _) ⟨D0.heap.size, 0, none⟩ 1 1 [.int .u8 k1, .int .i16 y1] rfl rfl (cell_two_new _ _ _ _) (two_one _ _) (by unfold maxLen; omega) (by omega) (by simp; omega) ?_)
      intro v' w3 hown' hg3
      obtain ⟨q1, q2, q3, q4, q5⟩ := Boxed.appended DV.out (by decide) DR.out hle2 (Nat.le_refl _) hown' hg3
      have f3 : Boxed w3 (w.heap.size + 1 + 1 + 1) 97 (.func (.func 104) #[] #[]) := (DF.out.alloc _).kept hg3 (DF.out.not_row (by decide) DR.out)
      have f4 : Boxed (w3.setCell ⟨w.heap.size + 1, 0, none⟩ v') (w.heap.size + 1 + 1 + 1) 97 (.func (.func 104) #[] #[]) := (Below.heap_setCell w3 ⟨w.heap.size + 1, 0, none⟩ v' _ (by show w.heap.size + 1 + 1 + 1 ≠ w.heap.size + 1; omega)).trans f3
      have f5 : KeepB (w.heap.size + 1 + 1 + 1) W (w3.setCell ⟨w.heap.size + 1, 0, none⟩ v') := ⟨Nat.le_trans WD.out.size q5.size, (show _ = _ from f4).trans (show W.heap[w.heap.size + 1 + 1 + 1]? = _ from HF.out).symm⟩
      have f6 : KeepsOthers W (w3.setCell ⟨w.heap.size + 1, 0, none⟩ v') := (keepsOthers_of_below WD.out).trans q4
      have f7 : Below (w.heap.size + 1) W0 (w3.setCell ⟨w.heap.size + 1, 0, none⟩ v') := (HB.out.trans (WD.out.mono hle)).trans q5
      obtain ⟨g', cap', rfl⟩ := ownsRow_succ hown'
      have r1 := q1.cell
      have r2 := q1.frozen
      have Q2 := Lib.hid q2
      have Q3 := Lib.hid q3
      have F4 := Lib.hid f4
      have F5 := Lib.hid f5
      have F6 := Lib.hid f6
      have F7 := Lib.hid f7
      clear q1 q2 q3 q4 q5 f3 f4 f5 f6 f7 hown' hg3
      refine hK _ _ ?_
      clear hK K
      try simp only [Act.put, List.getElem_toArray, List.getElem_cons_zero, List.getElem_cons_succ, List.setIfInBounds_toArray, List.set_cons_zero, List.set_cons_succ]
      refine wpAnyIn_ready (rs := [6]) (by kernel_rfl) (by simp) ?_
      refine AllReadyIn.cons rfl (fun K hK => ?_) AllReadyIn.nil
      refine if_wantedIn rfl ?_
      go_simp
      refine hK _ _ ?_
      clear hK K
      try simp only [Act.put, List.getElem_toArray, List.getElem_cons_zero, List.getElem_cons_succ, List.setIfInBounds_toArray, List.set_cons_zero, List.set_cons_succ]
      refine wpAnyIn_done (by kernel_rfl) ?_ _
      refine ⟨F6.out, F5.out, ⟨⟨_, Q2.out, ?_, trivial⟩, F4.out⟩, F7.out⟩
      rw [List.map_append, List.length_append, List.map_cons, List.map_nil, HG.out, ccells_snoc]
      exact Q3.out
    refine AllReadyIn.cons rfl (fun K hK => ?_) AllReadyIn.nil
    refine if_wantedIn rfl ?_
    go_simp
    refine hK _ _ ?_
    clear hK K
    try simp only [Act.put, List.getElem_toArray, List.getElem_cons_zero, List.getElem_cons_succ, List.setIfInBounds_toArray, List.set_cons_zero, List.set_cons_succ]
    refine wpAnyIn_ready (rs := [0]) (by kernel_rfl) (by simp) ?_
    refine AllReadyIn.cons rfl (fun K hK => ?_) AllReadyIn.nil
    refine if_wantedIn rfl ?_
    go_simp
    refine hK _ _ ?_
    clear hK K
    try simp only [Act.put, List.getElem_toArray, List.getElem_cons_zero, List.getElem_cons_succ, List.setIfInBounds_toArray, List.set_cons_zero, List.set_cons_succ]
    refine wpAnyIn_ready (rs := [5]) (by kernel_rfl) (by simp) ?_
    refine AllReadyIn.cons rfl (fun K hK => ?_) AllReadyIn.nil
    refine if_wantedIn rfl (wpIn_append_own _ (.tmp 8) (.tmp 12) 40 rfl (w.heap.size + 1) 26 i0 (.agg #[.int .u8 0, .int .i16 0]) 2 4 Tryd.underlying40 HI.out HZ0.out HZ1.out HZ2.out rfl (by decide) _ _ _ rfl (DR.out.alloc _) ⟨D0.heap.size, 0, none⟩ 1 1 [.int .u8 k1, .int .i16 y1] rfl rfl (cell_two_new _ _ _ _) (two_one _ _) (by unfold maxLen; omega) (by omega) (by simp; omega) ?_)
    intro v' w3 hown' hg3
    obtain ⟨q1, q2, q3, q4, q5⟩ := Boxed.appended DV.out (by decide) DR.out hle2 (Nat.le_refl _) hown' hg3
    have f3 : Boxed w3 (w.heap.size + 1 + 1 + 1) 97 (.func (.func 104) #[] #[]) := (DF.out.alloc _).kept hg3 (DF.out.not_row (by decide) DR.out)
    have f4 : Boxed (w3.setCell ⟨w.heap.size + 1, 0, none⟩ v') (w.heap.size + 1 + 1 + 1) 97 (.func (.func 104) #[] #[]) := (Below.heap_setCell w3 ⟨w.heap.size + 1, 0, none⟩ v' _ (by show w.heap.size + 1 + 1 + 1 ≠ w.heap.size + 1; omega)).trans f3
    have f5 : KeepB (w.heap.size + 1 + 1 + 1) W (w3.setCell ⟨w.heap.size + 1, 0, none⟩ v') := ⟨Nat.le_trans WD.out.size q5.size, (show _ = _ from f4).trans (show W.heap[w.heap.size + 1 + 1 + 1]? = _ from HF.out).symm⟩
    have f6 : KeepsOthers W (w3.setCell ⟨w.heap.size + 1, 0, none⟩ v') := (keepsOthers_of_below WD.out).trans q4
    have f7 : Below (w.heap.size + 1) W0 (w3.setCell ⟨w.heap.size + 1, 0, none⟩ v') := (HB.out.trans (WD.out.mono hle)).trans q5
    obtain ⟨g', cap', rfl⟩ := ownsRow_succ hown'
    have r1 := q1.cell
    have r2 := q1.frozen
    have Q2 := Lib.hid q2
    have Q3 := Lib.hid q3
    have F4 := Lib.hid f4
    have F5 := Lib.hid f5
    have F6 := Lib.hid f6
    have F7 := Lib.hid f7
    clear q1 q2 q3 q4 q5 f3 f4 f5 f6 f7 hown' hg3
    refine hK _ _ ?_
    clear hK K
    try simp only [Act.put, List.getElem_toArray, List.getElem_cons_zero, List.getElem_cons_succ, List.setIfInBounds_toArray, List.set_cons_zero, List.set_cons_succ]
    refine wpAnyIn_ready (rs := [6]) (by kernel_rfl) (by simp) ?_
    refine AllReadyIn.cons rfl (fun K hK => ?_) AllReadyIn.nil
    refine if_wantedIn rfl ?_
    go_simp
    refine hK _ _ ?_
    clear hK K
    try simp only [Act.put, List.getElem_toArray, List.getElem_cons_zero, List.getElem_cons_succ, List.setIfInBounds_toArray, List.set_cons_zero, List.set_cons_succ]
    refine wpAnyIn_done (by kernel_rfl) ?_ _
    refine ⟨F6.out, F5.out, ⟨⟨_, Q2.out, ?_, trivial⟩, F4.out⟩, F7.out⟩
    rw [List.map_append, List.length_append, List.map_cons, List.map_nil, HG.out, ccells_snoc]
    exact Q3.out
  case done =>
    rintro D ys W hD rfl ⟨⟨⟨v, hv, hrow, -⟩, hf⟩, hBB⟩ hK
    have hcell := hv.cell
    have HR := Lib.hid hrow
    have HB := Lib.hid (hB0.trans (hBB.mono (by omega)))
    have HK := Lib.hid hK
    clear hv hrow hBB hK hf k2 k0 hbx hbf
    gi_wp2
    refine ⟨by simp, .inl ⟨_, _, rfl, run_takeDeferred HK.out, ?_⟩⟩
    refine ⟨_, results_tmp rfl _ _ _, v, rfl, ?_, HB.out.trans (belowK_b (w := w) (Nat.le_refl _) W D _ _ (by omega) HK.out rfl rfl)⟩
    have := ownsRow_putObj HR.out (.deferred none) HK.out rfl
    rw [allB_pl, List.length_map]
    exact own_baseB this (by omega)
  case stop =>
    rintro D c pre W hD hpre h hK
    exact h.elim
end Go.Proofs.YtcdhmlalpjcidaaDoor
