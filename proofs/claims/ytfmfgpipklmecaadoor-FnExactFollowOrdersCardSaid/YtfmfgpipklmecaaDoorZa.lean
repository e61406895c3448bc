/-
  The contract of the program's tallyOf. Condition: pairs of samples below nine, at most a thousand.
-/
import Derived.Test.YtfmfgpipklmecaaDoorZk
import Derived.Test.YtfmfgpipklmecaaDoorZt
import Derived.Test.YtfmfgpipklmecaaDoorHd
import Derived.Test.YtfmfgpipklmecaaDoorW0
import Derived.Deep.RegionLaw
namespace Go.Proofs.YtfmfgpipklmecaaDoor
open Go.ChangeShapes Go.WideShapes Go.ChangeAt Go.RowKit Go.Deep
open Go.Maps (Keyed)

theorem Tryd.zeroI64P (w : World) : (zeroValue 2).run Tryd.prog w = .ok (.int .i64 0) w := by kernel_rfl
abbrev OwnsP (w : World) (b n : Nat) (D : DataW Unit) : Prop := w.ownsMap Tryd.prog 68 (plainElem Tryd.prog 2) b n D

set_option maxRecDepth 100000 in
set_option maxHeartbeats 8000000 in
theorem tallyOf_any (ps : List Pq) (hok : ∀ p ∈ ps, ok2 p) (hl : ps.length ≤ 6500) (A : Option Addr) (c : Nat) (w : World) (hr : Rd w w.heap.size pqc A ps) :
    Calls Tryd.prog 62 #[.slice A ps.length c] w fun e w' => ∃ B n D, e = .returned (.map (some B)) ∧ w.heap.size ≤ B ∧ n ≤ 6500 ∧ OwnsP w' B n D ∧ Holds D ok2 kP (cntP ps) ∧ Below w.heap.size w w' := by
  have HR := Lib.hid hr
  have HOK := Lib.hid hok
  clear hr hok
  have hmm := @run_makeMap Tryd.prog
  go_enter Tryd.func62, Tryd.ntmps62
  go_wp2_with fail
  clear hmm
  go_loopw [9] (fun i wr => ∃ k : Nat, k ≤ ps.length ∧ i = .int .i64 k ∧ ∃ D, OwnsP wr w.heap.size k D ∧ Holds D ok2 kP (cntP (ps.take k)) ∧ Below w.heap.size w wr) (fun i _ => ps.length - (intOf i).toNat)
  case atStart => exact ⟨0, by omega, rfl, .map [], World.ownsMap_made _ _ _ _, (Holds.empty _ _).congr (fun x _ => by simp [cntP]), (Below.refl _ _).alloc (Nat.le_refl _) _⟩
  case round =>
    obtain ⟨k, hk, rfl, D, q1, q2, q3⟩ := hrel
    obtain ⟨wq, rfl⟩ : ∃ u, u = wr := ⟨_, rfl⟩
    have Q1 := Lib.hid q1
    have Q2 := Lib.hid q2
    have Q3 := Lib.hid q3
    clear q1 q2 q3
    by_cases hlt : k < ps.length
    · obtain ⟨x, hx⟩ : ∃ x, ps[k]? = some x := ⟨_, List.getElem?_eq_getElem hlt⟩
      obtain ⟨b, o, rfl, hbl, hrow⟩ := (HR.out.keep Q3.out).at_ pqc_length hx
      have hxo := HOK.out x (List.mem_of_getElem? hx)
      obtain ⟨x1, x2⟩ := x
      have HX := Lib.hid hx
      have HXo := Lib.hid hxo
      have e1 : wq.cell? ⟨b, o + k * 2, none⟩ = some (.int .i64 x1) := by simpa using hrow 0 (.int .i64 x1) (by simp [pqc])
      have e2 : wq.cell? ⟨b, o + k * 2 + 1, none⟩ = some (.int .i64 x2) := by simpa using hrow 1 (.int .i64 x2) (by simp [pqc])
      have hk0 : (0 : Int) ≤ (k : Int) := Int.natCast_nonneg _
      have hk8 : (k : Int) < ps.length := by omega
      clear hx hrow hbl hxo
      go_wp2_with fail
      have hbw : Below wq.heap.size wq (wq.alloc (.cells #[.int .i64 x1, .int .i64 x2] 68)).drew := ((Below.refl _ wq).alloc (Nat.le_refl _) _).drew
      have hK : Rs (wq.alloc (.cells #[.int .i64 x1, .int .i64 x2] 68)).drew wq.heap.size 68 pqc [(x1, x2)] := by
        have h := Blk.new wq 68 #[Value.int .i64 x1, Value.int .i64 x2]
        have h2 : Rs (wq.alloc (.cells #[.int .i64 x1, .int .i64 x2] 68)) wq.heap.size 68 pqc [(x1, x2)] := by simpa [Rs, pqc] using h
        exact h2
      have f1 : (wq.alloc (.cells #[.int .i64 x1, .int .i64 x2] 68)).drew.cell? ⟨wq.heap.size, 0, none⟩ = some (.int .i64 x1) := Rs.range hK 0 _ (by simp [pqc])
      have f2 : (wq.alloc (.cells #[.int .i64 x1, .int .i64 x2] 68)).drew.cell? ⟨wq.heap.size, 1, none⟩ = some (.int .i64 x2) := by simp
      have hown : OwnsP (wq.alloc (.cells #[.int .i64 x1, .int .i64 x2] 68)).drew w.heap.size k D := Q1.out.kept (grown_of_below hbw) (by simp)
      have hB1 : Below w.heap.size w (wq.alloc (.cells #[.int .i64 x1, .int .i64 x2] 68)).drew := Q3.out.trans (hbw.mono Q3.out.size)
      refine wp_region_any (by kernel_rfl) ?_
      change wpAny _ _ _ _ _ _ _ (World.drew _)
      obtain ⟨w2, hw2⟩ : ∃ w2, (wq.alloc (.cells #[.int .i64 x1, .int .i64 x2] 68)).drew = w2 := ⟨_, rfl⟩
      rw [hw2] at f1 f2 hown hB1 ⊢
      clear hw2 hbw hK e1 e2
      obtain ⟨cn, v0, st, w3, hat, hwf, hl1, hme, hl2, hst⟩ := entry_law hown Tryd.lawP Tryd.underlying56 Tryd.underlying2 Tryd.zeroI64P (by unfold maxLen; omega) (keyP (x1, x2) HXo.out)
      have hcn := Q2.out.look (x := (x1, x2)) HXo.out hat
      have hcb := cntP_le (ps.take k) (x1, x2)
      have hlt12 : (ps.take k).length ≤ 6500 := by rw [List.length_take]; omega
      subst hcn
      obtain ⟨w4, hst2, hown4, hgr4⟩ := hst ((cntP (ps.take k) (x1, x2) : Nat) + 1) (WalkArith.wf_i64 ⟨by omega, by omega⟩)
      have hput := Q2.out.put (g := cntP (ps.take (k + 1))) (n := cntP (ps.take k) (x1, x2) + 1) (size_ownsMap Q1.out).2 (fun a b ha hb h => kP_inj ha hb h) (x := (x1, x2)) HXo.out (kP_is _) (by omega) (by rw [cntP_take HX.out]; simp) (fun y hy => by rw [cntP_take HX.out, if_neg (fun e => hy e.symm)]; rfl)
      have HP := Lib.hid hput
      have HO := Lib.hid hown4
      have HB4 := Lib.hid (Below.growMap hB1 hgr4 hB1.size (Nat.le_refl _))
      have hs1 : IntKind.i64.wrap ((cntP (ps.take k) (x1, x2) : Nat) + 1 : Int) = (cntP (ps.take k) (x1, x2) : Nat) + 1 := IntWalk.i64_in _ ⟨by omega, by omega⟩
      have hs2 : wrap64 ((cntP (ps.take k) (x1, x2) : Nat) + 1 : Int) = (cntP (ps.take k) (x1, x2) : Nat) + 1 := IntWalk.wrap64_in _ ⟨by omega, by omega⟩
      clear hown hB1 hat hwf hput hown4 hgr4 hst
      obtain ⟨cx, hcx⟩ : ∃ n, cntP (ps.take k) (x1, x2) = n := ⟨_, rfl⟩
      rw [hcx] at hl1 hl2 hst2 hs1 hs2 HO HP
      have L1 := Lib.hid hl1
      have L2 := Lib.hid hl2
      have L3 := Lib.hid hme
      have L4 := Lib.hid hst2
      clear hl1 hl2 hme hst2 hcx hcb hlt12
      refine wpAny_take (i := 0) (v := .map (some w.heap.size)) rfl (by kernel_rfl) (by kernel_rfl) (by kernel_rfl) (fun _ _ _ h => h) (Or.inl ⟨by rfl, fun w' => by go_simp⟩) ?_
      try simp only [Act.put, List.getElem_toArray, List.getElem_cons_zero, List.getElem_cons_succ, List.setIfInBounds_toArray, List.set_cons_zero, List.set_cons_succ]
      refine wpAny_ready (rs := [1]) (by kernel_rfl) (by simp) ?_
      refine AllReady.cons rfl (fun K hK => ?_) AllReady.nil
      refine if_wanted rfl ?_
      go_simp
      refine hK _ _ ?_
      clear hK K
      try simp only [Act.put, List.getElem_toArray, List.getElem_cons_zero, List.getElem_cons_succ, List.setIfInBounds_toArray, List.set_cons_zero, List.set_cons_succ]
      refine wpAny_ready (rs := [2, 4]) (by kernel_rfl) (by simp) ?_
      refine AllReady.cons rfl (fun K hK => ?_) (AllReady.cons rfl (fun K hK => ?_) AllReady.nil)
      · skip
        refine if_wanted rfl (wp_lookupR 56 (.tmp 13) (.tmp 14) rfl rfl rfl L1.out ?_)
        refine hK _ _ ?_
        clear hK K
        try simp only [Act.put, List.getElem_toArray, List.getElem_cons_zero, List.getElem_cons_succ, List.setIfInBounds_toArray, List.set_cons_zero, List.set_cons_succ]
        refine wpAny_take (i := 3) (v := .int .i64 ((cx : Nat) + 1)) rfl (by kernel_rfl) (by kernel_rfl) (by kernel_rfl) (fun _ _ _ h => h) (Or.inl ⟨by rfl, fun w' => by go_simp⟩) ?_
        try simp only [Act.put, List.getElem_toArray, List.getElem_cons_zero, List.getElem_cons_succ, List.setIfInBounds_toArray, List.set_cons_zero, List.set_cons_succ]
        refine wpAny_ready (rs := [4]) (by kernel_rfl) (by simp) ?_
        refine AllReady.cons rfl (fun K hK => ?_) AllReady.nil
        refine if_wanted rfl (wp_mapEntryR 56 (.tmp 13) (.tmp 14) rfl rfl rfl L3.out ?_)
        refine hK _ _ ?_
        clear hK K
        try simp only [Act.put, List.getElem_toArray, List.getElem_cons_zero, List.getElem_cons_succ, List.setIfInBounds_toArray, List.set_cons_zero, List.set_cons_succ]
        refine wpAny_take (i := 5) (v := goInt st) rfl (by kernel_rfl) (by kernel_rfl) (by kernel_rfl) (fun _ _ _ h => h) (Or.inl ⟨by rfl, fun w' => by go_simp⟩) ?_
        try simp only [Act.put, List.getElem_toArray, List.getElem_cons_zero, List.getElem_cons_succ, List.setIfInBounds_toArray, List.set_cons_zero, List.set_cons_succ]
        refine wpAny_ready (rs := [6]) (by kernel_rfl) (by simp) ?_
        refine AllReady.cons rfl (fun K hK => ?_) AllReady.nil
        refine if_wanted rfl (wp_entryStoreR 56 (.tmp 13) (.tmp 18) (.tmp 16) rfl rfl rfl rfl L4.out ?_)
        refine hK _ _ ?_
        clear hK K
        try simp only [Act.put, List.getElem_toArray, List.getElem_cons_zero, List.getElem_cons_succ, List.setIfInBounds_toArray, List.set_cons_zero, List.set_cons_succ]
        refine wpAny_done (by kernel_rfl) ?_ _
        try simp only [Act.put, List.getElem_toArray, List.getElem_cons_zero, List.getElem_cons_succ, List.setIfInBounds_toArray, List.set_cons_zero, List.set_cons_succ]
        go_wp2
        go_roundw
        case rel => exact ⟨k + 1, by omega, by go_num, _, HO.out, HP.out, HB4.out⟩
        case measure => simp [intOf]; omega
      · skip
        refine if_wanted rfl (wp_mapEntryR 56 (.tmp 13) (.tmp 14) rfl rfl rfl L3.out ?_)
        refine hK _ _ ?_
        clear hK K
        try simp only [Act.put, List.getElem_toArray, List.getElem_cons_zero, List.getElem_cons_succ, List.setIfInBounds_toArray, List.set_cons_zero, List.set_cons_succ]
        refine wpAny_take (i := 5) (v := goInt st) rfl (by kernel_rfl) (by kernel_rfl) (by kernel_rfl) (fun _ _ _ h => h) (Or.inl ⟨by rfl, fun w' => by go_simp⟩) ?_
        try simp only [Act.put, List.getElem_toArray, List.getElem_cons_zero, List.getElem_cons_succ, List.setIfInBounds_toArray, List.set_cons_zero, List.set_cons_succ]
        refine wpAny_ready (rs := [2]) (by kernel_rfl) (by simp) ?_
        refine AllReady.cons rfl (fun K hK => ?_) AllReady.nil
        refine if_wanted rfl (wp_lookupR 56 (.tmp 13) (.tmp 14) rfl rfl rfl L2.out ?_)
        refine hK _ _ ?_
        clear hK K
        try simp only [Act.put, List.getElem_toArray, List.getElem_cons_zero, List.getElem_cons_succ, List.setIfInBounds_toArray, List.set_cons_zero, List.set_cons_succ]
        refine wpAny_take (i := 3) (v := .int .i64 ((cx : Nat) + 1)) rfl (by kernel_rfl) (by kernel_rfl) (by kernel_rfl) (fun _ _ _ h => h) (Or.inl ⟨by rfl, fun w' => by go_simp⟩) ?_
        try simp only [Act.put, List.getElem_toArray, List.getElem_cons_zero, List.getElem_cons_succ, List.setIfInBounds_toArray, List.set_cons_zero, List.set_cons_succ]
        refine wpAny_ready (rs := [6]) (by kernel_rfl) (by simp) ?_
        refine AllReady.cons rfl (fun K hK => ?_) AllReady.nil
        refine if_wanted rfl (wp_entryStoreR 56 (.tmp 13) (.tmp 18) (.tmp 16) rfl rfl rfl rfl L4.out ?_)
        refine hK _ _ ?_
        clear hK K
        try simp only [Act.put, List.getElem_toArray, List.getElem_cons_zero, List.getElem_cons_succ, List.setIfInBounds_toArray, List.set_cons_zero, List.set_cons_succ]
        refine wpAny_done (by kernel_rfl) ?_ _
        try simp only [Act.put, List.getElem_toArray, List.getElem_cons_zero, List.getElem_cons_succ, List.setIfInBounds_toArray, List.set_cons_zero, List.set_cons_succ]
        go_wp2
        go_roundw
        case rel => exact ⟨k + 1, by omega, by go_num, _, HO.out, HP.out, HB4.out⟩
        case measure => simp [intOf]; omega
    · obtain rfl : k = ps.length := by omega
      have HD9 : Hid (Holds D ok2 kP (cntP ps)) := by show Holds _ _ _ _; rw [List.take_length] at Q2; exact Q2.out
      go_wp2
      go_ret
      exact ⟨_, _, _, rfl, Nat.le_refl _, hl, Q1.out, HD9.out, Q3.out⟩
end Go.Proofs.YtfmfgpipklmecaaDoor
