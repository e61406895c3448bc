/-
  MostOf: rows of counts, and the model's l01Counts. Condition: the list lies in a block of one's own, is in the order of bottles and has twelve at the most.
-/
import Derived.Test.YtcdhmlalpjcidaaDoorCn0
import Derived.Test.YtcdhmlalpjcidaaDoorGb
import Derived.Test.YtcdhmlalpjcidaaDoorOy
import Derived.Test.YtcdhmlalpjcidaaDoorAs0
import Derived.Test.YtcdhmlalpjcidaaDoorIs0
import Derived.Test.YtcdhmlalpjcidaaDoorEq
import Derived.BigQuiet
import Derived.Deep.RegionHeld3
namespace Go.Proofs.YtcdhmlalpjcidaaDoor
open Go.ChangeShapes Go.WideShapes Go.ChangeAt Go.RowKit Go.Deep

def ncells (x : Wnt) : List Value := [.int .u8 x.1.1, .int .i16 x.1.2, .int .i64 x.2]
theorem ncells_length (x : Wnt) : (ncells x).length = 3 := rfl
theorem ncells_one (x : Wnt) : (ncells x).toArray.all (·.oneCell') = true := by simp [ncells, Value.oneCell']
theorem Tryd.sizeCt : (Tryd.prog.info? 68).map (·.size) = some 3 := by kernel_rfl
theorem Tryd.infoCt : (Tryd.prog.info? 68).map (fun i => (i.zero, i.size, i.bytes)) = some (some (.agg #[.int .u8 0, .int .i16 0, .int .i64 0]), 3, 16) := by kernel_rfl
theorem rowN3 {w : World} {b o k : Nat} {x : Wnt} (h : w.rangeAt b (o + k * 3) (ncells x)) : w.cell? ⟨b, o + k * 3, none⟩ = some (.int .u8 x.1.1) ∧ w.cell? ⟨b, o + k * 3 + 1, none⟩ = some (.int .i16 x.1.2) ∧ w.cell? ⟨b, o + k * 3 + 2, none⟩ = some (.int .i64 x.2) :=
  ⟨h 0 _ rfl, h 1 _ rfl, h 2 _ rfl⟩
theorem cells3C (W : World) (t : TypeId) (k y n : Int) : ∀ (j : Nat) (u : Value), [Value.int .u8 k, .int .i16 y, .int .i64 n][j]? = some u → (W.alloc (.cells #[.int .u8 k, .int .i16 y, .int .i64 n] t)).cell? ((⟨W.heap.size, 0, none⟩ : Addr).add j) = some u := fun j u hu => by
  have e : (⟨W.heap.size, 0, none⟩ : Addr).add j = ⟨W.heap.size, j, none⟩ := by cases j <;> simp [Addr.add]
  rw [e, Blk.cell (Blk.new W t #[.int .u8 k, .int .i16 y, .int .i64 n])]
  simpa using hu
theorem one3C (k y n : Int) : ∀ u ∈ [Value.int .u8 k, .int .i16 y, .int .i64 n], u.oneCell' = true := by
  intro u hu
  simp only [List.mem_cons, List.not_mem_nil, or_false] at hu
  rcases hu with rfl | rfl | rfl <;> rfl
theorem empty_ownCt (w : World) (t : TypeId) (size : Nat) : (w.alloc (.cells #[] t)).ownsRow w.heap.size t size (.slice (some ⟨w.heap.size, 0, none⟩) 0 0) 0 [] :=
  ⟨by simp, .inr ⟨w.heap.size, 0, #[], rfl, Nat.le_refl _, heap_alloc_new w _, Nat.le_refl _, by unfold maxLen; omega, by simp, by simp⟩⟩
theorem yields_neqB {ops : Array Oper} {S : World → Prop} {o : Oper} {a : Act} (x y : Operand) (ho : o.op = .binOp .neq 26 x y 26) (X Y : Bot) (hw : Region.wanted o (yielded ops a.tmps) = true)
    (ex : a.eval x = .agg #[.int .u8 X.1, .int .i16 X.2]) (ey : a.eval y = .agg #[.int .u8 Y.1, .int .i16 Y.2]) : YieldsIf Tryd.prog ops S o (.bool (!decide (X = Y))) a :=
  .inl ⟨hw, fun w' _ => by
    have hE : (Op.equalIn 10000 26 (.agg #[.int .u8 X.1, .int .i16 X.2]) (.agg #[.int .u8 Y.1, .int .i16 Y.2])).run Tryd.prog w' = .ok (decide (X = Y)) w' := equalIn_bot 9998 X Y w'
    unfold execOp
    simp only [ho, ex, ey, Sem.run_bind, Sem.run_pure, Result.andThen_ok, run_neq_struct]
    have hG : (eqGuard BinOp.neq 26 x y (.agg #[.int .u8 X.1, .int .i16 X.2]) (.agg #[.int .u8 Y.1, .int .i16 Y.2])).run Tryd.prog w' = .ok () w' := by simp [eqGuard]
    rw [hG]
    simp only [Result.andThen_ok, hE]⟩
theorem OX.cnt {w : World} {g cap : Nat} {k y n : Int} {L : List Wnt} (h : OX w g 68 3 ncells (L ++ [((k, y), n)]) cap) (n' : Int) : OX (w.setCell ⟨g, L.length * 3 + 2, none⟩ (.int .i64 n')) g 68 3 ncells (L ++ [((k, y), n')]) cap := by
  obtain ⟨cur, hg, h1, h2, h3, h4⟩ := h
  have hK : Blk w g 68 cur := hg
  refine ⟨_, hK.set_ (L.length * 3 + 2) _, by simpa using h1, h2, by simpa using h3, ?_⟩
  rw [Array.toList_setIfInBounds, List.take_set]
  have e1 : (L ++ [((k, y), n')]).length = (L ++ [((k, y), n)]).length := by simp
  rw [e1, h4, List.flatMap_append, List.flatMap_append]
  have l : (L.flatMap ncells).length = L.length * 3 := rows_length ncells_length L
  rw [List.set_append_right _ _ (by omega), l, Nat.add_sub_cancel_left]
  rfl

set_option maxRecDepth 100000 in
set_option maxHeartbeats 8000000 in
theorem l01Counts_any (Y : List Bot) (hs : SrtTo Y Y.length) (hl : Y.length ≤ 12) (g cY : Nat) (w : World) (hY : OB w g Y cY) :
    Calls Tryd.prog 34 #[.slice (some ⟨g, 0, none⟩) Y.length cY] w fun e w' => ∃ C v, e = .returned v ∧ IsC (cnY Y Y.length) C ∧ C.length ≤ Y.length ∧ w'.ownsRow w.heap.size 68 3 v C.length (C.flatMap ncells) ∧ Below w.heap.size w w' := by
  obtain ⟨i0, hi0, hz0, hz1, hz2⟩ := info_parts Tryd.infoCt
  have HI := Lib.hid hi0
  have HZ0 := Lib.hid hz0
  have HZ1 := Lib.hid hz1
  have HZ2 := Lib.hid hz2
  clear hi0 hz0 hz1 hz2
  have HYw := Lib.hid hY
  have HS := Lib.hid hs
  have HgL : Hid (g < w.heap.size) := hY.lt
  have HO0 : Hid ((w.alloc (.cells #[] 68)).ownsRow w.heap.size 68 3 (.slice (some ⟨w.heap.size, 0, none⟩) ([] : List Wnt).length 0) ([] : List Wnt).length (([] : List Wnt).flatMap ncells)) := empty_ownCt w _ 3
  have HB0 : Hid (Below w.heap.size w (w.alloc (.cells #[] 68))) := (Below.refl _ w).alloc (Nat.le_refl _) _
  clear hY hs
  go_enter Tryd.func34, Tryd.ntmps34
  go_wp2_with fail
  go_loopw [3, 4] (fun ov iv wr => ∃ (k : Nat) (C : List Wnt) (O : Option Addr) (oc : Nat), k ≤ Y.length ∧ ov = .slice O C.length oc ∧ iv = .int .i64 k ∧ (k = 0 ∧ C = [] ∨ ∃ L b n, RL Y k L b n ∧ C = L ++ [(b, n)]) ∧ wr.ownsRow w.heap.size 68 3 (.slice O C.length oc) C.length (C.flatMap ncells) ∧ Below w.heap.size w wr) (fun _ i _ => Y.length - (intOf i).toNat)
  case atStart => exact ⟨0, [], _, 0, Nat.zero_le _, rfl, rfl, .inl ⟨rfl, rfl⟩, HO0.out, HB0.out⟩
  case round =>
    clear HO0 HB0
    obtain ⟨k, C, O, oc, hk, rfl, rfl, hC, hO, hB⟩ := hrel
    obtain ⟨wa, rfl⟩ : ∃ u, u = wr := ⟨_, rfl⟩
    have HC := Lib.hid hC
    have HO := Lib.hid hO
    have HB := Lib.hid hB
    have HY : Hid (OB wa g Y cY) := HYw.out.below hB HgL.out
    have HgW : Hid (g < wa.heap.size) := Nat.lt_of_lt_of_le HgL.out hB.size
    have HCl : Hid (C.length ≤ 12) := by
      show _ ≤ _
      rcases hC with ⟨-, rfl⟩ | ⟨L, b, n, h, rfl⟩
      · simp
      · have := (h.len hk).1; simp; omega
    clear hC hO hB
    have hk0 : (0 : Int) ≤ (k : Int) := Int.natCast_nonneg _
    by_cases hlt : k < Y.length
    · have hk8 : (k : Int) < Y.length := by omega
      obtain ⟨⟨k1, y1⟩, hx⟩ : ∃ x, Y[k]? = some x := ⟨_, List.getElem?_eq_getElem hlt⟩
      have HX := Lib.hid hx
      have uk : IntKind.i64.wrap ((k : Int) + 1) = (k : Int) + 1 := IntWalk.i64_in _ ⟨by omega, by omega⟩
      have uk2 : wrap64 ((k : Int) + 1) = (k : Int) + 1 := IntWalk.wrap64_in _ ⟨by omega, by omega⟩
      have UK := Lib.hid uk
      have UK2 := Lib.hid uk2
      clear uk uk2 hx
      rcases HC.out with ⟨rfl, hC0⟩ | ⟨L, ⟨k0, y0⟩, n, hRL, hC0⟩
      · have HCe : Hid ([] = C) := hC0.symm
        clear hC0
        have HR1 : Hid (RL Y 1 [] (k1, y1) 1) := RL.first HX.out
        go_wp2_with fail
        refine wp_region_held_drew (S := fun w' => Below wa.heap.size wa w') (by kernel_rfl) (Below.refl _ _).drew (fun hHeld => ?_)
        refine wpAnyH_take (i := 0) (v := .int .i64 0) rfl (by kernel_rfl) (by kernel_rfl) (by kernel_rfl) (fun _ _ _ h => h) (Or.inl ⟨by rfl, fun w' h => by go_simp⟩) (by assumption) ?_
        try simp only [Act.put, List.getElem_toArray, List.getElem_cons_zero, List.getElem_cons_succ, List.setIfInBounds_toArray, List.set_cons_zero, List.set_cons_succ]
        refine wpAnyH_take (i := 1) (v := .bool true) rfl (by kernel_rfl) (by kernel_rfl) (by kernel_rfl) (fun _ _ _ h => h) (Or.inl ⟨by rfl, fun w' h => by go_simp⟩) (by assumption) ?_
        try simp only [Act.put, List.getElem_toArray, List.getElem_cons_zero, List.getElem_cons_succ, List.setIfInBounds_toArray, List.set_cons_zero, List.set_cons_succ]
        refine wpAnyH_take (i := 2) (v := .bool true) rfl (by kernel_rfl) (by kernel_rfl) (by kernel_rfl) (fun _ _ _ h => h) (Or.inl ⟨by rfl, fun w' h => by go_simp⟩) (by assumption) ?_
        try simp only [Act.put, List.getElem_toArray, List.getElem_cons_zero, List.getElem_cons_succ, List.setIfInBounds_toArray, List.set_cons_zero, List.set_cons_succ]
        refine wpAnyH_take (i := 3) (v := undef) rfl (by kernel_rfl) (by kernel_rfl) (by kernel_rfl) (fun _ _ _ h => h) (Or.inr ⟨by rfl, rfl⟩) (by assumption) ?_
        try simp only [Act.put, List.getElem_toArray, List.getElem_cons_zero, List.getElem_cons_succ, List.setIfInBounds_toArray, List.set_cons_zero, List.set_cons_succ]
        refine wpAnyH_take (i := 4) (v := undef) rfl (by kernel_rfl) (by kernel_rfl) (by kernel_rfl) (fun _ _ _ h => h) (Or.inr ⟨by rfl, rfl⟩) (by assumption) ?_
        try simp only [Act.put, List.getElem_toArray, List.getElem_cons_zero, List.getElem_cons_succ, List.setIfInBounds_toArray, List.set_cons_zero, List.set_cons_succ]
        refine wpAnyH_take (i := 5) (v := undef) rfl (by kernel_rfl) (by kernel_rfl) (by kernel_rfl) (fun _ _ _ h => h) (Or.inr ⟨by rfl, rfl⟩) (by assumption) ?_
        try simp only [Act.put, List.getElem_toArray, List.getElem_cons_zero, List.getElem_cons_succ, List.setIfInBounds_toArray, List.set_cons_zero, List.set_cons_succ]
        refine wpAnyH_take (i := 6) (v := undef) rfl (by kernel_rfl) (by kernel_rfl) (by kernel_rfl) (fun _ _ _ h => h) (Or.inr ⟨by rfl, rfl⟩) (by assumption) ?_
        try simp only [Act.put, List.getElem_toArray, List.getElem_cons_zero, List.getElem_cons_succ, List.setIfInBounds_toArray, List.set_cons_zero, List.set_cons_succ]
        refine wpAnyH_take (i := 7) (v := undef) rfl (by kernel_rfl) (by kernel_rfl) (by kernel_rfl) (fun _ _ _ h => h) (Or.inr ⟨by rfl, rfl⟩) (by assumption) ?_
        try simp only [Act.put, List.getElem_toArray, List.getElem_cons_zero, List.getElem_cons_succ, List.setIfInBounds_toArray, List.set_cons_zero, List.set_cons_succ]
        refine wpAnyH_take (i := 8) (v := undef) rfl (by kernel_rfl) (by kernel_rfl) (by kernel_rfl) (fun _ _ _ h => h) (Or.inr ⟨by rfl, rfl⟩) (by assumption) ?_
        try simp only [Act.put, List.getElem_toArray, List.getElem_cons_zero, List.getElem_cons_succ, List.setIfInBounds_toArray, List.set_cons_zero, List.set_cons_succ]
        refine wpAnyH_take (i := 9) (v := undef) rfl (by kernel_rfl) (by kernel_rfl) (by kernel_rfl) (fun _ _ _ h => h) (Or.inr ⟨by rfl, rfl⟩) (by assumption) ?_
        try simp only [Act.put, List.getElem_toArray, List.getElem_cons_zero, List.getElem_cons_succ, List.setIfInBounds_toArray, List.set_cons_zero, List.set_cons_succ]
        refine wpAnyH_take (i := 10) (v := undef) rfl (by kernel_rfl) (by kernel_rfl) (by kernel_rfl) (fun _ _ _ h => h) (Or.inr ⟨by rfl, rfl⟩) (by assumption) ?_
        try simp only [Act.put, List.getElem_toArray, List.getElem_cons_zero, List.getElem_cons_succ, List.setIfInBounds_toArray, List.set_cons_zero, List.set_cons_succ]
        refine wpAnyH_take (i := 11) (v := undef) rfl (by kernel_rfl) (by kernel_rfl) (by kernel_rfl) (fun _ _ _ h => h) (Or.inr ⟨by rfl, rfl⟩) (by assumption) ?_
        try simp only [Act.put, List.getElem_toArray, List.getElem_cons_zero, List.getElem_cons_succ, List.setIfInBounds_toArray, List.set_cons_zero, List.set_cons_succ]
        refine wpAnyH_take (i := 12) (v := undef) rfl (by kernel_rfl) (by kernel_rfl) (by kernel_rfl) (fun _ _ _ h => h) (Or.inr ⟨by rfl, rfl⟩) (by assumption) ?_
        try simp only [Act.put, List.getElem_toArray, List.getElem_cons_zero, List.getElem_cons_succ, List.setIfInBounds_toArray, List.set_cons_zero, List.set_cons_succ]
        refine wpAnyH_take (i := 13) (v := .bool true) rfl (by kernel_rfl) (by kernel_rfl) (by kernel_rfl) (fun _ _ _ h => h) (Or.inl ⟨by rfl, fun w' h => by go_simp⟩) (by assumption) ?_
        try simp only [Act.put, List.getElem_toArray, List.getElem_cons_zero, List.getElem_cons_succ, List.setIfInBounds_toArray, List.set_cons_zero, List.set_cons_succ]
        refine wpAnyH_done (by kernel_rfl) ?_ _
        try simp only [Act.put, List.getElem_toArray, List.getElem_cons_zero, List.getElem_cons_succ, List.setIfInBounds_toArray, List.set_cons_zero, List.set_cons_succ]
        have hb := hHeld
        clear hHeld
        obtain ⟨w5, hw5⟩ : ∃ u, wa.drew = u := ⟨_, rfl⟩
        rw [hw5] at hb ⊢
        have HO5 := Lib.hid (own_keep' HO.out hb)
        have HB5 := Lib.hid (HB.out.trans (hb.mono HB.out.size))
        have g1 : w5.cell? ⟨g, 0, none⟩ = some (.int .u8 k1) := by simpa using (HY.out.keep hb).kind HX.out
        have g2 : w5.cell? ⟨g, 1, none⟩ = some (.int .i16 y1) := by simpa using (HY.out.keep hb).year HX.out
        clear hb hw5
        have hcl5 := HCl.out
        go_wp2_with (at_builtin; refine wpList_append_own _ rfl (.tmp 26) (.tmp 32) 63 rfl w.heap.size 68 i0 (.agg #[.int .u8 0, .int .i16 0, .int .i64 0]) 3 16 Tryd.underlying63 HI.out HZ0.out HZ1.out HZ2.out rfl (by decide) _ _ _ rfl (HO5.out.alloc _) ⟨w5.heap.size, 0, none⟩ 1 1 [.int .u8 k1, .int .i16 y1, .int .i64 0] rfl rfl ?f10 ?f20 ?f30 ?f40 ?f50 ?_)
        try (case f10 => exact cells3C w5 _ _ _ _)
        try (case f20 => first | exact one3C _ _ _ | exact ⟨rfl, rfl, rfl⟩)
        case f30 => unfold maxLen; omega
        case f40 => omega
        case f50 => have := HB5.out.size; simp; omega
        intro v8 w8 hown8 hg8 _
        have hown9 : w8.ownsRow w.heap.size 68 3 v8 (C ++ [((k1, y1), 0)]).length ((C ++ [((k1, y1), 0)]).flatMap ncells) := by rw [List.length_append, List.flatMap_append]; simpa [ncells] using hown8
        obtain ⟨g8, c8, rfl, hg8b, hOX⟩ : ∃ g c, v8 = .slice (some ⟨g, 0, none⟩) (C ++ [((k1, y1), 0)]).length c ∧ w.heap.size ≤ g ∧ OX w8 g 68 3 ncells (C ++ [((k1, y1), 0)]) c := by
          rcases OX.of hown9 with ⟨-, h1⟩ | ⟨g, cap, h1, h2, h3⟩
          · simp at h1
          · exact ⟨g, cap, h1, h2, h3⟩
        have HB8 : Hid (Below w.heap.size w w8) := (HB5.out.alloc HB5.out.size _).grown hg8 (HB5.out.alloc HB5.out.size _).size (fun q e => by have := own_blockG HO5.out e; omega)
        have HOX := Lib.hid hOX
        have HG8 : Hid (w.heap.size ≤ g8) := hg8b
        have HLn : Hid ((C ++ [((k1, y1), 0)]).length = C.length + 1) := by show _ = _; simp
        have q2 : w8.cell? ⟨g8, C.length * 3 + 2, none⟩ = some (.int .i64 0) := hOX.cell ncells_length (k := C.length) (f := 2) (x := ((k1, y1), 0)) (by simp) rfl
        have f2 : w8.frozen? ⟨g8, C.length * 3 + 2, none⟩ = false := hOX.frozen _
        rw [HLn.out]
        clear hown8 hown9 hg8 hOX hg8b HO5 HB5
        have hcl : C.length ≤ 12 := HCl.out
        have hc0 : (0 : Int) ≤ (C.length : Int) := Int.natCast_nonneg _
        have u1 : IntKind.i64.wrap (((C.length + 1 : Nat) : Int) - 1) = (C.length : Int) := (IntWalk.i64_in _ ⟨by omega, by omega⟩).trans (by omega)
        have u2 : wrap64 (((C.length + 1 : Nat) : Int) - 1) = (C.length : Int) := (IntWalk.wrap64_in _ ⟨by omega, by omega⟩).trans (by omega)
        have u3 : (C.length : Int) < ((C.length + 1 : Nat) : Int) := by omega
        obtain ⟨cn, hcn⟩ : ∃ n, C.length = n := ⟨_, rfl⟩
        obtain ⟨m1, hm1⟩ : ∃ m, C.length + 1 = m := ⟨_, rfl⟩
        have HCn := Lib.hid hcn
        have HM1 := Lib.hid hm1
        rw [hm1] at u1 u2 u3 ⊢
        rw [hcn] at q2 f2 u1 u2 u3 hc0
        have u4 : (0 : Int) ≤ (m1 : Int) := Int.natCast_nonneg _
        clear hcn hm1 hcl
        go_wp2
        have uk := UK.out
        have uk2 := UK2.out
        go_roundw
        case rel => exact ⟨1, C ++ [((k1, y1), 1)], some ⟨g8, 0, none⟩, c8, by omega, by rw [← HM1.out]; simp, by go_num, .inr ⟨[], (k1, y1), 1, HR1.out, by rw [← HCe.out]⟩, by
          have h := (HOX.out.cnt 1).own ncells_length HG8.out
          rw [HCn.out] at h
          exact h, by first | exact HB8.out.setCell (p := ⟨g8, _, none⟩) HG8.out _⟩
        case measure => simp [intOf]; omega
      · obtain ⟨j, hj, hyj⟩ := hRL.last
        have HXj := Lib.hid hyj
        have hkz : ((k : Int) == 0) = false := by simp; omega
        have hj0 : (0 : Int) ≤ (j : Int) := Int.natCast_nonneg _
        have hj8 : (j : Int) < Y.length := by omega
        have hkj : (k : Int) - 1 = (j : Int) := by omega
        have uj : IntKind.i64.wrap (j : Int) = j := IntWalk.i64_in _ ⟨by omega, by omega⟩
        have uj2 : wrap64 (j : Int) = j := IntWalk.wrap64_in _ ⟨by omega, by omega⟩
        have HCe : Hid (C = L ++ [((k0, y0), n)]) := hC0
        have HRL := Lib.hid hRL
        have hll := (hRL.len hk).1
        have hnk := (hRL.len hk).2
        have hn1 : 1 ≤ n := hRL.isC.pos ((k0, y0), n) (by simp)
        clear hyj hC0 hRL hj
        by_cases he : (k1, y1) = (k0, y0)
        · have hd : (!decide ((k1, y1) = (k0, y0))) = false := by simp [he]
          have HR1 : Hid (RL Y (k + 1) L (k0, y0) (n + 1)) := HRL.out.same (by rw [HX.out, he])
          have Hd := Lib.hid hd
          clear hd he
          go_wp2_with fail
          refine wp_region_held_drew (S := fun w' => Below wa.heap.size wa w') (by kernel_rfl) (Below.refl _ _).drew (fun hHeld => ?_)
          refine wpAnyH_take (i := 0) (v := .int .i64 k) rfl (by kernel_rfl) (by kernel_rfl) (by kernel_rfl) (fun _ _ _ h => h) (Or.inl ⟨by rfl, fun w' h => by go_simp⟩) (by assumption) ?_
          try simp only [Act.put, List.getElem_toArray, List.getElem_cons_zero, List.getElem_cons_succ, List.setIfInBounds_toArray, List.set_cons_zero, List.set_cons_succ]
          refine wpAnyH_take (i := 1) (v := .bool false) rfl (by kernel_rfl) (by kernel_rfl) (by kernel_rfl) (fun _ _ _ h => h) (Or.inl ⟨by rfl, fun w' h => by go_simp⟩) (by assumption) ?_
          try simp only [Act.put, List.getElem_toArray, List.getElem_cons_zero, List.getElem_cons_succ, List.setIfInBounds_toArray, List.set_cons_zero, List.set_cons_succ]
          refine wpAnyH_take (i := 2) (v := .bool false) rfl (by kernel_rfl) (by kernel_rfl) (by kernel_rfl) (fun _ _ _ h => h) (Or.inl ⟨by rfl, fun w' h => by go_simp⟩) (by assumption) ?_
          try simp only [Act.put, List.getElem_toArray, List.getElem_cons_zero, List.getElem_cons_succ, List.setIfInBounds_toArray, List.set_cons_zero, List.set_cons_succ]
          refine wpAnyH_take (i := 3) (v := .slice (some ⟨g, 0, none⟩) Y.length cY) rfl (by kernel_rfl) (by kernel_rfl) (by kernel_rfl) (fun _ _ _ h => h) (Or.inl ⟨by rfl, fun w' h => by go_simp⟩) (by assumption) ?_
          try simp only [Act.put, List.getElem_toArray, List.getElem_cons_zero, List.getElem_cons_succ, List.setIfInBounds_toArray, List.set_cons_zero, List.set_cons_succ]
          refine wpAnyH_take (i := 4) (v := .int .i64 k) rfl (by kernel_rfl) (by kernel_rfl) (by kernel_rfl) (fun _ _ _ h => h) (Or.inl ⟨by rfl, fun w' h => by go_simp⟩) (by assumption) ?_
          try simp only [Act.put, List.getElem_toArray, List.getElem_cons_zero, List.getElem_cons_succ, List.setIfInBounds_toArray, List.set_cons_zero, List.set_cons_succ]
          refine wpAnyH_take (i := 5) (v := .pointer (some ⟨g, k * 2, none⟩)) rfl (by kernel_rfl) (by kernel_rfl) (by kernel_rfl) (fun _ _ _ h => h) (Or.inl ⟨by rfl, fun w' h => by go_simp⟩) (by assumption) ?_
          try simp only [Act.put, List.getElem_toArray, List.getElem_cons_zero, List.getElem_cons_succ, List.setIfInBounds_toArray, List.set_cons_zero, List.set_cons_succ]
          refine wpAnyH_take (i := 6) (v := .agg #[.int .u8 k1, .int .i16 y1]) rfl (by kernel_rfl) (by kernel_rfl) (by kernel_rfl) (fun _ _ _ h => h) (Or.inl ⟨by rfl, fun w' h => by have g1 := (h.cell (p := ⟨g, k * 2, none⟩) HgW.out).trans (HY.out.kind HX.out); have g2 := (h.cell (p := ⟨g, k * 2 + 1, none⟩) HgW.out).trans (HY.out.year HX.out); go_simp⟩) (by assumption) ?_
          try simp only [Act.put, List.getElem_toArray, List.getElem_cons_zero, List.getElem_cons_succ, List.setIfInBounds_toArray, List.set_cons_zero, List.set_cons_succ]
          refine wpAnyH_take (i := 7) (v := .slice (some ⟨g, 0, none⟩) Y.length cY) rfl (by kernel_rfl) (by kernel_rfl) (by kernel_rfl) (fun _ _ _ h => h) (Or.inl ⟨by rfl, fun w' h => by go_simp⟩) (by assumption) ?_
          try simp only [Act.put, List.getElem_toArray, List.getElem_cons_zero, List.getElem_cons_succ, List.setIfInBounds_toArray, List.set_cons_zero, List.set_cons_succ]
          refine wpAnyH_take (i := 8) (v := .int .i64 k) rfl (by kernel_rfl) (by kernel_rfl) (by kernel_rfl) (fun _ _ _ h => h) (Or.inl ⟨by rfl, fun w' h => by go_simp⟩) (by assumption) ?_
          try simp only [Act.put, List.getElem_toArray, List.getElem_cons_zero, List.getElem_cons_succ, List.setIfInBounds_toArray, List.set_cons_zero, List.set_cons_succ]
          refine wpAnyH_take (i := 9) (v := .int .i64 j) rfl (by kernel_rfl) (by kernel_rfl) (by kernel_rfl) (fun _ _ _ h => h) (Or.inl ⟨by rfl, fun w' h => by go_simp⟩) (by assumption) ?_
          try simp only [Act.put, List.getElem_toArray, List.getElem_cons_zero, List.getElem_cons_succ, List.setIfInBounds_toArray, List.set_cons_zero, List.set_cons_succ]
          refine wpAnyH_take (i := 10) (v := .pointer (some ⟨g, j * 2, none⟩)) rfl (by kernel_rfl) (by kernel_rfl) (by kernel_rfl) (fun _ _ _ h => h) (Or.inl ⟨by rfl, fun w' h => by go_simp⟩) (by assumption) ?_
          try simp only [Act.put, List.getElem_toArray, List.getElem_cons_zero, List.getElem_cons_succ, List.setIfInBounds_toArray, List.set_cons_zero, List.set_cons_succ]
          refine wpAnyH_take (i := 11) (v := .agg #[.int .u8 k0, .int .i16 y0]) rfl (by kernel_rfl) (by kernel_rfl) (by kernel_rfl) (fun _ _ _ h => h) (Or.inl ⟨by rfl, fun w' h => by have g1 := (h.cell (p := ⟨g, j * 2, none⟩) HgW.out).trans (HY.out.kind HXj.out); have g2 := (h.cell (p := ⟨g, j * 2 + 1, none⟩) HgW.out).trans (HY.out.year HXj.out); go_simp⟩) (by assumption) ?_
          try simp only [Act.put, List.getElem_toArray, List.getElem_cons_zero, List.getElem_cons_succ, List.setIfInBounds_toArray, List.set_cons_zero, List.set_cons_succ]
          refine wpAnyH_take (i := 12) (v := .bool (!decide ((k1, y1) = (k0, y0)))) rfl (by kernel_rfl) (by kernel_rfl) (by kernel_rfl) (fun _ _ _ h => h) (yields_neqB (.tmp 18) (.tmp 23) rfl (k1, y1) (k0, y0) (by rfl) rfl rfl) (by assumption) ?_
          try simp only [Act.put, List.getElem_toArray, List.getElem_cons_zero, List.getElem_cons_succ, List.setIfInBounds_toArray, List.set_cons_zero, List.set_cons_succ]
          refine wpAnyH_take (i := 13) (v := .bool (!decide ((k1, y1) = (k0, y0)))) rfl (by kernel_rfl) (by kernel_rfl) (by kernel_rfl) (fun _ _ _ h => h) (Or.inl ⟨by rfl, fun w' h => by go_simp⟩) (by assumption) ?_
          try simp only [Act.put, List.getElem_toArray, List.getElem_cons_zero, List.getElem_cons_succ, List.setIfInBounds_toArray, List.set_cons_zero, List.set_cons_succ]
          refine wpAnyH_done (by kernel_rfl) ?_ _
          try simp only [Act.put, List.getElem_toArray, List.getElem_cons_zero, List.getElem_cons_succ, List.setIfInBounds_toArray, List.set_cons_zero, List.set_cons_succ]
          have hb := hHeld
          clear hHeld
          rw [Hd.out]
          obtain ⟨w5, hw5⟩ : ∃ u, wa.drew = u := ⟨_, rfl⟩
          rw [hw5] at hb ⊢
          have hO5 := own_keep' HO.out hb
          have HB5 := Lib.hid (HB.out.trans (hb.mono HB.out.size))
          rw [HCe.out] at hO5 ⊢
          obtain ⟨g8, hOe, hg8, hOX⟩ : ∃ g, O = some ⟨g, 0, none⟩ ∧ w.heap.size ≤ g ∧ OX w5 g 68 3 ncells (L ++ [((k0, y0), n)]) oc := by
            rcases OX.of hO5 with ⟨-, h1⟩ | ⟨g, cap, h1, h2, h3⟩
            · simp at h1
            · cases h1; exact ⟨g, rfl, h2, h3⟩
          subst hOe
          have HOX := Lib.hid hOX
          have HG8 : Hid (w.heap.size ≤ g8) := hg8
          have HLn : Hid ((L ++ [((k0, y0), n)]).length = L.length + 1) := by show _ = _; simp
          have q2 : w5.cell? ⟨g8, L.length * 3 + 2, none⟩ = some (.int .i64 n) := hOX.cell ncells_length (k := L.length) (f := 2) (x := ((k0, y0), n)) (by simp) rfl
          have f2 : w5.frozen? ⟨g8, L.length * 3 + 2, none⟩ = false := hOX.frozen _
          rw [HLn.out]
          clear hO5 hOX hg8 hb hw5 HO HB hj0 hj8 hkj uj uj2 hkz
          have hc0 : (0 : Int) ≤ (L.length : Int) := Int.natCast_nonneg _
          have u1 : IntKind.i64.wrap (((L.length + 1 : Nat) : Int) - 1) = (L.length : Int) := (IntWalk.i64_in _ ⟨by omega, by omega⟩).trans (by omega)
          have u2 : wrap64 (((L.length + 1 : Nat) : Int) - 1) = (L.length : Int) := (IntWalk.wrap64_in _ ⟨by omega, by omega⟩).trans (by omega)
          have u3 : (L.length : Int) < ((L.length + 1 : Nat) : Int) := by omega
          have u5 : IntKind.i64.wrap (n + 1) = n + 1 := IntWalk.i64_in _ ⟨by omega, by omega⟩
          have u6 : wrap64 (n + 1) = n + 1 := IntWalk.wrap64_in _ ⟨by omega, by omega⟩
          obtain ⟨cn, hcn⟩ : ∃ n, L.length = n := ⟨_, rfl⟩
          obtain ⟨m1, hm1⟩ : ∃ m, L.length + 1 = m := ⟨_, rfl⟩
          have HCn := Lib.hid hcn
          have HM1 := Lib.hid hm1
          rw [hm1] at u1 u2 u3 ⊢
          rw [hcn] at q2 f2 u1 u2 u3 hc0
          have u4 : (0 : Int) ≤ (m1 : Int) := Int.natCast_nonneg _
          clear hcn hm1 hll hnk hn1
          have uk := UK.out
          have uk2 := UK2.out
          go_wp2
          clear u1 u2 u5 u6 uk uk2 u3
          go_roundw
          case rel => exact ⟨k + 1, L ++ [((k0, y0), n + 1)], some ⟨g8, 0, none⟩, oc, by omega, by rw [← HM1.out]; simp, by go_num, .inr ⟨L, (k0, y0), n + 1, HR1.out, rfl⟩, by
            have h := (HOX.out.cnt (n + 1)).own ncells_length HG8.out
            rw [HCn.out] at h
            exact h, HB5.out.setCell (p := ⟨g8, _, none⟩) HG8.out _⟩
          case measure => simp [intOf]; omega
        · have hd : (!decide ((k1, y1) = (k0, y0))) = true := by simp [he]
          have HR1 : Hid (RL Y (k + 1) (L ++ [((k0, y0), n)]) (k1, y1) 1) := HRL.out.new HS.out HX.out he
          have Hd := Lib.hid hd
          clear hd he
          go_wp2_with fail
          refine wp_region_held_drew (S := fun w' => Below wa.heap.size wa w') (by kernel_rfl) (Below.refl _ _).drew (fun hHeld => ?_)
          refine wpAnyH_take (i := 0) (v := .int .i64 k) rfl (by kernel_rfl) (by kernel_rfl) (by kernel_rfl) (fun _ _ _ h => h) (Or.inl ⟨by rfl, fun w' h => by go_simp⟩) (by assumption) ?_
          try simp only [Act.put, List.getElem_toArray, List.getElem_cons_zero, List.getElem_cons_succ, List.setIfInBounds_toArray, List.set_cons_zero, List.set_cons_succ]
          refine wpAnyH_take (i := 1) (v := .bool false) rfl (by kernel_rfl) (by kernel_rfl) (by kernel_rfl) (fun _ _ _ h => h) (Or.inl ⟨by rfl, fun w' h => by go_simp⟩) (by assumption) ?_
          try simp only [Act.put, List.getElem_toArray, List.getElem_cons_zero, List.getElem_cons_succ, List.setIfInBounds_toArray, List.set_cons_zero, List.set_cons_succ]
          refine wpAnyH_take (i := 2) (v := .bool false) rfl (by kernel_rfl) (by kernel_rfl) (by kernel_rfl) (fun _ _ _ h => h) (Or.inl ⟨by rfl, fun w' h => by go_simp⟩) (by assumption) ?_
          try simp only [Act.put, List.getElem_toArray, List.getElem_cons_zero, List.getElem_cons_succ, List.setIfInBounds_toArray, List.set_cons_zero, List.set_cons_succ]
          refine wpAnyH_take (i := 3) (v := .slice (some ⟨g, 0, none⟩) Y.length cY) rfl (by kernel_rfl) (by kernel_rfl) (by kernel_rfl) (fun _ _ _ h => h) (Or.inl ⟨by rfl, fun w' h => by go_simp⟩) (by assumption) ?_
          try simp only [Act.put, List.getElem_toArray, List.getElem_cons_zero, List.getElem_cons_succ, List.setIfInBounds_toArray, List.set_cons_zero, List.set_cons_succ]
          refine wpAnyH_take (i := 4) (v := .int .i64 k) rfl (by kernel_rfl) (by kernel_rfl) (by kernel_rfl) (fun _ _ _ h => h) (Or.inl ⟨by rfl, fun w' h => by go_simp⟩) (by assumption) ?_
          try simp only [Act.put, List.getElem_toArray, List.getElem_cons_zero, List.getElem_cons_succ, List.setIfInBounds_toArray, List.set_cons_zero, List.set_cons_succ]
          refine wpAnyH_take (i := 5) (v := .pointer (some ⟨g, k * 2, none⟩)) rfl (by kernel_rfl) (by kernel_rfl) (by kernel_rfl) (fun _ _ _ h => h) (Or.inl ⟨by rfl, fun w' h => by go_simp⟩) (by assumption) ?_
          try simp only [Act.put, List.getElem_toArray, List.getElem_cons_zero, List.getElem_cons_succ, List.setIfInBounds_toArray, List.set_cons_zero, List.set_cons_succ]
          refine wpAnyH_take (i := 6) (v := .agg #[.int .u8 k1, .int .i16 y1]) rfl (by kernel_rfl) (by kernel_rfl) (by kernel_rfl) (fun _ _ _ h => h) (Or.inl ⟨by rfl, fun w' h => by have g1 := (h.cell (p := ⟨g, k * 2, none⟩) HgW.out).trans (HY.out.kind HX.out); have g2 := (h.cell (p := ⟨g, k * 2 + 1, none⟩) HgW.out).trans (HY.out.year HX.out); go_simp⟩) (by assumption) ?_
          try simp only [Act.put, List.getElem_toArray, List.getElem_cons_zero, List.getElem_cons_succ, List.setIfInBounds_toArray, List.set_cons_zero, List.set_cons_succ]
          refine wpAnyH_take (i := 7) (v := .slice (some ⟨g, 0, none⟩) Y.length cY) rfl (by kernel_rfl) (by kernel_rfl) (by kernel_rfl) (fun _ _ _ h => h) (Or.inl ⟨by rfl, fun w' h => by go_simp⟩) (by assumption) ?_
          try simp only [Act.put, List.getElem_toArray, List.getElem_cons_zero, List.getElem_cons_succ, List.setIfInBounds_toArray, List.set_cons_zero, List.set_cons_succ]
          refine wpAnyH_take (i := 8) (v := .int .i64 k) rfl (by kernel_rfl) (by kernel_rfl) (by kernel_rfl) (fun _ _ _ h => h) (Or.inl ⟨by rfl, fun w' h => by go_simp⟩) (by assumption) ?_
          try simp only [Act.put, List.getElem_toArray, List.getElem_cons_zero, List.getElem_cons_succ, List.setIfInBounds_toArray, List.set_cons_zero, List.set_cons_succ]
          refine wpAnyH_take (i := 9) (v := .int .i64 j) rfl (by kernel_rfl) (by kernel_rfl) (by kernel_rfl) (fun _ _ _ h => h) (Or.inl ⟨by rfl, fun w' h => by go_simp⟩) (by assumption) ?_
          try simp only [Act.put, List.getElem_toArray, List.getElem_cons_zero, List.getElem_cons_succ, List.setIfInBounds_toArray, List.set_cons_zero, List.set_cons_succ]
          refine wpAnyH_take (i := 10) (v := .pointer (some ⟨g, j * 2, none⟩)) rfl (by kernel_rfl) (by kernel_rfl) (by kernel_rfl) (fun _ _ _ h => h) (Or.inl ⟨by rfl, fun w' h => by go_simp⟩) (by assumption) ?_
          try simp only [Act.put, List.getElem_toArray, List.getElem_cons_zero, List.getElem_cons_succ, List.setIfInBounds_toArray, List.set_cons_zero, List.set_cons_succ]
          refine wpAnyH_take (i := 11) (v := .agg #[.int .u8 k0, .int .i16 y0]) rfl (by kernel_rfl) (by kernel_rfl) (by kernel_rfl) (fun _ _ _ h => h) (Or.inl ⟨by rfl, fun w' h => by have g1 := (h.cell (p := ⟨g, j * 2, none⟩) HgW.out).trans (HY.out.kind HXj.out); have g2 := (h.cell (p := ⟨g, j * 2 + 1, none⟩) HgW.out).trans (HY.out.year HXj.out); go_simp⟩) (by assumption) ?_
          try simp only [Act.put, List.getElem_toArray, List.getElem_cons_zero, List.getElem_cons_succ, List.setIfInBounds_toArray, List.set_cons_zero, List.set_cons_succ]
          refine wpAnyH_take (i := 12) (v := .bool (!decide ((k1, y1) = (k0, y0)))) rfl (by kernel_rfl) (by kernel_rfl) (by kernel_rfl) (fun _ _ _ h => h) (yields_neqB (.tmp 18) (.tmp 23) rfl (k1, y1) (k0, y0) (by rfl) rfl rfl) (by assumption) ?_
          try simp only [Act.put, List.getElem_toArray, List.getElem_cons_zero, List.getElem_cons_succ, List.setIfInBounds_toArray, List.set_cons_zero, List.set_cons_succ]
          refine wpAnyH_take (i := 13) (v := .bool (!decide ((k1, y1) = (k0, y0)))) rfl (by kernel_rfl) (by kernel_rfl) (by kernel_rfl) (fun _ _ _ h => h) (Or.inl ⟨by rfl, fun w' h => by go_simp⟩) (by assumption) ?_
          try simp only [Act.put, List.getElem_toArray, List.getElem_cons_zero, List.getElem_cons_succ, List.setIfInBounds_toArray, List.set_cons_zero, List.set_cons_succ]
          refine wpAnyH_done (by kernel_rfl) ?_ _
          try simp only [Act.put, List.getElem_toArray, List.getElem_cons_zero, List.getElem_cons_succ, List.setIfInBounds_toArray, List.set_cons_zero, List.set_cons_succ]
          have hb := hHeld
          clear hHeld
          rw [Hd.out]
          obtain ⟨w5, hw5⟩ : ∃ u, wa.drew = u := ⟨_, rfl⟩
          rw [hw5] at hb ⊢
          have HO5 := Lib.hid (own_keep' HO.out hb)
          have HB5 := Lib.hid (HB.out.trans (hb.mono HB.out.size))
          have g1 : w5.cell? ⟨g, k * 2, none⟩ = some (.int .u8 k1) := (HY.out.keep hb).kind HX.out
          have g2 : w5.cell? ⟨g, k * 2 + 1, none⟩ = some (.int .i16 y1) := (HY.out.keep hb).year HX.out
          clear hb hw5 hj0 hj8 hkj uj uj2 hkz hll hnk hn1
          have hcl5 := HCl.out
          go_wp2_with (at_builtin; refine wpList_append_own _ rfl (.tmp 26) (.tmp 32) 63 rfl w.heap.size 68 i0 (.agg #[.int .u8 0, .int .i16 0, .int .i64 0]) 3 16 Tryd.underlying63 HI.out HZ0.out HZ1.out HZ2.out rfl (by decide) _ _ _ rfl (HO5.out.alloc _) ⟨w5.heap.size, 0, none⟩ 1 1 [.int .u8 k1, .int .i16 y1, .int .i64 0] rfl rfl ?f11 ?f21 ?f31 ?f41 ?f51 ?_)
          try (case f11 => exact cells3C w5 _ _ _ _)
          try (case f21 => first | exact one3C _ _ _ | exact ⟨rfl, rfl, rfl⟩)
          case f31 => unfold maxLen; omega
          case f41 => omega
          case f51 => have := HB5.out.size; simp; omega
          intro v8 w8 hown8 hg8 _
          have hown9 : w8.ownsRow w.heap.size 68 3 v8 (C ++ [((k1, y1), 0)]).length ((C ++ [((k1, y1), 0)]).flatMap ncells) := by rw [List.length_append, List.flatMap_append]; simpa [ncells] using hown8
          obtain ⟨g8, c8, rfl, hg8b, hOX⟩ : ∃ g c, v8 = .slice (some ⟨g, 0, none⟩) (C ++ [((k1, y1), 0)]).length c ∧ w.heap.size ≤ g ∧ OX w8 g 68 3 ncells (C ++ [((k1, y1), 0)]) c := by
            rcases OX.of hown9 with ⟨-, h1⟩ | ⟨g, cap, h1, h2, h3⟩
            · simp at h1
            · exact ⟨g, cap, h1, h2, h3⟩
          have HB8 : Hid (Below w.heap.size w w8) := (HB5.out.alloc HB5.out.size _).grown hg8 (HB5.out.alloc HB5.out.size _).size (fun q e => by have := own_blockG HO5.out e; omega)
          have HOX := Lib.hid hOX
          have HG8 : Hid (w.heap.size ≤ g8) := hg8b
          have HLn : Hid ((C ++ [((k1, y1), 0)]).length = C.length + 1) := by show _ = _; simp
          have q2 : w8.cell? ⟨g8, C.length * 3 + 2, none⟩ = some (.int .i64 0) := hOX.cell ncells_length (k := C.length) (f := 2) (x := ((k1, y1), 0)) (by simp) rfl
          have f2 : w8.frozen? ⟨g8, C.length * 3 + 2, none⟩ = false := hOX.frozen _
          rw [HLn.out]
          clear hown8 hown9 hg8 hOX hg8b HO5 HB5
          have hcl : C.length ≤ 12 := HCl.out
          have hc0 : (0 : Int) ≤ (C.length : Int) := Int.natCast_nonneg _
          have u1 : IntKind.i64.wrap (((C.length + 1 : Nat) : Int) - 1) = (C.length : Int) := (IntWalk.i64_in _ ⟨by omega, by omega⟩).trans (by omega)
          have u2 : wrap64 (((C.length + 1 : Nat) : Int) - 1) = (C.length : Int) := (IntWalk.wrap64_in _ ⟨by omega, by omega⟩).trans (by omega)
          have u3 : (C.length : Int) < ((C.length + 1 : Nat) : Int) := by omega
          obtain ⟨cn, hcn⟩ : ∃ n, C.length = n := ⟨_, rfl⟩
          obtain ⟨m1, hm1⟩ : ∃ m, C.length + 1 = m := ⟨_, rfl⟩
          have HCn := Lib.hid hcn
          have HM1 := Lib.hid hm1
          rw [hm1] at u1 u2 u3 ⊢
          rw [hcn] at q2 f2 u1 u2 u3 hc0
          have u4 : (0 : Int) ≤ (m1 : Int) := Int.natCast_nonneg _
          clear hcn hm1 hcl
          go_wp2
          have uk := UK.out
          have uk2 := UK2.out
          clear u1 u2 uk uk2 u3
          go_roundw
          case rel => exact ⟨k + 1, C ++ [((k1, y1), 1)], some ⟨g8, 0, none⟩, c8, by omega, by rw [← HM1.out]; simp, by go_num, .inr ⟨C, (k1, y1), 1, by rw [HCe.out]; exact HR1.out, rfl⟩, by
            have h := (HOX.out.cnt 1).own ncells_length HG8.out
            rw [HCn.out] at h
            exact h, HB8.out.setCell (p := ⟨g8, _, none⟩) HG8.out _⟩
          case measure => simp [intOf]; omega
    · obtain rfl : k = Y.length := by omega
      have HIs : Hid (IsC (cnY Y Y.length) C) := by
        show IsC _ _
        rcases HC.out with ⟨h1, h2⟩ | ⟨L, b, n, h, h2⟩
        · rw [h2]
          have hY0 : Y = [] := List.eq_nil_of_length_eq_zero h1
          subst hY0
          exact ⟨List.Pairwise.nil, fun w hw => by simp at hw, fun b => rfl⟩
        · rw [h2]; exact h.isC
      have HLc : Hid (C.length ≤ Y.length) := by
        show _ ≤ _
        rcases HC.out with ⟨h1, h2⟩ | ⟨L, b, n, h, h2⟩
        · rw [h2]; simp
        · rw [h2]; have := (h.len (Nat.le_refl _)).1; simp; omega
      clear HC
      go_wp2
      go_ret
      exact ⟨C, _, rfl, HIs.out, HLc.out, HO.out, HB.out⟩
end Go.Proofs.YtcdhmlalpjcidaaDoor
