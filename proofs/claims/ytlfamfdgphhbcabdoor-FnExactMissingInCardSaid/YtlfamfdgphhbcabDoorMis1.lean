/-
  MissingIn: the program's contracts. Condition: the entries' numbers fit their kinds; the sentinel errors lie as the row lists them.
-/
import Derived.Test.YtlfamfdgphhbcabDoorMis0
import Derived.Test.YtlfamfdgphhbcabDoorGk
import Derived.Test.YtlfamfdgphhbcabDoorW0
import Derived.Test.YtlfamfdgphhbcabDoorE
import Derived.Test.YtlfamfdgphhbcabDoorEo
import Derived.Deep.RegionLaw
import Derived.OwnWalk
namespace Go.Proofs.YtlfamfdgphhbcabDoor
open Go.ChangeShapes Go.WideShapes Go.ChangeAt Go.RowKit Go.Deep
open Go.Maps (Keyed)

theorem Tryd.zeroI64E (w : World) : (zeroValue 2).run Tryd.prog w = .ok (.int .i64 0) w := by kernel_rfl
abbrev OwnsE (w : World) (b n : Nat) (D : DataW Unit) : Prop := w.ownsMap Tryd.prog 67 (plainElem Tryd.prog 2) b n D
theorem wpList_lookupE {P : Program} {ops : Array Oper} {rest : List Oper} {o : Oper} {a : Act} {w : World} {Q : Exit → Act → World → Prop} (hgd : o.guard = none) (t : TypeId) (m x : Operand) (ho : o.op = .lookup t m x false) {mv key v : Value} (hm : a.eval m = mv) (hx : a.eval x = key)
    (hrun : (Instr.lookup t mv key false).run P w = .ok v w) (h : wpList P ops Q rest (a.put o.dst v) w) : wpList P ops Q (o :: rest) a w :=
  wpList_plain hgd fun _ hK => wp_lookupR t m x ho hm hx hrun (hK _ _ h)
theorem rowE5 {w : World} {b o k : Nat} {x : Ent} (h : w.rangeAt b (o + k * 5) (ecells x)) : w.cell? ⟨b, o + k * 5, none⟩ = some (.int .i16 x.dy) ∧ w.cell? ⟨b, o + k * 5 + 1, none⟩ = some (.int .i8 x.fr) ∧ w.cell? ⟨b, o + k * 5 + 2, none⟩ = some (.int .i8 x.to) ∧ w.cell? ⟨b, o + k * 5 + 3, none⟩ = some (.int .u8 x.wh) ∧ w.cell? ⟨b, o + k * 5 + 4, none⟩ = some (.int .i16 x.nu) :=
  ⟨h 0 _ rfl, h 1 _ rfl, h 2 _ rfl, h 3 _ rfl, h 4 _ rfl⟩
theorem cell_entN (W : World) (a b c d e : Int) (t : TypeId) : ∀ (j : Nat) (y : Value), [Value.int .i16 a, .int .i8 b, .int .i8 c, .int .u8 d, .int .i16 e][j]? = some y → (W.alloc (.cells #[.int .i16 a, .int .i8 b, .int .i8 c, .int .u8 d, .int .i16 e] t)).cell? ((⟨W.heap.size, 0, none⟩ : Addr).add j) = some y := by
  intro j y h
  have := (Blk.new W t #[.int .i16 a, .int .i8 b, .int .i8 c, .int .u8 d, .int .i16 e]).cell j
  have e2 : (⟨W.heap.size, 0, none⟩ : Addr).add j = ⟨W.heap.size, j, none⟩ := by cases j <;> simp [Addr.add]
  rw [e2]
  rw [this]; simpa using h
theorem ent_oneN (a b c d e : Int) : ∀ v ∈ [Value.int .i16 a, .int .i8 b, .int .i8 c, .int .u8 d, .int .i16 e], v.oneCell' = true := by
  intro v hv
  simp only [List.mem_cons, List.not_mem_nil, or_false] at hv
  rcases hv with rfl | rfl | rfl | rfl | rfl <;> rfl
theorem nil_ownEn (w : World) (b : Nat) : w.ownsRow b 67 5 (.slice none 0 0) ([] : List Ent).length (([] : List Ent).flatMap ecells) := ⟨rfl, .inl ⟨rfl, rfl⟩⟩

set_option maxRecDepth 100000 in
set_option maxHeartbeats 8000000 in
theorem missingIn_any (a b : List Ent) (hwa : ∀ x ∈ a, wfE x) (hwb : ∀ x ∈ b, wfE x) (hla : a.length ≤ 80) (hlb : b.length ≤ 80) (A B : Option Addr) (ca cb : Nat) (w : World) (hra : Rd w w.heap.size ecells A a) (hrb : Rd w w.heap.size ecells B b) :
    Calls Tryd.prog 38 #[.slice A a.length ca, .slice B b.length cb] w fun e w' => ∃ v, e = .returned v ∧ w'.ownsRow w.heap.size 67 5 v (msT a b a.length).length ((msT a b a.length).flatMap ecells) ∧ Below w.heap.size w w' := by
  obtain ⟨i0, hi, hz0, hz1, hz2⟩ := info_parts Tryd.infoEI
  have HI := Lib.hid hi
  have HZ0 := Lib.hid hz0
  have HZ1 := Lib.hid hz1
  have HZ2 := Lib.hid hz2
  clear hi hz0 hz1 hz2
  have HRa := Lib.hid hra
  have HRb := Lib.hid hrb
  have HWa := Lib.hid hwa
  have HWb := Lib.hid hwb
  have HLa := Lib.hid hla
  have HLb := Lib.hid hlb
  clear hra hrb hwa hwb
  have hla8 : (a.length : Int) ≤ 80 := by omega
  have hlb8 : (b.length : Int) ≤ 80 := by omega
  clear hla hlb
  have hmm := @run_makeMap Tryd.prog
  go_enter Tryd.func38, Tryd.ntmps38
  go_wp2_with fail
  clear hmm
  go_loopw [14] (fun i wr => ∃ k : Nat, k ≤ b.length ∧ i = .int .i64 k ∧ ∃ D, OwnsE wr w.heap.size k D ∧ HoldsZ D wfE kE (cntE (b.take k)) ∧ Below w.heap.size w wr ∧ w.heap.size < wr.heap.size) (fun i _ => b.length - (intOf i).toNat)
  case atStart => exact ⟨0, by omega, rfl, .map [], World.ownsMap_made _ _ _ _, (HoldsZ.empty _ _).congr (fun x _ => by simp [cntE]), (Below.refl _ _).alloc (Nat.le_refl _) _, by simp⟩
  case round =>
    obtain ⟨k, hk, rfl, D, q1, q2, q3, q4⟩ := hrel
    obtain ⟨wq, rfl⟩ : ∃ u, u = wr := ⟨_, rfl⟩
    have Q1 := Lib.hid q1
    have Q2 := Lib.hid q2
    have Q3 := Lib.hid q3
    have Q4 := Lib.hid q4
    clear q1 q2 q3 q4
    have hk0 : (0 : Int) ≤ (k : Int) := Int.natCast_nonneg _
    by_cases hlt : k < b.length
    · obtain ⟨x, hx⟩ : ∃ x, b[k]? = some x := ⟨_, List.getElem?_eq_getElem hlt⟩
      obtain ⟨bb, oo, rfl, hbl, hrow⟩ := (HRb.out.keep Q3.out).at_ ecells_length hx
      have hxo := HWb.out x (List.mem_of_getElem? hx)
      obtain ⟨dy, fr, to, wh, nu⟩ := x
      have HX := Lib.hid hx
      have HXo := Lib.hid hxo
      obtain ⟨e0, e1, e2, e3, e4⟩ := rowE5 hrow
      simp only at e0 e1 e2 e3 e4
      have hk8 : (k : Int) < b.length := by omega
      clear hx hrow hbl hxo
      go_wp2_with fail
      have hbw : Below wq.heap.size wq (wq.alloc (.cells #[.int .i16 dy, .int .i8 fr, .int .i8 to, .int .u8 wh, .int .i16 nu] 67)).drew := ((Below.refl _ wq).alloc (Nat.le_refl _) _).drew
      have hKv : Blk (wq.alloc (.cells #[.int .i16 dy, .int .i8 fr, .int .i8 to, .int .u8 wh, .int .i16 nu] 67)).drew wq.heap.size 67 #[.int .i16 dy, .int .i8 fr, .int .i8 to, .int .u8 wh, .int .i16 nu] := Blk.new wq _ _
      have hown : OwnsE (wq.alloc (.cells #[.int .i16 dy, .int .i8 fr, .int .i8 to, .int .u8 wh, .int .i16 nu] 67)).drew w.heap.size k D := Q1.out.kept (grown_of_below hbw) (by simp)
      have hB1 : Below w.heap.size w (wq.alloc (.cells #[.int .i16 dy, .int .i8 fr, .int .i8 to, .int .u8 wh, .int .i16 nu] 67)).drew := Q3.out.trans (hbw.mono Q3.out.size)
      refine wp_region_any (by kernel_rfl) ?_
      change wpAny _ _ _ _ _ _ _ (World.drew _)
      obtain ⟨w2, hw2⟩ : ∃ w2, (wq.alloc (.cells #[.int .i16 dy, .int .i8 fr, .int .i8 to, .int .u8 wh, .int .i16 nu] 67)).drew = w2 := ⟨_, rfl⟩
      rw [hw2] at hKv hown hB1 ⊢
      have f0 : w2.cell? ⟨wq.heap.size, 0, none⟩ = some (.int .i16 dy) := hKv.cell 0
      have f1 : w2.cell? ⟨wq.heap.size, 1, none⟩ = some (.int .i8 fr) := hKv.cell 1
      have f2 : w2.cell? ⟨wq.heap.size, 2, none⟩ = some (.int .i8 to) := hKv.cell 2
      have f3 : w2.cell? ⟨wq.heap.size, 3, none⟩ = some (.int .u8 wh) := hKv.cell 3
      have f4 : w2.cell? ⟨wq.heap.size, 4, none⟩ = some (.int .i16 nu) := hKv.cell 4
      have hs4 : w.heap.size < w2.heap.size := by rw [← hw2]; have := Q4.out; show w.heap.size < (wq.alloc (.cells #[.int .i16 dy, .int .i8 fr, .int .i8 to, .int .u8 wh, .int .i16 nu] 67)).heap.size; simp; omega
      clear hw2 hbw hKv e0 e1 e2 e3 e4
      obtain ⟨cn, v0, st, w3, hat, hwf, hl1, hme, hl2, hst⟩ := entry_law hown Tryd.lawE Tryd.underlying119 Tryd.underlying2 Tryd.zeroI64E (by unfold maxLen; omega) (keyE (⟨dy, fr, to, wh, nu⟩ : Ent) HXo.out)
      have hcn := Q2.out.look (x := (⟨dy, fr, to, wh, nu⟩ : Ent)) HXo.out hat
      subst hcn
      have hcb := cntE_le (b.take k) (⟨dy, fr, to, wh, nu⟩ : Ent)
      have hlt12 : (b.take k).length ≤ 80 := by rw [List.length_take]; have := HLb.out; omega
      obtain ⟨w4, hst2, hown4, hgr4⟩ := hst ((cntE (b.take k) (⟨dy, fr, to, wh, nu⟩ : Ent) : Nat) + 1) (WalkArith.wf_i64 ⟨by omega, by omega⟩)
      have hput := Q2.out.put (g := cntE (b.take (k + 1))) (n := cntE (b.take k) (⟨dy, fr, to, wh, nu⟩ : Ent) + 1) (size_ownsMap Q1.out).2 (fun a b ha hb h => kE_inj ha hb h) (x := (⟨dy, fr, to, wh, nu⟩ : Ent)) HXo.out (kE_is _) (by rw [cntE_take HX.out]; simp) (fun y hy => by rw [cntE_take HX.out, if_neg (fun e => hy e.symm)]; rfl)
      have HP := Lib.hid hput
      have HO := Lib.hid hown4
      have HB4 := Lib.hid (Below.growMap hB1 hgr4 hB1.size (Nat.le_refl _))
      have HS4 : Hid (w.heap.size < w4.heap.size) := Nat.lt_of_lt_of_le hs4 hgr4.size
      have hs1 : IntKind.i64.wrap ((cntE (b.take k) (⟨dy, fr, to, wh, nu⟩ : Ent) : Nat) + 1 : Int) = (cntE (b.take k) (⟨dy, fr, to, wh, nu⟩ : Ent) : Nat) + 1 := IntWalk.i64_in _ ⟨by omega, by omega⟩
      have hs2 : wrap64 ((cntE (b.take k) (⟨dy, fr, to, wh, nu⟩ : Ent) : Nat) + 1 : Int) = (cntE (b.take k) (⟨dy, fr, to, wh, nu⟩ : Ent) : Nat) + 1 := IntWalk.wrap64_in _ ⟨by omega, by omega⟩
      clear hown hB1 hat hwf hput hown4 hgr4 hst hs4
      obtain ⟨cx, hcx⟩ : ∃ n, cntE (b.take k) (⟨dy, fr, to, wh, nu⟩ : Ent) = n := ⟨_, rfl⟩
      rw [hcx] at hl1 hl2 hst2 hs1 hs2 HO HP
      have L1 := Lib.hid hl1
      have L2 := Lib.hid hl2
      have L3 := Lib.hid hme
      have L4 := Lib.hid hst2
      clear hl1 hl2 hme hst2 hcx hcb hlt12
      refine wpAny_take (i := 0) (v := .map (some w.heap.size)) rfl (by kernel_rfl) (by kernel_rfl) (by kernel_rfl) (fun _ _ _ h => h) (Or.inl ⟨by rfl, fun w' => by go_simp⟩) ?_
      try simp only [Act.put, List.getElem_toArray, List.getElem_cons_zero, List.getElem_cons_succ, List.setIfInBounds_toArray, List.set_cons_zero, List.set_cons_succ]
      refine wpAny_ready (rs := [1]) (by kernel_rfl) (by simp) ?_
      refine AllReady.cons rfl (fun K hK => ?_) AllReady.nil
      refine if_wanted rfl ?_
      go_simp
      refine hK _ _ ?_
      clear hK K
      try simp only [Act.put, List.getElem_toArray, List.getElem_cons_zero, List.getElem_cons_succ, List.setIfInBounds_toArray, List.set_cons_zero, List.set_cons_succ]
      refine wpAny_ready (rs := [2, 4]) (by kernel_rfl) (by simp) ?_
      refine AllReady.cons rfl (fun K hK => ?_) (AllReady.cons rfl (fun K hK => ?_) AllReady.nil)
      · skip
        refine if_wanted rfl (wp_lookupR 119 (.tmp 18) (.tmp 19) rfl rfl rfl L1.out ?_)
        refine hK _ _ ?_
        clear hK K
        try simp only [Act.put, List.getElem_toArray, List.getElem_cons_zero, List.getElem_cons_succ, List.setIfInBounds_toArray, List.set_cons_zero, List.set_cons_succ]
        refine wpAny_take (i := 3) (v := .int .i64 ((cx : Nat) + 1)) rfl (by kernel_rfl) (by kernel_rfl) (by kernel_rfl) (fun _ _ _ h => h) (Or.inl ⟨by rfl, fun w' => by go_simp⟩) ?_
        try simp only [Act.put, List.getElem_toArray, List.getElem_cons_zero, List.getElem_cons_succ, List.setIfInBounds_toArray, List.set_cons_zero, List.set_cons_succ]
        refine wpAny_ready (rs := [4]) (by kernel_rfl) (by simp) ?_
        refine AllReady.cons rfl (fun K hK => ?_) AllReady.nil
        refine if_wanted rfl (wp_mapEntryR 119 (.tmp 18) (.tmp 19) rfl rfl rfl L3.out ?_)
        refine hK _ _ ?_
        clear hK K
        try simp only [Act.put, List.getElem_toArray, List.getElem_cons_zero, List.getElem_cons_succ, List.setIfInBounds_toArray, List.set_cons_zero, List.set_cons_succ]
        refine wpAny_take (i := 5) (v := goInt st) rfl (by kernel_rfl) (by kernel_rfl) (by kernel_rfl) (fun _ _ _ h => h) (Or.inl ⟨by rfl, fun w' => by go_simp⟩) ?_
        try simp only [Act.put, List.getElem_toArray, List.getElem_cons_zero, List.getElem_cons_succ, List.setIfInBounds_toArray, List.set_cons_zero, List.set_cons_succ]
        refine wpAny_ready (rs := [6]) (by kernel_rfl) (by simp) ?_
        refine AllReady.cons rfl (fun K hK => ?_) AllReady.nil
        refine if_wanted rfl (wp_entryStoreR 119 (.tmp 18) (.tmp 23) (.tmp 21) rfl rfl rfl rfl L4.out ?_)
        refine hK _ _ ?_
        clear hK K
        try simp only [Act.put, List.getElem_toArray, List.getElem_cons_zero, List.getElem_cons_succ, List.setIfInBounds_toArray, List.set_cons_zero, List.set_cons_succ]
        refine wpAny_done (by kernel_rfl) ?_ _
        try simp only [Act.put, List.getElem_toArray, List.getElem_cons_zero, List.getElem_cons_succ, List.setIfInBounds_toArray, List.set_cons_zero, List.set_cons_succ]
        go_wp2
        go_roundw
        case rel => exact ⟨k + 1, by omega, by go_num, _, HO.out, HP.out, HB4.out, HS4.out⟩
        case measure => simp [intOf]; omega
      · skip
        refine if_wanted rfl (wp_mapEntryR 119 (.tmp 18) (.tmp 19) rfl rfl rfl L3.out ?_)
        refine hK _ _ ?_
        clear hK K
        try simp only [Act.put, List.getElem_toArray, List.getElem_cons_zero, List.getElem_cons_succ, List.setIfInBounds_toArray, List.set_cons_zero, List.set_cons_succ]
        refine wpAny_take (i := 5) (v := goInt st) rfl (by kernel_rfl) (by kernel_rfl) (by kernel_rfl) (fun _ _ _ h => h) (Or.inl ⟨by rfl, fun w' => by go_simp⟩) ?_
        try simp only [Act.put, List.getElem_toArray, List.getElem_cons_zero, List.getElem_cons_succ, List.setIfInBounds_toArray, List.set_cons_zero, List.set_cons_succ]
        refine wpAny_ready (rs := [2]) (by kernel_rfl) (by simp) ?_
        refine AllReady.cons rfl (fun K hK => ?_) AllReady.nil
        refine if_wanted rfl (wp_lookupR 119 (.tmp 18) (.tmp 19) rfl rfl rfl L2.out ?_)
        refine hK _ _ ?_
        clear hK K
        try simp only [Act.put, List.getElem_toArray, List.getElem_cons_zero, List.getElem_cons_succ, List.setIfInBounds_toArray, List.set_cons_zero, List.set_cons_succ]
        refine wpAny_take (i := 3) (v := .int .i64 ((cx : Nat) + 1)) rfl (by kernel_rfl) (by kernel_rfl) (by kernel_rfl) (fun _ _ _ h => h) (Or.inl ⟨by rfl, fun w' => by go_simp⟩) ?_
        try simp only [Act.put, List.getElem_toArray, List.getElem_cons_zero, List.getElem_cons_succ, List.setIfInBounds_toArray, List.set_cons_zero, List.set_cons_succ]
        refine wpAny_ready (rs := [6]) (by kernel_rfl) (by simp) ?_
        refine AllReady.cons rfl (fun K hK => ?_) AllReady.nil
        refine if_wanted rfl (wp_entryStoreR 119 (.tmp 18) (.tmp 23) (.tmp 21) rfl rfl rfl rfl L4.out ?_)
        refine hK _ _ ?_
        clear hK K
        try simp only [Act.put, List.getElem_toArray, List.getElem_cons_zero, List.getElem_cons_succ, List.setIfInBounds_toArray, List.set_cons_zero, List.set_cons_succ]
        refine wpAny_done (by kernel_rfl) ?_ _
        try simp only [Act.put, List.getElem_toArray, List.getElem_cons_zero, List.getElem_cons_succ, List.setIfInBounds_toArray, List.set_cons_zero, List.set_cons_succ]
        go_wp2
        go_roundw
        case rel => exact ⟨k + 1, by omega, by go_num, _, HO.out, HP.out, HB4.out, HS4.out⟩
        case measure => simp [intOf]; omega
    · obtain rfl : k = b.length := by omega
      have HD9 : Hid (HoldsZ D wfE kE (fun x => cntE b x - cntE (a.take 0) x)) := Q2.out.congr (fun x _ => by simp [cntE])
      clear Q2 hlt hk
      obtain ⟨w1, rfl⟩ : ∃ u, u = wq := ⟨_, rfl⟩
      have HRa1 := Lib.hid (HRa.out.keep Q3.out)
      clear HRb HWb
      have hbl0 : (0 : Int) ≤ (b.length : Int) := Int.natCast_nonneg _
      go_wp2_with fail
      go_loopw [8, 27] (fun v i wr => ∃ (k n : Nat) (D : DataW Unit) (A1 : Option Addr) (c1 : Nat), k ≤ a.length ∧ n ≤ 80 + k ∧ i = .int .i64 k ∧ v = .slice A1 (msT a b k).length c1 ∧ wr.ownsRow w1.heap.size 67 5 (.slice A1 (msT a b k).length c1) (msT a b k).length ((msT a b k).flatMap ecells) ∧ OwnsE wr w.heap.size n D ∧ HoldsZ D wfE kE (fun x => cntE b x - cntE (a.take k) x) ∧ Below w.heap.size w wr ∧ w1.heap.size ≤ wr.heap.size)
        (fun _ i _ => a.length - (intOf i).toNat)
      case atStart => exact ⟨0, b.length, D, none, 0, by omega, by have := HLb.out; omega, rfl, rfl, nil_ownEn _ _, Q1.out, HD9.out, Q3.out, Nat.le_refl _⟩
      case round =>
        clear HD9 Q1
        obtain ⟨k, n, D, A1, c1, hk, hn, rfl, rfl, hO, hM, hH, hB, hs⟩ := hrel
        obtain ⟨wq, rfl⟩ : ∃ u, u = wr := ⟨_, rfl⟩
        have HO := Lib.hid hO
        have HM := Lib.hid hM
        have HH := Lib.hid hH
        have HB := Lib.hid hB
        have HS := Lib.hid hs
        clear hO hM hH hB hs
        have hk0 : (0 : Int) ≤ (k : Int) := Int.natCast_nonneg _
        have hmk := msT_len a b k
        obtain ⟨L, hL⟩ : ∃ L, (msT a b k).length = L := ⟨_, rfl⟩
        have HL := Lib.hid hL
        rw [hL] at HO ⊢
        have hLk : L ≤ k := by rw [← hL]; exact hmk
        clear hL hmk
        have hn160 : n ≤ 160 := by have := HLa.out; omega
        by_cases hlt : k < a.length
        · obtain ⟨x, hx⟩ : ∃ x, a[k]? = some x := ⟨_, List.getElem?_eq_getElem hlt⟩
          obtain ⟨ba, oa, rfl, hbl, hrow⟩ := (HRa.out.keep HB.out).at_ ecells_length hx
          have hxo := HWa.out x (List.mem_of_getElem? hx)
          obtain ⟨dy, fr, to, wh, nu⟩ := x
          have HX := Lib.hid hx
          have HXo := Lib.hid hxo
          obtain ⟨e0, e1, e2, e3, e4⟩ := rowE5 hrow
          simp only at e0 e1 e2 e3 e4
          have hk8 : (k : Int) < a.length := by omega
          clear hx hrow hbl hxo
          have hbw : Below wq.heap.size wq (wq.alloc (.cells #[.int .i16 dy, .int .i8 fr, .int .i8 to, .int .u8 wh, .int .i16 nu] 67)) := (Below.refl _ wq).alloc (Nat.le_refl _) _
          have hKv : Blk (wq.alloc (.cells #[.int .i16 dy, .int .i8 fr, .int .i8 to, .int .u8 wh, .int .i16 nu] 67)) wq.heap.size 67 #[.int .i16 dy, .int .i8 fr, .int .i8 to, .int .u8 wh, .int .i16 nu] := Blk.new wq _ _
          have hown : OwnsE (wq.alloc (.cells #[.int .i16 dy, .int .i8 fr, .int .i8 to, .int .u8 wh, .int .i16 nu] 67)) w.heap.size n D := HM.out.kept (grown_of_below hbw) (by simp)
          have hB1 : Below w.heap.size w (wq.alloc (.cells #[.int .i16 dy, .int .i8 fr, .int .i8 to, .int .u8 wh, .int .i16 nu] 67)) := HB.out.trans (hbw.mono HB.out.size)
          have hrow1 := own_keep' HO.out hbw
          obtain ⟨w2, hw2⟩ : ∃ w2, (wq.alloc (.cells #[.int .i16 dy, .int .i8 fr, .int .i8 to, .int .u8 wh, .int .i16 nu] 67)) = w2 := ⟨_, rfl⟩
          rw [hw2] at hKv hown hB1 hrow1
          have f0 : w2.cell? ⟨wq.heap.size, 0, none⟩ = some (.int .i16 dy) := hKv.cell 0
          have f1 : w2.cell? ⟨wq.heap.size, 1, none⟩ = some (.int .i8 fr) := hKv.cell 1
          have f2 : w2.cell? ⟨wq.heap.size, 2, none⟩ = some (.int .i8 to) := hKv.cell 2
          have f3 : w2.cell? ⟨wq.heap.size, 3, none⟩ = some (.int .u8 wh) := hKv.cell 3
          have f4 : w2.cell? ⟨wq.heap.size, 4, none⟩ = some (.int .i16 nu) := hKv.cell 4
          have HS2 : Hid (w1.heap.size ≤ w2.heap.size) := by rw [← hw2]; have := HS.out; show w1.heap.size ≤ (wq.alloc (.cells #[.int .i16 dy, .int .i8 fr, .int .i8 to, .int .u8 wh, .int .i16 nu] 67)).heap.size; simp; omega
          have HO2 := Lib.hid hrow1
          have HM2 := Lib.hid hown
          have HB2 := Lib.hid hB1
          have HKv := Lib.hid hKv
          clear hbw hrow1 hB1 hKv HO HM HB
          obtain ⟨cn, v0, st, w3, hat, hwf, hl1, hme, hl2, hst⟩ := entry_law hown Tryd.lawE Tryd.underlying119 Tryd.underlying2 Tryd.zeroI64E (by unfold maxLen; omega) (keyE (⟨dy, fr, to, wh, nu⟩ : Ent) HXo.out)
          have hcn := HH.out.look (x := (⟨dy, fr, to, wh, nu⟩ : Ent)) HXo.out hat
          subst hcn
          have hst9 := Lib.hid hst
          have hcE : Hid (cntE (a.take (k + 1)) (⟨dy, fr, to, wh, nu⟩ : Ent) = cntE (a.take k) (⟨dy, fr, to, wh, nu⟩ : Ent) + 1) := by show _ = _; rw [cntE_take HX.out]; simp
          have hcO : Hid (∀ y, y ≠ (⟨dy, fr, to, wh, nu⟩ : Ent) → cntE (a.take (k + 1)) y = cntE (a.take k) y) := fun y hy => by rw [cntE_take HX.out, if_neg (fun e => hy e.symm)]; rfl
          have L0 := Lib.hid hl1
          clear hown hat hwf hst hl1 hl2 hme hst9 st w3
          by_cases hgt : 0 < cntE b (⟨dy, fr, to, wh, nu⟩ : Ent) - cntE (a.take k) (⟨dy, fr, to, wh, nu⟩ : Ent)
          · have HSt : Hid (msT a b (k + 1) = msT a b k) := msT_no HX.out (by rw [hcE.out]; omega)
            have hcb := cntE_le b (⟨dy, fr, to, wh, nu⟩ : Ent)
            have hcb2 : cntE b (⟨dy, fr, to, wh, nu⟩ : Ent) ≤ 80 := Nat.le_trans hcb HLb.out
            obtain ⟨m, hm⟩ : ∃ m, cntE b (⟨dy, fr, to, wh, nu⟩ : Ent) - cntE (a.take k) (⟨dy, fr, to, wh, nu⟩ : Ent) = m + 1 := ⟨cntE b (⟨dy, fr, to, wh, nu⟩ : Ent) - cntE (a.take k) (⟨dy, fr, to, wh, nu⟩ : Ent) - 1, by omega⟩
            have hm80 : m ≤ 80 := by omega
            have HMm : Hid (cntE b (⟨dy, fr, to, wh, nu⟩ : Ent) - cntE (a.take (k + 1)) (⟨dy, fr, to, wh, nu⟩ : Ent) = m) := by show _ = _; rw [hcE.out]; omega
            rw [hm] at L0
            have hgti : (0 : Int) < ((m + 1 : Nat) : Int) := by omega
            have hgtn : 0 < m + 1 := by omega
            clear hcb hcb2 hgt
            have HH2 := HH
            obtain ⟨fz, hfz⟩ : ∃ f, (fun x => cntE b x - cntE (a.take k) x) = f := ⟨_, rfl⟩
            rw [hfz] at HH2
            have HFm : Hid (fz (⟨dy, fr, to, wh, nu⟩ : Ent) = m + 1) := by show _ = _; rw [← hfz]; exact hm
            clear hm
            have hown3 : OwnsE w2.drew w.heap.size n D := HM2.out.kept (grown_of_below (Below.refl _ w2).drew) (by simp)
            obtain ⟨cn, v0, st, w3, hat, hwf, hl1, hme, hl2, hst⟩ := entry_law hown3 Tryd.lawE Tryd.underlying119 Tryd.underlying2 Tryd.zeroI64E (by unfold maxLen; omega) (keyE (⟨dy, fr, to, wh, nu⟩ : Ent) HXo.out)
            have hcn := HH2.out.look (x := (⟨dy, fr, to, wh, nu⟩ : Ent)) HXo.out hat
            rw [HFm.out] at hcn
            subst hcn
            obtain ⟨w4, hst2, hown4, hgr4⟩ := hst (m : Nat) (WalkArith.wf_i64 ⟨by omega, by omega⟩)
            have hput := HH2.out.put (g := fun x => cntE b x - cntE (a.take (k + 1)) x) (n := m) (size_ownsMap HM2.out).2 (fun a b ha hb h => kE_inj ha hb h) (x := (⟨dy, fr, to, wh, nu⟩ : Ent)) HXo.out (kE_is _) HMm.out (fun y hy => by rw [hcO.out y hy, ← hfz])
            have HP := Lib.hid hput
            have HO4 := Lib.hid hown4
            have HB4 := Lib.hid (Below.growMap HB2.out.drew hgr4 HB2.out.drew.size (Nat.le_refl _))
            have HR4 := Lib.hid (gk_own (own_keep' HO2.out (Below.refl _ w2).drew) hgr4 (fun q e => by obtain rfl := Option.some.inj e; exact Q4.out))
            have HS4 : Hid (w1.heap.size ≤ w4.heap.size) := Nat.le_trans HS2.out hgr4.size
            have hs1 : IntKind.i64.wrap (((m + 1 : Nat) : Int) - 1) = m := by rw [show (((m + 1 : Nat) : Int) - 1) = m from by omega]; exact IntWalk.i64_in _ ⟨by omega, by omega⟩
            have hs2 : wrap64 (((m + 1 : Nat) : Int) - 1) = m := by rw [show (((m + 1 : Nat) : Int) - 1) = m from by omega]; exact IntWalk.wrap64_in _ ⟨by omega, by omega⟩
            obtain ⟨M, hM⟩ : ∃ M : Int, ((m + 1 : Nat) : Int) = M := ⟨_, rfl⟩
            rw [hM] at hs1 hs2 hl1 hl2 L0 hgti
            clear hown3 hat hwf hput hown4 hgr4 hst hfz hgtn hm80
            have L1 := Lib.hid hl1
            have L2 := Lib.hid hl2
            have L3 := Lib.hid hme
            have L4 := Lib.hid hst2
            have HMM := Lib.hid hM
            have HN4 : Hid (n + 1 ≤ 80 + (k + 1)) := by show _ ≤ _; omega
            clear hl1 hl2 hme hst2 hM HO2 HM2
            go_wp2_with (refine wpList_lookupE rfl 119 (.tmp 31) (.tmp 32) rfl rfl rfl L0.out ?_)
            clear hw2
            refine wp_region_any (by kernel_rfl) ?_
            try (change wpAny _ _ _ _ _ _ _ (World.drew _))
            refine wpAny_take (i := 0) (v := .map (some w.heap.size)) rfl (by kernel_rfl) (by kernel_rfl) (by kernel_rfl) (fun _ _ _ h => h) (Or.inl ⟨by rfl, fun w' => by go_simp⟩) ?_
            try simp only [Act.put, List.getElem_toArray, List.getElem_cons_zero, List.getElem_cons_succ, List.setIfInBounds_toArray, List.set_cons_zero, List.set_cons_succ]
            refine wpAny_ready (rs := [1]) (by kernel_rfl) (by simp) ?_
            refine AllReady.cons rfl (fun K hK => ?_) AllReady.nil
            refine if_wanted rfl ?_
            go_simp
            refine hK _ _ ?_
            clear hK K
            try simp only [Act.put, List.getElem_toArray, List.getElem_cons_zero, List.getElem_cons_succ, List.setIfInBounds_toArray, List.set_cons_zero, List.set_cons_succ]
            refine wpAny_ready (rs := [2, 4]) (by kernel_rfl) (by simp) ?_
            refine AllReady.cons rfl (fun K hK => ?_) (AllReady.cons rfl (fun K hK => ?_) AllReady.nil)
            · skip
              refine if_wanted rfl (wp_lookupR 119 (.tmp 35) (.tmp 36) rfl rfl rfl L1.out ?_)
              refine hK _ _ ?_
              clear hK K
              try simp only [Act.put, List.getElem_toArray, List.getElem_cons_zero, List.getElem_cons_succ, List.setIfInBounds_toArray, List.set_cons_zero, List.set_cons_succ]
              refine wpAny_take (i := 3) (v := .int .i64 (m : Nat)) rfl (by kernel_rfl) (by kernel_rfl) (by kernel_rfl) (fun _ _ _ h => h) (Or.inl ⟨by rfl, fun w' => by go_simp⟩) ?_
              try simp only [Act.put, List.getElem_toArray, List.getElem_cons_zero, List.getElem_cons_succ, List.setIfInBounds_toArray, List.set_cons_zero, List.set_cons_succ]
              refine wpAny_ready (rs := [4]) (by kernel_rfl) (by simp) ?_
              refine AllReady.cons rfl (fun K hK => ?_) AllReady.nil
              refine if_wanted rfl (wp_mapEntryR 119 (.tmp 35) (.tmp 36) rfl rfl rfl L3.out ?_)
              refine hK _ _ ?_
              clear hK K
              try simp only [Act.put, List.getElem_toArray, List.getElem_cons_zero, List.getElem_cons_succ, List.setIfInBounds_toArray, List.set_cons_zero, List.set_cons_succ]
              refine wpAny_take (i := 5) (v := goInt st) rfl (by kernel_rfl) (by kernel_rfl) (by kernel_rfl) (fun _ _ _ h => h) (Or.inl ⟨by rfl, fun w' => by go_simp⟩) ?_
              try simp only [Act.put, List.getElem_toArray, List.getElem_cons_zero, List.getElem_cons_succ, List.setIfInBounds_toArray, List.set_cons_zero, List.set_cons_succ]
              refine wpAny_ready (rs := [6]) (by kernel_rfl) (by simp) ?_
              refine AllReady.cons rfl (fun K hK => ?_) AllReady.nil
              refine if_wanted rfl (wp_entryStoreR 119 (.tmp 35) (.tmp 40) (.tmp 38) rfl rfl rfl rfl L4.out ?_)
              refine hK _ _ ?_
              clear hK K
              try simp only [Act.put, List.getElem_toArray, List.getElem_cons_zero, List.getElem_cons_succ, List.setIfInBounds_toArray, List.set_cons_zero, List.set_cons_succ]
              refine wpAny_done (by kernel_rfl) ?_ _
              try simp only [Act.put, List.getElem_toArray, List.getElem_cons_zero, List.getElem_cons_succ, List.setIfInBounds_toArray, List.set_cons_zero, List.set_cons_succ]
              go_wp2
              go_roundw
              case rel => exact ⟨k + 1, n + 1, _, A1, c1, by omega, HN4.out, by go_num, by rw [HSt.out, HL.out], by rw [HSt.out, HL.out]; exact HR4.out, HO4.out, HP.out, HB4.out, HS4.out⟩
              case measure => simp [intOf]; omega
            · skip
              refine if_wanted rfl (wp_mapEntryR 119 (.tmp 35) (.tmp 36) rfl rfl rfl L3.out ?_)
              refine hK _ _ ?_
              clear hK K
              try simp only [Act.put, List.getElem_toArray, List.getElem_cons_zero, List.getElem_cons_succ, List.setIfInBounds_toArray, List.set_cons_zero, List.set_cons_succ]
              refine wpAny_take (i := 5) (v := goInt st) rfl (by kernel_rfl) (by kernel_rfl) (by kernel_rfl) (fun _ _ _ h => h) (Or.inl ⟨by rfl, fun w' => by go_simp⟩) ?_
              try simp only [Act.put, List.getElem_toArray, List.getElem_cons_zero, List.getElem_cons_succ, List.setIfInBounds_toArray, List.set_cons_zero, List.set_cons_succ]
              refine wpAny_ready (rs := [2]) (by kernel_rfl) (by simp) ?_
              refine AllReady.cons rfl (fun K hK => ?_) AllReady.nil
              refine if_wanted rfl (wp_lookupR 119 (.tmp 35) (.tmp 36) rfl rfl rfl L2.out ?_)
              refine hK _ _ ?_
              clear hK K
              try simp only [Act.put, List.getElem_toArray, List.getElem_cons_zero, List.getElem_cons_succ, List.setIfInBounds_toArray, List.set_cons_zero, List.set_cons_succ]
              refine wpAny_take (i := 3) (v := .int .i64 (m : Nat)) rfl (by kernel_rfl) (by kernel_rfl) (by kernel_rfl) (fun _ _ _ h => h) (Or.inl ⟨by rfl, fun w' => by go_simp⟩) ?_
              try simp only [Act.put, List.getElem_toArray, List.getElem_cons_zero, List.getElem_cons_succ, List.setIfInBounds_toArray, List.set_cons_zero, List.set_cons_succ]
              refine wpAny_ready (rs := [6]) (by kernel_rfl) (by simp) ?_
              refine AllReady.cons rfl (fun K hK => ?_) AllReady.nil
              refine if_wanted rfl (wp_entryStoreR 119 (.tmp 35) (.tmp 40) (.tmp 38) rfl rfl rfl rfl L4.out ?_)
              refine hK _ _ ?_
              clear hK K
              try simp only [Act.put, List.getElem_toArray, List.getElem_cons_zero, List.getElem_cons_succ, List.setIfInBounds_toArray, List.set_cons_zero, List.set_cons_succ]
              refine wpAny_done (by kernel_rfl) ?_ _
              try simp only [Act.put, List.getElem_toArray, List.getElem_cons_zero, List.getElem_cons_succ, List.setIfInBounds_toArray, List.set_cons_zero, List.set_cons_succ]
              go_wp2
              go_roundw
              case rel => exact ⟨k + 1, n + 1, _, A1, c1, by omega, HN4.out, by go_num, by rw [HSt.out, HL.out], by rw [HSt.out, HL.out]; exact HR4.out, HO4.out, HP.out, HB4.out, HS4.out⟩
              case measure => simp [intOf]; omega
          · have hz : cntE b (⟨dy, fr, to, wh, nu⟩ : Ent) - cntE (a.take k) (⟨dy, fr, to, wh, nu⟩ : Ent) = 0 := by omega
            have HSt : Hid (msT a b (k + 1) = msT a b k ++ [(⟨dy, fr, to, wh, nu⟩ : Ent)]) := msT_yes HX.out (by rw [hcE.out]; omega)
            rw [hz] at L0
            have HH3 : Hid (HoldsZ D wfE kE (fun x => cntE b x - cntE (a.take (k + 1)) x)) := HH.out.congr (fun y _ => by
              by_cases e : y = (⟨dy, fr, to, wh, nu⟩ : Ent)
              · subst e; rw [hcE.out]; omega
              · rw [hcO.out y e])
            have hL80 : L ≤ 80 := by have := HLa.out; omega
            clear hgt hz
            go_wp2_with (first
              | (refine wpList_lookupE rfl 119 (.tmp 31) (.tmp 32) rfl rfl rfl L0.out ?_)
              | (at_builtin; refine wpList_append_own _ rfl (.tmp 41) (.tmp 43) 24 rfl w1.heap.size 67 i0 (.agg #[.int .i16 0, .int .i8 0, .int .i8 0, .int .u8 0, .int .i16 0]) 5 8 Tryd.underlying24 HI.out HZ0.out HZ1.out HZ2.out rfl (by decide) _ _ _ rfl (HO2.out.alloc _) ⟨w2.heap.size, 0, none⟩ 1 1 [.int .i16 dy, .int .i8 fr, .int .i8 to, .int .u8 wh, .int .i16 nu] rfl rfl ?c1 ?c2 ?c3 ?c4 ?c5 ?_))
            case c2 => first | exact ent_oneN _ _ _ _ _ | simp [Value.oneCell']
            case c3 => unfold maxLen; omega
            case c4 => omega
            case c5 => have := HS2.out; simp; omega
            intro v' w8 hown' hgrow _
            have hown8 : w8.ownsRow w1.heap.size 67 5 v' (msT a b (k + 1)).length ((msT a b (k + 1)).flatMap ecells) := by rw [HSt.out, List.length_append, List.flatMap_append, HL.out]; exact hown'
            obtain ⟨A8, c8, rfl, -, -⟩ := own_rd ecells_length hown8
            have HO8 := Lib.hid hown8
            have HB8 : Hid (Below w.heap.size w w8) := (HB2.out.alloc HB2.out.size _).grown hgrow (by have := HB2.out.size; simp; omega) (fun r e => Nat.le_trans Q3.out.size (HO2.out.lt r e).1)
            have HM8 : Hid (OwnsE w8 w.heap.size n D) := (HM2.out.kept (grown_of_below ((Below.refl _ w2).alloc (Nat.le_refl _) (.cells #[.int .i16 dy, .int .i8 fr, .int .i8 to, .int .u8 wh, .int .i16 nu] 67))) (by simp)).kept hgrow (fun e => by have := (HO2.out.lt _ e.symm).1; have := Q4.out; omega)
            have HS8 : Hid (w1.heap.size ≤ w8.heap.size) := by have := HS2.out; have := hgrow.size; show _ ≤ _; simp at this; omega
            have HL8 : Hid ((msT a b (k + 1)).length = L + 1) := by show _ = _; rw [HSt.out, List.length_append, HL.out]; rfl
            clear hown' hgrow hown8 HO2 HM2
            rw [HL8.out] at HO8 ⊢
            go_wp2
            go_roundw
            case rel => exact ⟨k + 1, n, D, A8, c8, by omega, by omega, by go_num, by rw [HL8.out], by rw [HL8.out]; exact HO8.out, HM8.out, HH3.out, HB8.out, HS8.out⟩
            case measure => simp [intOf]; omega
        · obtain rfl : k = a.length := by omega
          go_wp2
          go_ret
          refine ⟨_, rfl, ?_, HB.out⟩
          rw [HL.out]
          exact own_base HO.out Q3.out.size
end Go.Proofs.YtlfamfdgphhbcabDoor
