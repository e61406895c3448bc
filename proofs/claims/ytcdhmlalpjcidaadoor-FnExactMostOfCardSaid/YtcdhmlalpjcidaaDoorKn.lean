/-
  The contract of the program's countBottles. Condition: a list of at most twelve crates whose numbers fit their kinds.
-/
import Derived.Test.YtcdhmlalpjcidaaDoorKm
import Derived.Test.YtcdhmlalpjcidaaDoorKb
import Derived.Test.YtcdhmlalpjcidaaDoorAp
import Derived.Test.YtcdhmlalpjcidaaDoorMg2
import Derived.Deep.RegionLaw
namespace Go.Proofs.YtcdhmlalpjcidaaDoor
open Go.ChangeShapes Go.WideShapes Go.ChangeAt Go.RowKit Go.Deep
open Go.Maps (Keyed)

theorem Tryd.zeroI64 (w : World) : (zeroValue 2).run Tryd.prog w = .ok (.int .i64 0) w := by kernel_rfl
abbrev OwnsC (w : World) (b n : Nat) (D : DataW Unit) : Prop := w.ownsMap Tryd.prog 30 (plainElem Tryd.prog 2) b n D
abbrev OwnsB (w : World) (b n : Nat) (D : DataW Unit) : Prop := w.ownsMap Tryd.prog 26 (plainElem Tryd.prog 2) b n D
theorem World.grownBy_refl3 (w : World) (row : Option Nat) : w.grownBy w row := ⟨rfl, rfl, rfl, Nat.le_refl _, fun _ _ _ => rfl⟩
theorem own_readM {w : World} {b : Nat} {e : TypeId} {v : Value} {X : List Bot} (h : w.ownsRow b e 2 v X.length (ccells X)) : ∃ A c, v = .slice A X.length c ∧ ∀ j k y, X[j]? = some (k, y) → ∃ g, A = some ⟨g, 0, none⟩ ∧ b ≤ g ∧ g < w.heap.size ∧ w.cell? ⟨g, j * 2, none⟩ = some (.int .u8 k) ∧ w.cell? ⟨g, j * 2 + 1, none⟩ = some (.int .i16 y) := by
  rcases h.2 with ⟨rfl, h0⟩ | ⟨g, cap, cur, rfl, hb, hg, -, -, -, -⟩
  · refine ⟨none, 0, by rw [h0], fun j k y hx => ?_⟩
    have := (List.getElem?_eq_some_iff.1 hx).1
    omega
  · refine ⟨some ⟨g, 0, none⟩, cap, rfl, fun j k y hx => ?_⟩
    obtain ⟨hj, he⟩ := List.getElem?_eq_some_iff.1 hx
    refine ⟨g, rfl, hb, (Array.getElem?_eq_some_iff.1 hg).1, ?_, ?_⟩
    · rw [h.cellAt (j * 2) (by omega), Nat.mul_comm, ccells_even X j hj, he]
    · rw [h.cellAt (j * 2 + 1) (by omega), Nat.mul_comm, ccells_odd X j hj, he]
theorem kC_is (X : List Bot) : WideAt.IsKeyLit (kC X) := trivial
theorem kB_is (b : Bot) : WideAt.IsKeyLit (kB b) := trivial
def keyCr (x : Crt) : Lit := kC x.1
theorem keyCr_inj (x y : Crt) (h : keyCr x = keyCr y) : x = y := Subtype.ext (kC_inj x.2 y.2 h)
theorem Below.growMap {N : Nat} {w w1 w2 : World} {b : Nat} (h : Below N w w1) (hg : w1.grownBy w2 (some b)) (hN : N ≤ w1.heap.size) (hb : N ≤ b) : Below N w w2 := h.grown hg hN (fun j hj => by cases hj; exact hb)

set_option maxRecDepth 100000 in
set_option maxHeartbeats 8000000 in
theorem countBottles_any (xs : List Crt) (A : Option Addr) (c : Nat) (w : World) (hl : xs.length ≤ 12) (hr : Rd w w.heap.size kcells A xs) :
    Calls Tryd.prog 61 #[.slice A xs.length c] w fun e w' => ∃ B n E, e = .returned (.map (some B)) ∧ w.heap.size ≤ B ∧ n ≤ 144 ∧ OwnsB w' B n E ∧ Holds E wfB kB (cntAll xs) ∧ Below w.heap.size w w' := by
  have HR := Lib.hid hr
  clear hr
  have hmm := @run_makeMap Tryd.prog
  go_enter Tryd.func61, Tryd.ntmps61
  go_wp2_with fail
  clear hmm
  go_loopw [14] (fun i wr => ∃ k : Nat, k ≤ xs.length ∧ i = .int .i64 k ∧ ∃ D, OwnsC wr w.heap.size k D ∧ Holds D (fun _ => True) keyCr (cntX (xs.take k)) ∧ Below w.heap.size w wr) (fun i _ => xs.length - (intOf i).toNat)
  case atStart => exact ⟨0, by omega, rfl, .map [], World.ownsMap_made _ _ _ _, (Holds.empty _ _).congr (fun x _ => by simp [cntX]), (Below.refl _ _).alloc (Nat.le_refl _) _⟩
  case round =>
    obtain ⟨k, hk, rfl, D, q1, q2, q3⟩ := hrel
    have Q1 := Lib.hid q1
    have Q2 := Lib.hid q2
    have Q3 := Lib.hid q3
    clear q1 q2 q3
    by_cases hlt : k < xs.length
    · obtain ⟨x, hx⟩ : ∃ x, xs[k]? = some x := ⟨_, List.getElem?_eq_getElem hlt⟩
      obtain ⟨b, o, rfl, hbl, hrow⟩ := (HR.out.below (Nat.le_refl _) Q3.out).at_ kcells_length hx
      have HX := Lib.hid hx
      have HRow := Lib.hid hrow
      have hk0 : (0 : Int) ≤ (k : Int) := Int.natCast_nonneg _
      have hk8 : (k : Int) < xs.length := by omega
      clear hx hrow hbl
      have h1 : CBlk (wr.alloc (.cells #[.int .u8 0, .int .i16 0, .int .u8 0, .int .i16 0, .int .u8 0, .int .i16 0, .int .u8 0, .int .i16 0, .int .u8 0, .int .i16 0, .int .u8 0, .int .i16 0, .int .u8 0, .int .i16 0, .int .u8 0, .int .i16 0, .int .u8 0, .int .i16 0, .int .u8 0, .int .i16 0, .int .u8 0, .int .i16 0, .int .u8 0, .int .i16 0] 30)) wr.heap.size 30 noB := CBlk.new' rfl rfl
      have h2 : CBlk ((wr.alloc (.cells #[.int .u8 0, .int .i16 0, .int .u8 0, .int .i16 0, .int .u8 0, .int .i16 0, .int .u8 0, .int .i16 0, .int .u8 0, .int .i16 0, .int .u8 0, .int .i16 0, .int .u8 0, .int .i16 0, .int .u8 0, .int .i16 0, .int .u8 0, .int .i16 0, .int .u8 0, .int .i16 0, .int .u8 0, .int .i16 0, .int .u8 0, .int .i16 0] 30)).setRow wr.heap.size (ccells x.1).toArray) wr.heap.size 30 x.1 := CBlk.setRow h1
      have hbw : Below wr.heap.size wr ((wr.alloc (.cells #[.int .u8 0, .int .i16 0, .int .u8 0, .int .i16 0, .int .u8 0, .int .i16 0, .int .u8 0, .int .i16 0, .int .u8 0, .int .i16 0, .int .u8 0, .int .i16 0, .int .u8 0, .int .i16 0, .int .u8 0, .int .i16 0, .int .u8 0, .int .i16 0, .int .u8 0, .int .i16 0, .int .u8 0, .int .i16 0, .int .u8 0, .int .i16 0] 30)).setRow wr.heap.size (ccells x.1).toArray) := Below.setRow ((Below.refl _ _).alloc (Nat.le_refl _) _) _ _ (Nat.le_refl _)
      have H1 := Lib.hid h1
      clear h1
      go_wp2_with (first
        | (refine wpList_load_mid rfl 30 (.tmp 16) rfl b (o + k * 24) rfl (kcells x) _ HRow.out Tryd.underlying30 rfl (size_k Tryd.sizeCr x) ?_)
        | (refine wpList_store_row rfl 30 (.tmp 5) (.tmp 17) rfl wr.heap.size (ccells x.1).toArray rfl rfl 30 _ H1.out (size_of_crate Tryd.sizeCr _ x.2.1) (by rw [ccells_size _ x.2.1]; rfl) (ccells_one _) ?_))
      obtain ⟨w1, hw1⟩ : ∃ w1, (wr.alloc (.cells #[.int .u8 0, .int .i16 0, .int .u8 0, .int .i16 0, .int .u8 0, .int .i16 0, .int .u8 0, .int .i16 0, .int .u8 0, .int .i16 0, .int .u8 0, .int .i16 0, .int .u8 0, .int .i16 0, .int .u8 0, .int .i16 0, .int .u8 0, .int .i16 0, .int .u8 0, .int .i16 0, .int .u8 0, .int .i16 0, .int .u8 0, .int .i16 0] 30)).setRow wr.heap.size (ccells x.1).toArray = w1 := ⟨_, rfl⟩
      rw [hw1] at h2 hbw ⊢
      have hown : OwnsC w1.drew w.heap.size k D := (Q1.out.kept (grown_of_below hbw) (by simp)).drew
      have hB1 : Below w.heap.size w w1.drew := (Q3.out.trans (hbw.mono Q3.out.size)).drew
      have hC1 : CBlk w1.drew wr.heap.size 30 x.1 := h2
      refine wp_region_any (by kernel_rfl) ?_
      change wpAny _ _ _ _ _ _ _ (World.drew _)
      obtain ⟨w2, hw2⟩ : ∃ w2, w1.drew = w2 := ⟨_, rfl⟩
      rw [hw2] at hown hB1 hC1 ⊢
      clear hw1 hw2 h2 hbw H1
      obtain ⟨cn, v0, st, w3, hat, hwf, hl1, hme, hl2, hst⟩ := entry_law hown Tryd.lawC Tryd.underlying131 Tryd.underlying2 Tryd.zeroI64 (by unfold maxLen; omega) (keyC x.1 x.2)
      have hcn := Q2.out.look (x := x) trivial hat
      have hcb := cntX_le (xs.take k) x
      have hlt12 : (xs.take k).length ≤ 12 := by rw [List.length_take]; omega
      subst hcn
      obtain ⟨w4, hst2, hown4, hgr4⟩ := hst ((cntX (xs.take k) x : Nat) + 1) (WalkArith.wf_i64 ⟨by omega, by omega⟩)
      have hput := Q2.out.put (g := cntX (xs.take (k + 1))) (n := cntX (xs.take k) x + 1) (size_ownsMap Q1.out).2 (fun a b _ _ h => keyCr_inj a b h) (x := x) trivial (kC_is _) (by omega) (by rw [cntX_take HX.out]; simp) (fun y hy => by rw [cntX_take HX.out, if_neg (fun e => hy e.symm)]; rfl)
      have HP := Lib.hid hput
      have HO := Lib.hid hown4
      have HB4 := Lib.hid (Below.growMap hB1 hgr4 hB1.size (Nat.le_refl _))
      have hs1 : IntKind.i64.wrap ((cntX (xs.take k) x : Nat) + 1 : Int) = (cntX (xs.take k) x : Nat) + 1 := IntWalk.i64_in _ ⟨by omega, by omega⟩
      have hs2 : wrap64 ((cntX (xs.take k) x : Nat) + 1 : Int) = (cntX (xs.take k) x : Nat) + 1 := IntWalk.wrap64_in _ ⟨by omega, by omega⟩
      have HC1 := Lib.hid hC1
      clear hown hB1 hC1 hat hwf hput hown4 hgr4 hst
      obtain ⟨cx, hcx⟩ : ∃ n, cntX (xs.take k) x = n := ⟨_, rfl⟩
      rw [hcx] at hl1 hl2 hst2 hs1 hs2 HO HP
      have L1 := Lib.hid hl1
      have L2 := Lib.hid hl2
      have L3 := Lib.hid hme
      have L4 := Lib.hid hst2
      clear hl1 hl2 hme hst2 hcx hcb hlt12
      refine wpAny_take (i := 0) (v := .map (some w.heap.size)) rfl (by kernel_rfl) (by kernel_rfl) (by kernel_rfl) (fun _ _ _ h => h) (Or.inl ⟨by rfl, fun w' => by go_simp⟩) ?_
      try simp only [Act.put, List.getElem_toArray, List.getElem_cons_zero, List.getElem_cons_succ, List.setIfInBounds_toArray, List.set_cons_zero, List.set_cons_succ]
      refine wpAny_ready (rs := [1]) (by kernel_rfl) (by simp) ?_
      refine AllReady.cons rfl (fun K hK => ?_) AllReady.nil
      refine if_wanted rfl (wp_load_row 30 (.tmp 5) rfl wr.heap.size rfl 30 _ (0, 0) _ HC1.out Tryd.underlying30 rfl (size_of_crate Tryd.sizeCr _ x.2.1) ?_)
      refine hK _ _ ?_
      clear hK K
      try simp only [Act.put, List.getElem_toArray, List.getElem_cons_zero, List.getElem_cons_succ, List.setIfInBounds_toArray, List.set_cons_zero, List.set_cons_succ]
      refine wpAny_ready (rs := [2, 4]) (by kernel_rfl) (by simp) ?_
      refine AllReady.cons rfl (fun K hK => ?_) (AllReady.cons rfl (fun K hK => ?_) AllReady.nil)
      · skip
        refine if_wanted rfl (wp_lookupR 131 (.tmp 18) (.tmp 19) rfl rfl rfl L1.out ?_)
        refine hK _ _ ?_
        clear hK K
        try simp only [Act.put, List.getElem_toArray, List.getElem_cons_zero, List.getElem_cons_succ, List.setIfInBounds_toArray, List.set_cons_zero, List.set_cons_succ]
        refine wpAny_take (i := 3) (v := .int .i64 ((cx : Nat) + 1)) rfl (by kernel_rfl) (by kernel_rfl) (by kernel_rfl) (fun _ _ _ h => h) (Or.inl ⟨by rfl, fun w' => by go_simp⟩) ?_
        try simp only [Act.put, List.getElem_toArray, List.getElem_cons_zero, List.getElem_cons_succ, List.setIfInBounds_toArray, List.set_cons_zero, List.set_cons_succ]
        refine wpAny_ready (rs := [4]) (by kernel_rfl) (by simp) ?_
        refine AllReady.cons rfl (fun K hK => ?_) AllReady.nil
        refine if_wanted rfl (wp_mapEntryR 131 (.tmp 18) (.tmp 19) rfl rfl rfl L3.out ?_)
        refine hK _ _ ?_
        clear hK K
        try simp only [Act.put, List.getElem_toArray, List.getElem_cons_zero, List.getElem_cons_succ, List.setIfInBounds_toArray, List.set_cons_zero, List.set_cons_succ]
        refine wpAny_take (i := 5) (v := goInt st) rfl (by kernel_rfl) (by kernel_rfl) (by kernel_rfl) (fun _ _ _ h => h) (Or.inl ⟨by rfl, fun w' => by go_simp⟩) ?_
        try simp only [Act.put, List.getElem_toArray, List.getElem_cons_zero, List.getElem_cons_succ, List.setIfInBounds_toArray, List.set_cons_zero, List.set_cons_succ]
        refine wpAny_ready (rs := [6]) (by kernel_rfl) (by simp) ?_
        refine AllReady.cons rfl (fun K hK => ?_) AllReady.nil
        refine if_wanted rfl (wp_entryStoreR 131 (.tmp 18) (.tmp 23) (.tmp 21) rfl rfl rfl rfl L4.out ?_)
        refine hK _ _ ?_
        clear hK K
        try simp only [Act.put, List.getElem_toArray, List.getElem_cons_zero, List.getElem_cons_succ, List.setIfInBounds_toArray, List.set_cons_zero, List.set_cons_succ]
        refine wpAny_done (by kernel_rfl) ?_ _
        try simp only [Act.put, List.getElem_toArray, List.getElem_cons_zero, List.getElem_cons_succ, List.setIfInBounds_toArray, List.set_cons_zero, List.set_cons_succ]
        go_wp2
        go_roundw
        case rel => exact ⟨k + 1, by omega, by go_num, _, HO.out, HP.out, HB4.out⟩
        case measure => simp [intOf]; omega
      · skip
        refine if_wanted rfl (wp_mapEntryR 131 (.tmp 18) (.tmp 19) rfl rfl rfl L3.out ?_)
        refine hK _ _ ?_
        clear hK K
        try simp only [Act.put, List.getElem_toArray, List.getElem_cons_zero, List.getElem_cons_succ, List.setIfInBounds_toArray, List.set_cons_zero, List.set_cons_succ]
        refine wpAny_take (i := 5) (v := goInt st) rfl (by kernel_rfl) (by kernel_rfl) (by kernel_rfl) (fun _ _ _ h => h) (Or.inl ⟨by rfl, fun w' => by go_simp⟩) ?_
        try simp only [Act.put, List.getElem_toArray, List.getElem_cons_zero, List.getElem_cons_succ, List.setIfInBounds_toArray, List.set_cons_zero, List.set_cons_succ]
        refine wpAny_ready (rs := [2]) (by kernel_rfl) (by simp) ?_
        refine AllReady.cons rfl (fun K hK => ?_) AllReady.nil
        refine if_wanted rfl (wp_lookupR 131 (.tmp 18) (.tmp 19) rfl rfl rfl L2.out ?_)
        refine hK _ _ ?_
        clear hK K
        try simp only [Act.put, List.getElem_toArray, List.getElem_cons_zero, List.getElem_cons_succ, List.setIfInBounds_toArray, List.set_cons_zero, List.set_cons_succ]
        refine wpAny_take (i := 3) (v := .int .i64 ((cx : Nat) + 1)) rfl (by kernel_rfl) (by kernel_rfl) (by kernel_rfl) (fun _ _ _ h => h) (Or.inl ⟨by rfl, fun w' => by go_simp⟩) ?_
        try simp only [Act.put, List.getElem_toArray, List.getElem_cons_zero, List.getElem_cons_succ, List.setIfInBounds_toArray, List.set_cons_zero, List.set_cons_succ]
        refine wpAny_ready (rs := [6]) (by kernel_rfl) (by simp) ?_
        refine AllReady.cons rfl (fun K hK => ?_) AllReady.nil
        refine if_wanted rfl (wp_entryStoreR 131 (.tmp 18) (.tmp 23) (.tmp 21) rfl rfl rfl rfl L4.out ?_)
        refine hK _ _ ?_
        clear hK K
        try simp only [Act.put, List.getElem_toArray, List.getElem_cons_zero, List.getElem_cons_succ, List.setIfInBounds_toArray, List.set_cons_zero, List.set_cons_succ]
        refine wpAny_done (by kernel_rfl) ?_ _
        try simp only [Act.put, List.getElem_toArray, List.getElem_cons_zero, List.getElem_cons_succ, List.setIfInBounds_toArray, List.set_cons_zero, List.set_cons_succ]
        go_wp2
        go_roundw
        case rel => exact ⟨k + 1, by omega, by go_num, _, HO.out, HP.out, HB4.out⟩
        case measure => simp [intOf]; omega
    · obtain rfl : k = xs.length := by omega
      have HQ2 : Hid (Holds D (fun _ => True) keyCr (cntX xs)) := by have := Q2.out; rw [List.take_length] at this; exact this
      clear Q2
      have hsz := size_ownsMap Q1.out
      obtain ⟨wq, hwq⟩ : ∃ wq, wr = wq := ⟨_, rfl⟩
      rw [hwq] at Q1 Q3 ⊢
      have hlt0 : w.heap.size < wq.heap.size := Q1.out.lt
      have hmm := @run_makeMap Tryd.prog
      have hk1 : OwnsC (wq.alloc (.map #[] 0)) w.heap.size xs.length D := Q1.out.alloc _
      have hb1 : OwnsB (wq.alloc (.map #[] 0)) wq.heap.size 0 (.map []) := World.ownsMap_made _ _ _ _
      have hw1 : Below w.heap.size w (wq.alloc (.map #[] 0)) := Q3.out.alloc Q3.out.size _
      have HK1 := Lib.hid hk1
      have HB1 := Lib.hid hb1
      have HW1 := Lib.hid hw1
      clear hk1 hb1 hw1 hwq Q1 Q3
      go_wp2_with (at_range; refine wpList_range_own _ rfl (.tmp 26) 131 rfl 30 2 (Keyed.of_law Tryd.lawC) Tryd.underlying131 (plainElem Tryd.prog 2) w.heap.size xs.length D rfl HK1.out ?_; intro w0 hrg0 hg0 hs0)
      clear hmm
      go_frame
      have hr0 : (wq.alloc (.map #[] 0)).heap.size = wq.heap.size + 1 := by simp
      rw [hr0] at hrg0 hs0 ⊢
      have hb0 : OwnsB w0 wq.heap.size 0 (.map []) := HB1.out.kept hg0 (by simp)
      have hw0 : Below w.heap.size w w0 := HW1.out.grown hg0 HW1.out.size (fun j hj => by cases hj)
      have HRG0 := Lib.hid hrg0
      have HOB0 := Lib.hid hb0
      have HWB0 := Lib.hid hw0
      have HT0 : Hid (Holds (.map []) wfB kB (tot xs (Maps.has D))) := (Holds.empty wfB kB).congr (fun b _ => (tot_all (fun x hx => HQ2.out.has (x := x) trivial (cntX_pos hx)) b).symm)
      have hsz1 := hsz.1
      clear hrg0 hb0 hw0 HK1 HB1 HW1 hg0 hs0 hr0
      go_loopw [8] (fun s wr => ∃ left cnt n2 E, wr.ranges Tryd.prog 30 (plainElem Tryd.prog 2) w.heap.size (wq.heap.size + 1) xs.length D left cnt ∧ OwnsB wr wq.heap.size n2 E ∧ Holds E wfB kB (tot xs left) ∧ n2 + 12 * cnt ≤ 144 ∧ Below w.heap.size w wr) (fun _ wr => wr.rangeLeft w.heap.size (wq.heap.size + 1))
      case atStart => exact ⟨_, _, 0, _, HRG0.out, HOB0.out, HT0.out, by omega, HWB0.out⟩
      case round =>
        clear HRG0 HOB0 HT0 HWB0
        obtain ⟨left, cnt, n2, E, q1, q2, q3, q4, q5⟩ := hrel
        have R1 := Lib.hid q1
        have R1x := Lib.hid q1.left_eq
        have R2 := Lib.hid q2
        have R3 := Lib.hid q3
        have R5 := Lib.hid q5
        clear q1 q2 q3 q5
        go_wp2_with (at_next; refine wpList_next_ranges _ rfl (.tmp 27) rfl 30 (Keyed.of_law Tryd.lawC) (plainElem Tryd.prog 2) (fun (X : Crt) => Value.agg (ccells X.1).toArray) (fun (n : Int) => Value.int .i64 n) (fun key kl h => keyC_inv h) (fun v y h => by obtain ⟨a, e, _, _⟩ := plainElem_int_inv Tryd.underlying2 h; exact ⟨a, e⟩) w.heap.size (wq.heap.size + 1) xs.length D left cnt rfl R1.out ?_ ?_)
        · intro h0 hl0
          have HE : Hid (Holds E wfB kB (cntAll xs)) := R3.out.congr (fun b _ => tot_none hl0 b)
          have hfin : wq.heap.size < wr.heap.size := R2.out.lt
          go_wp2
          go_ret
          exact ⟨wq.heap.size, n2, E, rfl, by omega, by omega, R2.out, HE.out, R5.out⟩
        · intro X0 hX0 cv kl y ps w1 cnt1 hkey hlk hv hat hrg1 hclt hg1 hs1 hen
          obtain ⟨x, hxe⟩ : ∃ x : Crt, x.1 = X0 := ⟨⟨X0, hX0⟩, rfl⟩
          subst hxe
          clear hX0
          obtain ⟨cv2, hcv, hy, -⟩ := plainElem_int_inv Tryd.underlying2 hv
          simp only [Value.int.injEq, true_and] at hcv
          subst hcv
          simp only [Prod.mk.injEq] at hy
          obtain ⟨rfl, rfl⟩ := hy
          obtain rfl : kl = kC x.1 := Option.some.inj (hkey.symm.trans (keyC x.1 x.2))
          have hq := HQ2.out x trivial
          have hcx : cntX xs x ≠ 0 ∧ cv = (cntX xs x : Nat) := by
            by_cases h0 : cntX xs x = 0
            · have e1 := hq (.lit (.int .i64 (cv + 1)))
              rw [if_pos h0] at e1
              have e2 := hat (.lit (.int .i64 (cv + 1)))
              have e3 := e1.symm.trans e2
              simp only [DataW.lit.injEq, Lit.int.injEq, true_and] at e3
              omega
            · have e1 := hq (.map [])
              rw [if_neg h0] at e1
              have e3 := (hat (.map [])).symm.trans e1
              simp only [i64L, DataW.lit.injEq, Lit.int.injEq, true_and] at e3
              exact ⟨h0, e3⟩
          obtain ⟨hc0, rfl⟩ := hcx
          have hcle := cntX_le xs x
          have hstr := tot_strike xs left x hlk
          have hb1 : OwnsB w1 wq.heap.size n2 E := R2.out.kept hg1 (by simp)
          have hw1 : Below w.heap.size w w1 := Below.growMap R5.out hg1 R5.out.size (by omega)
          have RG := Lib.hid hrg1
          have OB := Lib.hid hb1
          have WB := Lib.hid hw1
          have HStr := Lib.hid hstr
          have HEn := hen
          obtain ⟨cn, hcn⟩ : ∃ n, cntX xs x = n := ⟨_, rfl⟩
          rw [hcn] at hc0 hcle hen HStr ⊢
          clear hkey hv hat hq hrg1 hb1 hw1 hstr HEn hg1 hs1 hcn hlk R1 R2 R5
          have f1 : CBlk (w1.alloc (.cells #[.int .u8 0, .int .i16 0, .int .u8 0, .int .i16 0, .int .u8 0, .int .i16 0, .int .u8 0, .int .i16 0, .int .u8 0, .int .i16 0, .int .u8 0, .int .i16 0, .int .u8 0, .int .i16 0, .int .u8 0, .int .i16 0, .int .u8 0, .int .i16 0, .int .u8 0, .int .i16 0, .int .u8 0, .int .i16 0, .int .u8 0, .int .i16 0] 30)) w1.heap.size 30 noB := CBlk.new' rfl rfl
          have f2 : CBlk ((w1.alloc (.cells #[.int .u8 0, .int .i16 0, .int .u8 0, .int .i16 0, .int .u8 0, .int .i16 0, .int .u8 0, .int .i16 0, .int .u8 0, .int .i16 0, .int .u8 0, .int .i16 0, .int .u8 0, .int .i16 0, .int .u8 0, .int .i16 0, .int .u8 0, .int .i16 0, .int .u8 0, .int .i16 0, .int .u8 0, .int .i16 0, .int .u8 0, .int .i16 0] 30)).setRow w1.heap.size (ccells x.1).toArray) w1.heap.size 30 x.1 := CBlk.setRow f1
          have f3 : Below w1.heap.size w1 ((w1.alloc (.cells #[.int .u8 0, .int .i16 0, .int .u8 0, .int .i16 0, .int .u8 0, .int .i16 0, .int .u8 0, .int .i16 0, .int .u8 0, .int .i16 0, .int .u8 0, .int .i16 0, .int .u8 0, .int .i16 0, .int .u8 0, .int .i16 0, .int .u8 0, .int .i16 0, .int .u8 0, .int .i16 0, .int .u8 0, .int .i16 0, .int .u8 0, .int .i16 0] 30)).setRow w1.heap.size (ccells x.1).toArray) := Below.setRow ((Below.refl _ _).alloc (Nat.le_refl _) _) _ _ (Nat.le_refl _)
          have F1 := Lib.hid f1
          have F2 := Lib.hid f2
          have F3 := Lib.hid f3
          clear f1 f2 f3
          go_wp2_with (first
            | (refine wpList_store_row rfl 30 (.tmp 7) (.tmp 31) rfl w1.heap.size (ccells x.1).toArray rfl rfl 30 _ F1.out (size_of_crate Tryd.sizeCr _ x.2.1) (by rw [ccells_size _ x.2.1]; rfl) (ccells_one _) ?_)
            | (refine wpList_load_row rfl 30 (.tmp 7) rfl w1.heap.size rfl 30 _ (0, 0) _ F2.out Tryd.underlying30 rfl (size_of_crate Tryd.sizeCr _ x.2.1) ?_))
          refine (callsIn_wide.1 (bottlesOf_in 6 (Nat.le_refl _) x.1 x.2 _)).mono ?_
          rintro e w3 ⟨v, rfl, hown, hb3⟩
          have hb13 : Below w1.heap.size w1 w3 := F3.out.trans (hb3.mono F3.out.size)
          have RG3 : Hid (w3.ranges Tryd.prog 30 (plainElem Tryd.prog 2) w.heap.size (wq.heap.size + 1) xs.length D (fun z => left z && !z.sameKey (kC x.1)) cnt1) := RG.out.kept (grown_of_below hb13) (by simp) (by simp)
          have OB3 : Hid (OwnsB w3 wq.heap.size n2 E) := OB.out.kept (grown_of_below hb13) (by simp)
          have WB3 : Hid (Below w.heap.size w w3) := WB.out.trans (hb13.mono WB.out.size)
          have hB2 : wq.heap.size < w1.heap.size := OB.out.lt
          have hYl := allB_length x.1 12
          have hYw := allB_wf x.2
          have hYa := cntT_all x
          obtain ⟨Y, hYe⟩ : ∃ Y, allB x.1 12 = Y := ⟨_, rfl⟩
          rw [hYe] at hown hYl hYw
          simp only [hYe] at hYa
          obtain ⟨G, cg, rfl, hrd⟩ := own_readM hown
          have hbs : w1.heap.size ≤ (((w1.alloc (.cells #[.int .u8 0, .int .i16 0, .int .u8 0, .int .i16 0, .int .u8 0, .int .i16 0, .int .u8 0, .int .i16 0, .int .u8 0, .int .i16 0, .int .u8 0, .int .i16 0, .int .u8 0, .int .i16 0, .int .u8 0, .int .i16 0, .int .u8 0, .int .i16 0, .int .u8 0, .int .i16 0, .int .u8 0, .int .i16 0, .int .u8 0, .int .i16 0] 30)).setRow w1.heap.size (ccells x.1).toArray)).heap.size := F3.out.size
          have HRD : Hid (∀ j k y, Y[j]? = some (k, y) → ∃ g, G = some ⟨g, 0, none⟩ ∧ wq.heap.size < g ∧ g < w3.heap.size ∧ w3.cell? ⟨g, j * 2, none⟩ = some (.int .u8 k) ∧ w3.cell? ⟨g, j * 2 + 1, none⟩ = some (.int .i16 y)) := fun j k y h => by
            obtain ⟨g, e1, e2, e3⟩ := hrd j k y h
            exact ⟨g, e1, by omega, e3⟩
          have HYa := Lib.hid hYa
          have HYw := Lib.hid hYw
          clear hown hb3 hb13 hrd hbs hYe hYa hYw RG OB WB F1 F2 F3
          go_wp2_with fail
          go_loopw [36] (fun i wr => ∃ m : Nat, m ≤ Y.length ∧ i = .int .i64 m ∧ ∃ n3 E3, OwnsB wr wq.heap.size n3 E3 ∧ Holds E3 wfB kB (fun b => tot xs left b + cn * cntT Y m b) ∧ n3 ≤ n2 + m ∧ w3.grownBy wr (some wq.heap.size)) (fun i _ => Y.length - (intOf i).toNat)
          case atStart => exact ⟨0, by omega, rfl, n2, E, OB3.out, R3.out.congr (fun b _ => by simp [cntT]), by omega, World.grownBy_refl3 _ _⟩
          case round =>
            clear OB3
            obtain ⟨m, hm, rfl, n3, E3, q1, q2, q3, q4⟩ := hrel
            have S1 := Lib.hid q1
            have S2 := Lib.hid q2
            have S4 := Lib.hid q4
            clear q1 q2 q4
            by_cases hlt2 : m < Y.length
            · obtain ⟨⟨k1, y1⟩, hz⟩ : ∃ z, Y[m]? = some z := ⟨_, List.getElem?_eq_getElem hlt2⟩
              obtain ⟨g, rfl, hg1, hg2, hc1, hc2⟩ := HRD.out m _ _ hz
              have hwz := HYw.out _ (List.mem_of_getElem? hz)
              have hgb := S4.out.block g hg2 (by intro e; cases e; omega)
              have e1 := (World.cell?_of_block (a := ⟨g, m * 2, none⟩) hgb).trans hc1
              have e2 := (World.cell?_of_block (a := ⟨g, m * 2 + 1, none⟩) hgb).trans hc2
              have hm0 : (0 : Int) ≤ (m : Int) := Int.natCast_nonneg _
              have hm8 : (m : Int) < Y.length := by omega
              have HZ := Lib.hid hz
              have HWz := Lib.hid hwz
              clear hc1 hc2 hgb hz hwz hg1 hg2
              go_wp2_with fail
              have hbw : Below wr.heap.size wr (wr.alloc (.cells #[.int .u8 k1, .int .i16 y1] 26)).drew := ((Below.refl _ wr).alloc (Nat.le_refl _) _).drew
              have f1 : (wr.alloc (.cells #[.int .u8 k1, .int .i16 y1] 26)).drew.cell? ⟨wr.heap.size, 0, none⟩ = some (.int .u8 k1) := (new_cell2 _ _ _ _).1
              have f2 : (wr.alloc (.cells #[.int .u8 k1, .int .i16 y1] 26)).drew.cell? ⟨wr.heap.size, 1, none⟩ = some (.int .i16 y1) := (new_cell2 _ _ _ _).2
              have hown : OwnsB (wr.alloc (.cells #[.int .u8 k1, .int .i16 y1] 26)).drew wq.heap.size n3 E3 := S1.out.kept (grown_of_below hbw) (by simp)
              have hgr : w3.grownBy (wr.alloc (.cells #[.int .u8 k1, .int .i16 y1] 26)).drew (some wq.heap.size) := S4.out.andThen (grown_of_below hbw) (fun j hj => by cases hj)
              refine wp_region_any (by kernel_rfl) ?_
              change wpAny _ _ _ _ _ _ _ (World.drew _)
              obtain ⟨w2, hw2⟩ : ∃ w2, (wr.alloc (.cells #[.int .u8 k1, .int .i16 y1] 26)).drew = w2 := ⟨_, rfl⟩
              rw [hw2] at f1 f2 hown hgr ⊢
              clear hw2 hbw
              obtain ⟨c9, v0, st, w4, hat, hwf, hl1, hme, hl2, hst⟩ := entry_law hown Tryd.lawB Tryd.underlying100 Tryd.underlying2 Tryd.zeroI64 (by unfold maxLen; omega) (keyB (k1, y1) HWz.out)
              have hcn := S2.out.look (x := (k1, y1)) HWz.out hat
              have ht1 := tot_le xs left (k1, y1)
              have ht2 := cntT_le Y m (k1, y1)
              have ht3 : cn * cntT Y m (k1, y1) ≤ 12 * 12 := Nat.mul_le_mul (by omega) (by omega)
              obtain ⟨fb, hfb⟩ : ∃ n, tot xs left (k1, y1) + cn * cntT Y m (k1, y1) = n := ⟨_, rfl⟩
              have hfbl : fb ≤ 300 := by omega
              simp only [hfb] at hcn
              subst hcn
              obtain ⟨w5, hst2, hown5, hgr5⟩ := hst ((fb : Int) + (cn : Int)) (WalkArith.wf_i64 ⟨by omega, by omega⟩)
              have hput := S2.out.put (g := fun b => tot xs left b + cn * cntT Y (m + 1) b) (n := fb + cn) (size_ownsMap S1.out).2 (fun a b ha hb h => kB_inj ha hb h) (x := (k1, y1)) HWz.out (kB_is _) (by omega)
                (by show tot xs left (k1, y1) + cn * cntT Y (m + 1) (k1, y1) = fb + cn; rw [cntT_succ HZ.out, if_pos rfl, Nat.mul_succ]; omega)
                (fun y hy => by show tot xs left y + cn * cntT Y (m + 1) y = tot xs left y + cn * cntT Y m y; rw [cntT_succ HZ.out, if_neg (fun e => hy e.symm)]; rfl)
              rw [Int.natCast_add] at hput
              have HP := Lib.hid hput
              have HO := Lib.hid hown5
              have HG5 : Hid (w3.grownBy w5 (some wq.heap.size)) := hgr.andThen hgr5 (fun j hj => by cases hj; exact Or.inr rfl)
              have hs1 : IntKind.i64.wrap ((fb : Int) + (cn : Int)) = (fb : Int) + (cn : Int) := IntWalk.i64_in _ ⟨by omega, by omega⟩
              have hs2 : wrap64 ((fb : Int) + (cn : Int)) = (fb : Int) + (cn : Int) := IntWalk.wrap64_in _ ⟨by omega, by omega⟩
              have L1 := Lib.hid hl1
              have L2 := Lib.hid hl2
              have L3 := Lib.hid hme
              have L4 := Lib.hid hst2
              clear hl1 hl2 hme hst2 hfb ht1 ht2 ht3 hat hwf hput hown5 hgr5 hst hgr hown
              refine wpAny_take (i := 0) (v := .map (some wq.heap.size)) rfl (by kernel_rfl) (by kernel_rfl) (by kernel_rfl) (fun _ _ _ h => h) (Or.inl ⟨by rfl, fun w' => by go_simp⟩) ?_
              try simp only [Act.put, List.getElem_toArray, List.getElem_cons_zero, List.getElem_cons_succ, List.setIfInBounds_toArray, List.set_cons_zero, List.set_cons_succ]
              refine wpAny_take (i := 3) (v := .int .i64 (cn : Nat)) rfl (by kernel_rfl) (by kernel_rfl) (by kernel_rfl) (fun _ _ _ h => h) (Or.inl ⟨by rfl, fun w' => by go_simp⟩) ?_
              try simp only [Act.put, List.getElem_toArray, List.getElem_cons_zero, List.getElem_cons_succ, List.setIfInBounds_toArray, List.set_cons_zero, List.set_cons_succ]
              refine wpAny_ready (rs := [1]) (by kernel_rfl) (by simp) ?_
              refine AllReady.cons rfl (fun K hK => ?_) AllReady.nil
              refine if_wanted rfl ?_
              go_simp
              refine hK _ _ ?_
              clear hK K
              try simp only [Act.put, List.getElem_toArray, List.getElem_cons_zero, List.getElem_cons_succ, List.setIfInBounds_toArray, List.set_cons_zero, List.set_cons_succ]
              refine wpAny_ready (rs := [2, 5]) (by kernel_rfl) (by simp) ?_
              refine AllReady.cons rfl (fun K hK => ?_) (AllReady.cons rfl (fun K hK => ?_) AllReady.nil)
              · skip
                refine if_wanted rfl (wp_lookupR 100 (.tmp 40) (.tmp 41) rfl rfl rfl L1.out ?_)
                refine hK _ _ ?_
                clear hK K
                try simp only [Act.put, List.getElem_toArray, List.getElem_cons_zero, List.getElem_cons_succ, List.setIfInBounds_toArray, List.set_cons_zero, List.set_cons_succ]
                refine wpAny_take (i := 4) (v := .int .i64 ((fb : Int) + (cn : Int))) rfl (by kernel_rfl) (by kernel_rfl) (by kernel_rfl) (fun _ _ _ h => h) (Or.inl ⟨by rfl, fun w' => by go_simp⟩) ?_
                try simp only [Act.put, List.getElem_toArray, List.getElem_cons_zero, List.getElem_cons_succ, List.setIfInBounds_toArray, List.set_cons_zero, List.set_cons_succ]
                refine wpAny_ready (rs := [5]) (by kernel_rfl) (by simp) ?_
                refine AllReady.cons rfl (fun K hK => ?_) AllReady.nil
                refine if_wanted rfl (wp_mapEntryR 100 (.tmp 40) (.tmp 41) rfl rfl rfl L3.out ?_)
                refine hK _ _ ?_
                clear hK K
                try simp only [Act.put, List.getElem_toArray, List.getElem_cons_zero, List.getElem_cons_succ, List.setIfInBounds_toArray, List.set_cons_zero, List.set_cons_succ]
                refine wpAny_take (i := 6) (v := goInt st) rfl (by kernel_rfl) (by kernel_rfl) (by kernel_rfl) (fun _ _ _ h => h) (Or.inl ⟨by rfl, fun w' => by go_simp⟩) ?_
                try simp only [Act.put, List.getElem_toArray, List.getElem_cons_zero, List.getElem_cons_succ, List.setIfInBounds_toArray, List.set_cons_zero, List.set_cons_succ]
                refine wpAny_ready (rs := [7]) (by kernel_rfl) (by simp) ?_
                refine AllReady.cons rfl (fun K hK => ?_) AllReady.nil
                refine if_wanted rfl (wp_entryStoreR 100 (.tmp 40) (.tmp 46) (.tmp 44) rfl rfl rfl rfl L4.out ?_)
                refine hK _ _ ?_
                clear hK K
                try simp only [Act.put, List.getElem_toArray, List.getElem_cons_zero, List.getElem_cons_succ, List.setIfInBounds_toArray, List.set_cons_zero, List.set_cons_succ]
                refine wpAny_done (by kernel_rfl) ?_ _
                try simp only [Act.put, List.getElem_toArray, List.getElem_cons_zero, List.getElem_cons_succ, List.setIfInBounds_toArray, List.set_cons_zero, List.set_cons_succ]
                go_wp2
                go_roundw
                case rel => exact ⟨m + 1, by omega, by go_num, _, _, HO.out, HP.out, by omega, HG5.out⟩
                case measure => simp [intOf]; omega
              · skip
                refine if_wanted rfl (wp_mapEntryR 100 (.tmp 40) (.tmp 41) rfl rfl rfl L3.out ?_)
                refine hK _ _ ?_
                clear hK K
                try simp only [Act.put, List.getElem_toArray, List.getElem_cons_zero, List.getElem_cons_succ, List.setIfInBounds_toArray, List.set_cons_zero, List.set_cons_succ]
                refine wpAny_take (i := 6) (v := goInt st) rfl (by kernel_rfl) (by kernel_rfl) (by kernel_rfl) (fun _ _ _ h => h) (Or.inl ⟨by rfl, fun w' => by go_simp⟩) ?_
                try simp only [Act.put, List.getElem_toArray, List.getElem_cons_zero, List.getElem_cons_succ, List.setIfInBounds_toArray, List.set_cons_zero, List.set_cons_succ]
                refine wpAny_ready (rs := [2]) (by kernel_rfl) (by simp) ?_
                refine AllReady.cons rfl (fun K hK => ?_) AllReady.nil
                refine if_wanted rfl (wp_lookupR 100 (.tmp 40) (.tmp 41) rfl rfl rfl L2.out ?_)
                refine hK _ _ ?_
                clear hK K
                try simp only [Act.put, List.getElem_toArray, List.getElem_cons_zero, List.getElem_cons_succ, List.setIfInBounds_toArray, List.set_cons_zero, List.set_cons_succ]
                refine wpAny_take (i := 4) (v := .int .i64 ((fb : Int) + (cn : Int))) rfl (by kernel_rfl) (by kernel_rfl) (by kernel_rfl) (fun _ _ _ h => h) (Or.inl ⟨by rfl, fun w' => by go_simp⟩) ?_
                try simp only [Act.put, List.getElem_toArray, List.getElem_cons_zero, List.getElem_cons_succ, List.setIfInBounds_toArray, List.set_cons_zero, List.set_cons_succ]
                refine wpAny_ready (rs := [7]) (by kernel_rfl) (by simp) ?_
                refine AllReady.cons rfl (fun K hK => ?_) AllReady.nil
                refine if_wanted rfl (wp_entryStoreR 100 (.tmp 40) (.tmp 46) (.tmp 44) rfl rfl rfl rfl L4.out ?_)
                refine hK _ _ ?_
                clear hK K
                try simp only [Act.put, List.getElem_toArray, List.getElem_cons_zero, List.getElem_cons_succ, List.setIfInBounds_toArray, List.set_cons_zero, List.set_cons_succ]
                refine wpAny_done (by kernel_rfl) ?_ _
                try simp only [Act.put, List.getElem_toArray, List.getElem_cons_zero, List.getElem_cons_succ, List.setIfInBounds_toArray, List.set_cons_zero, List.set_cons_succ]
                go_wp2
                go_roundw
                case rel => exact ⟨m + 1, by omega, by go_num, _, _, HO.out, HP.out, by omega, HG5.out⟩
                case measure => simp [intOf]; omega
            · obtain rfl : m = Y.length := by omega
              have hG : w3.grownBy wr (some wq.heap.size) := S4.out
              have RG4 := RG3.out.kept hG (by simp; omega) (by simp)
              have hE : Holds E3 wfB kB (tot xs (fun z => left z && !z.sameKey (kC x.1))) := S2.out.congr (fun b _ => by rw [HStr.out b, HYa.out b])
              have hB5 : Below w.heap.size w wr := Below.growMap WB3.out hG WB3.out.size (by omega)
              have hms : cnt1 < cnt := hclt
              have HL0 := Lib.hid (RG4.left_eq)
              have HL1 := Lib.hid (R1x.out)
              have A1 := Lib.hid RG4
              have A2 := Lib.hid hE
              have A3 := Lib.hid hB5
              clear RG4 hE hB5 hG
              go_wp2
              go_roundw
              case rel => exact ⟨_, cnt1, n3, E3, A1.out, S1.out, A2.out, by omega, A3.out⟩
              case measure => rw [HL0.out, HL1.out]; exact hms
end Go.Proofs.YtcdhmlalpjcidaaDoor
