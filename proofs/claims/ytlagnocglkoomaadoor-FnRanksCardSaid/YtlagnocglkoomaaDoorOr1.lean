/-
  slices.Sort at few int64: the contracts of cmp.Less, insertionSortOrdered, pdqsortOrdered. Condition: at most 12 numbers, in a block of the call's own.
-/
import Derived.Test.YtlagnocglkoomaaDoorOr0
import Derived.Test.YtlagnocglkoomaaDoorLi
import Derived.Test.YtlagnocglkoomaaDoorOw
import Derived.Deep.RegionHeld3
import Derived.OwnWalk
namespace Go.Proofs.YtlagnocglkoomaaDoor
open Go.ChangeShapes Go.WideShapes Go.ChangeAt Go.RowKit Go.Deep

theorem flat_i (xs : List Int) : xs.flatMap icells = xs.map fun n => Value.int .i64 n := by
  induction xs with
  | nil => rfl
  | cons x xs ih => rw [List.flatMap_cons, ih]; rfl
/-- A block that holds numbers, and may hold more cells behind them. -/
def OI (w : World) (g : Nat) (Z : List Int) (cap : Nat) : Prop := ∃ cur : Array Value, w.heap[g]? = some (.cells cur 2 (0, 0)) ∧ Z.length ≤ cap ∧ cap ≤ maxLen ∧ cur.size = cap * 1 ∧ cur.toList.take (Z.length * 1) = Z.flatMap icells
theorem OI.lt {w : World} {g cap : Nat} {Z : List Int} (h : OI w g Z cap) : g < w.heap.size := by
  obtain ⟨cur, hg, -⟩ := h
  exact (Array.getElem?_eq_some_iff.1 hg).1
theorem OI.cell {w : World} {g cap : Nat} {Z : List Int} (h : OI w g Z cap) {k : Nat} {x : Int} (hk : Z[k]? = some x) : w.cell? ⟨g, k, none⟩ = some (.int .i64 x) := by
  obtain ⟨cur, hg, -, -, -, ht⟩ := h
  rw [cell_of_row w g k cur _ (0, 0) hg]
  have hu : (Z.flatMap icells)[k]? = some (.int .i64 x) := by rw [flat_i, List.getElem?_map, hk]; rfl
  rw [← ht, List.getElem?_take] at hu
  split at hu
  · simpa using hu
  · cases hu
theorem OI.frozen {w : World} {g cap : Nat} {Z : List Int} (h : OI w g Z cap) (j : Nat) : w.frozen? ⟨g, j, none⟩ = false := by
  obtain ⟨cur, hg, -⟩ := h
  simp [World.frozen?, hg]
theorem OI.set {w : World} {g cap : Nat} {Z : List Int} (h : OI w g Z cap) (k : Nat) (x : Int) : OI (w.setCell ⟨g, k, none⟩ (.int .i64 x)) g (Z.set k x) cap := by
  obtain ⟨cur, hg, h2, h3, h4, h5⟩ := h
  refine ⟨cur.setIfInBounds k (.int .i64 x), ?_, by rw [List.length_set]; exact h2, h3, by simp [h4], ?_⟩
  · have hlt := (Array.getElem?_eq_some_iff.1 hg).1
    simp only [World.setCell, Array.getElem?_modify, if_true]
    rw [hg]
    simp
  · rw [Array.toList_setIfInBounds, List.length_set, List.take_set, h5, flat_i, flat_i, List.map_set]
theorem OI.own {w : World} {g cap base : Nat} {Z : List Int} (h : OI w g Z cap) (hb : base ≤ g) : w.ownsRow base 2 1 (.slice (some ⟨g, 0, none⟩) Z.length cap) Z.length (Z.flatMap icells) := by
  obtain ⟨cur, hg, h2, h3, h4, h5⟩ := h
  exact ⟨by rw [flat_i, List.length_map]; omega, .inr ⟨g, cap, cur, rfl, hb, hg, h2, h3, h4, h5⟩⟩
theorem OI.of {w : World} {base : Nat} {v : Value} {Z : List Int} (h : w.ownsRow base 2 1 v Z.length (Z.flatMap icells)) : (v = .slice none 0 0 ∧ Z = []) ∨ ∃ g cap, v = .slice (some ⟨g, 0, none⟩) Z.length cap ∧ base ≤ g ∧ OI w g Z cap := by
  obtain ⟨-, ⟨rfl, h0⟩ | ⟨g, cap, cur, rfl, hb, hg, h2, h3, h4, h5⟩⟩ := h
  · exact .inl ⟨rfl, List.eq_nil_of_length_eq_zero h0⟩
  · exact .inr ⟨g, cap, rfl, hb, cur, hg, h2, h3, h4, h5⟩

theorem isNaNI_any (x : Int) (w : World) : Calls Tryd.prog 83 #[.int .i64 x] w fun e w' => e = .returned (.bool false) ∧ w = w' := by
  have hx : (x == x) = true := by simp
  go_enter Tryd.func83, Tryd.ntmps83
  go_wp2
  go_ret
  exact ⟨ret_bool (by simp), rfl⟩
theorem lessI_any (x y : Int) (w : World) : Calls Tryd.prog 72 #[.int .i64 x, .int .i64 y] w fun e w' => e = .returned (.bool (decide (x < y))) ∧ w = w' := by
  go_enter Tryd.func72, Tryd.ntmps72
  go_wp2_with fail
  refine (isNaNI_any x _).mono ?_
  rintro e w1 ⟨rfl, rfl⟩
  by_cases h : x < y
  · go_wp2
    go_ret
    exact ⟨ret_bool (by simp [h]), rfl⟩
  · go_wp2
    go_ret
    exact ⟨ret_bool (by simp [h]), rfl⟩

set_option maxRecDepth 100000 in
set_option maxHeartbeats 4000000 in
theorem insertionI_any (X : List Int) (hl : X.length ≤ 12) (g cap : Nat) (w : World) (h : OI w g X cap) :
    Calls Tryd.prog 66 #[.slice (some ⟨g, 0, none⟩) X.length cap, .int .i64 0, .int .i64 X.length] w fun e w' => (∃ v, e = .returned v) ∧ ∃ Y, Y.Perm X ∧ srt Y ∧ OI w' g Y cap ∧ Below g w w' := by
  have H := Lib.hid h
  clear h
  have hxl : (0 : Int) ≤ (X.length : Int) := Int.natCast_nonneg _
  go_enter Tryd.func66, Tryd.ntmps66
  go_wp2_with fail
  go_loopw [6] (fun i wr => ∃ (k : Nat) (Z : List Int), 1 ≤ k ∧ (k : Int) ≤ X.length + 1 ∧ i = .int .i64 k ∧ Z.Perm X ∧ srtU Z k ∧ OI wr g Z cap ∧ Below g w wr) (fun i _ => X.length + 1 - (intOf i).toNat)
  case atStart => exact ⟨1, X, by omega, by omega, rfl, List.Perm.refl _, fun p q x y h1 h2 => by omega, H.out, Below.refl _ _⟩
  case round =>
    clear H
    obtain ⟨k, Z, hk1, hk2, rfl, q1, q2, q3, q4⟩ := hrel
    obtain ⟨wa, rfl⟩ : ∃ u, u = wr := ⟨_, rfl⟩
    have Q1 := Lib.hid q1
    have Q2 := Lib.hid q2
    have Q3 := Lib.hid q3
    have Q4 := Lib.hid q4
    have QL := Lib.hid q1.length_eq
    have hgl := q3.lt
    clear q1 q2 q3 q4
    have hk0 : (0 : Int) ≤ (k : Int) := Int.natCast_nonneg _
    by_cases hlt : k < X.length
    · have hk8 : (k : Int) < X.length := by omega
      have HI0 := Lib.hid (srtU.begin Q2.out)
      go_wp2_with fail
      go_loopw [7] (fun j w2 => ∃ (kk : Nat) (Z2 : List Int), kk ≤ k ∧ j = .int .i64 kk ∧ Z2.Perm X ∧ srtX Z2 k kk ∧ OI w2 g Z2 cap ∧ Below g w w2) (fun j _ => (intOf j).toNat)
      case atStart => exact ⟨k, Z, Nat.le_refl _, rfl, Q1.out, HI0.out, Q3.out, Q4.out⟩
      case round =>
        clear HI0 Q1 Q2 Q3 Q4 QL
        obtain ⟨kk, Z2, hkk, rfl, q1, q2, q3, q4⟩ := hrel
        obtain ⟨wb, rfl⟩ : ∃ u, u = wr := ⟨_, rfl⟩
        have Q1 := Lib.hid q1
        have Q2 := Lib.hid q2
        have Q3 := Lib.hid q3
        have Q4 := Lib.hid q4
        have QL := Lib.hid q1.length_eq
        have hkl : kk < Z2.length := by have := q1.length_eq; omega
        have hK0 : (0 : Int) ≤ (kk : Int) := Int.natCast_nonneg _
        have hK8 : (kk : Int) < X.length := by omega
        clear q1 q2 q3 q4
        by_cases hz : kk = 0
        · subst hz
          have HD := Lib.hid (srtX.done Q2.out (by omega) (.inl rfl))
          go_wp2_with fail
          go_region
          go_wp2
          go_roundw
          case rel => exact ⟨k + 1, Z2, by omega, by omega, by go_num, Q1.out, HD.out, Q3.out, by first | exact Q4.out | exact Q4.out.drew⟩
          case measure => simp [intOf]; omega
        · obtain ⟨m, hm⟩ : ∃ m, m + 1 = kk := ⟨kk - 1, by omega⟩
          obtain ⟨a, ha⟩ : ∃ q, Z2[m]? = some q := ⟨_, List.getElem?_eq_getElem (by omega)⟩
          obtain ⟨b, hb⟩ : ∃ q, Z2[kk]? = some q := ⟨_, List.getElem?_eq_getElem (by omega)⟩
          have c1 := Q3.out.cell ha
          have c2 := Q3.out.cell hb
          have hM0 : (0 : Int) ≤ (m : Int) := Int.natCast_nonneg _
          have hM8 : (m : Int) < X.length := by omega
          have hKp : (0 : Int) < (kk : Int) := by omega
          have hKn : 0 < kk := by omega
          have hKs : (kk : Int) - 1 = m := by omega
          have hKw : IntKind.i64.wrap (m : Int) = m := IntWalk.i64_in _ ⟨by omega, by omega⟩
          have hKw2 : wrap64 (m : Int) = m := IntWalk.wrap64_in _ ⟨by omega, by omega⟩
          have hs0 : Below wb.heap.size wb wb := Below.refl _ _
          have ha' : Z2[kk - 1]? = some a := by rw [← hm]; exact ha
          have HAB := Lib.hid ha'
          have HBB := Lib.hid hb
          have HM : Hid (m = kk - 1) := by show _ = _; omega
          have hmk : m ≠ kk := by omega
          clear ha hb hz hm ha'
          by_cases hneg : b < a
          · have HSt : Hid (srtX (swp Z2 kk a b) k m) := by show srtX _ _ _; rw [HM.out]; exact Q2.out.swap hKn hkk hkl HAB.out HBB.out hneg
            have HPm : Hid ((swp Z2 kk a b).Perm X) := (swp_perm hKn hkl HAB.out HBB.out).trans Q1.out
            go_wp2_with fail
            go_region_held3 (fun w' => w'.cell? ⟨g, kk, none⟩ = some (.int .i64 b) ∧ w'.cell? ⟨g, m, none⟩ = some (.int .i64 a) ∧ Below wb.heap.size wb w') ((refine ⟨?_, ?_, ?_⟩ <;> (first | assumption | exact Below.drew ‹_› | (simp [*]; done))))
              (first
                | (go_at_call 72; refine (lessI_any _ _ _).mono ?_; rintro e w3 ⟨rfl, rfl⟩))
            have D1 : OI wb.drew g Z2 cap := Q3.out
            have D3 : Below g w wb.drew := Q4.out.drew
            obtain ⟨W2, hW2⟩ : ∃ W, wb.drew = W := ⟨_, rfl⟩
            rw [hW2] at D1 D3 ⊢
            have p1 := D1.cell HBB.out
            have p2 : W2.cell? ⟨g, m, none⟩ = some (.int .i64 a) := D1.cell (by rw [HM.out]; exact HAB.out)
            have f1 := D1.frozen kk
            have f2 := D1.frozen m
            have m1 : OI ((W2.setCell ⟨g, kk, none⟩ (.int .i64 a)).setCell ⟨g, m, none⟩ (.int .i64 b)) g (swp Z2 kk a b) cap := by
              have := (D1.set kk a).set m b
              rw [swp, ← HM.out]; exact this
            have mb : Below g w ((W2.setCell ⟨g, kk, none⟩ (.int .i64 a)).setCell ⟨g, m, none⟩ (.int .i64 b)) := (D3.setCell (p := ⟨g, kk, none⟩) (Nat.le_refl _) _).setCell (p := ⟨g, m, none⟩) (Nat.le_refl _) _
            have mb2 : Below g w ((W2.drew.setCell ⟨g, kk, none⟩ (.int .i64 a)).setCell ⟨g, m, none⟩ (.int .i64 b)) := (D3.drew.setCell (p := ⟨g, kk, none⟩) (Nat.le_refl _) _).setCell (p := ⟨g, m, none⟩) (Nat.le_refl _) _
            have M1 := Lib.hid m1
            have MB := Lib.hid mb
            have MB2 := Lib.hid mb2
            clear D1 D3 m1 mb mb2 hW2 c1 c2 hs0 hneg
            go_wp2_with fail
            go_region
            go_wp2
            go_roundw
            case rel => exact ⟨m, swp Z2 kk a b, by omega, by go_num, HPm.out, HSt.out, by first | exact M1.out | exact M1.out.drew, by first | exact MB.out | exact MB.out.drew | exact MB2.out⟩
            case measure => simp [intOf]; omega
          · have HD : Hid (srtU Z2 (k + 1)) := Q2.out.done hkk (.inr (fun x y hx hy => by
              obtain rfl := Option.some.inj (HAB.out.symm.trans hx)
              obtain rfl := Option.some.inj (HBB.out.symm.trans hy)
              omega))
            go_wp2_with fail
            go_region_held3 (fun w' => w'.cell? ⟨g, kk, none⟩ = some (.int .i64 b) ∧ w'.cell? ⟨g, m, none⟩ = some (.int .i64 a) ∧ Below wb.heap.size wb w') ((refine ⟨?_, ?_, ?_⟩ <;> (first | assumption | exact Below.drew ‹_› | (simp [*]; done))))
              (first
                | (go_at_call 72; refine (lessI_any _ _ _).mono ?_; rintro e w3 ⟨rfl, rfl⟩))
            go_wp2
            go_roundw
            case rel => exact ⟨k + 1, Z2, by omega, by omega, by go_num, Q1.out, HD.out, Q3.out, by first | exact Q4.out | exact Q4.out.drew⟩
            case measure => simp [intOf]; omega
    · have hge : ¬ (k : Int) < X.length := by omega
      have HSrt : Hid (srt Z) := fun p q x y h1 hx hy => Q2.out p q x y h1 (by have := (List.getElem?_eq_some_iff.1 hy).1; have := QL.out; omega) hx hy
      go_wp2
      go_end0
      exact ⟨⟨_, rfl⟩, Z, Q1.out, HSrt.out, Q3.out, Q4.out⟩

set_option maxRecDepth 100000 in
set_option maxHeartbeats 4000000 in
theorem pdqI_any (X : List Int) (hl : X.length ≤ 12) (g cap : Nat) (r : Int) (w : World) (h : OI w g X cap) :
    Calls Tryd.prog 62 #[.slice (some ⟨g, 0, none⟩) X.length cap, .int .i64 0, .int .i64 X.length, .int .i64 r] w fun e w' => (∃ v, e = .returned v) ∧ ∃ Y, Y.Perm X ∧ srt Y ∧ OI w' g Y cap ∧ Below g w w' := by
  have HC := Lib.hid (insertionI_any X hl g cap w h)
  have hxl : (0 : Int) ≤ (X.length : Int) := Int.natCast_nonneg _
  have h12 : (X.length : Int) ≤ 12 := by omega
  have hw1 : IntKind.i64.wrap (X.length : Int) = X.length := IntWalk.i64_in _ ⟨by omega, by omega⟩
  have hw2 : wrap64 (X.length : Int) = X.length := IntWalk.wrap64_in _ ⟨by omega, by omega⟩
  clear h
  go_enter Tryd.func62, Tryd.ntmps62
  go_wp2_with fail
  refine wp_loop_rounds 1 ?_
  rw [rounds_succ]
  go_wp2_with fail
  refine HC.out.mono ?_
  rintro e w1 ⟨⟨v, rfl⟩, Y, h1, h2, h3, h4⟩
  have H1 := Lib.hid h1
  have H2 := Lib.hid h2
  have H3 := Lib.hid h3
  have H4 := Lib.hid h4
  clear h1 h2 h3 h4 HC
  go_wp2
  refine bodyPost_ret (results_none rfl _ _ _) rfl ?_
  exact ⟨⟨_, rfl⟩, Y, H1.out, H2.out, H3.out, H4.out⟩
set_option maxRecDepth 100000 in
set_option maxHeartbeats 4000000 in
theorem len64_some (n : Nat) (hn : n ≤ 12) (w : World) : Calls Tryd.prog 76 #[.int .u64 n] w fun e w' => (∃ r : Int, e = .returned (.int .i64 r)) ∧ w = w' := by
  have h : n = 0 ∨ n = 1 ∨ n = 2 ∨ n = 3 ∨ n = 4 ∨ n = 5 ∨ n = 6 ∨ n = 7 ∨ n = 8 ∨ n = 9 ∨ n = 10 ∨ n = 11 ∨ n = 12 := by omega
  rcases h with rfl | rfl | rfl | rfl | rfl | rfl | rfl | rfl | rfl | rfl | rfl | rfl | rfl <;>
  (go_enter Tryd.func76, Tryd.ntmps76
   go_wp2
   go_ret
   exact ⟨⟨_, rfl⟩, rfl⟩)
end Go.Proofs.YtlagnocglkoomaaDoor
