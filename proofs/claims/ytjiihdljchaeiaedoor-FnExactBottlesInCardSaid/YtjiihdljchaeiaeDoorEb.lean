/-
  The contracts of eqBottleS at equal lists, of markBottleS and of heldBottleS. Condition: the lists are short, and lie as told.
-/
import Derived.Test.YtjiihdljchaeiaeDoorAo
import Derived.Test.YtjiihdljchaeiaeDoorR
import Derived.Test.YtjiihdljchaeiaeDoorFlat
import Derived.Deep.RegionHeld3
import Derived.WalkSmall
namespace Go.Proofs.YtjiihdljchaeiaeDoor
open Go.ChangeShapes Go.WideShapes Go.ChangeAt Go.RowKit Go.Deep

theorem own_readB {w : World} {b : Nat} {e : TypeId} {v : Value} {X : List Bot} (h : w.ownsRow b e 2 v X.length (ccells X)) : ∃ A c, v = .slice A X.length c ∧ ∀ j k y, X[j]? = some (k, y) → ∃ g, A = some ⟨g, 0, none⟩ ∧ b ≤ g ∧ g < w.heap.size ∧ w.cell? ⟨g, j * 2, none⟩ = some (.int .u8 k) ∧ w.cell? ⟨g, j * 2 + 1, none⟩ = some (.int .i16 y) := by
  rcases h.2 with ⟨rfl, h0⟩ | ⟨g, cap, cur, rfl, hb, hg, -, -, -, -⟩
  · refine ⟨none, 0, by rw [h0], fun j k y hx => ?_⟩
    have := (List.getElem?_eq_some_iff.1 hx).1
    omega
  · refine ⟨some ⟨g, 0, none⟩, cap, rfl, fun j k y hx => ?_⟩
    obtain ⟨hj, he⟩ := List.getElem?_eq_some_iff.1 hx
    refine ⟨g, rfl, hb, (Array.getElem?_eq_some_iff.1 hg).1, ?_, ?_⟩
    · rw [h.cellAt (j * 2) (by omega), Nat.mul_comm, ccells_even X j hj, he]
    · rw [h.cellAt (j * 2 + 1) (by omega), Nat.mul_comm, ccells_odd X j hj, he]

theorem keptE {W0 w1 w2 : World} {g g' o : Nat} {k y : Int} (hg : g < W0.heap.size) (hg' : g' < W0.heap.size) (h : Below W0.heap.size W0 w1) (hb : Below w1.heap.size w1 w2)
    (a0 : w1.cell? ⟨g, o, none⟩ = some (.int .u8 k)) (a1 : w1.cell? ⟨g, o + 1, none⟩ = some (.int .i16 y)) (b0 : w1.cell? ⟨g', o, none⟩ = some (.int .u8 k)) (b1 : w1.cell? ⟨g', o + 1, none⟩ = some (.int .i16 y)) :
    w2.cell? ⟨g, o, none⟩ = some (.int .u8 k) ∧ w2.cell? ⟨g, o + 1, none⟩ = some (.int .i16 y) ∧ w2.cell? ⟨g', o, none⟩ = some (.int .u8 k) ∧ w2.cell? ⟨g', o + 1, none⟩ = some (.int .i16 y) ∧ Below W0.heap.size W0 w2 := by
  have hs := h.size
  exact ⟨(hb.cell (p := ⟨g, o, none⟩) (by show g < _; omega)).trans a0, (hb.cell (p := ⟨g, o + 1, none⟩) (by show g < _; omega)).trans a1, (hb.cell (p := ⟨g', o, none⟩) (by show g' < _; omega)).trans b0,
    (hb.cell (p := ⟨g', o + 1, none⟩) (by show g' < _; omega)).trans b1, h.trans (hb.mono hs)⟩

set_option maxRecDepth 100000 in
set_option maxHeartbeats 2000000 in
theorem eqBs_same (X : List Bot) (b b' : Nat) (v v' : Value) (w : World) (hl : X.length ≤ 1000) (h : w.ownsRow b 29 2 v X.length (ccells X)) (h' : w.ownsRow b' 29 2 v' X.length (ccells X)) :
    Calls Tryd.prog 15 #[v, v'] w fun e w' => e = .returned (.bool true) ∧ Below w.heap.size w w' := by
  obtain ⟨A, c, rfl, hA⟩ := own_readB h
  obtain ⟨A', c', rfl, hA'⟩ := own_readB h'
  have HA := Lib.hid hA
  have HA' := Lib.hid hA'
  clear h h' hA hA'
  go_enter Tryd.func15, Tryd.ntmps15
  go_wp2_with fail
  go_loopw [5] (fun i wr => ∃ (k : Nat), k ≤ X.length ∧ i = .int .i64 k ∧ Below w.heap.size w wr) (fun i _ => X.length - (intOf i).toNat)
  case atStart => exact ⟨0, by omega, rfl, Below.refl _ _⟩
  case round =>
    obtain ⟨k, hk, rfl, hT⟩ := hrel
    have HT := Lib.hid hT
    clear hT
    by_cases hlt : k < X.length
    · obtain ⟨⟨x, y⟩, hx⟩ : ∃ x, X[k]? = some x := ⟨_, List.getElem?_eq_getElem hlt⟩
      obtain ⟨g, rfl, -, hg, hc, hd⟩ := HA.out k x y hx
      obtain ⟨g', rfl, -, hg', hc', hd'⟩ := HA'.out k x y hx
      have e1 := (HT.out.cell (p := ⟨g, k * 2, none⟩) hg).trans hc
      have e2 := (HT.out.cell (p := ⟨g, k * 2 + 1, none⟩) hg).trans hd
      have e3 := (HT.out.cell (p := ⟨g', k * 2, none⟩) hg').trans hc'
      have e4 := (HT.out.cell (p := ⟨g', k * 2 + 1, none⟩) hg').trans hd'
      have hg1 : g < wr.heap.size := Nat.lt_of_lt_of_le hg HT.out.size
      have hg2 : g' < wr.heap.size := Nat.lt_of_lt_of_le hg' HT.out.size
      have hk0 : (0 : Int) ≤ (k : Int) := Int.natCast_nonneg _
      have hk8 : (k : Int) < X.length := by omega
      have hs0 : Below wr.heap.size wr wr := Below.refl _ _
      clear hx hc hc' hd hd'
      go_wp2_with fail
      go_region_held3 (fun w' => w'.cell? ⟨g, k * 2, none⟩ = some (.int .u8 x) ∧ w'.cell? ⟨g, k * 2 + 1, none⟩ = some (.int .i16 y) ∧ w'.cell? ⟨g', k * 2, none⟩ = some (.int .u8 x) ∧ w'.cell? ⟨g', k * 2 + 1, none⟩ = some (.int .i16 y) ∧ Below wr.heap.size wr w') ((refine ⟨?_, ?_, ?_, ?_, ?_⟩ <;> (first | assumption | exact Below.drew ‹_› | (simp [*]; done))))
        (first
          | (go_at_call 33; refine (eqBottle_same _ _ _).mono ?_; rintro e w2 ⟨rfl, hb⟩; obtain ⟨r0, r1, r2, r3, r4⟩ := keptE (g := g) (g' := g') (o := k * 2) (k := x) (y := y) hg1 hg2 (by first | assumption | exact Below.drew (by assumption)) hb (by assumption) (by assumption) (by assumption) (by assumption)))
      have HR : Hid (Below wr.heap.size wr w2) := (by assumption : Below wr.heap.size wr w2)
      go_wp2
      go_roundw
      case rel => exact ⟨k + 1, by omega, by go_num, HT.out.trans (HR.out.mono HT.out.size)⟩
      case measure => simp [intOf]; omega
    · obtain rfl : k = X.length := by omega
      go_wp2
      go_ret
      exact ⟨rfl, HT.out⟩

/-- A list's cells hold numbers from 1 on. -/
def MarkedB (w : World) (A : Option Addr) (n : Nat) : Prop := ∀ j : Nat, j < n → ∃ g, A = some ⟨g, 0, none⟩ ∧ g < w.heap.size ∧ w.cell? ⟨g, j * 2, none⟩ = some (.int .u8 (1 + 2 * j)) ∧ w.cell? ⟨g, j * 2 + 1, none⟩ = some (.int .i16 (1 + 2 * j + 1))
theorem MarkedB.below {w w' : World} {A : Option Addr} {n : Nat} (h : MarkedB w A n) (hb : Below w.heap.size w w') : MarkedB w' A n := fun j hj => by
  obtain ⟨g, rfl, hg, hc, hd⟩ := h j hj
  exact ⟨g, rfl, Nat.lt_of_lt_of_le hg hb.size, (hb.cell (p := ⟨g, j * 2, none⟩) hg).trans hc, (hb.cell (p := ⟨g, j * 2 + 1, none⟩) hg).trans hd⟩

set_option maxRecDepth 100000 in
set_option maxHeartbeats 2000000 in
theorem markB_any (n : Nat) (b : Nat) (A : Option Addr) (c : Nat) (xs : List Value) (w : World) (hl : n ≤ 100) (h : w.ownsRow b 29 2 (.slice A n c) n xs) (hb : b ≤ w.heap.size) :
    Calls Tryd.prog 16 #[.slice A n c, .int .i64 1] w fun e w' => e = .returned (.int .i64 (1 + 2 * n)) ∧ MarkedB w' A n ∧ Below b w w' := by
  rcases h.2 with ⟨hn, rfl⟩ | ⟨g, cap, cur, hv, hbg, hg, hnc, -, hsz, -⟩
  · clear h
    go_enter Tryd.func16, Tryd.ntmps16
    go_wp2
    refine wp_loop_rounds 1 ?_
    rw [rounds_succ]
    go_wp2
    go_ret
    exact ⟨rfl, fun j hj => absurd hj (by omega), Below.refl _ _⟩
  obtain ⟨rfl, rfl⟩ : A = some ⟨g, 0, none⟩ ∧ c = cap := by simpa using hv
  have hK : Blk w g 29 cur := hg
  have HK := Lib.hid hK
  have hcs : n * 2 ≤ cur.size := by omega
  clear h hv hg hK
  go_enter Tryd.func16, Tryd.ntmps16
  go_wp2_with fail
  go_loopw [1, 5] (fun s i wr => ∃ (k : Nat) (cu : Array Value), k ≤ n ∧ i = .int .i64 k ∧ s = .int .i64 (1 + 2 * k) ∧ Blk wr g 29 cu ∧ cu.size = cur.size ∧ (∀ j : Nat, j < k → cu[j * 2]? = some (.int .u8 (1 + 2 * j)) ∧ cu[j * 2 + 1]? = some (.int .i16 (1 + 2 * j + 1))) ∧ Below b w wr) (fun _ i _ => n - (intOf i).toNat)
  case atStart => exact ⟨0, cur, by omega, rfl, rfl, HK.out, rfl, fun j h => absurd h (by omega), Below.refl _ _⟩
  case round =>
    clear HK
    obtain ⟨k, cu, hk, rfl, rfl, hB, hsz', hm, hT⟩ := hrel
    have HB := Lib.hid hB
    have HM := Lib.hid hm
    have HT := Lib.hid hT
    have HS := Lib.hid hsz'
    clear hB hT hm hsz'
    obtain ⟨m, hmm⟩ : ∃ m : Int, 1 + 2 * (k : Int) = m := ⟨_, rfl⟩
    have HMM := Lib.hid hmm
    rw [hmm]
    by_cases hlt : k < n
    · obtain ⟨u, hu⟩ : ∃ u, cu[k * 2]? = some u := ⟨_, Array.getElem?_eq_getElem (by have := HS.out; omega)⟩
      obtain ⟨u', hu'⟩ : ∃ u, cu[k * 2 + 1]? = some u := ⟨_, Array.getElem?_eq_getElem (by have := HS.out; omega)⟩
      have e1 : wr.cell? ⟨g, k * 2, none⟩ = some u := (HB.out.cell _).trans hu
      have e2 := HB.out.frozen (k * 2)
      have e3 : wr.cell? ⟨g, k * 2 + 1, none⟩ = some u' := (HB.out.cell _).trans hu'
      have e4 := HB.out.frozen (k * 2 + 1)
      have hk0 : (0 : Int) ≤ (k : Int) := Int.natCast_nonneg _
      have hk8 : (k : Int) < n := by omega
      have hw1 : IntKind.u8.wrap m = m := IntWalk.u8_in _ ⟨by omega, by omega⟩
      have hw2 : IntKind.i16.wrap (m + 1) = m + 1 := IntWalk.i16_in _ ⟨by omega, by omega⟩
      have hs1 : IntKind.i64.wrap (m + 1) = m + 1 := IntWalk.i64_in _ ⟨by omega, by omega⟩
      have hs2 : wrap64 (m + 1) = m + 1 := IntWalk.wrap64_in _ ⟨by omega, by omega⟩
      have hs3 : IntKind.i64.wrap (m + 1 + 1) = m + 1 + 1 := IntWalk.i64_in _ ⟨by omega, by omega⟩
      have hs4 : wrap64 (m + 1 + 1) = m + 1 + 1 := IntWalk.wrap64_in _ ⟨by omega, by omega⟩
      clear hu hu' hmm
      go_wp2
      go_roundw
      case rel =>
        have hmm := HMM.out
        refine ⟨k + 1, (cu.setIfInBounds (k * 2) (.int .u8 m)).setIfInBounds (k * 2 + 1) (.int .i16 (m + 1)), by omega, by go_num, by rw [show (1 : Int) + 2 * ((k + 1 : Nat) : Int) = m + 1 + 1 from by omega], (HB.out.set_ (k * 2) _).set_ (k * 2 + 1) _, by simp [HS.out], fun j hj => ?_, (HT.out.setCell (p := ⟨g, k * 2, none⟩) hbg _).setCell (p := ⟨g, k * 2 + 1, none⟩) hbg _⟩
        have hsz2 := HS.out
        by_cases e : j = k
        · subst e
          rw [hmm]
          constructor
          · rw [Array.getElem?_setIfInBounds, if_neg (by omega), Array.getElem?_setIfInBounds, if_pos rfl, if_pos (by omega)]
          · rw [Array.getElem?_setIfInBounds, if_pos rfl, if_pos (by simp; omega)]
        · obtain ⟨m1, m2⟩ := HM.out j (by omega)
          constructor
          · rw [Array.getElem?_setIfInBounds, if_neg (by omega), Array.getElem?_setIfInBounds, if_neg (by omega)]; exact m1
          · rw [Array.getElem?_setIfInBounds, if_neg (by omega), Array.getElem?_setIfInBounds, if_neg (by omega)]; exact m2
      case measure => simp [intOf]; omega
    · obtain rfl : k = n := by omega
      go_wp2
      go_ret
      exact ⟨by rw [HMM.out]; rfl, fun j hj => ⟨g, rfl, HB.out.lt, (HB.out.cell _).trans (HM.out j hj).1, (HB.out.cell _).trans (HM.out j hj).2⟩, HT.out⟩

set_option maxRecDepth 100000 in
set_option maxHeartbeats 2000000 in
theorem heldB_any (n : Nat) (A : Option Addr) (c : Nat) (w : World) (hl : n ≤ 100) (h : MarkedB w A n) :
    Calls Tryd.prog 17 #[.slice A n c, .int .i64 1] w fun e w' => e = .returned (.int .i64 (1 + 2 * n)) ∧ w = w' := by
  have H := Lib.hid h
  clear h
  go_enter Tryd.func17, Tryd.ntmps17
  go_wp2_with fail
  go_loop [1, 5] (fun s i => ∃ (k : Nat), k ≤ n ∧ i = .int .i64 k ∧ s = .int .i64 (1 + 2 * k)) (fun _ i => n - (intOf i).toNat)
  case atStart => exact ⟨0, by omega, rfl, rfl⟩
  case round =>
    obtain ⟨k, hk, rfl, rfl⟩ := hrel
    obtain ⟨m, hmm⟩ : ∃ m : Int, 1 + 2 * (k : Int) = m := ⟨_, rfl⟩
    have HMM := Lib.hid hmm
    by_cases hlt : k < n
    · obtain ⟨g, rfl, hg, hc, hd⟩ := H.out k hlt
      rw [hmm] at hc hd ⊢
      have hk0 : (0 : Int) ≤ (k : Int) := Int.natCast_nonneg _
      have hk8 : (k : Int) < n := by omega
      have hw1 : IntKind.u8.wrap m = m := IntWalk.u8_in _ ⟨by omega, by omega⟩
      have hw2 : IntKind.i16.wrap (m + 1) = m + 1 := IntWalk.i16_in _ ⟨by omega, by omega⟩
      have hs1 : IntKind.i64.wrap (m + 1) = m + 1 := IntWalk.i64_in _ ⟨by omega, by omega⟩
      have hs2 : wrap64 (m + 1) = m + 1 := IntWalk.wrap64_in _ ⟨by omega, by omega⟩
      have hs3 : IntKind.i64.wrap (m + 1 + 1) = m + 1 + 1 := IntWalk.i64_in _ ⟨by omega, by omega⟩
      have hs4 : wrap64 (m + 1 + 1) = m + 1 + 1 := IntWalk.wrap64_in _ ⟨by omega, by omega⟩
      clear hmm
      go_wp2
      go_round
      case rel => exact ⟨k + 1, by omega, by go_num, by have := HMM.out; rw [show (1 : Int) + 2 * ((k + 1 : Nat) : Int) = m + 1 + 1 from by omega]⟩
      case measure => simp [intOf]; omega
    · obtain rfl : k = n := by omega
      clear hmm
      go_wp2
      go_ret
      exact ⟨rfl, rfl⟩
end Go.Proofs.YtjiihdljchaeiaeDoor
