/-
  The contracts of eqInt64S at equal lists, of markInt64S and of heldInt64S. Condition: the lists are short, and lie as told.
-/
import Derived.Test.YtjiihdljchaeiaeDoorNa
import Derived.Test.YtjiihdljchaeiaeDoorFlat
import Derived.Deep.RegionHeld3
import Derived.WalkSmall
namespace Go.Proofs.YtjiihdljchaeiaeDoor
open Go.ChangeShapes Go.WideShapes Go.ChangeAt Go.RowKit Go.Deep

theorem own_read {w : World} {b : Nat} {e : TypeId} {v : Value} {xs : List Value} {n : Nat} (hn : n = xs.length) (h : w.ownsRow b e 1 v n xs) : ∃ A c, v = .slice A n c ∧ ∀ j x, xs[j]? = some x → ∃ g, A = some ⟨g, 0, none⟩ ∧ b ≤ g ∧ g < w.heap.size ∧ w.cell? ⟨g, j, none⟩ = some x := by
  subst hn
  rcases h.2 with ⟨rfl, h0⟩ | ⟨g, cap, cur, rfl, hb, hg, -, -, -, -⟩
  · refine ⟨none, 0, by rw [h0], fun j x hx => ?_⟩
    have := (List.getElem?_eq_some_iff.1 hx).1
    omega
  · refine ⟨some ⟨g, 0, none⟩, cap, rfl, fun j x hx => ⟨g, rfl, hb, (Array.getElem?_eq_some_iff.1 hg).1, ?_⟩⟩
    have hj := (List.getElem?_eq_some_iff.1 hx).1
    rw [h.cellAt j (by omega)]; exact hx
theorem nats_at {xs : List Nat} {k x : Nat} (h : xs[k]? = some x) : (nats xs)[k]? = some (.int .i64 (x : Int)) := by simp [nats, h]
theorem nats_len (xs : List Nat) : xs.length = (nats xs).length := by simp [nats]

set_option maxRecDepth 100000 in
set_option maxHeartbeats 1000000 in
theorem eqI_same (xs : List Nat) (b b' : Nat) (v v' : Value) (w : World) (hl : xs.length ≤ 1000) (h : w.ownsRow b 2 1 v xs.length (nats xs)) (h' : w.ownsRow b' 2 1 v' xs.length (nats xs)) :
    Calls Tryd.prog 10 #[v, v'] w fun e w' => e = .returned (.bool true) ∧ Below w.heap.size w w' := by
  obtain ⟨A, c, rfl, hA⟩ := own_read (nats_len xs) h
  obtain ⟨A', c', rfl, hA'⟩ := own_read (nats_len xs) h'
  have HA := Lib.hid hA
  have HA' := Lib.hid hA'
  clear h h' hA hA'
  go_enter Tryd.func10, Tryd.ntmps10
  go_wp2_with fail
  go_loopw [5] (fun i wr => ∃ (k : Nat), k ≤ xs.length ∧ i = .int .i64 k ∧ Below w.heap.size w wr) (fun i _ => xs.length - (intOf i).toNat)
  case atStart => exact ⟨0, by omega, rfl, Below.refl _ _⟩
  case round =>
    obtain ⟨k, hk, rfl, hT⟩ := hrel
    have HT := Lib.hid hT
    clear hT
    by_cases hlt : k < xs.length
    · obtain ⟨x, hx⟩ : ∃ x, xs[k]? = some x := ⟨_, List.getElem?_eq_getElem hlt⟩
      obtain ⟨g, rfl, -, hg, hc⟩ := HA.out k _ (nats_at hx)
      obtain ⟨g', rfl, -, hg', hc'⟩ := HA'.out k _ (nats_at hx)
      have e1 := (HT.out.cell (p := ⟨g, k, none⟩) hg).trans hc
      have e2 := (HT.out.cell (p := ⟨g', k, none⟩) hg').trans hc'
      have hk0 : (0 : Int) ≤ (k : Int) := Int.natCast_nonneg _
      have hk8 : (k : Int) < xs.length := by omega
      clear hx hc hc'
      go_wp2_with fail
      go_region_held3 (fun w' => w'.cell? ⟨g, k, none⟩ = some (.int .i64 x) ∧ w'.cell? ⟨g', k, none⟩ = some (.int .i64 x)) (go_keep) (fail)
      go_wp2
      go_roundw
      case rel => exact ⟨k + 1, by omega, by go_num, HT.out.drew⟩
      case measure => simp [intOf]; omega
    · obtain rfl : k = xs.length := by omega
      go_wp2
      go_ret
      exact ⟨rfl, HT.out⟩

/-- A list's cells hold numbers from k on. -/
def Marked (w : World) (A : Option Addr) (n : Nat) (k : Int) : Prop := ∀ j, j < n → ∃ g, A = some ⟨g, 0, none⟩ ∧ g < w.heap.size ∧ w.cell? ⟨g, j, none⟩ = some (.int .i64 (k + j))
theorem Marked.below {w w' : World} {A : Option Addr} {n : Nat} {k : Int} (h : Marked w A n k) (hb : Below w.heap.size w w') : Marked w' A n k := fun j hj => by
  obtain ⟨g, rfl, hg, hc⟩ := h j hj
  exact ⟨g, rfl, Nat.lt_of_lt_of_le hg hb.size, (hb.cell (p := ⟨g, j, none⟩) hg).trans hc⟩

set_option maxRecDepth 100000 in
set_option maxHeartbeats 1000000 in
theorem markI_any (n : Nat) (b : Nat) (A : Option Addr) (c : Nat) (xs : List Value) (w : World) (hl : n ≤ 1000) (h : w.ownsRow b 2 1 (.slice A n c) n xs) (hb : b ≤ w.heap.size) :
    Calls Tryd.prog 11 #[.slice A n c, .int .i64 1] w fun e w' => e = .returned (.int .i64 (1 + n)) ∧ Marked w' A n 1 ∧ Below b w w' := by
  rcases h.2 with ⟨hn, rfl⟩ | ⟨g, cap, cur, hv, hbg, hg, hnc, -, hsz, -⟩
  · clear h
    go_enter Tryd.func11, Tryd.ntmps11
    go_wp2
    refine wp_loop_rounds 1 ?_
    rw [rounds_succ]
    go_wp2
    go_ret
    exact ⟨rfl, fun j hj => absurd hj (by omega), Below.refl _ _⟩
  obtain ⟨rfl, rfl⟩ : A = some ⟨g, 0, none⟩ ∧ c = cap := by simpa using hv
  have hK : Blk w g 2 cur := hg
  have HK := Lib.hid hK
  have hcs : n ≤ cur.size := by omega
  clear h hv hg hK
  go_enter Tryd.func11, Tryd.ntmps11
  go_wp2_with fail
  go_loopw [1, 5] (fun s i wr => ∃ (k : Nat) (cu : Array Value), k ≤ n ∧ i = .int .i64 k ∧ s = .int .i64 (1 + k) ∧ Blk wr g 2 cu ∧ cu.size = cur.size ∧ (∀ j : Nat, j < k → cu[j]? = some (.int .i64 (1 + j))) ∧ Below b w wr) (fun _ i _ => n - (intOf i).toNat)
  case atStart => exact ⟨0, cur, by omega, rfl, rfl, HK.out, rfl, fun j h => absurd h (by omega), Below.refl _ _⟩
  case round =>
    clear HK
    obtain ⟨k, cu, hk, rfl, rfl, hB, hsz', hm, hT⟩ := hrel
    have HB := Lib.hid hB
    have HM := Lib.hid hm
    have HT := Lib.hid hT
    clear hB hT hm
    by_cases hlt : k < n
    · obtain ⟨u, hu⟩ : ∃ u, cu[k]? = some u := ⟨_, Array.getElem?_eq_getElem (by omega)⟩
      have e1 : wr.cell? ⟨g, k, none⟩ = some u := (HB.out.cell k).trans hu
      have e2 := HB.out.frozen k
      have hk0 : (0 : Int) ≤ (k : Int) := Int.natCast_nonneg _
      have hk8 : (k : Int) < n := by omega
      have hs1 : IntKind.i64.wrap (1 + (k : Int) + 1) = 1 + (k : Int) + 1 := IntWalk.i64_in _ ⟨by omega, by omega⟩
      have hs2 : wrap64 (1 + (k : Int) + 1) = 1 + (k : Int) + 1 := IntWalk.wrap64_in _ ⟨by omega, by omega⟩
      clear hu
      go_wp2
      go_roundw
      case rel =>
        refine ⟨k + 1, cu.setIfInBounds k (.int .i64 (1 + k)), by omega, by go_num, by rw [show (1 : Int) + ((k + 1 : Nat) : Int) = 1 + (k : Int) + 1 from by omega], HB.out.set_ k _, by simp [hsz'], fun j hj => ?_, HT.out.setCell (p := ⟨g, k, none⟩) hbg _⟩
        by_cases e : j = k
        · subst e; rw [Array.getElem?_setIfInBounds, if_pos rfl, if_pos (by omega)]
        · rw [Array.getElem?_setIfInBounds, if_neg (by omega)]; exact HM.out j (by omega)
      case measure => simp [intOf]; omega
    · obtain rfl : k = n := by omega
      go_wp2
      go_ret
      exact ⟨rfl, fun j hj => ⟨g, rfl, HB.out.lt, (HB.out.cell j).trans (HM.out j hj)⟩, HT.out⟩

set_option maxRecDepth 100000 in
set_option maxHeartbeats 1000000 in
theorem heldI_any (n : Nat) (A : Option Addr) (c : Nat) (w : World) (hl : n ≤ 1000) (h : Marked w A n 1) :
    Calls Tryd.prog 12 #[.slice A n c, .int .i64 1] w fun e w' => e = .returned (.int .i64 (1 + n)) ∧ w = w' := by
  have H := Lib.hid h
  clear h
  go_enter Tryd.func12, Tryd.ntmps12
  go_wp2_with fail
  go_loop [1, 5] (fun s i => ∃ (k : Nat), k ≤ n ∧ i = .int .i64 k ∧ s = .int .i64 (1 + k)) (fun _ i => n - (intOf i).toNat)
  case atStart => exact ⟨0, by omega, rfl, rfl⟩
  case round =>
    obtain ⟨k, hk, rfl, rfl⟩ := hrel
    by_cases hlt : k < n
    · obtain ⟨g, rfl, hg, hc⟩ := H.out k hlt
      have hk0 : (0 : Int) ≤ (k : Int) := Int.natCast_nonneg _
      have hk8 : (k : Int) < n := by omega
      have hs1 : IntKind.i64.wrap (1 + (k : Int) + 1) = 1 + (k : Int) + 1 := IntWalk.i64_in _ ⟨by omega, by omega⟩
      have hs2 : wrap64 (1 + (k : Int) + 1) = 1 + (k : Int) + 1 := IntWalk.wrap64_in _ ⟨by omega, by omega⟩
      go_wp2
      go_round
      case rel => exact ⟨k + 1, by omega, by go_num, by rw [show (1 : Int) + ((k + 1 : Nat) : Int) = 1 + (k : Int) + 1 from by omega]⟩
      case measure => simp [intOf]; omega
    · obtain rfl : k = n := by omega
      go_wp2
      go_ret
      exact ⟨rfl, rfl⟩
end Go.Proofs.YtjiihdljchaeiaeDoor
