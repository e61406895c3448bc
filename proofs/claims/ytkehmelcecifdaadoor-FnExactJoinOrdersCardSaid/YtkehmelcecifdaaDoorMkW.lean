/-
  The contracts of the laws' mark and held over rows of wants. Condition: the list's cells lie in one block; the numbers are small enough for an int.
-/
import Derived.Test.YtkehmelcecifdaaDoorMg1
import Derived.Test.YtkehmelcecifdaaDoorMg2
namespace Go.Proofs.YtkehmelcecifdaaDoor
open Go.ChangeShapes Go.WideShapes Go.ChangeAt Go.RowKit Go.Deep

/-- A list's cells hold numbers from k0 on. -/
def MkdW (w : World) (A : Option Addr) (n : Nat) (k0 : Int) : Prop := ∀ j : Nat, j < n → ∃ g, A = some ⟨g, 0, none⟩ ∧ g < w.heap.size ∧ w.cell? ⟨g, j * 3, none⟩ = some (.int .u8 (IntKind.u8.wrap (k0 + 3 * (j : Int)))) ∧ w.cell? ⟨g, j * 3 + 1, none⟩ = some (.int .i16 (IntKind.i16.wrap (k0 + 3 * (j : Int) + 1))) ∧ w.cell? ⟨g, j * 3 + 2, none⟩ = some (.int .i16 (IntKind.i16.wrap (k0 + 3 * (j : Int) + 2)))
theorem MkdW.below {w w' : World} {A : Option Addr} {n : Nat} {k0 : Int} (h : MkdW w A n k0) (hb : Below w.heap.size w w') : MkdW w' A n k0 := fun j hj => by
  obtain ⟨g, rfl, hg, h0, h1, h2⟩ := h j hj
  exact ⟨g, rfl, Nat.lt_of_lt_of_le hg hb.size, (hb.cell (p := ⟨g, j * 3, none⟩) hg).trans h0, (hb.cell (p := ⟨g, j * 3 + 1, none⟩) hg).trans h1, (hb.cell (p := ⟨g, j * 3 + 2, none⟩) hg).trans h2⟩

set_option maxRecDepth 100000 in
set_option maxHeartbeats 2000000 in
theorem mkW_any (n : Nat) (A : Option Addr) (c : Nat) (k0 : Int) (w : World) (hk0 : 0 ≤ k0) (hk1 : k0 + 3 * (n : Int) ≤ 4611686018427387904) (h : n = 0 ∨ ∃ g cur, A = some ⟨g, 0, none⟩ ∧ Blk w g 91 cur ∧ n * 3 ≤ cur.size) :
    Calls Tryd.prog 26 #[.slice A n c, .int .i64 k0] w fun e w' => e = .returned (.int .i64 (k0 + 3 * n)) ∧ MkdW w' A n k0 ∧ w.grownBy w' (A.map (·.block)) ∧ (n = 0 → w = w') := by
  by_cases hn0 : n = 0
  · subst hn0
    go_enter Tryd.func26, Tryd.ntmps26
    go_wp2
    refine wp_loop_rounds 1 ?_
    rw [rounds_succ]
    go_wp2
    go_ret
    exact ⟨by simp, fun j hj => absurd hj (by omega), ⟨rfl, rfl, rfl, Nat.le_refl _, fun _ _ _ => rfl⟩, fun _ => rfl⟩
  obtain ⟨g, cur, rfl, hK, hcs⟩ := h.resolve_left hn0
  have HN0 := Lib.hid hn0
  clear hn0 h
  have HK := Lib.hid hK
  have HC := Lib.hid hcs
  clear hK hcs
  go_enter Tryd.func26, Tryd.ntmps26
  go_wp2_with fail
  go_loopw [1, 5] (fun s i wr => ∃ (k : Nat) (cu : Array Value), k ≤ n ∧ i = .int .i64 k ∧ s = .int .i64 (k0 + 3 * k) ∧ Blk wr g 91 cu ∧ cu.size = cur.size ∧ (∀ j : Nat, j < k → cu[j * 3]? = some (.int .u8 (IntKind.u8.wrap (k0 + 3 * (j : Int)))) ∧ cu[j * 3 + 1]? = some (.int .i16 (IntKind.i16.wrap (k0 + 3 * (j : Int) + 1))) ∧ cu[j * 3 + 2]? = some (.int .i16 (IntKind.i16.wrap (k0 + 3 * (j : Int) + 2)))) ∧ w.grownBy wr (some g)) (fun _ i _ => n - (intOf i).toNat)
  case atStart => exact ⟨0, cur, by omega, rfl, by simp, HK.out, rfl, fun j h => absurd h (by omega), ⟨rfl, rfl, rfl, Nat.le_refl _, fun _ _ _ => rfl⟩⟩
  case round =>
    clear HK
    obtain ⟨k, cu, hk, rfl, rfl, hB, hsz', hm, hT⟩ := hrel
    have HB := Lib.hid hB
    have HM := Lib.hid hm
    have HT := Lib.hid hT
    have HS := Lib.hid hsz'
    clear hB hT hm hsz'
    obtain ⟨m, hmm⟩ : ∃ m : Int, k0 + 3 * (k : Int) = m := ⟨_, rfl⟩
    have HMM := Lib.hid hmm
    rw [hmm]
    by_cases hlt : k < n
    · have hcs := HC.out
      obtain ⟨u0, hu0⟩ : ∃ u, cu[k * 3]? = some u := ⟨_, Array.getElem?_eq_getElem (by have := HS.out; omega)⟩
      have e0 : wr.cell? ⟨g, k * 3, none⟩ = some u0 := (HB.out.cell _).trans hu0
      have f0 := HB.out.frozen (k * 3)
      obtain ⟨u1, hu1⟩ : ∃ u, cu[k * 3 + 1]? = some u := ⟨_, Array.getElem?_eq_getElem (by have := HS.out; omega)⟩
      have e1 : wr.cell? ⟨g, k * 3 + 1, none⟩ = some u1 := (HB.out.cell _).trans hu1
      have f1 := HB.out.frozen (k * 3 + 1)
      obtain ⟨u2, hu2⟩ : ∃ u, cu[k * 3 + 2]? = some u := ⟨_, Array.getElem?_eq_getElem (by have := HS.out; omega)⟩
      have e2 : wr.cell? ⟨g, k * 3 + 2, none⟩ = some u2 := (HB.out.cell _).trans hu2
      have f2 := HB.out.frozen (k * 3 + 2)
      have hkk0 : (0 : Int) ≤ (k : Int) := Int.natCast_nonneg _
      have hkk8 : (k : Int) < n := by omega
      obtain ⟨a0, ha0⟩ : ∃ a, IntKind.u8.wrap (m) = a := ⟨_, rfl⟩
      have HA0 := Lib.hid ha0
      obtain ⟨a1, ha1⟩ : ∃ a, IntKind.i16.wrap (m + 1) = a := ⟨_, rfl⟩
      have HA1 := Lib.hid ha1
      obtain ⟨a2, ha2⟩ : ∃ a, IntKind.i16.wrap (m + 1 + 1) = a := ⟨_, rfl⟩
      have HA2 := Lib.hid ha2
      have hs0 : IntKind.i64.wrap (m + 1) = m + 1 := IntWalk.i64_in _ ⟨by omega, by omega⟩
      have hs1 : wrap64 (m + 1) = m + 1 := IntWalk.wrap64_in _ ⟨by omega, by omega⟩
      have hs2 : IntKind.i64.wrap (m + 1 + 1) = m + 1 + 1 := IntWalk.i64_in _ ⟨by omega, by omega⟩
      have hs3 : wrap64 (m + 1 + 1) = m + 1 + 1 := IntWalk.wrap64_in _ ⟨by omega, by omega⟩
      have hs4 : IntKind.i64.wrap (m + 1 + 1 + 1) = m + 1 + 1 + 1 := IntWalk.i64_in _ ⟨by omega, by omega⟩
      have hs5 : wrap64 (m + 1 + 1 + 1) = m + 1 + 1 + 1 := IntWalk.wrap64_in _ ⟨by omega, by omega⟩
      clear hu0 hu1 hu2 hmm hcs
      go_wp2
      go_roundw
      case rel =>
        have hmm := HMM.out
        have hcs := HC.out
        refine ⟨k + 1, (((cu.setIfInBounds (k * 3) (.int .u8 a0)).setIfInBounds (k * 3 + 1) (.int .i16 a1)).setIfInBounds (k * 3 + 2) (.int .i16 a2)), by omega, by go_num, by rw [show k0 + 3 * ((k + 1 : Nat) : Int) = m + 1 + 1 + 1 from by omega], (((HB.out.set_ (k * 3) _).set_ (k * 3 + 1) _).set_ (k * 3 + 2) _), by simp [HS.out], fun j hj => ?_, (gk_set (gk_set (gk_set HT.out _) _) _)⟩
        have hsz2 := HS.out
        by_cases e : j = k
        · subst e
          have q0 : k0 + 3 * (j : Int) = m := by omega
          have q1 : k0 + 3 * (j : Int) + 1 = m + 1 := by omega
          have q2 : k0 + 3 * (j : Int) + 2 = m + 1 + 1 := by omega
          refine ⟨?_, ?_, ?_⟩
          · rw [Array.getElem?_setIfInBounds, if_neg (by omega), Array.getElem?_setIfInBounds, if_neg (by omega), Array.getElem?_setIfInBounds, if_pos rfl, if_pos (by have := HS.out; (try simp only [Array.size_setIfInBounds]); omega), q0, HA0.out]
          · rw [Array.getElem?_setIfInBounds, if_neg (by omega), Array.getElem?_setIfInBounds, if_pos rfl, if_pos (by have := HS.out; (try simp only [Array.size_setIfInBounds]); omega), q1, HA1.out]
          · rw [Array.getElem?_setIfInBounds, if_pos rfl, if_pos (by have := HS.out; (try simp only [Array.size_setIfInBounds]); omega), q2, HA2.out]
        · have hm1 := HM.out j (by omega)
          refine ⟨?_, ?_, ?_⟩
          · rw [Array.getElem?_setIfInBounds, if_neg (by omega), Array.getElem?_setIfInBounds, if_neg (by omega), Array.getElem?_setIfInBounds, if_neg (by omega)]; exact hm1.1
          · rw [Array.getElem?_setIfInBounds, if_neg (by omega), Array.getElem?_setIfInBounds, if_neg (by omega), Array.getElem?_setIfInBounds, if_neg (by omega)]; exact hm1.2.1
          · rw [Array.getElem?_setIfInBounds, if_neg (by omega), Array.getElem?_setIfInBounds, if_neg (by omega), Array.getElem?_setIfInBounds, if_neg (by omega)]; exact hm1.2.2
      case measure => simp [intOf]; omega
    · obtain rfl : k = n := by omega
      go_wp2
      go_ret
      exact ⟨by rw [HMM.out]; first | done | rfl, fun j hj => ⟨g, rfl, HB.out.lt, (HB.out.cell _).trans (HM.out j hj).1, (HB.out.cell _).trans (HM.out j hj).2.1, (HB.out.cell _).trans (HM.out j hj).2.2⟩, HT.out, fun e => absurd e HN0.out⟩

set_option maxRecDepth 100000 in
set_option maxHeartbeats 2000000 in
theorem hdW_any (n : Nat) (A : Option Addr) (c : Nat) (k0 : Int) (w : World) (hk0 : 0 ≤ k0) (hk1 : k0 + 3 * (n : Int) ≤ 4611686018427387904) (h : MkdW w A n k0) :
    Calls Tryd.prog 37 #[.slice A n c, .int .i64 k0] w fun e w' => e = .returned (.int .i64 (k0 + 3 * n)) ∧ w = w' := by
  have H := Lib.hid h
  clear h
  go_enter Tryd.func37, Tryd.ntmps37
  go_wp2_with fail
  go_loop [1, 5] (fun s i => ∃ (k : Nat), k ≤ n ∧ i = .int .i64 k ∧ s = .int .i64 (k0 + 3 * k)) (fun _ i => n - (intOf i).toNat)
  case atStart => exact ⟨0, by omega, rfl, by simp⟩
  case round =>
    obtain ⟨k, hk, rfl, rfl⟩ := hrel
    obtain ⟨m, hmm⟩ : ∃ m : Int, k0 + 3 * (k : Int) = m := ⟨_, rfl⟩
    have HMM := Lib.hid hmm
    by_cases hlt : k < n
    · obtain ⟨g, rfl, hg, c0, c1, c2⟩ := H.out k hlt
      rw [hmm] at c0 c1 c2 ⊢
      have hkk0 : (0 : Int) ≤ (k : Int) := Int.natCast_nonneg _
      have hkk8 : (k : Int) < n := by omega
      rw [show m + 2 = m + 1 + 1 from by omega] at c2
      obtain ⟨a0, ha0⟩ : ∃ a, IntKind.u8.wrap (m) = a := ⟨_, rfl⟩
      rw [ha0] at c0
      obtain ⟨a1, ha1⟩ : ∃ a, IntKind.i16.wrap (m + 1) = a := ⟨_, rfl⟩
      rw [ha1] at c1
      obtain ⟨a2, ha2⟩ : ∃ a, IntKind.i16.wrap (m + 1 + 1) = a := ⟨_, rfl⟩
      rw [ha2] at c2
      have hs0 : IntKind.i64.wrap (m + 1) = m + 1 := IntWalk.i64_in _ ⟨by omega, by omega⟩
      have hs1 : wrap64 (m + 1) = m + 1 := IntWalk.wrap64_in _ ⟨by omega, by omega⟩
      have hs2 : IntKind.i64.wrap (m + 1 + 1) = m + 1 + 1 := IntWalk.i64_in _ ⟨by omega, by omega⟩
      have hs3 : wrap64 (m + 1 + 1) = m + 1 + 1 := IntWalk.wrap64_in _ ⟨by omega, by omega⟩
      have hs4 : IntKind.i64.wrap (m + 1 + 1 + 1) = m + 1 + 1 + 1 := IntWalk.i64_in _ ⟨by omega, by omega⟩
      have hs5 : wrap64 (m + 1 + 1 + 1) = m + 1 + 1 + 1 := IntWalk.wrap64_in _ ⟨by omega, by omega⟩
      clear hmm
      go_wp2
      go_round
      case rel => exact ⟨k + 1, by omega, by go_num, by have := HMM.out; rw [show k0 + 3 * ((k + 1 : Nat) : Int) = m + 1 + 1 + 1 from by omega]⟩
      case measure => simp [intOf]; omega
    · obtain rfl : k = n := by omega
      clear hmm
      go_wp2
      go_ret
      exact ⟨rfl, rfl⟩
end Go.Proofs.YtkehmelcecifdaaDoor
