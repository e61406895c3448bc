/-
  The contracts of the model's l02Has, l02Every and l00Min. Condition: the crate lies in a row, the bottle is none that is free.
-/
import Derived.Test.YtkehmelcecifdaaDoorMg8
import Derived.Test.YtkehmelcecifdaaDoorLk
import Derived.Test.YtkehmelcecifdaaDoorMg9
namespace Go.Proofs.YtkehmelcecifdaaDoor
open Go.ChangeShapes Go.WideShapes Go.ChangeAt Go.RowKit Go.Deep

theorem l00Min_any (a b : Int) (w : World) : Calls Tryd.prog 52 #[.int .i64 a, .int .i64 b] w fun e w' => e = .returned (.int .i64 (min a b)) ∧ w = w' := by
  by_cases h : a < b
  · go_enter Tryd.func52, Tryd.ntmps52
    go_wp2
    go_ret
    exact ⟨ret_i64 (by omega), rfl⟩
  · go_enter Tryd.func52, Tryd.ntmps52
    go_wp2
    go_ret
    exact ⟨ret_i64 (by omega), rfl⟩

set_option maxRecDepth 100000 in
set_option maxHeartbeats 2000000 in
theorem l02Has_any (x : Crt) (p q : Int) (hE : eB (p, q) = false) (B o : Nat) (w : World) (hBl : B < w.heap.size) (hB : w.rangeAt B o (ccells x.1)) :
    Calls Tryd.prog 92 #[.pointer (some ⟨B, o, none⟩), .agg #[.int .u8 p, .int .i16 q]] w fun e w' => e = .returned (.int .i64 (mult x (p, q) : Nat)) ∧ Below w.heap.size w w' := by
  have HR := Lib.hid hB
  have HEb := Lib.hid hE
  clear hB hE
  go_enter Tryd.func92, Tryd.ntmps92
  go_wp2_with fail
  have G1 : Hid (CBlk (w.alloc (.cells #[.int .u8 p, .int .i16 q] 76)) w.heap.size 76 [(p, q)]) := CBlk.new' rfl rfl
  go_loopw [5, 6] (fun s i wr => ∃ m : Nat, m ≤ 12 ∧ i = .int .i64 m ∧ s = .int .i64 (mulK x.1 (p, q) m : Nat) ∧ CBlk wr w.heap.size 76 [(p, q)] ∧ Below w.heap.size w wr) (fun _ i _ => 12 - (intOf i).toNat)
  case atStart => exact ⟨0, by omega, rfl, by simp [mulK, allB, usedN, plTo], G1.out, (by repeat (first | exact Below.refl _ _ | refine Below.drew ?_ | refine Below.alloc ?_ (by simp <;> omega) _ | refine Below.setCell ?_ (by simp <;> omega) _))⟩
  case round =>
    clear G1
    obtain ⟨m, hm, rfl, rfl, hP, hb⟩ := hrel
    have HP := Lib.hid hP
    have Hb := Lib.hid hb
    clear hP hb
    by_cases hlt : m < 12
    · obtain ⟨k1, y1, hbk, wk, wy⟩ := x.2.at_ hlt
      have Hk := Lib.hid hbk
      obtain ⟨e1, e2⟩ := rangeK (rangeAt_below HR.out Hb.out hBl) hbk
      have b0 : wr.cell? ⟨w.heap.size, 0, none⟩ = some (.int .u8 p) := HP.out.cell 0
      have b1 : wr.cell? ⟨w.heap.size, 1, none⟩ = some (.int .i16 q) := HP.out.cell 1
      have hl0 : (0 : Int) ≤ m := by omega
      have hl1 : (m : Int) < 12 := by omega
      have hmb := mulK_le x.1 (p, q) m
      clear hbk
      obtain ⟨mn, hmn⟩ : ∃ n, mulK x.1 (p, q) m = n := ⟨_, rfl⟩
      rw [hmn] at hmb ⊢
      have HMn := Lib.hid hmn
      clear hmn
      have hs1 : IntKind.i64.wrap ((mn : Int) + 1) = (mn : Int) + 1 := IntWalk.i64_in _ ⟨by omega, by omega⟩
      have hs2 : wrap64 ((mn : Int) + 1) = (mn : Int) + 1 := IntWalk.wrap64_in _ ⟨by omega, by omega⟩
      by_cases hx : k1 = p
      · by_cases hy : y1 = q
        · subst hx; subst hy
          go_wp2_with fail
          go_region_held3 (fun w' => w'.cell? ⟨B, o + m * 2, none⟩ = some (.int .u8 k1) ∧ w'.cell? ⟨B, o + m * 2 + 1, none⟩ = some (.int .i16 y1) ∧ w'.cell? ⟨w.heap.size, 0, none⟩ = some (.int .u8 k1) ∧ w'.cell? ⟨w.heap.size, 1, none⟩ = some (.int .i16 y1)) (go_keep) (fail)
          go_wp2
          go_roundw
          case rel => exact ⟨m + 1, by omega, by go_num, by rw [mulK_hit Hk.out HEb.out, HMn.out]; rfl, HP.out, Hb.out.drew⟩
          case measure => simp [intOf]; omega
        · subst hx
          have hy' : (y1 == q) = false := by simpa using hy
          go_wp2_with fail
          go_region_held3 (fun w' => w'.cell? ⟨B, o + m * 2, none⟩ = some (.int .u8 k1) ∧ w'.cell? ⟨B, o + m * 2 + 1, none⟩ = some (.int .i16 y1) ∧ w'.cell? ⟨w.heap.size, 0, none⟩ = some (.int .u8 k1) ∧ w'.cell? ⟨w.heap.size, 1, none⟩ = some (.int .i16 q)) (go_keep) (fail)
          go_wp2
          go_roundw
          case rel => exact ⟨m + 1, by omega, by go_num, by rw [mulK_miss Hk.out (by simp [hy]), HMn.out], HP.out, Hb.out.drew⟩
          case measure => simp [intOf]; omega
      · skip
        have hx' : (k1 == p) = false := by simpa using hx
        go_wp2_with fail
        go_region_held3 (fun w' => w'.cell? ⟨B, o + m * 2, none⟩ = some (.int .u8 k1) ∧ w'.cell? ⟨B, o + m * 2 + 1, none⟩ = some (.int .i16 y1) ∧ w'.cell? ⟨w.heap.size, 0, none⟩ = some (.int .u8 p) ∧ w'.cell? ⟨w.heap.size, 1, none⟩ = some (.int .i16 q)) (go_keep) (fail)
        go_wp2
        go_roundw
        case rel => exact ⟨m + 1, by omega, by go_num, by rw [mulK_miss Hk.out (by simp [hx]), HMn.out], HP.out, Hb.out.drew⟩
        case measure => simp [intOf]; omega
    · obtain rfl : m = 12 := by omega
      rw [mulK_all]
      go_wp2
      go_ret
      exact ⟨rfl, Hb.out⟩

theorem every_cells (k : Nat) : (every (k + 1)).flatMap icells = (every k).flatMap icells ++ [.int .i64 (k : Int)] := by rw [every_snoc, List.flatMap_append]; rfl
set_option maxHeartbeats 2000000 in
set_option maxRecDepth 100000 in
theorem l02Every_any (n : Nat) (A : Option Addr) (c : Nat) (w : World) (hn : n ≤ 1048576) :
    Calls Tryd.prog 91 #[.slice A n c] w fun e w' => ∃ v, e = .returned v ∧ w'.ownsRow w.heap.size 2 1 v (every n).length ((every n).flatMap icells) ∧ Below w.heap.size w w' := by
  go_enter Tryd.func91, Tryd.ntmps91
  obtain ⟨i0, hi, hz0, hz1, hz2⟩ := info_parts Tryd.info64
  have HI := Lib.hid hi
  have HZ0 := Lib.hid hz0
  have HZ1 := Lib.hid hz1
  have HZ2 := Lib.hid hz2
  clear hi hz0 hz1 hz2
  go_wp2_with fail
  go_loopw [3, 4] (fun v i wr => ∃ k : Nat, k ≤ n ∧ i = .int .i64 k ∧ wr.ownsRow w.heap.size 2 1 v (every k).length ((every k).flatMap icells) ∧ Below w.heap.size w wr) (fun _ i _ => n - (intOf i).toNat)
  case atStart =>
    refine ⟨0, by omega, rfl, ⟨rfl, .inr ⟨w.heap.size, 0, #[], rfl, Nat.le_refl _, heap_alloc_new w _, Nat.le_refl _, by unfold maxLen; omega, rfl, rfl⟩⟩, (by repeat (first | exact Below.refl _ _ | refine Below.drew ?_ | refine Below.alloc ?_ (by simp <;> omega) _ | refine Below.setCell ?_ (by simp <;> omega) _))⟩
  case round =>
    obtain ⟨k, hk, rfl, hown, hb⟩ := hrel
    have HO := Lib.hid hown
    have Hb := Lib.hid hb
    have hel := every_length k
    clear hown hb
    by_cases hlt : k < n
    · have hl0 : (0 : Int) ≤ k := by omega
      have hl1 : (k : Int) < n := by omega
      go_wp2_with (at_builtin; refine wpList_append_own _ rfl (.tmp 12) (.tmp 14) 26 rfl w.heap.size 2 i0 (.int .i64 0) 1 8 Tryd.underlying26 HI.out HZ0.out HZ1.out HZ2.out rfl (by decide) _ _ _ rfl (HO.out.alloc _) ⟨wr.heap.size, 0, none⟩ 1 1 [.int .i64 k] rfl rfl ?c1 ?c2 ?c3 ?c4 ?c5 ?_)
      case c1 => exact cell_one_new _ _ _
      case c2 => simp [Value.oneCell']
      case c3 => unfold maxLen; omega
      case c4 => omega
      case c5 => have := Hb.out.size; simp; omega
      intro v' w2 hown' hgrow _
      have HO2 := Lib.hid hown'
      have HB2 : Hid (Below w.heap.size w w2) := (Hb.out.alloc Hb.out.size _).grown hgrow (by have := Hb.out.size; simp; omega) (fun r e => (HO.out.lt r e).1)
      clear hown' hgrow
      go_wp2
      go_roundw
      case rel => exact ⟨k + 1, by omega, by go_num, by rw [every_cells, every_length]; exact HO2.out, HB2.out⟩
      case measure => simp [intOf]; omega
    · obtain rfl : k = n := by omega
      go_wp2
      go_ret
      exact ⟨_, rfl, HO.out, Hb.out⟩
end Go.Proofs.YtkehmelcecifdaaDoor
