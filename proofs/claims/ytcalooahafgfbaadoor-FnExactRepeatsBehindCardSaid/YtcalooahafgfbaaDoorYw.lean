/-
  The contract of the program's ValidWalkers, and of what it calls. Condition: the walkers' numbers fit their kinds.
-/
import Derived.Test.YtcalooahafgfbaaDoorYv
namespace Go.Proofs.YtcalooahafgfbaaDoor
open Go.ChangeShapes Go.WideShapes Go.ChangeAt Go.RowKit Go.Deep

set_option maxHeartbeats 1000000 in
theorem vwClosure_any (n : Int) (x : Wal) (hx : wfV x) (h1 : 1 ≤ n) (h60 : n ≤ 60) (B : Nat) (w : World) (hb : w.cell? ⟨B, 0, none⟩ = some (.int .i64 n)) :
    Calls Tryd.prog 38 #[.agg (vcells x).toArray, .pointer (some ⟨B, 0, none⟩)] w fun e w' => e = .returned (.bool (!vOk n x)) ∧ Below w.heap.size w w' := by
  obtain ⟨W1, hW1⟩ : ∃ W1, w.alloc (.cells (vcells x).toArray 36) = W1 := ⟨_, rfl⟩
  have hK : Blk W1 w.heap.size 36 (vcells x).toArray := by rw [← hW1]; exact Blk.new w _ _
  have hB : Below w.heap.size w W1 := by rw [← hW1]; exact (Below.refl _ w).alloc (Nat.le_refl _) _
  have e1 : W1.cell? ⟨B, 0, none⟩ = some (.int .i64 n) := (hB.cell (p := ⟨B, 0, none⟩) (block_lt_of_cell hb)).trans hb
  have HK := Lib.hid hK
  have HB := Lib.hid hB
  have HX := Lib.hid hx
  clear hK hB hx hb
  go_enter Tryd.func38, Tryd.ntmps38
  go_wp2_with (refine wpList_load_row rfl 36 (.tmp 2) rfl w.heap.size rfl 36 (vcells x).toArray (0, 0) _ HK.out Tryd.underlying36 rfl (Tryd.sizeVIx x) ?_)
  clear hW1
  refine (isWalker_any n x HX.out h1 h60 _).mono ?_
  rintro e w1 ⟨rfl, hb⟩
  have HB1 : Hid (Below w.heap.size w w1) := HB.out.trans (hb.mono HB.out.size)
  clear hb
  go_wp2
  go_ret
  exact ⟨rfl, HB1.out⟩

set_option maxHeartbeats 2000000 in
theorem indexV_any (n : Int) (l : List Wal) (hwf : ∀ x ∈ l, wfV x) (h1 : 1 ≤ n) (h60 : n ≤ 60) (A : Option Addr) (c B : Nat) (w : World) (hl : l.length ≤ 1048576) (hr : Rd w w.heap.size vcells A l) (hb : w.cell? ⟨B, 0, none⟩ = some (.int .i64 n)) :
    Calls Tryd.prog 43 #[.slice A l.length c, .func (.func 38) #[] #[.pointer (some ⟨B, 0, none⟩)]] w fun e w' => ∃ i : Int, e = .returned (.int .i64 i) ∧ (decide (i < 0)) = l.all (vOk n) ∧ -1 ≤ i ∧ i ≤ l.length ∧ Below w.heap.size w w' := by
  have HR := Lib.hid hr
  have HW := Lib.hid hwf
  have HC := Lib.hid hb
  have hBl := block_lt_of_cell hb
  clear hr hwf hb
  have hn0 : (0 : Int) ≤ (l.length : Int) := Int.natCast_nonneg _
  go_enter Tryd.func43, Tryd.ntmps43
  go_wp2_with fail
  go_loopw [8] (fun i wr => ∃ (k : Nat), k ≤ l.length ∧ i = .int .i64 k ∧ AllTo (vOk n) l k ∧ Below w.heap.size w wr) (fun i _ => l.length - (intOf i).toNat)
  case atStart => exact ⟨0, by omega, rfl, AllTo.zero _ _, Below.refl _ _⟩
  case round =>
    obtain ⟨k, hk, rfl, hT, hB⟩ := hrel
    have HT := Lib.hid hT
    have HB := Lib.hid hB
    clear hT hB
    by_cases hlt : k < l.length
    · obtain ⟨x, hx⟩ : ∃ x, l[k]? = some x := ⟨_, List.getElem?_eq_getElem hlt⟩
      obtain ⟨b, o, rfl, hbl, hrow⟩ := (HR.out.below (Nat.le_refl _) HB.out).at_ vcells_length hx
      have HX := Lib.hid hx
      have HRow := Lib.hid hrow
      have hk0 : (0 : Int) ≤ (k : Int) := Int.natCast_nonneg _
      have hk8 : (k : Int) < l.length := by omega
      clear hx hrow
      go_wp2_with (refine wpList_load_mid rfl 36 (.tmp 14) rfl b (o + k * 6) rfl (vcells x) _ HRow.out Tryd.underlying36 rfl Tryd.sizeVI ?_)
      refine (vwClosure_any n x (HW.out x (List.mem_of_getElem? HX.out)) h1 h60 B _ ((HB.out.cell (p := ⟨B, 0, none⟩) hBl).trans HC.out)).mono ?_
      rintro e w1 ⟨rfl, hb1⟩
      have HB1 : Hid (Below w.heap.size w w1) := HB.out.trans (hb1.mono HB.out.size)
      clear hb1
      cases hv : vOk n x
      · have HV := Lib.hid hv
        clear hv
        go_wp2
        go_ret
        exact ⟨k, rfl, by rw [all_no HX.out HV.out]; simp, by omega, by omega, HB1.out⟩
      · have HV := Lib.hid hv
        clear hv
        go_wp2
        go_roundw
        case rel => exact ⟨k + 1, by omega, by go_num, HT.out.step HX.out HV.out, HB1.out⟩
        case measure => simp [intOf]; omega
    · obtain rfl : k = l.length := by omega
      go_wp2
      go_ret
      exact ⟨-1, rfl, by rw [HT.out.all]; rfl, by omega, by omega, HB.out⟩

set_option maxHeartbeats 1000000 in
theorem containsV_any (n : Int) (l : List Wal) (hwf : ∀ x ∈ l, wfV x) (h1 : 1 ≤ n) (h60 : n ≤ 60) (A : Option Addr) (c B : Nat) (w : World) (hl : l.length ≤ 1048576) (hr : Rd w w.heap.size vcells A l) (hb : w.cell? ⟨B, 0, none⟩ = some (.int .i64 n)) :
    Calls Tryd.prog 37 #[.slice A l.length c, .func (.func 38) #[] #[.pointer (some ⟨B, 0, none⟩)]] w fun e w' => e = .returned (.bool (!l.all (vOk n))) ∧ Below w.heap.size w w' := by
  have HR := Lib.hid hr
  have HW := Lib.hid hwf
  have HC := Lib.hid hb
  clear hr hwf hb
  go_enter Tryd.func37, Tryd.ntmps37
  go_wp2_with fail
  refine (indexV_any n l HW.out h1 h60 A c B w hl HR.out HC.out).mono ?_
  rintro e w1 ⟨i, rfl, hi, hi0, hi1, hb⟩
  have HB := Lib.hid hb
  have HI := Lib.hid hi
  clear hb hi
  go_wp2
  go_ret
  exact ⟨ret_bool (by rw [← HI.out, ← decide_not]; rw [decide_eq_decide]; omega), HB.out⟩

set_option maxHeartbeats 2000000 in
theorem implValidWalkers_any (n : Int) (hn : wfI6 n) (l : List Wal) (hwf : ∀ x ∈ l, wfV x) (A : Option Addr) (c : Nat) (w : World) (hl : l.length ≤ 1048576) (hr : Rd w w.heap.size vcells A l) :
    Calls Tryd.prog 28 #[.int .i64 n, .slice A l.length c] w fun e w' => e = .returned (.bool (vsOk n l)) ∧ Below w.heap.size w w' := by
  have HR := Lib.hid hr
  have HW := Lib.hid hwf
  clear hr hwf
  have hn0 : (0 : Int) ≤ (l.length : Int) := Int.natCast_nonneg _
  obtain ⟨W1, hW1⟩ : ∃ W1, w.alloc (.cells #[.int .i64 n] 2) = W1 := ⟨_, rfl⟩
  have hK : Blk W1 w.heap.size 2 #[.int .i64 n] := by rw [← hW1]; exact Blk.new w _ _
  have hB : Below w.heap.size w W1 := by rw [← hW1]; exact (Below.refl _ w).alloc (Nat.le_refl _) _
  have e1 : W1.cell? ⟨w.heap.size, 0, none⟩ = some (.int .i64 n) := Blk.cell hK 0
  have HB := Lib.hid hB
  have HE1 := Lib.hid e1
  clear hK hB
  go_enter Tryd.func28, Tryd.ntmps28
  go_wp2_with fail
  refine (isWithin_any _ _ _ _).mono ?_
  rintro e w0 ⟨rfl, rfl⟩
  clear hW1
  by_cases h160 : 1 ≤ n ∧ n ≤ 60
  rotate_left
  · have h0 : (decide (1 ≤ n) && decide (n ≤ 60)) = false := by
      rw [Bool.eq_false_iff]; simpa [Bool.and_eq_true, decide_eq_true_eq] using h160
    have H0 : Hid (vsOk n l = false) := by show vsOk n l = false; rw [vsOk, h0]; rfl
    rw [h0]
    clear h0
    go_wp2
    go_ret
    exact ⟨by (rw [H0.out]; first | done | rfl), HB.out⟩
  have h0 : (decide (1 ≤ n) && decide (n ≤ 60)) = true := by simp [h160]
  rw [h0]
  have H0 := Lib.hid h0
  obtain ⟨h1, h60⟩ := h160
  clear h0
  by_cases h8 : (8 : Int) < l.length
  · go_wp2
    go_ret
    exact ⟨ret_bool (by rw [vsOk, decide_eq_false (by omega : ¬ l.length ≤ 8)]; simp), HB.out⟩
  have h8' : (l.length : Int) ≤ 8 := by omega
  go_wp2_with fail
  refine (containsV_any n l HW.out h1 h60 A c w.heap.size _ hl (HR.out.keep HB.out) HE1.out).mono ?_
  rintro e w1 ⟨rfl, hb⟩
  have HB1 : Hid (Below w.heap.size w w1) := HB.out.trans (hb.mono HB.out.size)
  clear hb e1
  go_wp2
  go_ret
  exact ⟨ret_bool (by rw [vsOk, H0.out, decide_eq_true (by omega : l.length ≤ 8)]; simp), HB1.out⟩
end Go.Proofs.YtcalooahafgfbaaDoor
