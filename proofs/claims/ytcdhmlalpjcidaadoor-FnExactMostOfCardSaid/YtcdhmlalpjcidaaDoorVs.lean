/-
  The contracts of ValidStack, of the model and of the program. Condition: the list reads as crates whose numbers fit their kinds.
-/
import Derived.Test.YtcdhmlalpjcidaaDoorKb
import Derived.Test.YtcdhmlalpjcidaaDoorJ
namespace Go.Proofs.YtcdhmlalpjcidaaDoor
open Go.ChangeShapes Go.WideShapes Go.ChangeAt Go.RowKit Go.Deep

theorem rangeK {w : World} {b o : Nat} {bs : List Bot} (h : w.rangeAt b o (ccells bs)) {k : Nat} {k1 y1 : Int} (hk : bs[k]? = some (k1, y1)) :
    w.cell? ⟨b, o + k * 2, none⟩ = some (.int .u8 k1) ∧ w.cell? ⟨b, o + k * 2 + 1, none⟩ = some (.int .i16 y1) := by
  obtain ⟨hlt, he⟩ := List.getElem?_eq_some_iff.1 hk
  have e1 := ccells_even bs k hlt
  have e2 := ccells_odd bs k hlt
  rw [he] at e1 e2
  rw [Nat.mul_comm]
  exact ⟨h _ _ e1, by rw [Nat.add_assoc]; exact h _ _ e2⟩

set_option maxHeartbeats 1000000 in
theorem l01OkAt_any (bs : List Bot) (hwf : WfC bs) (B o : Nat) (w : World) (hB : B < w.heap.size) (hR : w.rangeAt B o (ccells bs)) : Calls Tryd.prog 33 #[.pointer (some ⟨B, o, none⟩)] w fun e w' => e = .returned (.bool (okC bs)) ∧ Below w.heap.size w w' := by
  have HR := Lib.hid hR
  have HW := Lib.hid hwf
  clear hR hwf
  go_enter Tryd.func33, Tryd.ntmps33
  go_wp2_with fail
  go_loopw [3] (fun i wr => ∃ k : Nat, k ≤ 12 ∧ i = .int .i64 k ∧ OkTo bs k ∧ Below w.heap.size w wr) (fun i _ => 12 - (intOf i).toNat)
  case atStart => exact ⟨0, by omega, rfl, fun j b h => by omega, Below.refl _ _⟩
  case round =>
    obtain ⟨k, hk, rfl, hT, hb⟩ := hrel
    have HT := Lib.hid hT
    have Hb := Lib.hid hb
    clear hT hb
    by_cases hlt : k < 12
    · obtain ⟨k1, y1, hbk, wk, wy⟩ := HW.out.at_ hlt
      have Hk := Lib.hid hbk
      clear hbk
      obtain ⟨e1, e2⟩ := rangeK (rangeAt_below HR.out Hb.out hB) Hk.out
      have hl0 : (0 : Int) ≤ k := by omega
      have hl1 : (k : Int) < 12 := by omega
      go_wp2_with fail
      refine (l01Free_any _ _ _).mono ?_
      rintro e w1 ⟨rfl, hb1⟩
      have Hb1 : Hid (Below w.heap.size w w1) := Hb.out.trans (hb1.mono Hb.out.size)
      clear hb1 e1 e2
      cases hE : eB (k1, y1)
      · have HE := Lib.hid hE
        clear hE
        obtain ⟨g1, g2⟩ := rangeK (rangeAt_below HR.out Hb1.out hB) Hk.out
        go_wp2_with fail
        refine (l01Bottle_any _ _ wk wy _).mono ?_
        rintro e w2 ⟨rfl, hb2⟩
        have Hb2 : Hid (Below w.heap.size w w2) := Hb1.out.trans (hb2.mono Hb1.out.size)
        clear hb2 g1 g2
        cases hV : vB (k1, y1)
        · have HV := Lib.hid hV
          clear hV
          go_wp2
          go_ret
          exact ⟨ret_bool (okC_no Hk.out (by rw [okB, HE.out, HV.out]; rfl)).symm, Hb2.out⟩
        · have HV := Lib.hid hV
          clear hV
          go_wp2
          go_roundw
          case rel => exact ⟨k + 1, by omega, by go_num, HT.out.step Hk.out (by rw [okB, HV.out]; simp), Hb2.out⟩
          case measure => simp [intOf]; omega
      · have HE := Lib.hid hE
        clear hE
        go_wp2
        go_roundw
        case rel => exact ⟨k + 1, by omega, by go_num, HT.out.step Hk.out (by rw [okB, HE.out]; simp), Hb1.out⟩
        case measure => simp [intOf]; omega
    · obtain rfl : k = 12 := by omega
      go_wp2
      go_ret
      exact ⟨ret_bool (OkTo.all (by rw [HW.out.1]; exact HT.out)).symm, Hb.out⟩

/-- Are crates valid? -/
def okS (xs : List Crt) : Bool := xs.all (fun x => okC x.1) && decide (xs.length ≤ 12)
def StkTo (xs : List Crt) (k : Nat) : Prop := ∀ j x, j < k → xs[j]? = some x → okC x.1 = true
theorem StkTo.step {xs : List Crt} {k : Nat} (h : StkTo xs k) {x : Crt} (hx : xs[k]? = some x) (ho : okC x.1 = true) : StkTo xs (k + 1) := by
  intro j y hj hy
  by_cases e : j = k
  · subst e; rw [hx] at hy; cases hy; exact ho
  · exact h j y (by omega) hy
theorem StkTo.all {xs : List Crt} (h : StkTo xs xs.length) : okS xs = decide (xs.length ≤ 12) := by
  have : xs.all (fun x => okC x.1) = true := by
    rw [List.all_eq_true]
    intro x hx
    obtain ⟨j, hj, rfl⟩ := List.mem_iff_getElem.1 hx
    exact h j _ hj (List.getElem?_eq_getElem hj)
  simp [okS, this]
theorem okS_no {xs : List Crt} {k : Nat} {x : Crt} (hx : xs[k]? = some x) (ho : okC x.1 = false) : okS xs = false := by
  have : xs.all (fun x => okC x.1) = false := by
    rw [List.all_eq_false]
    exact ⟨x, List.mem_of_getElem? hx, by simp [ho]⟩
  simp [okS, this]

set_option maxRecDepth 100000 in
set_option maxHeartbeats 1000000 in
theorem l01Stack_any (xs : List Crt) (A : Option Addr) (c : Nat) (w : World) (hl : xs.length ≤ 1048576) (hr : Rd w w.heap.size kcells A xs) :
    Calls Tryd.prog 92 #[.slice A xs.length c] w fun e w' => e = .returned (.bool (okS xs)) ∧ Below w.heap.size w w' := by
  have HR := Lib.hid hr
  clear hr
  go_enter Tryd.func92, Tryd.ntmps92
  go_wp2_with fail
  go_loopw [3] (fun i wr => ∃ (k : Nat), k ≤ xs.length ∧ i = .int .i64 k ∧ StkTo xs k ∧ Below w.heap.size w wr) (fun i _ => xs.length - (intOf i).toNat)
  case atStart => exact ⟨0, by omega, rfl, fun j _ h => by omega, Below.refl _ _⟩
  case round =>
    obtain ⟨k, hk, rfl, hT, hB⟩ := hrel
    have HT := Lib.hid hT
    have HB := Lib.hid hB
    clear hT hB
    by_cases hlt : k < xs.length
    · obtain ⟨x, hx⟩ : ∃ x, xs[k]? = some x := ⟨_, List.getElem?_eq_getElem hlt⟩
      obtain ⟨b, o, rfl, hbl, hrow⟩ := (HR.out.below (Nat.le_refl _) HB.out).at_ kcells_length hx
      have HX := Lib.hid hx
      have HRow := Lib.hid hrow
      clear hx hrow
      have hk0 : (0 : Int) ≤ (k : Int) := Int.natCast_nonneg _
      have hk8 : (k : Int) < xs.length := by omega
      go_wp2_with fail
      refine (l01OkAt_any x.1 x.2 _ _ _ (Nat.lt_of_lt_of_le hbl HB.out.size) HRow.out).mono ?_
      rintro e w1 ⟨rfl, hb1⟩
      have HB1 : Hid (Below w.heap.size w w1) := HB.out.trans (hb1.mono HB.out.size)
      clear hb1
      cases hv : okC x.1
      · have HV := Lib.hid hv
        clear hv
        go_wp2
        go_ret
        exact ⟨ret_bool (okS_no HX.out HV.out).symm, HB1.out⟩
      · have HV := Lib.hid hv
        clear hv
        go_wp2
        go_roundw
        case rel => exact ⟨k + 1, by omega, by go_num, HT.out.step HX.out HV.out, HB1.out⟩
        case measure => simp [intOf]; omega
    · obtain rfl : k = xs.length := by omega
      go_wp2
      go_ret
      exact ⟨ret_bool (by rw [HT.out.all]; simp; try omega), HB.out⟩

set_option maxRecDepth 100000 in
set_option maxHeartbeats 1000000 in
theorem validStack_any (xs : List Crt) (A : Option Addr) (c : Nat) (w : World) (hl : xs.length ≤ 1048576) (hr : Rd w w.heap.size kcells A xs) :
    Calls Tryd.prog 86 #[.slice A xs.length c] w fun e w' => e = .returned (.bool (okS xs)) ∧ Below w.heap.size w w' := by
  have HR := Lib.hid hr
  clear hr
  by_cases h8 : 12 < xs.length
  · have h8' : (12 : Int) < xs.length := by omega
    go_enter Tryd.func86, Tryd.ntmps86
    go_wp2
    go_ret
    exact ⟨ret_bool (by simp [okS]; intro; omega), Below.refl _ _⟩
  have h8' : (xs.length : Int) ≤ 12 := by omega
  go_enter Tryd.func86, Tryd.ntmps86
  go_wp2_with fail
  go_loopw [10] (fun i wr => ∃ (k : Nat), k ≤ xs.length ∧ i = .int .i64 k ∧ StkTo xs k ∧ Below w.heap.size w wr) (fun i _ => xs.length - (intOf i).toNat)
  case atStart => exact ⟨0, by omega, rfl, fun j _ h => by omega, Below.refl _ _⟩
  case round =>
    obtain ⟨k, hk, rfl, hT, hB⟩ := hrel
    have HT := Lib.hid hT
    have HB := Lib.hid hB
    clear hT hB
    by_cases hlt : k < xs.length
    · obtain ⟨x, hx⟩ : ∃ x, xs[k]? = some x := ⟨_, List.getElem?_eq_getElem hlt⟩
      obtain ⟨b, o, rfl, hbl, hrow⟩ := (HR.out.below (Nat.le_refl _) HB.out).at_ kcells_length hx
      have HX := Lib.hid hx
      have HRow := Lib.hid hrow
      clear hx hrow
      have hk0 : (0 : Int) ≤ (k : Int) := Int.natCast_nonneg _
      have hk8 : (k : Int) < xs.length := by omega
      have H1 : Hid (CBlk (wr.alloc (.cells (ccells noB).toArray 30)) wr.heap.size 30 noB) := CBlk.new wr 30 noB
      have H2 : Hid (CBlk ((wr.alloc (.cells (ccells noB).toArray 30)).setRow wr.heap.size (ccells x.1).toArray) wr.heap.size 30 x.1) := CBlk.setRow H1.out
      have H3 : Hid (Below w.heap.size w ((wr.alloc (.cells (ccells noB).toArray 30)).setRow wr.heap.size (ccells x.1).toArray)) := Below.setRow (HB.out.alloc HB.out.size _) _ _ HB.out.size
      go_wp2_with (first
        | (refine wpList_load_mid rfl 30 (.tmp 12) rfl b (o + k * 24) rfl (kcells x) _ HRow.out Tryd.underlying30 rfl (size_k Tryd.sizeCr x) ?_)
        | (refine wpList_store_row rfl 30 (.tmp 4) (.tmp 13) rfl wr.heap.size (ccells x.1).toArray rfl rfl 30 _ H1.out (size_of_crate Tryd.sizeCr _ x.2.1) (by rw [ccells_size _ x.2.1]; rfl) (ccells_one _) ?_)
        | (refine wpList_load_row rfl 30 (.tmp 4) rfl wr.heap.size rfl 30 _ (0, 0) _ H2.out Tryd.underlying30 rfl (size_of_crate Tryd.sizeCr _ x.2.1) ?_))
      refine (validCrate_any x.1 x.2 _).mono ?_
      rintro e w1 ⟨rfl, hb1⟩
      have HB1 : Hid (Below w.heap.size w w1) := H3.out.trans (hb1.mono H3.out.size)
      clear hb1 H1 H2 H3
      cases hv : okC x.1
      · have HV := Lib.hid hv
        clear hv
        go_wp2
        go_ret
        exact ⟨ret_bool (okS_no HX.out HV.out).symm, HB1.out⟩
      · have HV := Lib.hid hv
        clear hv
        go_wp2
        go_roundw
        case rel => exact ⟨k + 1, by omega, by go_num, HT.out.step HX.out HV.out, HB1.out⟩
        case measure => simp [intOf]; omega
    · obtain rfl : k = xs.length := by omega
      go_wp2
      go_ret
      exact ⟨ret_bool (by rw [HT.out.all]; simp; omega), HB.out⟩
end Go.Proofs.YtcdhmlalpjcidaaDoor
