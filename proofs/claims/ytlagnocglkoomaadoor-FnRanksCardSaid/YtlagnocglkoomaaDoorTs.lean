/-
  SameMarks: the contracts, of the model and of the program, and of what they call. No condition.
-/
import Derived.Test.YtlagnocglkoomaaDoorTm
import Derived.Test.YtlagnocglkoomaaDoorTs0
namespace Go.Proofs.YtlagnocglkoomaaDoor
open Go.ChangeShapes Go.WideShapes Go.ChangeAt Go.RowKit Go.Deep

set_option maxRecDepth 100000 in
set_option maxHeartbeats 4000000 in
theorem l07Same_any (m m2 : List (List Int)) (A B : Option Addr) (c d : Nat) (w : World) (hl : m.length ≤ 1048576) (hx : ∀ xs ∈ m, xs.length ≤ 1048576) (hl2 : m2.length ≤ 1048576) (hx2 : ∀ xs ∈ m2, xs.length ≤ 1048576) (hA : RdN w w.heap.size icells A m) (hB : RdN w w.heap.size icells B m2) :
    Calls Tryd.prog 33 #[.slice A m.length c, .slice B m2.length d] w fun e w' => e = .returned (.bool (decide (m = m2))) ∧ Below w.heap.size w w' := by
  have HA := Lib.hid hA
  have HB := Lib.hid hB
  have HX := Lib.hid hx
  have HX2 := Lib.hid hx2
  clear hA hB hx hx2
  by_cases hne : (m.length : Int) = m2.length
  rotate_left
  · have hne' : ((m.length : Int) == (m2.length : Int)) = false := by simpa using hne
    have HV : Hid (decide (m = m2) = false) := by show _ = _; rw [decide_eq_false_iff_not]; exact sm_len (by omega)
    go_enter Tryd.func33, Tryd.ntmps33
    go_wp2
    go_ret
    exact ⟨ret_bool HV.out.symm, Below.refl _ _⟩
  have hne' : ((m.length : Int) != (m2.length : Int)) = false := by simpa using hne
  have HN : Hid (m.length = m2.length) := by show _ = _; omega
  clear hne
  go_enter Tryd.func33, Tryd.ntmps33
  go_wp2_with fail
  go_loopw [5] (fun i wr => ∃ (k : Nat), k ≤ m.length ∧ i = .int .i64 k ∧ SmTo m m2 k ∧ Below w.heap.size w wr) (fun i _ => m.length - (intOf i).toNat)
  case atStart => exact ⟨0, by omega, rfl, SmTo.zero _ _, Below.refl _ _⟩
  case round =>
    obtain ⟨k, hk, rfl, hT, hw⟩ := hrel
    have HT := Lib.hid hT
    have HW := Lib.hid hw
    clear hT hw
    by_cases hlt : k < m.length
    · obtain ⟨xs, hxs⟩ : ∃ x, m[k]? = some x := ⟨_, List.getElem?_eq_getElem hlt⟩
      obtain ⟨ys, hys⟩ : ∃ y, m2[k]? = some y := ⟨_, List.getElem?_eq_getElem (by have := HN.out; omega)⟩
      obtain ⟨b, o, a, c1, rfl, hb1, e1, r1⟩ := (HA.out.keep HW.out).at_ hxs
      obtain ⟨b', o', a', c2, rfl, hb2, e2, r2⟩ := (HB.out.keep HW.out).at_ hys
      have hxl := HX.out xs (List.mem_of_getElem? hxs)
      have hyl := HX2.out ys (List.mem_of_getElem? hys)
      have HXs := Lib.hid hxs
      have HYs := Lib.hid hys
      have R1 := Lib.hid r1
      have R2 := Lib.hid r2
      have hk0 : (0 : Int) ≤ (k : Int) := Int.natCast_nonneg _
      have hk8 : (k : Int) < m.length := by omega
      have hk9 : (k : Int) < m2.length := by have := HN.out; omega
      have hs0 : Below wr.heap.size wr wr := Below.refl _ _
      clear hxs hys r1 r2
      have HC : Hid (∀ w', Rd w' w'.heap.size icells a xs → Rd w' w'.heap.size icells a' ys → Calls Tryd.prog 34 #[.slice a xs.length c1, .slice a' ys.length c2] w' fun e w'' => e = .returned (.bool (decide (xs = ys))) ∧ Below w'.heap.size w' w'') := fun w' h1 h2 => l00Same_any xs ys a a' c1 c2 w' hxl hyl h1 h2
      by_cases he : xs = ys
      · have he' : decide (xs = ys) = true := by simpa using he
        have HE := Lib.hid he
        rw [he'] at HC
        clear he he'
        go_wp2_with fail
        go_region_held3 (fun w' => w'.cell? ⟨b, o + k, none⟩ = some (.slice a xs.length c1) ∧ w'.cell? ⟨b', o' + k, none⟩ = some (.slice a' ys.length c2) ∧ Below wr.heap.size wr w') ((refine ⟨?_, ?_, ?_⟩ <;> (first | assumption | exact Below.drew ‹_› | (simp [*]; done))))
          (first
            | (go_at_call 34; refine (HC.out _ (R1.out.keep (by first | assumption | exact Below.drew (by assumption))) (R2.out.keep (by first | assumption | exact Below.drew (by assumption)))).mono ?_; rintro e w2 ⟨rfl, hb⟩; obtain ⟨r0, r1, r2⟩ := keptH (b := b) (b' := b') (o := o + k) (o' := o' + k) hb1 hb2 (by first | assumption | exact Below.drew (by assumption)) hb (by assumption) (by assumption)))
        have HR : Hid (Below wr.heap.size wr w2) := (by assumption : Below wr.heap.size wr w2)
        have HWn : Hid (Below w.heap.size w w2) := HW.out.trans (HR.out.mono HW.out.size)
        clear HR
        go_wp2
        go_roundw
        case rel => exact ⟨k + 1, by omega, by go_num, HT.out.step HXs.out HYs.out HE.out, HWn.out⟩
        case measure => simp [intOf]; omega
      · have he' : decide (xs = ys) = false := by simpa using he
        have HV : Hid (decide (m = m2) = false) := by show _ = _; rw [decide_eq_false_iff_not]; exact sm_no HXs.out HYs.out he
        rw [he'] at HC
        clear he he'
        go_wp2_with fail
        go_region_held3 (fun w' => w'.cell? ⟨b, o + k, none⟩ = some (.slice a xs.length c1) ∧ w'.cell? ⟨b', o' + k, none⟩ = some (.slice a' ys.length c2) ∧ Below wr.heap.size wr w') ((refine ⟨?_, ?_, ?_⟩ <;> (first | assumption | exact Below.drew ‹_› | (simp [*]; done))))
          (first
            | (go_at_call 34; refine (HC.out _ (R1.out.keep (by first | assumption | exact Below.drew (by assumption))) (R2.out.keep (by first | assumption | exact Below.drew (by assumption)))).mono ?_; rintro e w2 ⟨rfl, hb⟩; obtain ⟨r0, r1, r2⟩ := keptH (b := b) (b' := b') (o := o + k) (o' := o' + k) hb1 hb2 (by first | assumption | exact Below.drew (by assumption)) hb (by assumption) (by assumption)))
        have HR : Hid (Below wr.heap.size wr w2) := (by assumption : Below wr.heap.size wr w2)
        have HWn : Hid (Below w.heap.size w w2) := HW.out.trans (HR.out.mono HW.out.size)
        clear HR
        go_wp2
        go_ret
        exact ⟨ret_bool HV.out.symm, HWn.out⟩
    · obtain rfl : k = m.length := by omega
      have HV : Hid (decide (m = m2) = true) := by show _ = _; rw [decide_eq_true_eq]; exact HT.out.all HN.out
      go_wp2
      go_ret
      exact ⟨ret_bool HV.out.symm, HW.out⟩

end Go.Proofs.YtlagnocglkoomaaDoor
