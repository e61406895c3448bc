/-
  RowText: the program's contract, over the strings.Builder. No condition.
-/
import Derived.Test.YtjjdehnpnfdjcaaRt1
import Derived.Test.YtjjdehnpnfdjcaaWb
import Derived.Test.YtjjdehnpnfdjcaaShelf
namespace Go.Proofs.Ytjjdehnpnfdjcaa
open Go.ChangeShapes Go.WideShapes Go.ChangeAt Go.RowKit Go.Deep

theorem Try.bldT : (Try.prog.info? 32).map (fun i => (i.zero, i.size)) = some (some (.agg #[.pointer none, .slice none 0 0]), 2) := by kernel_rfl
theorem builder_new (W : World) (B : Nat) (hB : B ≤ W.heap.size) : Lib.IsBuilder 32 5 B W.heap.size [] (W.alloc (.cells #[.pointer none, .slice none 0 0] 32)) :=
  Or.inl ⟨hB, .slice none 0 0, heap_alloc_new W _, ⟨rfl, .inl ⟨rfl, rfl⟩⟩, by simp [Value.ownBlock]⟩
theorem flat_y1 (q : Int) : [q].flatMap ycells = [Value.int .u8 q] := rfl

set_option maxRecDepth 100000 in
set_option maxHeartbeats 4000000 in
theorem implRowText_any (r : List Int) (hwf : ∀ x ∈ r, wfY x) (A : Option Addr) (c : Nat) (w : World) (hl : r.length ≤ 1048576) (hr : Rd w w.heap.size ycells A r) :
    Calls Try.prog 6 #[.slice A r.length c] w fun e w' => e = .returned (.string (rtA r)) ∧ Below w.heap.size w w' := by
  have HC := Lib.hid (isValidR_any r A c w hl hr)
  have HR := Lib.hid hr
  have HW := Lib.hid hwf
  clear hr hwf
  go_enter Try.func6, Try.ntmps6
  go_wp2_with fail
  refine HC.out.mono ?_
  rintro e w1 ⟨rfl, hb⟩
  have HB := Lib.hid hb
  clear HC hb
  cases h0 : yOk r
  · have E := Lib.hid (rtA_no h0)
    clear h0
    go_wp2
    first | go_ret | skip
    exact ⟨by (rw [E.out]; first | done | rfl), HB.out⟩
  have E := Lib.hid (rtA_yes h0)
  have hy := yOk_out h0
  have H7 : Hid (∀ x ∈ r, 0 ≤ x ∧ x ≤ 7) := fun x h => ⟨(HW.out x h).1, hy.1 x h⟩
  have h60 := hy.2.2
  have HBu : Hid (Lib.IsBuilder 32 5 w1.heap.size w1.heap.size ((rtL r 0).flatMap ycells) (w1.alloc (.cells #[.pointer none, .slice none 0 0] 32))) := builder_new w1 w1.heap.size (Nat.le_refl _)
  have HB1 : Hid (Below w1.heap.size w1 (w1.alloc (.cells #[.pointer none, .slice none 0 0] 32))) := (Below.refl _ _).alloc (Nat.le_refl _) _
  have HR1 := Lib.hid (HR.out.keep HB.out)
  clear h0 hy
  go_wp2_with fail
  go_loopw [11] (fun i wr => ∃ (k : Nat), k ≤ r.length ∧ i = .int .i64 k ∧ Lib.IsBuilder 32 5 w1.heap.size w1.heap.size ((rtL r k).flatMap ycells) wr ∧ Below w1.heap.size w1 wr) (fun i _ => r.length - (intOf i).toNat)
  case atStart => exact ⟨0, by omega, rfl, HBu.out, HB1.out⟩
  case round =>
    clear HBu HB1
    obtain ⟨k, hk, rfl, hBu, hB⟩ := hrel
    obtain ⟨wa, rfl⟩ : ∃ u, u = wr := ⟨_, rfl⟩
    have HBu := Lib.hid hBu
    have HB2 := Lib.hid hB
    clear hB hBu
    have hk0 : (0 : Int) ≤ (k : Int) := Int.natCast_nonneg _
    by_cases hlt : k < r.length
    · have hk8 : (k : Int) < r.length := by omega
      obtain ⟨x, hx⟩ : ∃ x, r[k]? = some x := ⟨_, List.getElem?_eq_getElem hlt⟩
      have hxb := H7.out x (List.mem_of_getElem? hx)
      obtain ⟨b, o, rfl, hbl, hrow⟩ := (HR1.out.keep HB2.out).at_ ycells_length hx
      have e1 := rowY hrow
      have HSt := Lib.hid (rtL_succ hx)
      have hw3 : IntKind.u8.wrap (48 + x) = 48 + x := IntWalk.u8_in _ ⟨by omega, by omega⟩
      obtain ⟨q, hq⟩ : ∃ q, 48 + x = q := ⟨_, rfl⟩
      rw [hq] at HSt hw3
      have hw4 : IntKind.u8.wrap (48 + x) = q := by rw [hq]; exact hw3
      have HWs := Lib.hid (writeByte_any w1.heap.size w1.heap.size ((rtL r k).flatMap ycells) q wa HBu.out (by rw [flat_y, List.length_map, rtL_len hk]; omega) HB2.out.size)
      rw [← flat_y1 q, ← List.flatMap_append, ← HSt.out] at HWs
      clear hx hrow hq hw3
      go_wp2_with fail
      refine HWs.out.mono ?_
      rintro e w4 ⟨rfl, hBu, hb4⟩
      have HBu6 : Hid (Lib.IsBuilder 32 5 w1.heap.size w1.heap.size ((rtL r (k + 1)).flatMap ycells) w4) := Or.inr hBu
      have HB6 := Lib.hid (HB2.out.trans hb4)
      clear hBu hb4 HWs
      go_wp2
      go_roundw
      case rel => exact ⟨k + 1, by omega, by go_num, HBu6.out, HB6.out⟩
      case measure => simp [intOf]; omega
    · obtain rfl : k = r.length := by omega
      have HSt := Lib.hid (Try.Builder_String_any w1.heap.size w1.heap.size ((rtL r r.length).map fun n => UInt8.ofNat n.toNat) wa (by
        rw [← rt_cells (fun x hx => by
          obtain ⟨y, hy, rfl⟩ := List.mem_map.1 hx
          have := H7.out y (List.mem_of_mem_take hy); omega)]
        exact HBu.out) HB2.out.size)
      have HE2 : Hid ((⟨((rtL r r.length).map fun n => UInt8.ofNat n.toNat).toArray⟩ : ByteArray) = strOfNums (rtL r r.length)) := rfl
      rw [HE2.out] at HSt
      clear HE2
      obtain ⟨s, hs⟩ : ∃ s, strOfNums (rtL r r.length) = s := ⟨_, rfl⟩
      rw [hs] at E HSt
      clear hs
      go_wp2_with fail
      refine HSt.out.mono ?_
      rintro e w4 ⟨rfl, hb4⟩
      have HB6 := Lib.hid (HB.out.trans ((HB2.out.trans hb4).mono HB.out.size))
      clear hb4 HSt
      go_wp2
      go_ret
      exact ⟨by (rw [E.out]; first | done | rfl), HB6.out⟩
end Go.Proofs.Ytjjdehnpnfdjcaa
