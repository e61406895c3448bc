/-
  RowText: mathematics and the model's contract. No condition.
-/
import Derived.Test.YtjjdehnpnfdjcaaYv0
import Derived.Laws.BytesArg
import Derived.Lib.UnsafeStr
import Derived.Deep.LoopGhost
namespace Go.Proofs.Ytjjdehnpnfdjcaa
open Go.ChangeShapes Go.WideShapes Go.ChangeAt Go.RowKit Go.Deep

/-- The letters of the first k numbers of a row. -/
def rtL (r : List Int) (k : Nat) : List Int := (r.take k).map (48 + ·)
theorem rtL_succ {r : List Int} {k : Nat} {x : Int} (h : r[k]? = some x) : rtL r (k + 1) = rtL r k ++ [48 + x] := by
  obtain ⟨h1, e⟩ := List.getElem?_eq_some_iff.1 h
  rw [rtL, List.take_succ_eq_append_getElem h1, List.map_append, e]; rfl
theorem rtL_len {r : List Int} {k : Nat} (h : k ≤ r.length) : (rtL r k).length = k := by simp [rtL]; omega
def rtA (r : List Int) : ByteArray := if yOk r = true then strOfNums (rtL r r.length) else ⟨#[]⟩
theorem rtA_no {r : List Int} (h : yOk r = false) : rtA r = ⟨#[]⟩ := by simp [rtA, h]
theorem rtA_yes {r : List Int} (h : yOk r = true) : rtA r = strOfNums (rtL r r.length) := by simp [rtA, h]
theorem flat_y (l : List Int) : l.flatMap ycells = l.map (Value.int .u8) := by induction l with
  | nil => rfl
  | cons a l ih => rw [List.flatMap_cons, ih]; rfl
theorem rt_cells {l : List Int} (h : ∀ x ∈ l, 0 ≤ x ∧ x ≤ 255) : l.flatMap ycells = Lib.byteCells (l.map fun n => UInt8.ofNat n.toNat) := by
  rw [flat_y, Lib.byteCells, List.map_map]
  apply List.map_congr_left
  intro x hx
  have := h x hx
  simp only [Function.comp]
  have e : (UInt8.ofNat x.toNat).toNat = x.toNat := by simp; omega
  rw [e, Int.toNat_of_nonneg this.1]
theorem empty_ownY (w : World) (b : Nat) (hb : b ≤ w.heap.size) : (w.alloc (.cells #[] 5)).ownsRow b 5 1 (.slice (some ⟨w.heap.size, 0, none⟩) 0 0) 0 (([] : List Int).flatMap ycells) :=
  ⟨rfl, .inr ⟨w.heap.size, 0, #[], rfl, hb, heap_alloc_new w _, Nat.le_refl _, by unfold maxLen; omega, by simp, by simp⟩⟩
theorem cell_y_new (W : World) (z : Int) (t : TypeId) : ∀ j u, [Value.int .u8 z][j]? = some u → (W.alloc (.cells #[.int .u8 z] t)).cell? ((⟨W.heap.size, 0, none⟩ : Addr).add j) = some u := by
  intro j u hj
  match j, hj with
  | 0, hj => simp at hj; subst hj; simp [Addr.add]

set_option maxRecDepth 100000 in
set_option maxHeartbeats 4000000 in
theorem l05Text_any (r : List Int) (hr7 : ∀ x ∈ r, 0 ≤ x ∧ x ≤ 7) (h60 : 1 ≤ r.length ∧ r.length ≤ 60) (A : Option Addr) (c : Nat) (w : World) (hr : Rd w w.heap.size ycells A r) :
    Calls Try.prog 9 #[.slice A r.length c] w fun e w' => e = .returned (.string (strOfNums (rtL r r.length))) ∧ Below w.heap.size w w' := by
  obtain ⟨i0, hi, hz0, hz1, hz2⟩ := info_parts Try.infoY
  have HI := Lib.hid hi
  have HZ0 := Lib.hid hz0
  have HZ1 := Lib.hid hz1
  have HZ2 := Lib.hid hz2
  clear hi hz0 hz1 hz2
  obtain ⟨h1, h60⟩ := h60
  have HR := Lib.hid hr
  have H7 := Lib.hid hr7
  have HO0 : Hid ((w.alloc (.cells #[] 5)).ownsRow w.heap.size 5 1 (.slice (some ⟨w.heap.size, 0, none⟩) 0 0) 0 ((rtL r 0).flatMap ycells)) := empty_ownY w _ (Nat.le_refl _)
  have HB0 : Hid (Below w.heap.size w (w.alloc (.cells #[] 5))) := (Below.refl _ w).alloc (Nat.le_refl _) _
  clear hr hr7
  go_enter Try.func9, Try.ntmps9
  go_wp2_with fail
  go_loopw [3, 4] (fun v i wr => ∃ (k : Nat) (A1 : Option Addr) (c1 : Nat), k ≤ r.length ∧ i = .int .i64 k ∧ v = .slice A1 k c1 ∧ wr.ownsRow w.heap.size 5 1 (.slice A1 k c1) k ((rtL r k).flatMap ycells) ∧ Below w.heap.size w wr) (fun _ i _ => r.length - (intOf i).toNat)
  case atStart => exact ⟨0, _, _, by omega, rfl, rfl, HO0.out, HB0.out⟩
  case round =>
    clear HO0 HB0
    obtain ⟨k, A1, c1, hk, rfl, rfl, hO, hB⟩ := hrel
    obtain ⟨wa, rfl⟩ : ∃ u, u = wr := ⟨_, rfl⟩
    have HO := Lib.hid hO
    have HB := Lib.hid hB
    clear hO hB
    have hk0 : (0 : Int) ≤ (k : Int) := Int.natCast_nonneg _
    by_cases hlt : k < r.length
    · have hk8 : (k : Int) < r.length := by omega
      obtain ⟨x, hx⟩ : ∃ x, r[k]? = some x := ⟨_, List.getElem?_eq_getElem hlt⟩
      have hxb := H7.out x (List.mem_of_getElem? hx)
      obtain ⟨b, o, rfl, hbl, hrow⟩ := (HR.out.keep HB.out).at_ ycells_length hx
      have e1 := rowY hrow
      have HSt := Lib.hid (rtL_succ hx)
      have hw3 : IntKind.u8.wrap (48 + x) = 48 + x := IntWalk.u8_in _ ⟨by omega, by omega⟩
      obtain ⟨q, hq⟩ : ∃ q, 48 + x = q := ⟨_, rfl⟩
      rw [hq] at HSt hw3
      have hw4 : IntKind.u8.wrap (48 + x) = q := by rw [hq]; exact hw3
      clear hx hrow hq hw3
      go_wp2_with (at_builtin; refine wpList_append_own _ rfl (.tmp 12) (.tmp 18) 22 rfl w.heap.size 5 i0 (.int .u8 0) 1 1 Try.underlying22 HI.out HZ0.out HZ1.out HZ2.out rfl (by decide) _ _ _ rfl (HO.out.alloc _) ⟨wa.heap.size, 0, none⟩ 1 1 [.int .u8 q] rfl rfl ?f1 ?f2 ?f3 ?f4 ?f5 ?_)
      case f1 => exact cell_y_new _ _ _
      case f2 => simp [Value.oneCell']
      case f3 => unfold maxLen; omega
      case f4 => omega
      case f5 => have := HB.out.size; simp; omega
      intro v' w8 hown' hgrow _
      have hown8 : w8.ownsRow w.heap.size 5 1 v' (k + 1) ((rtL r (k + 1)).flatMap ycells) := by rw [HSt.out, List.flatMap_append]; exact hown'
      obtain ⟨A8, c8, rfl⟩ : ∃ A8 c8, v' = .slice A8 (k + 1) c8 := by
        rcases hown8.2 with ⟨h1, h2⟩ | ⟨g, cap, cur, h1, -⟩
        · exact ⟨_, _, by rw [h1, h2]⟩
        · exact ⟨_, _, h1⟩
      have HO8 := Lib.hid hown8
      have HB8 : Hid (Below w.heap.size w w8) := (HB.out.alloc HB.out.size _).grown hgrow (by have := HB.out.size; simp; omega) (fun r e => (HO.out.lt r e).1)
      clear hown' hown8 hgrow
      go_wp2
      go_roundw
      case rel => exact ⟨k + 1, A8, c8, by omega, by go_num, rfl, HO8.out, HB8.out⟩
      case measure => simp [intOf]; omega
    · obtain rfl : k = r.length := by omega
      have HCv : Hid ((convert 22 9 (.slice A1 r.length c1)).run Try.prog wa = .ok (.string (strOfNums (rtL r r.length))) wa) := by
        show _ = _
        rcases HO.out.2 with ⟨-, h0'⟩ | ⟨g, cap, cur, h1', h3, h4, h5, h6, h7, h8⟩
        · omega
        · simp only [Value.slice.injEq, true_and] at h1'
          obtain ⟨rfl, rfl⟩ := h1'
          refine run_convert_bytes_arg wa _ _ Try.underlying22 Try.underlying5 g 0 _ _ (rtL r r.length) (rtL_len (Nat.le_refl _)) (fun j hj => ?_) _ Try.underlying9
          have hjl : j < (rtL r r.length).length := by rw [rtL_len (Nat.le_refl _)]; exact hj
          rw [Nat.zero_add, cell_of_row wa g j cur _ (0, 0) h4]
          have h9 : (cur.toList.take (r.length * 1))[j]? = some (.int .u8 ((rtL r r.length).getD j 0)) := by
            rw [h8, flat_y, List.getElem?_map, List.getD_eq_getElem?_getD, List.getElem?_eq_getElem hjl]; rfl
          rw [List.getElem?_take] at h9
          split at h9
          · simpa using h9
          · cases h9
      have hcv := HCv.out
      obtain ⟨s, hs⟩ : ∃ s, strOfNums (rtL r r.length) = s := ⟨_, rfl⟩
      rw [hs] at hcv
      have HSe := Lib.hid hs
      clear HCv hs
      go_wp2
      go_ret
      exact ⟨by (rw [HSe.out]; first | done | rfl), HB.out⟩

set_option maxRecDepth 100000 in
set_option maxHeartbeats 2000000 in
theorem specRowText_any (r : List Int) (hwf : ∀ x ∈ r, wfY x) (A : Option Addr) (c : Nat) (w : World) (hl : r.length ≤ 1048576) (hr : Rd w w.heap.size ycells A r) :
    Calls Try.prog 4 #[.slice A r.length c] w fun e w' => e = .returned (.string (rtA r)) ∧ Below w.heap.size w w' := by
  have HC := Lib.hid (l05Ok_any r A c w hl hr)
  have HR := Lib.hid hr
  have HW := Lib.hid hwf
  clear hr hwf
  go_enter Try.func4, Try.ntmps4
  go_wp2_with fail
  refine HC.out.mono ?_
  rintro e w1 ⟨rfl, rfl⟩
  clear HC
  cases h0 : yOk r
  · have E := Lib.hid (rtA_no h0)
    clear h0
    go_wp2
    first | go_ret | skip
    exact ⟨by (rw [E.out]; first | done | rfl), Below.refl _ _⟩
  have E := Lib.hid (rtA_yes h0)
  have hy := yOk_out h0
  have HT := Lib.hid (l05Text_any r (fun x h => ⟨(HW.out x h).1, hy.1 x h⟩) hy.2 A c w HR.out)
  clear h0 hy
  obtain ⟨s, hs⟩ : ∃ s, strOfNums (rtL r r.length) = s := ⟨_, rfl⟩
  rw [hs] at E HT
  clear hs
  go_wp2_with fail
  refine HT.out.mono ?_
  rintro e w2 ⟨rfl, hb⟩
  have HB := Lib.hid hb
  clear hb HT
  go_wp2
  go_ret
  exact ⟨by (rw [E.out]; first | done | rfl), HB.out⟩
end Go.Proofs.Ytjjdehnpnfdjcaa
