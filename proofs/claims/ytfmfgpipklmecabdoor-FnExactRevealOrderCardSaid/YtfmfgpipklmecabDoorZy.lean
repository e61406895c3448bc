/-
  Orders turned round: slices.Reverse, listOf at a backward serving, pairsIn and agreement at whatever serving; l07Where. Condition: orders of at most eight samples.
-/
import Derived.Test.YtfmfgpipklmecabDoorZx
namespace Go.Proofs.YtfmfgpipklmecabDoor
open Go.ChangeShapes Go.WideShapes Go.ChangeAt Go.RowKit Go.Deep

/-- Turned round up to i from both ends. -/
def rvT (xs : List Int) (i : Nat) (X : List Int) : Prop := X.length = xs.length ∧ ∀ p, p < xs.length → X[p]? = if p < i ∨ xs.length < p + i + 1 then xs[xs.length - 1 - p]? else xs[p]?
theorem rvT.zero (xs : List Int) : rvT xs 0 xs := ⟨rfl, fun p hp => by rw [if_neg (by omega)]⟩
theorem rvT.done {xs X : List Int} {i : Nat} (h : rvT xs i X) (hi : xs.length ≤ 2 * i + 1) : X = xs.reverse := by
  apply List.ext_getElem?
  intro p
  by_cases hp : p < xs.length
  · rw [h.2 p hp, List.getElem?_reverse hp]
    by_cases h1 : p < i ∨ xs.length < p + i + 1
    · rw [if_pos h1]
    · rw [if_neg h1, show xs.length - 1 - p = p from by omega]
  · rw [List.getElem?_eq_none (by rw [h.1]; omega), List.getElem?_eq_none (by simp; omega)]
theorem rvT.step {xs X : List Int} {i j : Nat} {a b : Int} (h : rvT xs i X) (hij : i < j) (hj : i + j + 1 = xs.length) (ha : X[i]? = some a) (hb : X[j]? = some b) : rvT xs (i + 1) ((X.set i b).set j a) := by
  have hai := h.2 i (by omega)
  rw [if_neg (by omega), ha] at hai
  have hbj := h.2 j (by omega)
  rw [if_neg (by omega), hb] at hbj
  refine ⟨by simp [h.1], fun p hp => ?_⟩
  by_cases e1 : p = j
  · subst e1
    rw [List.getElem?_set_self (by rw [List.length_set, h.1]; omega), if_pos (by omega), show xs.length - 1 - p = i from by omega, hai]
  · rw [List.getElem?_set_ne (Ne.symm e1)]
    by_cases e2 : p = i
    · subst e2
      rw [List.getElem?_set_self (by rw [h.1]; omega), if_pos (by omega), show xs.length - 1 - p = j from by omega, hbj]
    · rw [List.getElem?_set_ne (Ne.symm e2), h.2 p hp]
      by_cases h1 : p < i ∨ xs.length < p + i + 1
      · rw [if_pos h1, if_pos (by omega)]
      · rw [if_neg h1, if_neg (by omega)]

set_option maxRecDepth 100000 in
set_option maxHeartbeats 4000000 in
theorem reverseI_any (xs : List Int) (h0 : 0 < xs.length) (h8 : xs.length ≤ 8) (g cap base : Nat) (hbg : base ≤ g) (w : World) (h : OI w g xs cap) :
    Calls Tryd.prog 99 #[.slice (some ⟨g, 0, none⟩) xs.length cap] w fun e w' => (∃ v, e = .returned v) ∧ OI w' g xs.reverse cap ∧ Below base w w' := by
  have H := Lib.hid h
  clear h
  go_enter Tryd.func99, Tryd.ntmps99
  have v1 : IntKind.i64.wrap ((xs.length : Int) - 1) = (xs.length : Int) - 1 := IntWalk.i64_in _ ⟨by omega, by omega⟩
  have v2 : wrap64 ((xs.length : Int) - 1) = (xs.length : Int) - 1 := IntWalk.wrap64_in _ ⟨by omega, by omega⟩
  go_wp2_with fail
  go_loopw [2, 3] (fun s2 s3 wr => ∃ (i : Nat) (X : List Int), i ≤ xs.length ∧ s2 = .int .i64 i ∧ s3 = .int .i64 ((xs.length : Int) - 1 - i) ∧ rvT xs i X ∧ OI wr g X cap ∧ Below base w wr) (fun s2 _ _ => xs.length - (intOf s2).toNat)
  case atStart => exact ⟨0, xs, by omega, rfl, by simp, rvT.zero xs, H.out, Below.refl _ _⟩
  case round =>
    clear v1 v2
    obtain ⟨i, X, hi, rfl, rfl, hT, hO, hB⟩ := hrel
    obtain ⟨wb, rfl⟩ : ∃ u, u = wr := ⟨_, rfl⟩
    have HT := Lib.hid hT
    have HO := Lib.hid hO
    have HB := Lib.hid hB
    have HXl := Lib.hid hT.1
    clear hT hO hB
    have hi0 : (0 : Int) ≤ (i : Int) := Int.natCast_nonneg _
    by_cases hlt : 2 * i + 1 < xs.length
    · obtain ⟨j, hj⟩ : ∃ j, i + j + 1 = xs.length := ⟨xs.length - 1 - i, by omega⟩
      have hje : (xs.length : Int) - 1 - (i : Int) = (j : Int) := by omega
      rw [hje]
      have hlt9 : (i : Int) < (j : Int) := by omega
      have hi8 : (i : Int) < xs.length := by omega
      have hj8 : (j : Int) < xs.length := by omega
      have hj0 : (0 : Int) ≤ (j : Int) := Int.natCast_nonneg _
      have hij : i ≠ j := by omega
      obtain ⟨a, ha⟩ : ∃ a, X[i]? = some a := ⟨_, List.getElem?_eq_getElem (by rw [HXl.out]; omega)⟩
      obtain ⟨b, hb⟩ : ∃ b, X[j]? = some b := ⟨_, List.getElem?_eq_getElem (by rw [HXl.out]; omega)⟩
      have c1 := HO.out.cell ha
      have c2 := HO.out.cell hb
      have f1 := HO.out.frozen i
      have f2 := HO.out.frozen j
      have HSt := Lib.hid (HT.out.step (by omega) hj ha hb)
      have m1 : OI ((wb.setCell ⟨g, i, none⟩ (.int .i64 b)).setCell ⟨g, j, none⟩ (.int .i64 a)) g ((X.set i b).set j a) cap := (HO.out.set i b).set j a
      have mb : Below base w ((wb.setCell ⟨g, i, none⟩ (.int .i64 b)).setCell ⟨g, j, none⟩ (.int .i64 a)) := (HB.out.setCell (p := ⟨g, i, none⟩) hbg _).setCell (p := ⟨g, j, none⟩) hbg _
      have mb2 : Below base w ((wb.drew.setCell ⟨g, i, none⟩ (.int .i64 b)).setCell ⟨g, j, none⟩ (.int .i64 a)) := (HB.out.drew.setCell (p := ⟨g, i, none⟩) hbg _).setCell (p := ⟨g, j, none⟩) hbg _
      have M1 := Lib.hid m1
      have MB := Lib.hid mb
      have MB2 := Lib.hid mb2
      have u1 : IntKind.i64.wrap ((j : Int) - 1) = (j : Int) - 1 := IntWalk.i64_in _ ⟨by omega, by omega⟩
      have u2 : wrap64 ((j : Int) - 1) = (j : Int) - 1 := IntWalk.wrap64_in _ ⟨by omega, by omega⟩
      clear ha hb m1 mb mb2
      go_wp2_with fail
      go_region
      go_wp2
      go_roundw
      case rel => exact ⟨i + 1, (X.set i b).set j a, by omega, by go_num, by (congr 1; omega), HSt.out, by first | exact M1.out | exact M1.out.drew, by first | exact MB.out | exact MB.out.drew | exact MB2.out⟩
      case measure => simp [intOf]; omega
    · have HX9 : Hid (X = xs.reverse) := HT.out.done (by omega)
      have hn9 : ¬ (i : Int) < (xs.length : Int) - 1 - i := by omega
      go_wp2
      go_end0
      exact ⟨⟨_, rfl⟩, by rw [← HX9.out]; exact HO.out, HB.out⟩

theorem Tryd.asB0 (v : Value) (w : World) : (Instr.typeAssert (.iface 157 (.agg #[v])) 107 54 true).run Tryd.prog w = .ok (.tuple #[.slice none 0 0, .bool false]) w := by kernel_rfl
theorem Tryd.asB1 (v : Value) (w : World) : (Instr.typeAssert (.iface 157 (.agg #[v])) 107 152 true).run Tryd.prog w = .ok (.tuple #[.int .i64 0, .bool false]) w := by kernel_rfl
theorem Tryd.asB2 (v : Value) (w : World) : (Instr.typeAssert (.iface 157 (.agg #[v])) 107 155 true).run Tryd.prog w = .ok (.tuple #[.agg #[.nilIface, .int .i64 0], .bool false]) w := by kernel_rfl
theorem Tryd.asB3 (v : Value) (w : World) : (Instr.typeAssert (.iface 157 (.agg #[v])) 107 157 true).run Tryd.prog w = .ok (.tuple #[.agg #[v], .bool true]) w := by kernel_rfl

set_option maxRecDepth 100000 in
set_option maxHeartbeats 4000000 in
theorem listOfB_any (xs : List Int) (h0 : 0 < xs.length) (h8 : xs.length ≤ 8) (A : Option Addr) (c : Nat) (w : World) (hr : Rd w w.heap.size icells A xs) :
    Calls Tryd.prog 86 #[.iface 157 (.agg #[.iface 54 (.slice A xs.length c)])] w fun e w' => ∃ A' c', e = .returned (.slice A' xs.reverse.length c') ∧ w'.ownsRow w.heap.size 2 1 (.slice A' xs.reverse.length c') xs.reverse.length (xs.reverse.flatMap icells) ∧ Below w.heap.size w w' := by
  have b0 := Tryd.asB0 (.iface 54 (.slice A xs.length c))
  have b1 := Tryd.asB1 (.iface 54 (.slice A xs.length c))
  have b2 := Tryd.asB2 (.iface 54 (.slice A xs.length c))
  have b3 := Tryd.asB3 (.iface 54 (.slice A xs.length c))
  have HR := Lib.hid hr
  have hB1 : Below w.heap.size w (w.alloc (.cells #[.iface 54 (.slice A xs.length c)] 157)) := (Below.refl _ _).alloc (Nat.le_refl _) _
  have HC := Lib.hid (listOfG_any xs h0 h8 A c (w.alloc (.cells #[.iface 54 (.slice A xs.length c)] 157)) (HR.out.keep hB1))
  have HB1 := Lib.hid hB1
  have HLr : Hid (xs.reverse.length = xs.length) := List.length_reverse
  clear hr hB1
  go_enter Tryd.func86, Tryd.ntmps86
  go_wp2_with fail
  refine HC.out.mono ?_
  rintro e w1 ⟨A', c', rfl, hO, hb⟩
  have HB2 := Lib.hid (HB1.out.trans (hb.mono HB1.out.size))
  rcases OI.of hO with ⟨-, hn⟩ | ⟨g, cap, hv, hbg, hOI⟩
  · rw [hn] at h0; exact absurd h0 (by simp)
  simp only [Value.slice.injEq, true_and] at hv
  obtain ⟨rfl, rfl⟩ := hv
  have hbg2 : w.heap.size ≤ g := Nat.le_trans HB1.out.size hbg
  have HRv := Lib.hid (reverseI_any xs h0 h8 g c' w.heap.size hbg2 w1 hOI)
  clear hO hb HC hOI hbg b0 b1 b2 b3
  go_wp2_with fail
  refine HRv.out.mono ?_
  rintro e w2 ⟨⟨v, rfl⟩, hOI, hb⟩
  have HO2 := Lib.hid (hOI.own hbg2)
  have HB3 := Lib.hid (HB2.out.trans hb)
  clear hOI hb HRv
  rw [HLr.out] at HO2
  go_wp2
  go_ret
  exact ⟨some ⟨g, 0, none⟩, c', by (rw [HLr.out]; first | done | rfl), by rw [HLr.out]; exact HO2.out, HB3.out⟩

set_option maxRecDepth 100000 in
set_option maxHeartbeats 8000000 in
theorem pairsInV_any (sv : Value) (xs : List Int) (h0 : 0 < xs.length) (h8 : xs.length ≤ 8) (w : World) (HC0 : Calls Tryd.prog 86 #[sv] w fun e w' => ∃ A' c', e = .returned (.slice A' xs.length c') ∧ w'.ownsRow w.heap.size 2 1 (.slice A' xs.length c') xs.length (xs.flatMap icells) ∧ Below w.heap.size w w') :
    Calls Tryd.prog 69 #[sv] w fun e w' => ∃ A' c', e = .returned (.slice A' (opI xs xs.length).length c') ∧ w'.ownsRow w.heap.size 110 2 (.slice A' (opI xs xs.length).length c') (opI xs xs.length).length ((opI xs xs.length).flatMap pqc) ∧ Below w.heap.size w w' := by
  obtain ⟨i0, hi, hz0, hz1, hz2⟩ := info_parts Tryd.infoPq
  have HI := Lib.hid hi
  have HZ0 := Lib.hid hz0
  have HZ1 := Lib.hid hz1
  have HZ2 := Lib.hid hz2
  clear hi hz0 hz1 hz2
  have HC := Lib.hid HC0
  clear HC0
  go_enter Tryd.func69, Tryd.ntmps69
  go_wp2_with fail
  refine HC.out.mono ?_
  rintro e w1 ⟨Aq, cq, rfl, hOq, hb1⟩
  have HBq := Lib.hid hb1
  obtain ⟨g, cap, hAq, hcap, hcells⟩ : ∃ g, ∃ _ : Nat, Aq = some ⟨g, 0, none⟩ ∧ xs.length ≤ cq ∧ ∀ (j : Nat) (x : Int), xs[j]? = some x → w1.cell? ⟨g, j, none⟩ = some (.int .i64 x) := by
    have hq := hOq
    rcases hOq.2 with ⟨h', h0'⟩ | ⟨g, cap, cur, h', hb', hg', hn', -⟩
    · omega
    · simp only [Value.slice.injEq, true_and] at h'
      obtain ⟨rfl, rfl⟩ := h'
      refine ⟨g, 0, rfl, hn', fun j x hj => ?_⟩
      have hjl := (List.getElem?_eq_some_iff.1 hj).1
      rw [hq.cellAt j (by omega), flat_iN, List.getElem?_map, hj]; rfl
  subst hAq
  have HCe := Lib.hid hcells
  have HO0 : Hid (w1.ownsRow w1.heap.size 110 2 (.slice none 0 0) 0 ((opI xs 0).flatMap pqc)) := ⟨rfl, .inl ⟨rfl, rfl⟩⟩
  clear hOq hb1 hcells HC
  go_wp2_with fail
  go_loopw [3, 13] (fun v j wr => ∃ (i : Nat) (A1 : Option Addr) (n1 c1 : Nat), i ≤ xs.length ∧ j = .int .i64 i ∧ v = .slice A1 n1 c1 ∧ n1 = (opI xs i).length ∧ wr.ownsRow w1.heap.size 110 2 (.slice A1 n1 c1) n1 ((opI xs i).flatMap pqc) ∧ Below w1.heap.size w1 wr)
    (fun _ j _ => xs.length - (intOf j).toNat)
  case atStart => exact ⟨0, none, 0, 0, by omega, rfl, rfl, rfl, HO0.out, Below.refl _ _⟩
  case round =>
    clear HO0
    obtain ⟨i, A1, n1, c1, hi, rfl, rfl, hn1, hO, hB⟩ := hrel
    obtain ⟨wa, rfl⟩ : ∃ u, u = wr := ⟨_, rfl⟩
    have HO : Hid (n1 = (opI xs i ++ opK xs i (i + 1)).length ∧ wa.ownsRow w1.heap.size 110 2 (.slice A1 n1 c1) n1 ((opI xs i ++ opK xs i (i + 1)).flatMap pqc)) := by
      show _ ∧ _
      rw [opK_low xs i (i + 1) (by omega), List.append_nil]
      exact ⟨hn1, hO⟩
    have HO9 := Lib.hid hO
    have HB := Lib.hid hB
    have HN1 := Lib.hid hn1
    clear hO hB hn1
    have hi0 : (0 : Int) ≤ (i : Int) := Int.natCast_nonneg _
    by_cases hlt : i < xs.length
    · have hi8 : (i : Int) < xs.length := by omega
      obtain ⟨x, hx⟩ : ∃ x, xs[i]? = some x := ⟨_, List.getElem?_eq_getElem hlt⟩
      have e1 := (HB.out.cell (p := ⟨g, i, none⟩) (cell_lt9 (HCe.out i x hx))).trans (HCe.out i x hx)
      have hl64 := opI_len h8 i
      have u0 : IntKind.i64.wrap ((i : Int) + 1) = (i : Int) + 1 := IntWalk.i64_in _ ⟨by omega, by omega⟩
      have u00 : wrap64 ((i : Int) + 1) = (i : Int) + 1 := IntWalk.wrap64_in _ ⟨by omega, by omega⟩
      have HX := Lib.hid hx
      have hic : i + 1 ≤ cq := by omega
      have hil : i + 1 ≤ xs.length := by omega
      clear hx HN1 HO9
      by_cases hlo : cq = i + 1
      · have hxl : xs.length = i + 1 := by omega
        subst hlo
        have hz : xs.length - (i + 1) = 0 := by omega
        have HO11 : Hid (n1 = (opI xs (i + 1)).length ∧ wa.ownsRow w1.heap.size 110 2 (.slice A1 n1 c1) n1 ((opI xs (i + 1)).flatMap pqc)) := by
          have := HO.out
          rw [show opI xs (i + 1) = opI xs i ++ opK xs i (i + 1) from by rw [opI, hxl]]
          exact this
        clear HO
        go_wp2_with fail
        refine wp_loop_rounds 1 ?_
        rw [rounds_succ]
        go_wp2
        go_roundw
        case rel => exact ⟨i + 1, A1, n1, c1, by omega, by go_num, rfl, HO11.out.1, HO11.out.2, HB.out⟩
        case measure => simp [intOf]; omega
      · go_wp2_with fail
        go_loopw [3, 23] (fun v j wr => ∃ (q : Nat) (A2 : Option Addr) (n2 c2 : Nat), q ≤ xs.length - (i + 1) ∧ j = .int .i64 q ∧ v = .slice A2 n2 c2 ∧ n2 = (opI xs i ++ opK xs i (i + 1 + q)).length ∧ wr.ownsRow w1.heap.size 110 2 (.slice A2 n2 c2) n2 ((opI xs i ++ opK xs i (i + 1 + q)).flatMap pqc) ∧ Below w1.heap.size w1 wr)
          (fun _ j _ => (xs.length - (i + 1)) - (intOf j).toNat)
        case atStart => exact ⟨0, A1, n1, c1, by omega, rfl, rfl, HO.out.1, HO.out.2, HB.out⟩
        case round =>
          clear HO HB e1
          obtain ⟨q, A2, n2, c2, hq, rfl, rfl, hn2, hO, hB⟩ := hrel
          obtain ⟨wb, rfl⟩ : ∃ u, u = wr := ⟨_, rfl⟩
          have HO := Lib.hid hO
          have HB := Lib.hid hB
          have HN2 := Lib.hid hn2
          have hn2b : n2 ≤ 80 := by have := opK_len xs i (i + 1 + q); rw [hn2, List.length_append]; omega
          clear hO hB hn2
          have hq0 : (0 : Int) ≤ (q : Int) := Int.natCast_nonneg _
          by_cases hlt2 : q < xs.length - (i + 1)
          · have hq8 : (q : Int) < ((xs.length - (i + 1) : Nat) : Int) := by omega
            have hiq : i + 1 + q < xs.length := by omega
            obtain ⟨y, hy⟩ : ∃ y, xs[i + 1 + q]? = some y := ⟨_, List.getElem?_eq_getElem hiq⟩
            have e2 := (HB.out.cell (p := ⟨g, i + 1 + q, none⟩) (cell_lt9 (HCe.out _ y hy))).trans (HCe.out _ y hy)
            have hSt : Hid (opK xs i (i + 1 + (q + 1)) = opK xs i (i + 1 + q) ++ [(x, y)]) := opK_succ (k := i + 1 + q) HX.out hy (by omega)
            clear hy
            go_wp2_with (at_builtin; refine wpList_append_own _ rfl (.tmp 27) (.tmp 31) 101 rfl w1.heap.size 110 i0 (.agg #[.int .i64 0, .int .i64 0]) 2 16 Tryd.underlying101 HI.out HZ0.out HZ1.out HZ2.out rfl (by decide) _ _ _ rfl (HO.out.alloc _) ⟨wb.heap.size, 0, none⟩ 1 1 [.int .i64 x, .int .i64 y] rfl rfl ?c1 ?c2 ?c3 ?c4 ?c5 ?_)
            case c1 => exact cell_two_newP _ _ _ _
            case c2 => exact two_oneP _ _
            case c3 => unfold maxLen; omega
            case c4 => omega
            case c5 => have := HB.out.size; simp; omega
            intro v' w4 hown' hgrow _
            have hown4 : w4.ownsRow w1.heap.size 110 2 v' (n2 + 1) ((opI xs i ++ opK xs i (i + 1 + (q + 1))).flatMap pqc) := by
              rw [hSt.out, ← List.append_assoc, pqc_snoc]; simpa [pqc] using hown'
            have HB4 : Hid (Below w1.heap.size w1 w4) := (HB.out.alloc HB.out.size _).grown hgrow (by have := HB.out.size; simp; omega) (fun r e => (HO.out.lt r e).1)
            have HN4 : Hid (n2 + 1 = (opI xs i ++ opK xs i (i + 1 + (q + 1))).length) := by
              show _ = _
              rw [hSt.out, ← List.append_assoc, List.length_append, ← HN2.out]; rfl
            obtain ⟨A8, c8, rfl⟩ : ∃ A8 c8, v' = .slice A8 (n2 + 1) c8 := by
              rcases hown4.2 with ⟨h1, h2⟩ | ⟨g, cap, cur, h1, -⟩
              · exact ⟨_, _, by rw [h1, h2]⟩
              · exact ⟨_, _, h1⟩
            have HO4 := Lib.hid hown4
            clear hown' hown4 hgrow e2
            go_wp2
            go_roundw
            case rel => exact ⟨q + 1, A8, n2 + 1, c8, by omega, by go_num, rfl, HN4.out, HO4.out, HB4.out⟩
            case measure => simp [intOf]; omega
          · have hqe : i + 1 + q = xs.length := by omega
            have HO11 : Hid (n2 = (opI xs (i + 1)).length ∧ wb.ownsRow w1.heap.size 110 2 (.slice A2 n2 c2) n2 ((opI xs (i + 1)).flatMap pqc)) := by
              have h1 := HN2.out
              have h2 := HO.out
              rw [hqe] at h1 h2
              exact ⟨h1, h2⟩
            have hq9 : ¬ (q : Int) < ((xs.length - (i + 1) : Nat) : Int) := by omega
            go_wp2
            go_roundw
            case rel => exact ⟨i + 1, A2, n2, c2, by omega, by go_num, rfl, HO11.out.1, HO11.out.2, HB.out⟩
            case measure => simp [intOf]; omega
    · obtain rfl : i = xs.length := by omega
      have HB9 := Lib.hid (HBq.out.trans (HB.out.mono HBq.out.size))
      have HO10 := Lib.hid (own_base HO9.out HBq.out.size)
      go_wp2
      go_ret
      exact ⟨A1, c1, by (rw [← HN1.out]; first | done | rfl), by rw [← HN1.out]; exact HO10.out, HB9.out⟩


set_option maxRecDepth 100000 in
set_option maxHeartbeats 4000000 in
theorem agreementV_any (sv : Value) (xs : List Int) (hxs : ∀ x ∈ xs, 0 ≤ x ∧ x < 9) (h0 : 0 < xs.length) (h8 : xs.length ≤ 8) (ps : List Pq) (hps : ps.length ≤ 6500) (B n : Nat) (D : DataW Unit) (w : World) (HC0 : Calls Tryd.prog 69 #[sv] w fun e w' => ∃ A' c', e = .returned (.slice A' (opI xs xs.length).length c') ∧ w'.ownsRow w.heap.size 110 2 (.slice A' (opI xs xs.length).length c') (opI xs xs.length).length ((opI xs xs.length).flatMap pqc) ∧ Below w.heap.size w w') (hO : OwnsP w B n D) (hH : Holds D ok2 kP (cntP ps)) :
    Calls Tryd.prog 37 #[.map (some B), sv] w fun e w' => e = .returned (.int .i64 (suP (fun p => ((cntP ps p : Nat) : Int)) (opI xs xs.length))) ∧ Below w.heap.size w w' := by
  have HC := Lib.hid HC0
  have HK : Hid (∀ (W : World), Below w.heap.size w W → OwnsP W B n D) := fun W hW => hO.kept (grown_of_below hW) (by simp)
  have HH := Lib.hid hH
  have HX := Lib.hid hxs
  have HL := Lib.hid (opI_len h8 xs.length)
  clear HC0 hO hH hxs
  go_enter Tryd.func37, Tryd.ntmps37
  go_wp2_with fail
  refine HC.out.mono ?_
  rintro e w1 ⟨A', c', rfl, hO, hb⟩
  have HB := Lib.hid hb
  have HS := Lib.hid (sumForN_any (fun p => ((cntP ps p : Nat) : Int)) 6500 (by omega) (opI xs xs.length) (by have := HL.out; omega) (fun p _ => by have := cntP_le ps p; omega) A' c' w1 (own_rd2 pqc_length hO) B (fun p hp W hW => by
    obtain ⟨m1, m2⟩ := opI_mem (Nat.le_refl _) hp
    obtain ⟨p1, p2⟩ := p
    have b1 := HX.out p1 m1
    have b2 := HX.out p2 m2
    obtain ⟨a, rfl⟩ : ∃ a : Nat, p1 = (a : Int) := ⟨p1.toNat, by omega⟩
    obtain ⟨b, rfl⟩ : ∃ b : Nat, p2 = (b : Int) := ⟨p2.toNat, by omega⟩
    exact numberOf_any a b (by omega) (by omega) ps B n D W (HK.out W (hb.trans (hW.mono hb.size))) HH.out))
  clear hO hb HC
  go_wp2_with fail
  refine HS.out.mono ?_
  rintro e w2 ⟨rfl, hb2⟩
  have HB2 := Lib.hid (HB.out.trans (hb2.mono HB.out.size))
  clear hb2 HS
  go_wp2
  go_ret
  exact ⟨rfl, HB2.out⟩


set_option maxRecDepth 100000 in
set_option maxHeartbeats 2000000 in
theorem l07Where_any (b : List Int) (h8 : b.length ≤ 8) (x : Int) (hx : x ∈ b) (A : Option Addr) (c : Nat) (w : World) (hr : Rd w w.heap.size icells A b) :
    Calls Tryd.prog 43 #[.slice A b.length c, .int .i64 x] w fun e w' => e = .returned (.int .i64 (wb b x : Nat)) ∧ w = w' := by
  have HR := Lib.hid hr
  have HAt := Lib.hid (wb_at hx)
  have hwl := (List.getElem?_eq_some_iff.1 (wb_at hx)).1
  have HNo : Hid (∀ (j : Nat) (y : Int), j < wb b x → b[j]? = some y → (y == x) = false) := fun j y h1 h2 => wb_no h1 h2
  obtain ⟨q, hq⟩ : ∃ q, wb b x = q := ⟨_, rfl⟩
  rw [hq] at HAt HNo hwl ⊢
  clear hr hx hq
  go_enter Tryd.func43, Tryd.ntmps43
  go_wp2_with fail
  go_loop [5] (fun j => ∃ (k : Nat), k ≤ q ∧ j = .int .i64 k) (fun j => q - (intOf j).toNat)
  case atStart => exact ⟨0, by omega, rfl⟩
  case round =>
    obtain ⟨k, hk, rfl⟩ := hrel
    have hk0 : (0 : Int) ≤ (k : Int) := Int.natCast_nonneg _
    have hk8 : (k : Int) < b.length := by omega
    by_cases hlt : k < q
    · obtain ⟨y, hy⟩ : ∃ y, b[k]? = some y := ⟨_, List.getElem?_eq_getElem (by omega)⟩
      obtain ⟨b3, o3, rfl, hbl, hrow⟩ := HR.out.at_ icells_length hy
      have e1 := rowI hrow
      have hne := HNo.out k y hlt hy
      have hne2 : (y != x) = true := by simp [bne, hne]
      clear hy hrow
      go_wp2
      go_round
      case rel => exact ⟨k + 1, by omega, by go_num⟩
      case measure => simp [intOf]; omega
    · obtain rfl : k = q := by omega
      obtain ⟨b3, o3, rfl, hbl, hrow⟩ := HR.out.at_ icells_length HAt.out
      have e1 := rowI hrow
      have hne : (x != x) = false := by simp
      clear hrow
      go_wp2
      go_ret
      exact ⟨rfl, rfl⟩
end Go.Proofs.YtfmfgpipklmecabDoor
