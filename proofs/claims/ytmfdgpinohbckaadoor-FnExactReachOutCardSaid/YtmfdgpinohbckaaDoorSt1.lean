/-
  The contract of the model's l04Own. Condition: a rack of at most 1048576 lanes and things that are stored.
-/
import Derived.Test.YtmfdgpinohbckaaDoorCy
namespace Go.Proofs.YtmfdgpinohbckaaDoor
open Go.ChangeShapes Go.WideShapes Go.ChangeAt Go.RowKit Go.Deep

theorem one_cell_at (W : World) (v : Value) (t : TypeId) : ∀ (j : Nat) (u : Value), [v][j]? = some u → (W.alloc (.cells #[v] t)).cell? ((⟨W.heap.size, 0, none⟩ : Addr).add j) = some u := fun j u hu => by
  have e : (⟨W.heap.size, 0, none⟩ : Addr).add j = ⟨W.heap.size, j, none⟩ := by cases j <;> simp [Addr.add]
  rw [e, Blk.cell (Blk.new W t #[v])]
  simpa using hu

set_option maxRecDepth 100000 in
set_option maxHeartbeats 2000000 in
theorem l04Own_any (xss : List (List Wnt)) (A : Option Addr) (c : Nat) (w : World) (hl : xss.length ≤ 1048576) (hx : ∀ xs ∈ xss, xs.length ≤ 1048576) (hr : RdN w w.heap.size wcells A xss) :
    Calls Tryd.prog 63 #[.slice A xss.length c] w fun e w' => ∃ A' c' hs, e = .returned (.slice A' xss.length c') ∧ OwnN w' w.heap.size 44 30 3 wcells A' c' hs xss ∧ Below w.heap.size w w' := by
  obtain ⟨i0, hi, hz0, hz1, hz2⟩ := info_parts Tryd.infoTI
  have HI := Lib.hid hi
  have HZ0 := Lib.hid hz0
  have HZ1 := Lib.hid hz1
  have HZ2 := Lib.hid hz2
  clear hi hz0 hz1 hz2
  obtain ⟨j0, hj, hy0, hy1, hy2⟩ := info_parts Tryd.infoLI
  have HJ := Lib.hid hj
  have HY0 := Lib.hid hy0
  have HY1 := Lib.hid hy1
  have HY2 := Lib.hid hy2
  clear hj hy0 hy1 hy2
  have HR := Lib.hid hr
  have HX := Lib.hid hx
  clear hr hx
  have h1 := empty_own w 44 1
  have h2 : Below w.heap.size w (w.alloc (.cells #[] 44)) := (Below.refl _ w).alloc (Nat.le_refl _) _
  have H1 := Lib.hid h1
  have H2 := Lib.hid h2
  clear h1 h2
  go_enter Tryd.func63, Tryd.ntmps63
  go_wp2_with fail
  go_loopw [3, 4] (fun v i wr => ∃ (k : Nat) (hs : List Hd) (A1 : Option Addr) (c1 : Nat), k ≤ xss.length ∧ i = .int .i64 k ∧ hs.length = k ∧ v = .slice A1 k c1 ∧ wr.ownsRow w.heap.size 44 1 (.slice A1 k c1) k (hs.flatMap hcells) ∧ CPk w.heap.size xss k hs wr ∧
      (∀ (i : Nat) (h : Hd), hs[i]? = some h → ∀ q, A1.map (·.block) = some q → h.1.map (·.block) ≠ some q) ∧ Below w.heap.size w wr)
    (fun _ i _ => xss.length - (intOf i).toNat)
  case atStart => exact ⟨0, [], _, _, by omega, rfl, rfl, rfl, H1.out, ⟨fun i h xs hi => absurd hi (Nat.not_lt_zero _), fun i j h h' hi => absurd hi (Nat.not_lt_zero _)⟩, fun i h hi => by simp at hi, H2.out⟩
  case round =>
    clear H1 H2
    obtain ⟨k, hs, A1, c1, hk, rfl, hhl, rfl, hO, hC, hD, hB⟩ := hrel
    have HHl := Lib.hid hhl
    have HO := Lib.hid hO
    have HC := Lib.hid hC
    have HD := Lib.hid hD
    have HB := Lib.hid hB
    clear hhl hO hC hD hB
    by_cases hlt : k < xss.length
    · obtain ⟨xs, hxs⟩ : ∃ x, xss[k]? = some x := ⟨_, List.getElem?_eq_getElem hlt⟩
      obtain ⟨b, o, a, c', rfl, hb, hc, hrd⟩ := (HR.out.keep HB.out).at_ hxs
      have hxl := HX.out xs (List.mem_of_getElem? hxs)
      have hk0 : (0 : Int) ≤ (k : Int) := Int.natCast_nonneg _
      have hk8 : (k : Int) < xss.length := by omega
      have HXs := Lib.hid hxs
      have HRd := Lib.hid hrd
      have hne : b ≠ wr.heap.size := by omega
      clear hxs hrd
      go_wp2_with (at_builtin; refine wpList_append_any _ rfl (.tmp 13) (.tmp 17) 44 44 rfl wr.heap.size 30 i0 (.agg #[.int .u8 0, .int .i16 0, .int .i16 0]) 3 6 Tryd.underlying44 HI.out HZ0.out HZ1.out HZ2.out rfl (by decide) _ 0 [] rfl ?own _ xs.length (xs.flatMap wcells) rfl ?src ?c3 ?c4 ?c5 ?_)
      case own => exact empty_own wr _ 3
      case src => exact src_of_rd _ Tryd.underlying44 wcells_length wcells_one (HRd.out.keep ((Below.refl _ wr).alloc (Nat.le_refl _) _))
      case c3 => unfold maxLen; omega
      case c4 => omega
      intro v2 w2 hown2 hg2 _
      have hb2 : Below wr.heap.size wr w2 := ((Below.refl _ wr).alloc (Nat.le_refl _) _).grown hg2 (by simp) (fun q e => by
        have e2 : wr.heap.size = q := by simpa [Value.ownBlock] using e
        omega)
      have hown3 : w2.ownsRow wr.heap.size 30 3 v2 xs.length (xs.flatMap wcells) := by simpa using hown2
      obtain ⟨A', c2, rfl, -, -⟩ := own_rd wcells_length hown3
      have hC2 := CPk.step HC.out (hs' := hs ++ [(A', xs.length, c2)]) (by rw [HHl.out]; exact Nat.le_refl _) hlt HXs.out hb2 HB.out.size hown3 (fun i hi => List.getElem?_append_left (by rw [HHl.out]; exact hi)) (by rw [List.getElem?_append_right (by rw [HHl.out]; exact Nat.le_refl _), HHl.out]; simp)
      have HC2 := Lib.hid hC2
      have HB2 := Lib.hid hb2
      have HO2 := Lib.hid (own_keep' HO.out hb2)
      have HOw := Lib.hid hown3
      clear hown2 hown3 hg2 hb2 hC2
      go_wp2_with (at_builtin; refine wpList_append_any _ rfl (.tmp 12) (.tmp 19) 25 25 rfl w.heap.size 44 j0 (.slice none 0 0) 1 24 Tryd.underlying25 HJ.out HY0.out HY1.out HY2.out rfl (by decide) (.slice A1 k c1) k (hs.flatMap hcells) rfl ?own2 _ 1 [.slice A' xs.length c2] rfl ?src2 ?d3 ?d4 ?d5 ?_)
      case own2 => exact HO2.out.alloc _
      case src2 => exact Src.ofSlice _ Tryd.underlying25 ⟨w2.heap.size, 0, none⟩ 1 1 _ rfl (one_cell_at w2 _ _) (by intro u hu; simp only [List.mem_cons, List.not_mem_nil, or_false] at hu; subst hu; rfl)
      case d3 => unfold maxLen; omega
      case d4 => omega
      case d5 => have := HB.out.size; have := HB2.out.size; simp; omega
      intro v4 w4 hown4 hg4 hblk4
      rw [ownBlock_slice] at hg4 hblk4
      have hown5 : w4.ownsRow w.heap.size 44 1 v4 (hs ++ [(A', xs.length, c2)]).length ((hs ++ [(A', xs.length, c2)]).flatMap hcells) := by rw [List.length_append, List.flatMap_append, HHl.out]; simpa [hcells] using hown4
      obtain ⟨A4, c4, rfl, -, -⟩ := own_rd hcells_length hown5
      rw [ownBlock_slice] at hblk4
      rw [show (hs ++ [(A', xs.length, c2)]).length = k + 1 from by rw [List.length_append, HHl.out]; rfl] at hown5 ⊢
      have hb3 : Below w2.heap.size w2 (w2.alloc (.cells #[.slice A' xs.length c2] 44)) := (Below.refl _ w2).alloc (Nat.le_refl _) _
      have hA1 : ∀ q, A1.map (·.block) = some q → w.heap.size ≤ q ∧ q < wr.heap.size := fun q e => own_block HO.out (by rw [ownBlock_slice]; exact e)
      have hlane : ∀ (i : Nat) (h : Hd), (hs ++ [(A', xs.length, c2)])[i]? = some h → (∀ q, A1.map (·.block) = some q → h.1.map (·.block) ≠ some q) ∧ ∀ q, h.1.map (·.block) = some q → q < w2.heap.size := fun i h hi => by
        have hil := (List.getElem?_eq_some_iff.1 hi).1
        simp only [List.length_append, HHl.out, List.length_singleton] at hil
        obtain ⟨r1, r2⟩ := HC2.out.1 i h _ hil hi (List.getElem?_eq_getElem (by omega))
        refine ⟨fun q e e2 => ?_, fun q e => (own_block r2 (by rw [ownBlock_slice]; exact e)).2⟩
        by_cases ei : i < k
        · rw [List.getElem?_append_left (by rw [HHl.out]; exact ei)] at hi
          exact HD.out i h hi q e e2
        · obtain rfl : i = k := by omega
          rw [List.getElem?_append_right (by rw [HHl.out]; exact Nat.le_refl _), HHl.out] at hi
          obtain rfl : (A', xs.length, c2) = h := by simpa using hi
          have q1 := (hA1 q e).2
          have q2 := (own_block HOw.out (by rw [ownBlock_slice]; exact e2)).1
          omega
      have HC4 : Hid (CPk w.heap.size xss (k + 1) (hs ++ [(A', xs.length, c2)]) w4) := ⟨fun i h ys hi hh hy => by
        obtain ⟨r1, r2⟩ := HC2.out.1 i h ys hi hh hy
        exact ⟨r1, (Only.of_grown hg4 (fun q e => e)).own (own_keep' r2 hb3) (fun q e e2 => by rw [ownBlock_slice] at e; exact (hlane i h hh).1 q e2 e)⟩, HC2.out.2⟩
      have HD4 : Hid (∀ (i : Nat) (h : Hd), (hs ++ [(A', xs.length, c2)])[i]? = some h → ∀ q, A4.map (·.block) = some q → h.1.map (·.block) ≠ some q) := fun i h hi q e e2 => by
        rcases hblk4 with e3 | e3
        · exact (hlane i h hi).1 q (by rw [← e3]; exact e) e2
        · have q1 := (hlane i h hi).2 q e2
          have q2 : q = w2.heap.size + 1 := by rw [e3] at e; simpa using e.symm
          omega
      have HB4 : Hid (Below w.heap.size w w4) := ((HB.out.trans (HB2.out.mono HB.out.size)).alloc (by have := HB.out.size; have := HB2.out.size; omega) _).grown hg4 (by have := HB.out.size; have := HB2.out.size; simp; omega) (fun q e => (hA1 q e).1)
      have HO4 := Lib.hid hown5
      clear hown4 hown5 hg4 hblk4 hb3 hA1 hlane
      go_wp2
      go_roundw
      case rel => exact ⟨k + 1, hs ++ [(A', xs.length, c2)], A4, c4, by omega, by go_num, by rw [List.length_append, HHl.out]; rfl, rfl, HO4.out, HC4.out, HD4.out, HB4.out⟩
      case measure => simp [intOf]; omega
    · obtain rfl : k = xss.length := by omega
      go_wp2
      go_ret
      have hN : OwnN wr w.heap.size 44 30 3 wcells A1 c1 hs xss := ⟨by rw [HHl.out]; exact HO.out, HHl.out, fun i h xs hih hix => HC.out.1 i h xs (List.getElem?_eq_some_iff.1 hix).1 hih hix, fun i j h h' hij hi hj => HC.out.2 i j h h' (by have := (List.getElem?_eq_some_iff.1 hi).1; rw [HHl.out] at this; exact this) (by have := (List.getElem?_eq_some_iff.1 hj).1; rw [HHl.out] at this; exact this) hij hi hj, HD.out⟩
      first
        | exact ⟨A1, c1, hs, rfl, hN, HB.out⟩
        | exact ⟨A1, c1, rfl, ⟨hs, hN⟩, HB.out⟩
end Go.Proofs.YtmfdgpinohbckaaDoor
