/-
  The contracts of AheadOf, of the model and of the program, and of what they call. Condition: the rack reads as lists of things that are stored, whose numbers fit their kinds, not more than 1048576; the sentinel errors lie as the row lists them (the program's).
-/
import Derived.Test.YtmfdgpinohbckaaDoorCy
import Derived.Test.YtmfdgpinohbckaaDoorMg5
namespace Go.Proofs.YtmfdgpinohbckaaDoor
open Go.ChangeShapes Go.WideShapes Go.ChangeAt Go.RowKit Go.Deep

theorem one_cell_at (W : World) (v : Value) (t : TypeId) : ∀ (j : Nat) (u : Value), [v][j]? = some u → (W.alloc (.cells #[v] t)).cell? ((⟨W.heap.size, 0, none⟩ : Addr).add j) = some u := fun j u hu => by
  have e : (⟨W.heap.size, 0, none⟩ : Addr).add j = ⟨W.heap.size, j, none⟩ := by cases j <;> simp [Addr.add]
  rw [e, Blk.cell (Blk.new W t #[v])]
  simpa using hu

set_option maxRecDepth 100000 in
set_option maxHeartbeats 2000000 in
theorem l04Own_any (xss : List (List Wnt)) (A : Option Addr) (c : Nat) (w : World) (hl : xss.length ≤ 1048576) (hx : ∀ xs ∈ xss, xs.length ≤ 1048576) (hr : RdN w w.heap.size wcells A xss) :
    Calls Tryd.prog 63 #[.slice A xss.length c] w fun e w' => ∃ A' c' hs, e = .returned (.slice A' xss.length c') ∧ OwnN w' w.heap.size 44 30 3 wcells A' c' hs xss ∧ Below w.heap.size w w' := by
  obtain ⟨i0, hi, hz0, hz1, hz2⟩ := info_parts Tryd.infoTI
  have HI := Lib.hid hi
  have HZ0 := Lib.hid hz0
  have HZ1 := Lib.hid hz1
  have HZ2 := Lib.hid hz2
  clear hi hz0 hz1 hz2
  obtain ⟨j0, hj, hy0, hy1, hy2⟩ := info_parts Tryd.infoLI
  have HJ := Lib.hid hj
  have HY0 := Lib.hid hy0
  have HY1 := Lib.hid hy1
  have HY2 := Lib.hid hy2
  clear hj hy0 hy1 hy2
  have HR := Lib.hid hr
  have HX := Lib.hid hx
  clear hr hx
  have h1 := empty_own w 44 1
  have h2 : Below w.heap.size w (w.alloc (.cells #[] 44)) := (Below.refl _ w).alloc (Nat.le_refl _) _
  have H1 := Lib.hid h1
  have H2 := Lib.hid h2
  clear h1 h2
  go_enter Tryd.func63, Tryd.ntmps63
  go_wp2_with fail
  go_loopw [3, 4] (fun v i wr => ∃ (k : Nat) (hs : List Hd) (A1 : Option Addr) (c1 : Nat), k ≤ xss.length ∧ i = .int .i64 k ∧ hs.length = k ∧ v = .slice A1 k c1 ∧ wr.ownsRow w.heap.size 44 1 (.slice A1 k c1) k (hs.flatMap hcells) ∧ CPk w.heap.size xss k hs wr ∧
      (∀ (i : Nat) (h : Hd), hs[i]? = some h → ∀ q, A1.map (·.block) = some q → h.1.map (·.block) ≠ some q) ∧ Below w.heap.size w wr)
    (fun _ i _ => xss.length - (intOf i).toNat)
  case atStart => exact ⟨0, [], _, _, by omega, rfl, rfl, rfl, H1.out, ⟨fun i h xs hi => absurd hi (Nat.not_lt_zero _), fun i j h h' hi => absurd hi (Nat.not_lt_zero _)⟩, fun i h hi => by simp at hi, H2.out⟩
  case round =>
    clear H1 H2
    obtain ⟨k, hs, A1, c1, hk, rfl, hhl, rfl, hO, hC, hD, hB⟩ := hrel
    have HHl := Lib.hid hhl
    have HO := Lib.hid hO
    have HC := Lib.hid hC
    have HD := Lib.hid hD
    have HB := Lib.hid hB
    clear hhl hO hC hD hB
    by_cases hlt : k < xss.length
    · obtain ⟨xs, hxs⟩ : ∃ x, xss[k]? = some x := ⟨_, List.getElem?_eq_getElem hlt⟩
      obtain ⟨b, o, a, c', rfl, hb, hc, hrd⟩ := (HR.out.keep HB.out).at_ hxs
      have hxl := HX.out xs (List.mem_of_getElem? hxs)
      have hk0 : (0 : Int) ≤ (k : Int) := Int.natCast_nonneg _
      have hk8 : (k : Int) < xss.length := by omega
      have HXs := Lib.hid hxs
      have HRd := Lib.hid hrd
      have hne : b ≠ wr.heap.size := by omega
      clear hxs hrd
      go_wp2_with (at_builtin; refine wpList_append_any _ rfl (.tmp 13) (.tmp 17) 44 44 rfl wr.heap.size 30 i0 (.agg #[.int .u8 0, .int .i16 0, .int .i16 0]) 3 6 Tryd.underlying44 HI.out HZ0.out HZ1.out HZ2.out rfl (by decide) _ 0 [] rfl ?own _ xs.length (xs.flatMap wcells) rfl ?src ?c3 ?c4 ?c5 ?_)
      case own => exact empty_own wr _ 3
      case src => exact src_of_rd _ Tryd.underlying44 wcells_length wcells_one (HRd.out.keep ((Below.refl _ wr).alloc (Nat.le_refl _) _))
      case c3 => unfold maxLen; omega
      case c4 => omega
      intro v2 w2 hown2 hg2 _
      have hb2 : Below wr.heap.size wr w2 := ((Below.refl _ wr).alloc (Nat.le_refl _) _).grown hg2 (by simp) (fun q e => by
        have e2 : wr.heap.size = q := by simpa [Value.ownBlock] using e
        omega)
      have hown3 : w2.ownsRow wr.heap.size 30 3 v2 xs.length (xs.flatMap wcells) := by simpa using hown2
      obtain ⟨A', c2, rfl, -, -⟩ := own_rd wcells_length hown3
      have hC2 := CPk.step HC.out (hs' := hs ++ [(A', xs.length, c2)]) (by rw [HHl.out]; exact Nat.le_refl _) hlt HXs.out hb2 HB.out.size hown3 (fun i hi => List.getElem?_append_left (by rw [HHl.out]; exact hi)) (by rw [List.getElem?_append_right (by rw [HHl.out]; exact Nat.le_refl _), HHl.out]; simp)
      have HC2 := Lib.hid hC2
      have HB2 := Lib.hid hb2
      have HO2 := Lib.hid (own_keep' HO.out hb2)
      have HOw := Lib.hid hown3
      clear hown2 hown3 hg2 hb2 hC2
      go_wp2_with (at_builtin; refine wpList_append_any _ rfl (.tmp 12) (.tmp 19) 25 25 rfl w.heap.size 44 j0 (.slice none 0 0) 1 24 Tryd.underlying25 HJ.out HY0.out HY1.out HY2.out rfl (by decide) (.slice A1 k c1) k (hs.flatMap hcells) rfl ?own2 _ 1 [.slice A' xs.length c2] rfl ?src2 ?d3 ?d4 ?d5 ?_)
      case own2 => exact HO2.out.alloc _
      case src2 => exact Src.ofSlice _ Tryd.underlying25 ⟨w2.heap.size, 0, none⟩ 1 1 _ rfl (one_cell_at w2 _ _) (by intro u hu; simp only [List.mem_cons, List.not_mem_nil, or_false] at hu; subst hu; rfl)
      case d3 => unfold maxLen; omega
      case d4 => omega
      case d5 => have := HB.out.size; have := HB2.out.size; simp; omega
      intro v4 w4 hown4 hg4 hblk4
      rw [ownBlock_slice] at hg4 hblk4
      have hown5 : w4.ownsRow w.heap.size 44 1 v4 (hs ++ [(A', xs.length, c2)]).length ((hs ++ [(A', xs.length, c2)]).flatMap hcells) := by rw [List.length_append, List.flatMap_append, HHl.out]; simpa [hcells] using hown4
      obtain ⟨A4, c4, rfl, -, -⟩ := own_rd hcells_length hown5
      rw [ownBlock_slice] at hblk4
      rw [show (hs ++ [(A', xs.length, c2)]).length = k + 1 from by rw [List.length_append, HHl.out]; rfl] at hown5 ⊢
      have hb3 : Below w2.heap.size w2 (w2.alloc (.cells #[.slice A' xs.length c2] 44)) := (Below.refl _ w2).alloc (Nat.le_refl _) _
      have hA1 : ∀ q, A1.map (·.block) = some q → w.heap.size ≤ q ∧ q < wr.heap.size := fun q e => own_block HO.out (by rw [ownBlock_slice]; exact e)
      have hlane : ∀ (i : Nat) (h : Hd), (hs ++ [(A', xs.length, c2)])[i]? = some h → (∀ q, A1.map (·.block) = some q → h.1.map (·.block) ≠ some q) ∧ ∀ q, h.1.map (·.block) = some q → q < w2.heap.size := fun i h hi => by
        have hil := (List.getElem?_eq_some_iff.1 hi).1
        simp only [List.length_append, HHl.out, List.length_singleton] at hil
        obtain ⟨r1, r2⟩ := HC2.out.1 i h _ hil hi (List.getElem?_eq_getElem (by omega))
        refine ⟨fun q e e2 => ?_, fun q e => (own_block r2 (by rw [ownBlock_slice]; exact e)).2⟩
        by_cases ei : i < k
        · rw [List.getElem?_append_left (by rw [HHl.out]; exact ei)] at hi
          exact HD.out i h hi q e e2
        · obtain rfl : i = k := by omega
          rw [List.getElem?_append_right (by rw [HHl.out]; exact Nat.le_refl _), HHl.out] at hi
          obtain rfl : (A', xs.length, c2) = h := by simpa using hi
          have q1 := (hA1 q e).2
          have q2 := (own_block HOw.out (by rw [ownBlock_slice]; exact e2)).1
          omega
      have HC4 : Hid (CPk w.heap.size xss (k + 1) (hs ++ [(A', xs.length, c2)]) w4) := ⟨fun i h ys hi hh hy => by
        obtain ⟨r1, r2⟩ := HC2.out.1 i h ys hi hh hy
        exact ⟨r1, (Only.of_grown hg4 (fun q e => e)).own (own_keep' r2 hb3) (fun q e e2 => by rw [ownBlock_slice] at e; exact (hlane i h hh).1 q e2 e)⟩, HC2.out.2⟩
      have HD4 : Hid (∀ (i : Nat) (h : Hd), (hs ++ [(A', xs.length, c2)])[i]? = some h → ∀ q, A4.map (·.block) = some q → h.1.map (·.block) ≠ some q) := fun i h hi q e e2 => by
        rcases hblk4 with e3 | e3
        · exact (hlane i h hi).1 q (by rw [← e3]; exact e) e2
        · have q1 := (hlane i h hi).2 q e2
          have q2 : q = w2.heap.size + 1 := by rw [e3] at e; simpa using e.symm
          omega
      have HB4 : Hid (Below w.heap.size w w4) := ((HB.out.trans (HB2.out.mono HB.out.size)).alloc (by have := HB.out.size; have := HB2.out.size; omega) _).grown hg4 (by have := HB.out.size; have := HB2.out.size; simp; omega) (fun q e => (hA1 q e).1)
      have HO4 := Lib.hid hown5
      clear hown4 hown5 hg4 hblk4 hb3 hA1 hlane
      go_wp2
      go_roundw
      case rel => exact ⟨k + 1, hs ++ [(A', xs.length, c2)], A4, c4, by omega, by go_num, by rw [List.length_append, HHl.out]; rfl, rfl, HO4.out, HC4.out, HD4.out, HB4.out⟩
      case measure => simp [intOf]; omega
    · obtain rfl : k = xss.length := by omega
      go_wp2
      go_ret
      have hN : OwnN wr w.heap.size 44 30 3 wcells A1 c1 hs xss := ⟨by rw [HHl.out]; exact HO.out, HHl.out, fun i h xs hih hix => HC.out.1 i h xs (List.getElem?_eq_some_iff.1 hix).1 hih hix, fun i j h h' hij hi hj => HC.out.2 i j h h' (by have := (List.getElem?_eq_some_iff.1 hi).1; rw [HHl.out] at this; exact this) (by have := (List.getElem?_eq_some_iff.1 hj).1; rw [HHl.out] at this; exact this) hij hi hj, HD.out⟩
      first
        | exact ⟨A1, c1, hs, rfl, hN, HB.out⟩
        | exact ⟨A1, c1, rfl, ⟨hs, hN⟩, HB.out⟩
end Go.Proofs.YtmfdgpinohbckaaDoor

namespace Go.Proofs.YtmfdgpinohbckaaDoor
open Go.ChangeShapes Go.WideShapes Go.ChangeAt Go.RowKit Go.Deep

/-- Is a number an index? -/
def inB (l : Int) (n : Nat) : Bool := decide (0 ≤ l) && decide (l < n)
/-- A lane; a spot in a rack. -/
def lnAt (xss : List (List Wnt)) (l : Int) : List Wnt := xss.getD l.toNat []
def spotOk (xss : List (List Wnt)) (l i : Int) : Bool := inB l xss.length && inB i (lnAt xss l).length
theorem inB_nat {l : Int} {n : Nat} (h : inB l n = true) : ∃ k : Nat, l = k ∧ k < n := by
  simp only [inB, Bool.and_eq_true, decide_eq_true_eq] at h
  exact ⟨l.toNat, (Int.toNat_of_nonneg h.1).symm, by omega⟩
theorem lnAt_nat {xss : List (List Wnt)} {k : Nat} (h : k < xss.length) : xss[k]? = some (lnAt xss k) := by simp [lnAt, h]
/-- The code of a function of a rack, a lane and an index; a number that it tells. -/
def akC (xss : List (List Wnt)) (l i : Int) : Int := if rkOk xss = true then (if spotOk xss l i = true then 0 else 2) else 1
def akN (xss : List (List Wnt)) (l i : Int) (n : Int) : Int := if akC xss l i = 0 then n else 0

theorem l04Lane_any (n c : Nat) (A : Option Addr) (l : Int) (w : World) (hn : n ≤ 1048576) :
    Calls Tryd.prog 61 #[.slice A n c, .int .i64 l] w fun e w' => e = .returned (.bool (inB l n)) ∧ w = w' := by
  have hn0 : (0 : Int) ≤ (n : Int) := Int.natCast_nonneg _
  have hw1 : IntKind.i64.wrap ((n : Int) - 1) = (n : Int) - 1 := IntWalk.i64_in _ ⟨by omega, by omega⟩
  have hw2 : wrap64 ((n : Int) - 1) = (n : Int) - 1 := IntWalk.wrap64_in _ ⟨by omega, by omega⟩
  go_enter Tryd.func61, Tryd.ntmps61
  go_wp2_with fail
  refine (l00In_any _ _ _ _).mono ?_
  rintro e w1 ⟨rfl, rfl⟩
  go_wp2
  go_ret
  refine ⟨ret_bool ?_, rfl⟩
  unfold inB
  congr 1
  rw [decide_eq_decide]; omega

set_option maxHeartbeats 1000000 in
theorem l04Asked_any (xss : List (List Wnt)) (hwf : ∀ xs ∈ xss, ∀ x ∈ xs, wfW x) (A : Option Addr) (c : Nat) (l i : Int) (w : World) (hl : xss.length ≤ 1048576) (hx : ∀ xs ∈ xss, xs.length ≤ 1048576) (hr : RdN w w.heap.size wcells A xss) :
    Calls Tryd.prog 37 #[.slice A xss.length c, .int .i64 l, .int .i64 i] w fun e w' => e = .returned (.int .i64 (akC xss l i)) ∧ Below w.heap.size w w' := by
  have HR := Lib.hid hr
  have HW := Lib.hid hwf
  have HX := Lib.hid hx
  clear hr hwf hx
  go_enter Tryd.func37, Tryd.ntmps37
  go_wp2_with fail
  refine (l04Ok_any xss HW.out A c w hl HX.out HR.out).mono ?_
  rintro e w1 ⟨rfl, hb⟩
  have HB := Lib.hid hb
  clear hb
  cases hv : rkOk xss
  · have E1 : Hid (akC xss l i = 1) := by show akC xss l i = 1; simp [akC, hv]
    clear hv
    go_wp2
    go_ret
    exact ⟨by (rw [E1.out]; first | done | rfl), HB.out⟩
  have HV := Lib.hid hv
  clear hv
  go_wp2_with fail
  refine (l04Lane_any xss.length c A l _ hl).mono ?_
  rintro e w2 ⟨rfl, rfl⟩
  cases hi : inB l xss.length
  · have E1 : Hid (akC xss l i = 2) := by show akC xss l i = 2; simp [akC, HV.out, spotOk, hi]
    clear hi
    go_wp2
    go_ret
    exact ⟨by (rw [E1.out]; first | done | rfl), HB.out⟩
  obtain ⟨k, rfl, hk⟩ := inB_nat hi
  have HI := Lib.hid hi
  clear hi
  obtain ⟨xs, hxs⟩ : ∃ xs, lnAt xss k = xs := ⟨_, rfl⟩
  have hxk := lnAt_nat hk
  rw [hxs] at hxk
  have HXs := Lib.hid hxs
  obtain ⟨b, o, a, c', rfl, hb, hc, -⟩ := (HR.out.keep HB.out).at_ hxk
  have hxl := HX.out xs (List.mem_of_getElem? hxk)
  have hk0 : (0 : Int) ≤ (k : Int) := Int.natCast_nonneg _
  have hk8 : (k : Int) < xss.length := by omega
  have hn0 : (0 : Int) ≤ (xs.length : Int) := Int.natCast_nonneg _
  have hw1 : IntKind.i64.wrap ((xs.length : Int) - 1) = (xs.length : Int) - 1 := IntWalk.i64_in _ ⟨by omega, by omega⟩
  have hw2 : wrap64 ((xs.length : Int) - 1) = (xs.length : Int) - 1 := IntWalk.wrap64_in _ ⟨by omega, by omega⟩
  clear hxk hxs
  go_wp2_with fail
  refine (l00In_any _ _ _ _).mono ?_
  rintro e w3 ⟨rfl, rfl⟩
  have e1 : (decide (0 ≤ i) && decide (i ≤ (xs.length : Int) - 1)) = inB i xs.length := by
    unfold inB
    congr 1
    rw [decide_eq_decide]; omega
  rw [e1]
  clear e1 hw1 hw2
  cases hj : inB i xs.length
  · have E1 : Hid (akC xss k i = 2) := by show akC xss k i = 2; simp [akC, HV.out, spotOk, HI.out, HXs.out, hj]
    clear hj
    go_wp2
    go_ret
    exact ⟨by (rw [E1.out]; first | done | rfl), HB.out⟩
  · have E1 : Hid (akC xss k i = 0) := by show akC xss k i = 0; simp [akC, HV.out, spotOk, HI.out, HXs.out, hj]
    clear hj
    go_wp2
    go_ret
    exact ⟨by (rw [E1.out]; first | done | rfl), HB.out⟩

theorem akC_yes {xss : List (List Wnt)} {l i : Int} (h : akC xss l i = 0) : rkOk xss = true ∧ inB l xss.length = true ∧ inB i (lnAt xss l).length = true := by
  unfold akC at h
  split at h
  · split at h
    · have hs : spotOk xss l i = true := by assumption
      simp only [spotOk, Bool.and_eq_true] at hs
      exact ⟨by assumption, hs⟩
    · cases h
  · cases h
theorem akC_cases (xss : List (List Wnt)) (l i : Int) : akC xss l i = 0 ∨ akC xss l i = 1 ∨ akC xss l i = 2 := by
  unfold akC; split
  · split <;> simp
  · simp

theorem checkIdx1_any (i : Int) (n : Nat) (B c : Nat) (ad : Nat → Addr) (w : World) (hn : n ≤ 1048576) (h0 : w.cell? ⟨B, 0, none⟩ = some (.int .i64 i)) (hE : EW 7 w ad) :
    Calls Tryd.prog 67 #[.slice (some ⟨B, 0, none⟩) 1 c, .int .i64 n] w fun e w' => e = .returned (erV ad 0 (inB i n)) ∧ w = w' := by
  have c0 : w.cell? ⟨2, 0, none⟩ = some (.iface 165 (.pointer (some (ad 0)))) := hE.cell 0 (by omega)
  clear hE
  by_cases h1 : i < 0
  · have E1 : Hid (inB i n = false) := by show inB i n = false; simp [inB]; omega
    go_enter Tryd.func67, Tryd.ntmps67
    go_wp2
    refine wp_loop_rounds 2 ?_
    rw [rounds_succ]
    go_wp2
    go_ret
    exact ⟨by rw [E1.out]; rfl, rfl⟩
  have h1d : decide (i < 0) = false := decide_eq_false h1
  by_cases h2 : (n : Int) ≤ i
  · have E1 : Hid (inB i n = false) := by show inB i n = false; simp [inB]; omega
    go_enter Tryd.func67, Tryd.ntmps67
    go_wp2
    refine wp_loop_rounds 2 ?_
    rw [rounds_succ]
    go_wp2
    go_ret
    exact ⟨by rw [E1.out]; rfl, rfl⟩
  have h2d : decide ((n : Int) ≤ i) = false := decide_eq_false h2
  have E1 : Hid (inB i n = true) := by show inB i n = true; simp [inB]; omega
  go_enter Tryd.func67, Tryd.ntmps67
  go_wp2
  refine wp_loop_rounds 2 ?_
  rw [rounds_succ]
  go_wp2
  rw [rounds_succ]
  go_wp2
  go_ret
  exact ⟨by rw [E1.out]; rfl, rfl⟩

theorem new_cell (W : World) (v : Value) (t : TypeId) : (W.alloc (.cells #[v] t)).cell? ⟨W.heap.size, 0, none⟩ = some v := by
  rw [cell_of_row _ _ _ _ _ _ (heap_alloc_new W (.cells #[v] t))]; rfl
theorem erV0_no (ad : Nat → Addr) : erV ad 0 false = .iface 165 (.pointer (some (ad 0))) := rfl
set_option maxHeartbeats 1000000 in
theorem checkLane_any (n c : Nat) (A : Option Addr) (l : Int) (ad : Nat → Addr) (w : World) (hn : n ≤ 1048576) (hE : EW 7 w ad) :
    Calls Tryd.prog 66 #[.slice A n c, .int .i64 l] w fun e w' => e = .returned (erV ad 0 (inB l n)) ∧ Below w.heap.size w w' := by
  have HE := Lib.hid hE
  clear hE
  go_enter Tryd.func66, Tryd.ntmps66
  go_wp2_with fail
  have hA : Below w.heap.size w (w.alloc (.cells #[.int .i64 l] 2)) := (Below.refl _ _).alloc (Nat.le_refl _) _
  refine (checkIdx1_any l n w.heap.size _ ad _ hn (new_cell w _ _) (HE.out.below hA (Nat.le_refl _))).mono ?_
  rintro e w1 ⟨rfl, rfl⟩
  have HA := Lib.hid hA
  obtain ⟨v, hv⟩ : ∃ v, erV ad 0 (inB l n) = v := ⟨_, rfl⟩
  have HV := Lib.hid hv
  rw [hv]
  clear hv hA
  go_wp2
  go_ret
  exact ⟨by (rw [HV.out]; first | done | rfl), HA.out⟩

set_option maxHeartbeats 1000000 in
theorem checkSpot_any (xss : List (List Wnt)) (A : Option Addr) (c : Nat) (l i : Int) (ad : Nat → Addr) (w : World) (hl : xss.length ≤ 1048576) (hx : ∀ xs ∈ xss, xs.length ≤ 1048576) (hr : RdN w w.heap.size wcells A xss) (hE : EW 7 w ad) :
    Calls Tryd.prog 41 #[.slice A xss.length c, .int .i64 l, .int .i64 i] w fun e w' => e = .returned (erV ad 0 (spotOk xss l i)) ∧ Below w.heap.size w w' := by
  have HE := Lib.hid hE
  have HR := Lib.hid hr
  have HX := Lib.hid hx
  clear hE hr hx
  go_enter Tryd.func41, Tryd.ntmps41
  go_wp2_with fail
  refine (checkLane_any xss.length c A l ad w hl HE.out).mono ?_
  rintro e w1 ⟨rfl, hb⟩
  have HB := Lib.hid hb
  clear hb
  cases hi : inB l xss.length
  · have E1 : Hid (spotOk xss l i = false) := by show spotOk xss l i = false; simp [spotOk, hi]
    clear hi
    rw [erV0_no]
    go_wp2
    go_ret
    exact ⟨by rw [E1.out]; rfl, HB.out⟩
  obtain ⟨k, rfl, hk⟩ := inB_nat hi
  have HI := Lib.hid hi
  clear hi
  rw [erV_yes]
  obtain ⟨xs, hxs⟩ : ∃ xs, lnAt xss k = xs := ⟨_, rfl⟩
  have hxk := lnAt_nat hk
  rw [hxs] at hxk
  have HXs := Lib.hid hxs
  obtain ⟨b, o, a, c', rfl, hb, hc, -⟩ := (HR.out.keep HB.out).at_ hxk
  have hxl := HX.out xs (List.mem_of_getElem? hxk)
  have hk0 : (0 : Int) ≤ (k : Int) := Int.natCast_nonneg _
  have hk8 : (k : Int) < xss.length := by omega
  have hne : b ≠ w1.heap.size := by omega
  clear hxk hxs
  go_wp2_with fail
  have hA : Below w1.heap.size w1 (w1.alloc (.cells #[.int .i64 i] 2)) := (Below.refl _ _).alloc (Nat.le_refl _) _
  have hA2 : Below w.heap.size w (w1.alloc (.cells #[.int .i64 i] 2)) := HB.out.trans (hA.mono HB.out.size)
  refine (checkIdx1_any i xs.length w1.heap.size _ ad _ hxl (new_cell w1 _ _) (HE.out.below hA2 (Nat.le_refl _))).mono ?_
  rintro e w2 ⟨rfl, rfl⟩
  have HA := Lib.hid hA2
  have E1 : Hid (spotOk xss k i = inB i xs.length) := by show spotOk xss k i = _; simp [spotOk, HI.out, HXs.out]
  obtain ⟨v, hv⟩ : ∃ v, erV ad 0 (inB i xs.length) = v := ⟨_, rfl⟩
  have HV := Lib.hid hv
  rw [hv]
  clear hv hA hA2
  go_wp2
  go_ret
  exact ⟨by (rw [E1.out, HV.out]; first | done | rfl), HA.out⟩

end Go.Proofs.YtmfdgpinohbckaaDoor
