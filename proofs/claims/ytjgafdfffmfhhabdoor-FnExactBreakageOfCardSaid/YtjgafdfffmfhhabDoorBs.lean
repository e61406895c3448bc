/-
  What is drunk and broken in a ledger, and what its changes come to: mathematics, and the program's sum for whatever holdings whose sums fit. Conditions as said at each.
-/
import Derived.Test.YtjgafdfffmfhhabDoorSu
import Derived.Test.YtjgafdfffmfhhabDoorAm
namespace Go.Proofs.YtjgafdfffmfhhabDoor
open Go.ChangeShapes Go.WideShapes Go.ChangeAt Go.RowKit Go.Deep

/-- What the first k entries break, what they drink. -/
def bkB (l : List Ent) : Nat → Int
  | 0 => 0
  | k + 1 => bkB l k + (if (l.getD k ⟨0, 0, 0, 0, 0⟩).wh = 4 then nmE (l.getD k ⟨0, 0, 0, 0, 0⟩) else 0)
def bkD (l : List Ent) : Nat → Int
  | 0 => 0
  | k + 1 => bkD l k + (if (l.getD k ⟨0, 0, 0, 0, 0⟩).wh = 3 then nmE (l.getD k ⟨0, 0, 0, 0, 0⟩) else 0)
theorem bkB_succ {l : List Ent} {k : Nat} {x : Ent} (h : l[k]? = some x) : bkB l (k + 1) = bkB l k + (if x.wh = 4 then nmE x else 0) := by
  rw [bkB, List.getD_eq_getElem?_getD, h]; rfl
theorem bkD_succ {l : List Ent} {k : Nat} {x : Ent} (h : l[k]? = some x) : bkD l (k + 1) = bkD l k + (if x.wh = 3 then nmE x else 0) := by
  rw [bkD, List.getD_eq_getElem?_getD, h]; rfl
theorem bk_in {l : List Ent} (h : ∀ x ∈ l, wfE x) : ∀ k, k ≤ l.length → (0 ≤ bkB l k ∧ bkB l k ≤ 32767 * k) ∧ (0 ≤ bkD l k ∧ bkD l k ≤ 32767 * k)
  | 0, _ => by simp [bkB, bkD]
  | k + 1, hk => by
    have ih := bk_in h k (by omega)
    have hx : l[k]? = some l[k] := List.getElem?_eq_getElem (by omega)
    have h1 := nmE_in (h _ (List.getElem_mem (by omega : k < l.length)))
    rw [bkB_succ hx, bkD_succ hx]
    split <;> split <;> omega
def p00 : Pri := ⟨0, 0⟩
theorem dep_zero (h : Hol) : dep p00 h = 0 := by simp [dep, p00]
/-- The changes of the first k entries. -/
def chs (l : List Ent) : Nat → List Hol
  | 0 => []
  | k + 1 => chs l k ++ [chF p00 (l.getD k ⟨0, 0, 0, 0, 0⟩), chT p00 (l.getD k ⟨0, 0, 0, 0, 0⟩)]
theorem chs_succ {l : List Ent} {k : Nat} {x : Ent} (h : l[k]? = some x) : chs l (k + 1) = chs l k ++ [chF p00 x, chT p00 x] := by
  rw [chs, List.getD_eq_getElem?_getD, h]; rfl
theorem chs_len (l : List Ent) : ∀ k, (chs l k).length = 2 * k
  | 0 => rfl
  | k + 1 => by rw [chs, List.length_append, chs_len l k]; simp; omega
theorem gds_fit {x : Ent} (h : wfE x) : (0 ≤ (gds x).fu ∧ (gds x).fu ≤ 32767) ∧ (0 ≤ (gds x).em ∧ (gds x).em ≤ 32767) ∧ (0 ≤ (gds x).cr ∧ (gds x).cr ≤ 32767) := by
  have := nmE_in h
  unfold gds hzero
  split
  · simp only; omega
  split
  · simp only; omega
  split <;> (simp only; omega)
theorem chF_fit {x : Ent} (h : wfE x) : hin 32767 (chF p00 x) := by
  have h1 := nmE_in h
  have h2 := gds_fit h
  unfold chF
  rw [dep_zero]
  split
  · refine ⟨⟨?_, ?_⟩, ⟨?_, ?_⟩, ⟨?_, ?_⟩, ⟨?_, ?_⟩, ?_, ?_⟩ <;> simp only <;> omega
  split
  · refine ⟨⟨?_, ?_⟩, ⟨?_, ?_⟩, ⟨?_, ?_⟩, ⟨?_, ?_⟩, ?_, ?_⟩ <;> simp only <;> omega
  · refine ⟨⟨?_, ?_⟩, ⟨?_, ?_⟩, ⟨?_, ?_⟩, ⟨?_, ?_⟩, ?_, ?_⟩ <;> simp only <;> omega
theorem chT_fit {x : Ent} (h : wfE x) : hin 32767 (chT p00 x) := by
  have h1 := nmE_in h
  have h2 := gds_fit h
  unfold chT hzero
  rw [dep_zero]
  split
  · refine ⟨⟨?_, ?_⟩, ⟨?_, ?_⟩, ⟨?_, ?_⟩, ⟨?_, ?_⟩, ?_, ?_⟩ <;> simp only <;> omega
  split
  · refine ⟨⟨?_, ?_⟩, ⟨?_, ?_⟩, ⟨?_, ?_⟩, ⟨?_, ?_⟩, ?_, ?_⟩ <;> simp only <;> omega
  · refine ⟨⟨?_, ?_⟩, ⟨?_, ?_⟩, ⟨?_, ?_⟩, ⟨?_, ?_⟩, ?_, ?_⟩ <;> simp only <;> omega
theorem chs_fit {l : List Ent} (h : ∀ x ∈ l, wfE x) : ∀ k, k ≤ l.length → ∀ y ∈ chs l k, hin 32767 y
  | 0, _ => by simp [chs]
  | k + 1, hk => by
    have ih := chs_fit h k (by omega)
    have hx : l[k]? = some l[k] := List.getElem?_eq_getElem (by omega)
    have hw := h _ (List.getElem_mem (by omega : k < l.length))
    rw [chs_succ hx]
    intro y hy
    rcases List.mem_append.1 hy with hy | hy
    · exact ih y hy
    · simp only [List.mem_cons, List.not_mem_nil, or_false] at hy
      rcases hy with rfl | rfl
      · exact chF_fit hw
      · exact chT_fit hw
theorem hsum_app (a b : List Hol) : ∀ k, k ≤ a.length → hsum (a ++ b) k = hsum a k
  | 0, _ => rfl
  | k + 1, hk => by
    have hx : a[k]? = some a[k] := List.getElem?_eq_getElem (by omega)
    have hy : (a ++ b)[k]? = some a[k] := by rw [List.getElem?_append_left (by omega)]; exact hx
    rw [hsum_succ hx, hsum_succ hy, hsum_app a b k (by omega)]
theorem hsum_two (a : List Hol) (x y : Hol) {n : Nat} (hn : a.length = n) : hsum (a ++ [x, y]) (n + 1 + 1) = hadd (hadd (hsum a n) x) y := by
  subst hn
  rw [hsum_succ (x := y) (by simp), hsum_succ (x := x) (by simp), hsum_app a _ _ (Nat.le_refl _)]
theorem ch_em (x : Ent) : (chF p00 x).em + (chT p00 x).em = if x.wh = 3 then nmE x else 0 := by
  unfold chF chT hzero
  split
  · simp
  split
  · simp
  · simp only; omega
theorem ch_br (x : Ent) : (chF p00 x).br + (chT p00 x).br = if x.wh = 4 then nmE x else 0 := by
  unfold chF chT hzero
  split
  · rename_i h; simp [h]
  split
  · simp
  · simp
theorem chs_sum {l : List Ent} : ∀ k, k ≤ l.length → (hsum (chs l k) (2 * k)).em = bkD l k ∧ (hsum (chs l k) (2 * k)).br = bkB l k
  | 0, _ => ⟨rfl, rfl⟩
  | k + 1, hk => by
    have ih := chs_sum (l := l) k (by omega)
    have hx : l[k]? = some l[k] := List.getElem?_eq_getElem (by omega)
    rw [chs_succ hx, show 2 * (k + 1) = 2 * k + 1 + 1 from by omega, hsum_two _ _ _ (chs_len l k), bkB_succ hx, bkD_succ hx, ← ch_em, ← ch_br, ← ih.1, ← ih.2]
    constructor <;> simp only [hadd] <;> omega
/-- Sums that fit. -/
def Fits (l : List Hol) : Prop := ∀ (k : Nat) (fu em cr br mo : Int), l[k]? = some ⟨fu, em, cr, br, mo⟩ → ∃ a b c d e, hsum l k = ⟨a, b, c, d, e⟩ ∧ hsum l (k + 1) = ⟨a + fu, b + em, c + cr, d + br, e + mo⟩ ∧ W64' (a + fu) ∧ W64' (b + em) ∧ W64' (c + cr) ∧ W64' (d + br) ∧ W64' (e + mo)
theorem fits_of {l : List Hol} (hv : ∀ x ∈ l, hin 32767 x) (h6 : l.length ≤ 1000) : Fits l := by
  intro k fu em cr br mo hx
  have hk := (List.getElem?_eq_some_iff.1 hx).1
  have h1 := hsum_in hv k (by omega)
  have h2 := hv _ (List.mem_of_getElem? hx)
  have h3 := hsum_succ hx
  generalize hs : hsum l k = s at *
  obtain ⟨a, b, c, d, e⟩ := s
  have hk6 : (k : Int) ≤ 1000 := by omega
  have hk0 : (0 : Int) ≤ k := Int.natCast_nonneg _
  obtain ⟨⟨a0, a1⟩, ⟨b0, b1⟩, ⟨c0, c1⟩, ⟨d0, d1⟩, e0, e1⟩ := h1
  obtain ⟨⟨f0, f1⟩, ⟨g0, g1⟩, ⟨i0, i1⟩, ⟨j0, j1⟩, m0, m1⟩ := h2
  simp only at a0 a1 b0 b1 c0 c1 d0 d1 e0 e1 f0 f1 g0 g1 i0 i1 j0 j1 m0 m1
  exact ⟨a, b, c, d, e, rfl, h3, w64' ⟨by omega, by omega⟩, w64' ⟨by omega, by omega⟩, w64' ⟨by omega, by omega⟩, w64' ⟨by omega, by omega⟩, w64' ⟨by omega, by omega⟩⟩
/-- The codes. -/
def brO (l : List Ent) : Option Nat := if 80 < l.length then some 1 else if bkD l l.length + bkB l l.length = 0 then some 4 else none
def brC (l : List Ent) : Int := cdO (brO l)
def brN (l : List Ent) : Int := if brC l = 0 then (bkB l l.length * 1000) / (bkD l l.length + bkB l l.length) else 0
theorem br_long {l : List Ent} (h : 80 < l.length) : brC l = 3 ∧ brN l = 0 := by
  have h1 : brC l = 3 := by rw [brC, brO, if_pos h]; rfl
  exact ⟨h1, by rw [brN, if_neg (by rw [h1]; decide)]⟩
theorem br_none {l : List Ent} (h : ¬ 80 < l.length) (h0 : bkD l l.length + bkB l l.length = 0) : brC l = 6 ∧ brN l = 0 := by
  have h1 : brC l = 6 := by rw [brC, brO, if_neg h, if_pos h0]; rfl
  exact ⟨h1, by rw [brN, if_neg (by rw [h1]; decide)]⟩
theorem br_some {l : List Ent} (h : ¬ 80 < l.length) (h0 : ¬ bkD l l.length + bkB l l.length = 0) : brC l = 0 ∧ brN l = (bkB l l.length * 1000) / (bkD l l.length + bkB l l.length) := by
  have h1 : brC l = 0 := by rw [brC, brO, if_neg h, if_neg h0]; rfl
  exact ⟨h1, by rw [brN, if_pos h1]⟩
set_option maxRecDepth 100000 in
set_option maxHeartbeats 4000000 in
theorem sumOfF_any (l : List Hol) (hn6 : l.length ≤ 1000) (hv : Fits l) (A : Option Addr) (c : Nat) (w : World) (hr : Rd w w.heap.size hcells A l) :
    Calls Tryd.prog 42 #[.slice A l.length c] w fun e w' => e = .returned (.agg (hcells (hsum l l.length)).toArray) ∧ Below w.heap.size w w' := by
  have HV := Lib.hid hv
  obtain ⟨W1, hW1⟩ : ∃ W, w.alloc (.cells #[.int .i64 0, .int .i64 0, .int .i64 0, .int .i64 0, .int .i64 0] 31) = W := ⟨_, rfl⟩
  have hB1 : Below w.heap.size w W1 := by rw [← hW1]; exact (Below.refl _ _).alloc (Nat.le_refl _) _
  have hZ1 : Blk W1 w.heap.size 31 #[.int .i64 0, .int .i64 0, .int .i64 0, .int .i64 0, .int .i64 0] := by rw [← hW1]; exact Blk.new w _ _
  have HR : Hid (Rd W1 W1.heap.size hcells A l) := hr.keep hB1
  have hb2 : Below W1.heap.size W1 (W1.alloc (.cells #[.int .i64 0, .int .i64 0, .int .i64 0, .int .i64 0, .int .i64 0] 31)) := (Below.refl _ _).alloc (Nat.le_refl _) _
  have HB2w := Lib.hid hb2
  have HK2 : Hid (Blk (W1.alloc (.cells #[.int .i64 0, .int .i64 0, .int .i64 0, .int .i64 0, .int .i64 0] 31)) W1.heap.size 31 #[.int .i64 0, .int .i64 0, .int .i64 0, .int .i64 0, .int .i64 0]) := Blk.new W1 _ _
  have HZ2 : Hid (Blk (W1.alloc (.cells #[.int .i64 0, .int .i64 0, .int .i64 0, .int .i64 0, .int .i64 0] 31)) w.heap.size 31 #[.int .i64 0, .int .i64 0, .int .i64 0, .int .i64 0, .int .i64 0]) := Blk.keep hZ1 hb2
  have HB2 : Hid (Below w.heap.size w (W1.alloc (.cells #[.int .i64 0, .int .i64 0, .int .i64 0, .int .i64 0, .int .i64 0] 31))) := hB1.trans (hb2.mono hB1.size)
  have HWl : Hid (w.heap.size < W1.heap.size) := hZ1.lt
  have hn0 : (0 : Int) ≤ (l.length : Int) := Int.natCast_nonneg _
  clear hr hv hB1 hZ1 hb2
  go_enter Tryd.func42, Tryd.ntmps42
  go_wp2_with fail
  clear hW1
  go_loopw [8] (fun i wr => ∃ (k : Nat), k ≤ l.length ∧ i = .int .i64 k ∧ Blk wr W1.heap.size 31 (hcells (hsum l k)).toArray ∧ Blk wr w.heap.size 31 #[.int .i64 0, .int .i64 0, .int .i64 0, .int .i64 0, .int .i64 0] ∧ Below w.heap.size w wr ∧ Below W1.heap.size W1 wr) (fun i _ => l.length - (intOf i).toNat)
  case atStart => exact ⟨0, by omega, rfl, HK2.out, HZ2.out, HB2.out, HB2w.out⟩
  case round =>
    clear HK2 HZ2 HB2 HB2w
    obtain ⟨k, hk, rfl, hK, hZ, hB, hBW⟩ := hrel
    have HB := Lib.hid hB
    have HZ := Lib.hid hZ
    have HBW := Lib.hid hBW
    by_cases hlt : k < l.length
    · obtain ⟨⟨fu, em, cr, br, mo⟩, hx⟩ : ∃ x, l[k]? = some x := ⟨_, List.getElem?_eq_getElem hlt⟩
      obtain ⟨b, o, rfl, hbl, hrow⟩ := (HR.out.below (Nat.le_refl _) hBW).at_ hcells_length hx
      obtain ⟨e0, e1, e2, e3, e4⟩ := rowH5 hrow
      simp only at e0 e1 e2 e3 e4
      obtain ⟨a0, a1, a2, a3, a4, hs, hs1, hw0, hw1, hw2, hw3, hw4⟩ := HV.out k fu em cr br mo hx
      have HP : Hid (∀ z, Calls Tryd.prog 82 #[.agg #[.int .i64 a0, .int .i64 a1, .int .i64 a2, .int .i64 a3, .int .i64 a4], .agg #[.int .i64 fu, .int .i64 em, .int .i64 cr, .int .i64 br, .int .i64 mo]] z fun e w' => e = .returned (.agg #[.int .i64 (a0 + fu), .int .i64 (a1 + em), .int .i64 (a2 + cr), .int .i64 (a3 + br), .int .i64 (a4 + mo)]) ∧ Below z.heap.size z w') := fun z => plus_any ⟨a0, a1, a2, a3, a4⟩ ⟨fu, em, cr, br, mo⟩ ⟨hw0, hw1, hw2, hw3, hw4⟩ z
      rw [hs] at hK
      have HS1 := Lib.hid hs1
      have hba : Below wr.heap.size wr (wr.alloc (.cells #[.int .i64 fu, .int .i64 em, .int .i64 cr, .int .i64 br, .int .i64 mo] 31)) := (Below.refl _ wr).alloc (Nat.le_refl _) _
      have HA : Hid (Below w.heap.size w (wr.alloc (.cells #[.int .i64 fu, .int .i64 em, .int .i64 cr, .int .i64 br, .int .i64 mo] 31))) := hB.trans (hba.mono hB.size)
      have HAW : Hid (Below W1.heap.size W1 (wr.alloc (.cells #[.int .i64 fu, .int .i64 em, .int .i64 cr, .int .i64 br, .int .i64 mo] 31))) := hBW.trans (hba.mono hBW.size)
      have hKA : Blk (wr.alloc (.cells #[.int .i64 fu, .int .i64 em, .int .i64 cr, .int .i64 br, .int .i64 mo] 31)) W1.heap.size 31 #[.int .i64 a0, .int .i64 a1, .int .i64 a2, .int .i64 a3, .int .i64 a4] := Blk.keep hK hba
      have HKA := Lib.hid hKA
      have HZA : Hid (Blk (wr.alloc (.cells #[.int .i64 fu, .int .i64 em, .int .i64 cr, .int .i64 br, .int .i64 mo] 31)) w.heap.size 31 #[.int .i64 0, .int .i64 0, .int .i64 0, .int .i64 0, .int .i64 0]) := Blk.keep hZ hba
      have hne : W1.heap.size ≠ wr.heap.size := Nat.ne_of_lt hK.lt
      have k0 : (wr.alloc (.cells #[.int .i64 fu, .int .i64 em, .int .i64 cr, .int .i64 br, .int .i64 mo] 31)).cell? ⟨W1.heap.size, 0, none⟩ = some (.int .i64 a0) := hKA.cell 0
      have k1 : (wr.alloc (.cells #[.int .i64 fu, .int .i64 em, .int .i64 cr, .int .i64 br, .int .i64 mo] 31)).cell? ⟨W1.heap.size, 1, none⟩ = some (.int .i64 a1) := hKA.cell 1
      have k2 : (wr.alloc (.cells #[.int .i64 fu, .int .i64 em, .int .i64 cr, .int .i64 br, .int .i64 mo] 31)).cell? ⟨W1.heap.size, 2, none⟩ = some (.int .i64 a2) := hKA.cell 2
      have k3 : (wr.alloc (.cells #[.int .i64 fu, .int .i64 em, .int .i64 cr, .int .i64 br, .int .i64 mo] 31)).cell? ⟨W1.heap.size, 3, none⟩ = some (.int .i64 a3) := hKA.cell 3
      have k4 : (wr.alloc (.cells #[.int .i64 fu, .int .i64 em, .int .i64 cr, .int .i64 br, .int .i64 mo] 31)).cell? ⟨W1.heap.size, 4, none⟩ = some (.int .i64 a4) := hKA.cell 4
      have hk0 : (0 : Int) ≤ (k : Int) := Int.natCast_nonneg _
      have hk8 : (k : Int) < l.length := by omega
      clear hx hrow hK hB hZ hBW hs hs1 hba hKA hw0 hw1 hw2 hw3 hw4
      go_wp2_with fail
      refine (HP.out _).mono ?_
      rintro e w2 ⟨rfl, hb⟩
      have HB2 : Hid (Below w.heap.size w w2) := HA.out.trans (hb.mono HA.out.size)
      have HBW2 : Hid (Below W1.heap.size W1 w2) := HAW.out.trans (hb.mono HAW.out.size)
      have hK2 : Blk w2 W1.heap.size 31 #[.int .i64 a0, .int .i64 a1, .int .i64 a2, .int .i64 a3, .int .i64 a4] := Blk.keep HKA.out hb
      have HK2 := Lib.hid hK2
      have HZ2 : Hid (Blk w2 w.heap.size 31 #[.int .i64 0, .int .i64 0, .int .i64 0, .int .i64 0, .int .i64 0]) := Blk.keep HZA.out hb
      have f0 : w2.frozen? ⟨W1.heap.size, 0, none⟩ = false := hK2.frozen 0
      have f1 : w2.frozen? ⟨W1.heap.size, 1, none⟩ = false := hK2.frozen 1
      have f2 : w2.frozen? ⟨W1.heap.size, 2, none⟩ = false := hK2.frozen 2
      have f3 : w2.frozen? ⟨W1.heap.size, 3, none⟩ = false := hK2.frozen 3
      have f4 : w2.frozen? ⟨W1.heap.size, 4, none⟩ = false := hK2.frozen 4
      clear k0 k1 k2 k3 k4 e0 e1 e2 e3 e4
      have k0 : w2.cell? ⟨W1.heap.size, 0, none⟩ = some (.int .i64 a0) := hK2.cell 0
      have k1 : w2.cell? ⟨W1.heap.size, 1, none⟩ = some (.int .i64 a1) := hK2.cell 1
      have k2 : w2.cell? ⟨W1.heap.size, 2, none⟩ = some (.int .i64 a2) := hK2.cell 2
      have k3 : w2.cell? ⟨W1.heap.size, 3, none⟩ = some (.int .i64 a3) := hK2.cell 3
      have k4 : w2.cell? ⟨W1.heap.size, 4, none⟩ = some (.int .i64 a4) := hK2.cell 4
      clear hb hK2
      go_wp2
      go_roundw
      case rel =>
        refine ⟨k + 1, by omega, by go_num, ?_, ?_, ?_, ?_⟩
        · rw [HS1.out]
          exact (((((HK2.out.set_ 0 _).set_ 1 _).set_ 2 _).set_ 3 _).set_ 4 _)
        · exact Blk.far (p := ⟨W1.heap.size, 4, none⟩) (Blk.far (p := ⟨W1.heap.size, 3, none⟩) (Blk.far (p := ⟨W1.heap.size, 2, none⟩) (Blk.far (p := ⟨W1.heap.size, 1, none⟩) (Blk.far (p := ⟨W1.heap.size, 0, none⟩) HZ2.out (Nat.ne_of_lt HWl.out) _) (Nat.ne_of_lt HWl.out) _) (Nat.ne_of_lt HWl.out) _) (Nat.ne_of_lt HWl.out) _) (Nat.ne_of_lt HWl.out) _
        · have hWl := HWl.out
          repeat (first | exact HB2.out | refine Below.drew ?_ | refine Below.setCell ?_ (by simp <;> omega) _)
        · repeat (first | exact HBW2.out | refine Below.drew ?_ | refine Below.setCell ?_ (by simp <;> omega) _)
      case measure => simp [intOf]; omega
    · obtain rfl : k = l.length := by omega
      obtain ⟨⟨fu, em, cr, br, mo⟩, hs⟩ : ∃ s, hsum l l.length = s := ⟨_, rfl⟩
      have HS := Lib.hid hs
      rw [hs] at hK
      have k0 : wr.cell? ⟨W1.heap.size, 0, none⟩ = some (.int .i64 fu) := hK.cell 0
      have k1 : wr.cell? ⟨W1.heap.size, 1, none⟩ = some (.int .i64 em) := hK.cell 1
      have k2 : wr.cell? ⟨W1.heap.size, 2, none⟩ = some (.int .i64 cr) := hK.cell 2
      have k3 : wr.cell? ⟨W1.heap.size, 3, none⟩ = some (.int .i64 br) := hK.cell 3
      have k4 : wr.cell? ⟨W1.heap.size, 4, none⟩ = some (.int .i64 mo) := hK.cell 4
      have d0 : wr.cell? ⟨w.heap.size, 0, none⟩ = some (.int .i64 0) := hZ.cell 0
      have d1 : wr.cell? ⟨w.heap.size, 1, none⟩ = some (.int .i64 0) := hZ.cell 1
      have d2 : wr.cell? ⟨w.heap.size, 2, none⟩ = some (.int .i64 0) := hZ.cell 2
      have d3 : wr.cell? ⟨w.heap.size, 3, none⟩ = some (.int .i64 0) := hZ.cell 3
      have d4 : wr.cell? ⟨w.heap.size, 4, none⟩ = some (.int .i64 0) := hZ.cell 4
      have f0 : wr.frozen? ⟨w.heap.size, 0, none⟩ = false := hZ.frozen 0
      have f1 : wr.frozen? ⟨w.heap.size, 1, none⟩ = false := hZ.frozen 1
      have f2 : wr.frozen? ⟨w.heap.size, 2, none⟩ = false := hZ.frozen 2
      have f3 : wr.frozen? ⟨w.heap.size, 3, none⟩ = false := hZ.frozen 3
      have f4 : wr.frozen? ⟨w.heap.size, 4, none⟩ = false := hZ.frozen 4
      clear hs hK hB hZ hBW
      go_wp2
      refine bodyPost_ret (v := .agg #[.int .i64 fu, .int .i64 em, .int .i64 cr, .int .i64 br, .int .i64 mo]) (by simp [results, Tryd.results42, go_sem, *]) rfl ?_
      refine ⟨by (rw [HS.out]; first | done | rfl), ?_⟩
      repeat (first | exact HB.out | refine Below.drew ?_ | refine Below.setCell ?_ (by simp <;> omega) _)
end Go.Proofs.YtjgafdfffmfhhabDoor
