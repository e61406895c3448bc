/-
  SumOf: the contracts, of the model and of the program. Condition: numbers fit their kinds; the sentinel errors lie as the row lists them (the program's).
-/
import Derived.Test.YtjgafdfffmfhhabDoorHw
namespace Go.Proofs.YtjgafdfffmfhhabDoor
open Go.ChangeShapes Go.WideShapes Go.ChangeAt Go.RowKit Go.Deep

def hoF (l : List Hol) : Option Nat := firstO [chk 5 (paOk l.length), chk 0 (l.all hoOk)]
theorem hoF_lt {l : List Hol} : ∀ i, hoF l = some i → i < 7 := by
  refine firstO_lt ?_
  simp only [List.mem_cons, List.not_mem_nil, or_false]
  rintro o (rfl | rfl) <;> exact chk_lt (by omega)
theorem hoF_C (l : List Hol) : cdO (hoF l) = hoC l := by
  unfold hoF hoC
  cases paOk l.length
  · rfl
  · cases l.all hoOk <;> rfl
theorem hoC_ok {l : List Hol} (h : hoC l = 0) : (1 ≤ l.length ∧ l.length ≤ 6) ∧ ∀ x ∈ l, hoOk x = true := by
  unfold hoC at h
  split at h
  · split at h
    · rename_i h1 h2
      have := wi_iff.1 h1
      exact ⟨⟨by omega, by omega⟩, fun x hx => List.all_eq_true.1 h2 x hx⟩
    · cases h
  · cases h
def suL (l : List Hol) : Hol := if hoC l = 0 then hsum l l.length else hzero
theorem su_bad {l : List Hol} {i : Nat} (h : hoF l = some i) : hoC l = cdN i ∧ suL l = hzero := by
  have h1 : hoC l = cdN i := by rw [← hoF_C, h]; rfl
  exact ⟨h1, by rw [suL, if_neg (by rw [h1]; exact cdN_ne)]⟩
theorem su_ok {l : List Hol} (h : hoF l = none) : hoC l = 0 ∧ suL l = hsum l l.length := by
  have h1 : hoC l = 0 := by rw [← hoF_C, h]; rfl
  exact ⟨h1, by rw [suL, if_pos h1]⟩
def W64' (a : Int) : Prop := IntKind.i64.wrap a = a ∧ wrap64 a = a
theorem w64' {a : Int} (h : -1000000000000 ≤ a ∧ a ≤ 1000000000000) : W64' a := ⟨IntWalk.i64_in _ ⟨by omega, by omega⟩, IntWalk.wrap64_in _ ⟨by omega, by omega⟩⟩
/-- A sum and one more: nothing overflows. -/
theorem sum_facts {l : List Hol} (hv : ∀ x ∈ l, hoOk x = true) (h6 : l.length ≤ 6) {k : Nat} {fu em cr br mo : Int} (hx : l[k]? = some ⟨fu, em, cr, br, mo⟩) :
    ∃ a b c d e, hsum l k = ⟨a, b, c, d, e⟩ ∧ hsum l (k + 1) = ⟨a + fu, b + em, c + cr, d + br, e + mo⟩ ∧ W64' (a + fu) ∧ W64' (b + em) ∧ W64' (c + cr) ∧ W64' (d + br) ∧ W64' (e + mo) := by
  have hk := (List.getElem?_eq_some_iff.1 hx).1
  have h1 := hsum_in (fun x hx => hoOk_in (hv x hx)) k (by omega)
  have h2 := hoOk_in (hv _ (List.mem_of_getElem? hx))
  have h3 := hsum_succ hx
  generalize hs : hsum l k = s at *
  obtain ⟨a, b, c, d, e⟩ := s
  have hk6 : (k : Int) ≤ 6 := by omega
  have hk0 : (0 : Int) ≤ k := Int.natCast_nonneg _
  obtain ⟨⟨a0, a1⟩, ⟨b0, b1⟩, ⟨c0, c1⟩, ⟨d0, d1⟩, e0, e1⟩ := h1
  obtain ⟨⟨f0, f1⟩, ⟨g0, g1⟩, ⟨i0, i1⟩, ⟨j0, j1⟩, m0, m1⟩ := h2
  simp only at a0 a1 b0 b1 c0 c1 d0 d1 e0 e1 f0 f1 g0 g1 i0 i1 j0 j1 m0 m1
  exact ⟨a, b, c, d, e, rfl, h3, w64' ⟨by omega, by omega⟩, w64' ⟨by omega, by omega⟩, w64' ⟨by omega, by omega⟩, w64' ⟨by omega, by omega⟩, w64' ⟨by omega, by omega⟩⟩
theorem plus_any (x y : Hol) (h : W64' (x.fu + y.fu) ∧ W64' (x.em + y.em) ∧ W64' (x.cr + y.cr) ∧ W64' (x.br + y.br) ∧ W64' (x.mo + y.mo)) (w : World) :
    Calls Tryd.prog 82 #[.agg (hcells x).toArray, .agg (hcells y).toArray] w fun e w' => e = .returned (.agg (hcells (hadd x y)).toArray) ∧ Below w.heap.size w w' := by
  obtain ⟨fu, em, cr, br, mo⟩ := x
  obtain ⟨fu', em', cr', br', mo'⟩ := y
  obtain ⟨⟨x0, y0⟩, ⟨x1, y1⟩, ⟨x2, y2⟩, ⟨x3, y3⟩, ⟨x4, y4⟩⟩ := h
  simp only at x0 y0 x1 y1 x2 y2 x3 y3 x4 y4
  show Calls Tryd.prog 82 #[.agg #[.int .i64 fu, .int .i64 em, .int .i64 cr, .int .i64 br, .int .i64 mo], .agg #[.int .i64 fu', .int .i64 em', .int .i64 cr', .int .i64 br', .int .i64 mo']] w fun e w' => e = .returned (.agg #[.int .i64 (fu + fu'), .int .i64 (em + em'), .int .i64 (cr + cr'), .int .i64 (br + br'), .int .i64 (mo + mo')]) ∧ Below w.heap.size w w'
  go_enter Tryd.func82, Tryd.ntmps82
  go_wp2
  refine bodyPost_ret (v := .agg #[.int .i64 (fu + fu'), .int .i64 (em + em'), .int .i64 (cr + cr'), .int .i64 (br + br'), .int .i64 (mo + mo')]) (by simp [results, Tryd.results82, go_sem]) rfl ⟨rfl, (by repeat (first | exact Below.refl _ _ | refine Below.drew ?_ | refine Below.alloc ?_ (by simp <;> omega) _ | refine Below.setCell ?_ (by simp <;> omega) _))⟩

set_option maxRecDepth 100000 in
set_option maxHeartbeats 4000000 in
theorem sumOf_any (l : List Hol) (hn6 : l.length ≤ 6) (hv : ∀ x ∈ l, hoOk x = true) (A : Option Addr) (c : Nat) (w : World) (hr : Rd w w.heap.size hcells A l) :
    Calls Tryd.prog 42 #[.slice A l.length c] w fun e w' => e = .returned (.agg (hcells (hsum l l.length)).toArray) ∧ Below w.heap.size w w' := by
  have HV := Lib.hid hv
  obtain ⟨W1, hW1⟩ : ∃ W, w.alloc (.cells #[.int .i64 0, .int .i64 0, .int .i64 0, .int .i64 0, .int .i64 0] 31) = W := ⟨_, rfl⟩
  have hB1 : Below w.heap.size w W1 := by rw [← hW1]; exact (Below.refl _ _).alloc (Nat.le_refl _) _
  have hZ1 : Blk W1 w.heap.size 31 #[.int .i64 0, .int .i64 0, .int .i64 0, .int .i64 0, .int .i64 0] := by rw [← hW1]; exact Blk.new w _ _
  have HR : Hid (Rd W1 W1.heap.size hcells A l) := hr.keep hB1
  have hb2 : Below W1.heap.size W1 (W1.alloc (.cells #[.int .i64 0, .int .i64 0, .int .i64 0, .int .i64 0, .int .i64 0] 31)) := (Below.refl _ _).alloc (Nat.le_refl _) _
  have HB2w := Lib.hid hb2
  have HK2 : Hid (Blk (W1.alloc (.cells #[.int .i64 0, .int .i64 0, .int .i64 0, .int .i64 0, .int .i64 0] 31)) W1.heap.size 31 #[.int .i64 0, .int .i64 0, .int .i64 0, .int .i64 0, .int .i64 0]) := Blk.new W1 _ _
  have HZ2 : Hid (Blk (W1.alloc (.cells #[.int .i64 0, .int .i64 0, .int .i64 0, .int .i64 0, .int .i64 0] 31)) w.heap.size 31 #[.int .i64 0, .int .i64 0, .int .i64 0, .int .i64 0, .int .i64 0]) := Blk.keep hZ1 hb2
  have HB2 : Hid (Below w.heap.size w (W1.alloc (.cells #[.int .i64 0, .int .i64 0, .int .i64 0, .int .i64 0, .int .i64 0] 31))) := hB1.trans (hb2.mono hB1.size)
  have HWl : Hid (w.heap.size < W1.heap.size) := hZ1.lt
  have hn0 : (0 : Int) ≤ (l.length : Int) := Int.natCast_nonneg _
  clear hr hv hB1 hZ1 hb2
  go_enter Tryd.func42, Tryd.ntmps42
  go_wp2_with fail
  clear hW1
  go_loopw [8] (fun i wr => ∃ (k : Nat), k ≤ l.length ∧ i = .int .i64 k ∧ Blk wr W1.heap.size 31 (hcells (hsum l k)).toArray ∧ Blk wr w.heap.size 31 #[.int .i64 0, .int .i64 0, .int .i64 0, .int .i64 0, .int .i64 0] ∧ Below w.heap.size w wr ∧ Below W1.heap.size W1 wr) (fun i _ => l.length - (intOf i).toNat)
  case atStart => exact ⟨0, by omega, rfl, HK2.out, HZ2.out, HB2.out, HB2w.out⟩
  case round =>
    clear HK2 HZ2 HB2 HB2w
    obtain ⟨k, hk, rfl, hK, hZ, hB, hBW⟩ := hrel
    have HB := Lib.hid hB
    have HZ := Lib.hid hZ
    have HBW := Lib.hid hBW
    by_cases hlt : k < l.length
    · obtain ⟨⟨fu, em, cr, br, mo⟩, hx⟩ : ∃ x, l[k]? = some x := ⟨_, List.getElem?_eq_getElem hlt⟩
      obtain ⟨b, o, rfl, hbl, hrow⟩ := (HR.out.below (Nat.le_refl _) hBW).at_ hcells_length hx
      obtain ⟨e0, e1, e2, e3, e4⟩ := rowH5 hrow
      simp only at e0 e1 e2 e3 e4
      obtain ⟨a0, a1, a2, a3, a4, hs, hs1, hw0, hw1, hw2, hw3, hw4⟩ := sum_facts HV.out hn6 hx
      have HP : Hid (∀ z, Calls Tryd.prog 82 #[.agg #[.int .i64 a0, .int .i64 a1, .int .i64 a2, .int .i64 a3, .int .i64 a4], .agg #[.int .i64 fu, .int .i64 em, .int .i64 cr, .int .i64 br, .int .i64 mo]] z fun e w' => e = .returned (.agg #[.int .i64 (a0 + fu), .int .i64 (a1 + em), .int .i64 (a2 + cr), .int .i64 (a3 + br), .int .i64 (a4 + mo)]) ∧ Below z.heap.size z w') := fun z => plus_any ⟨a0, a1, a2, a3, a4⟩ ⟨fu, em, cr, br, mo⟩ ⟨hw0, hw1, hw2, hw3, hw4⟩ z
      rw [hs] at hK
      have HS1 := Lib.hid hs1
      have hba : Below wr.heap.size wr (wr.alloc (.cells #[.int .i64 fu, .int .i64 em, .int .i64 cr, .int .i64 br, .int .i64 mo] 31)) := (Below.refl _ wr).alloc (Nat.le_refl _) _
      have HA : Hid (Below w.heap.size w (wr.alloc (.cells #[.int .i64 fu, .int .i64 em, .int .i64 cr, .int .i64 br, .int .i64 mo] 31))) := hB.trans (hba.mono hB.size)
      have HAW : Hid (Below W1.heap.size W1 (wr.alloc (.cells #[.int .i64 fu, .int .i64 em, .int .i64 cr, .int .i64 br, .int .i64 mo] 31))) := hBW.trans (hba.mono hBW.size)
      have hKA : Blk (wr.alloc (.cells #[.int .i64 fu, .int .i64 em, .int .i64 cr, .int .i64 br, .int .i64 mo] 31)) W1.heap.size 31 #[.int .i64 a0, .int .i64 a1, .int .i64 a2, .int .i64 a3, .int .i64 a4] := Blk.keep hK hba
      have HKA := Lib.hid hKA
      have HZA : Hid (Blk (wr.alloc (.cells #[.int .i64 fu, .int .i64 em, .int .i64 cr, .int .i64 br, .int .i64 mo] 31)) w.heap.size 31 #[.int .i64 0, .int .i64 0, .int .i64 0, .int .i64 0, .int .i64 0]) := Blk.keep hZ hba
      have hne : W1.heap.size ≠ wr.heap.size := Nat.ne_of_lt hK.lt
      have k0 : (wr.alloc (.cells #[.int .i64 fu, .int .i64 em, .int .i64 cr, .int .i64 br, .int .i64 mo] 31)).cell? ⟨W1.heap.size, 0, none⟩ = some (.int .i64 a0) := hKA.cell 0
      have k1 : (wr.alloc (.cells #[.int .i64 fu, .int .i64 em, .int .i64 cr, .int .i64 br, .int .i64 mo] 31)).cell? ⟨W1.heap.size, 1, none⟩ = some (.int .i64 a1) := hKA.cell 1
      have k2 : (wr.alloc (.cells #[.int .i64 fu, .int .i64 em, .int .i64 cr, .int .i64 br, .int .i64 mo] 31)).cell? ⟨W1.heap.size, 2, none⟩ = some (.int .i64 a2) := hKA.cell 2
      have k3 : (wr.alloc (.cells #[.int .i64 fu, .int .i64 em, .int .i64 cr, .int .i64 br, .int .i64 mo] 31)).cell? ⟨W1.heap.size, 3, none⟩ = some (.int .i64 a3) := hKA.cell 3
      have k4 : (wr.alloc (.cells #[.int .i64 fu, .int .i64 em, .int .i64 cr, .int .i64 br, .int .i64 mo] 31)).cell? ⟨W1.heap.size, 4, none⟩ = some (.int .i64 a4) := hKA.cell 4
      have hk0 : (0 : Int) ≤ (k : Int) := Int.natCast_nonneg _
      have hk8 : (k : Int) < l.length := by omega
      clear hx hrow hK hB hZ hBW hs hs1 hba hKA hw0 hw1 hw2 hw3 hw4
      go_wp2_with fail
      refine (HP.out _).mono ?_
      rintro e w2 ⟨rfl, hb⟩
      have HB2 : Hid (Below w.heap.size w w2) := HA.out.trans (hb.mono HA.out.size)
      have HBW2 : Hid (Below W1.heap.size W1 w2) := HAW.out.trans (hb.mono HAW.out.size)
      have hK2 : Blk w2 W1.heap.size 31 #[.int .i64 a0, .int .i64 a1, .int .i64 a2, .int .i64 a3, .int .i64 a4] := Blk.keep HKA.out hb
      have HK2 := Lib.hid hK2
      have HZ2 : Hid (Blk w2 w.heap.size 31 #[.int .i64 0, .int .i64 0, .int .i64 0, .int .i64 0, .int .i64 0]) := Blk.keep HZA.out hb
      have f0 : w2.frozen? ⟨W1.heap.size, 0, none⟩ = false := hK2.frozen 0
      have f1 : w2.frozen? ⟨W1.heap.size, 1, none⟩ = false := hK2.frozen 1
      have f2 : w2.frozen? ⟨W1.heap.size, 2, none⟩ = false := hK2.frozen 2
      have f3 : w2.frozen? ⟨W1.heap.size, 3, none⟩ = false := hK2.frozen 3
      have f4 : w2.frozen? ⟨W1.heap.size, 4, none⟩ = false := hK2.frozen 4
      clear k0 k1 k2 k3 k4 e0 e1 e2 e3 e4
      have k0 : w2.cell? ⟨W1.heap.size, 0, none⟩ = some (.int .i64 a0) := hK2.cell 0
      have k1 : w2.cell? ⟨W1.heap.size, 1, none⟩ = some (.int .i64 a1) := hK2.cell 1
      have k2 : w2.cell? ⟨W1.heap.size, 2, none⟩ = some (.int .i64 a2) := hK2.cell 2
      have k3 : w2.cell? ⟨W1.heap.size, 3, none⟩ = some (.int .i64 a3) := hK2.cell 3
      have k4 : w2.cell? ⟨W1.heap.size, 4, none⟩ = some (.int .i64 a4) := hK2.cell 4
      clear hb hK2
      go_wp2
      go_roundw
      case rel =>
        refine ⟨k + 1, by omega, by go_num, ?_, ?_, ?_, ?_⟩
        · rw [HS1.out]
          exact (((((HK2.out.set_ 0 _).set_ 1 _).set_ 2 _).set_ 3 _).set_ 4 _)
        · exact Blk.far (p := ⟨W1.heap.size, 4, none⟩) (Blk.far (p := ⟨W1.heap.size, 3, none⟩) (Blk.far (p := ⟨W1.heap.size, 2, none⟩) (Blk.far (p := ⟨W1.heap.size, 1, none⟩) (Blk.far (p := ⟨W1.heap.size, 0, none⟩) HZ2.out (Nat.ne_of_lt HWl.out) _) (Nat.ne_of_lt HWl.out) _) (Nat.ne_of_lt HWl.out) _) (Nat.ne_of_lt HWl.out) _) (Nat.ne_of_lt HWl.out) _
        · have hWl := HWl.out
          repeat (first | exact HB2.out | refine Below.drew ?_ | refine Below.setCell ?_ (by simp <;> omega) _)
        · repeat (first | exact HBW2.out | refine Below.drew ?_ | refine Below.setCell ?_ (by simp <;> omega) _)
      case measure => simp [intOf]; omega
    · obtain rfl : k = l.length := by omega
      obtain ⟨⟨fu, em, cr, br, mo⟩, hs⟩ : ∃ s, hsum l l.length = s := ⟨_, rfl⟩
      have HS := Lib.hid hs
      rw [hs] at hK
      have k0 : wr.cell? ⟨W1.heap.size, 0, none⟩ = some (.int .i64 fu) := hK.cell 0
      have k1 : wr.cell? ⟨W1.heap.size, 1, none⟩ = some (.int .i64 em) := hK.cell 1
      have k2 : wr.cell? ⟨W1.heap.size, 2, none⟩ = some (.int .i64 cr) := hK.cell 2
      have k3 : wr.cell? ⟨W1.heap.size, 3, none⟩ = some (.int .i64 br) := hK.cell 3
      have k4 : wr.cell? ⟨W1.heap.size, 4, none⟩ = some (.int .i64 mo) := hK.cell 4
      have d0 : wr.cell? ⟨w.heap.size, 0, none⟩ = some (.int .i64 0) := hZ.cell 0
      have d1 : wr.cell? ⟨w.heap.size, 1, none⟩ = some (.int .i64 0) := hZ.cell 1
      have d2 : wr.cell? ⟨w.heap.size, 2, none⟩ = some (.int .i64 0) := hZ.cell 2
      have d3 : wr.cell? ⟨w.heap.size, 3, none⟩ = some (.int .i64 0) := hZ.cell 3
      have d4 : wr.cell? ⟨w.heap.size, 4, none⟩ = some (.int .i64 0) := hZ.cell 4
      have f0 : wr.frozen? ⟨w.heap.size, 0, none⟩ = false := hZ.frozen 0
      have f1 : wr.frozen? ⟨w.heap.size, 1, none⟩ = false := hZ.frozen 1
      have f2 : wr.frozen? ⟨w.heap.size, 2, none⟩ = false := hZ.frozen 2
      have f3 : wr.frozen? ⟨w.heap.size, 3, none⟩ = false := hZ.frozen 3
      have f4 : wr.frozen? ⟨w.heap.size, 4, none⟩ = false := hZ.frozen 4
      clear hs hK hB hZ hBW
      go_wp2
      refine bodyPost_ret (v := .agg #[.int .i64 fu, .int .i64 em, .int .i64 cr, .int .i64 br, .int .i64 mo]) (by simp [results, Tryd.results42, go_sem, *]) rfl ?_
      refine ⟨by (rw [HS.out]; first | done | rfl), ?_⟩
      repeat (first | exact HB.out | refine Below.drew ?_ | refine Below.setCell ?_ (by simp <;> omega) _)
end Go.Proofs.YtjgafdfffmfhhabDoor
