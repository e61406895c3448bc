/-
  SumOf: the contracts, of the model and of the program. Condition: numbers fit their kinds; the sentinel errors lie as the row lists them (the program's).
-/
import Derived.Test.YtjgafdfffmfhhaaDoorHw
namespace Go.Proofs.YtjgafdfffmfhhaaDoor
open Go.ChangeShapes Go.WideShapes Go.ChangeAt Go.RowKit Go.Deep

def hoF (l : List Hol) : Option Nat := firstO [chk 5 (paOk l.length), chk 0 (l.all hoOk)]
theorem hoF_lt {l : List Hol} : ∀ i, hoF l = some i → i < 7 := by
  refine firstO_lt ?_
  simp only [List.mem_cons, List.not_mem_nil, or_false]
  rintro o (rfl | rfl) <;> exact chk_lt (by omega)
theorem hoF_C (l : List Hol) : cdO (hoF l) = hoC l := by
  unfold hoF hoC
  cases paOk l.length
  · rfl
  · cases l.all hoOk <;> rfl
theorem hoC_ok {l : List Hol} (h : hoC l = 0) : (1 ≤ l.length ∧ l.length ≤ 6) ∧ ∀ x ∈ l, hoOk x = true := by
  unfold hoC at h
  split at h
  · split at h
    · rename_i h1 h2
      have := wi_iff.1 h1
      exact ⟨⟨by omega, by omega⟩, fun x hx => List.all_eq_true.1 h2 x hx⟩
    · cases h
  · cases h
def suL (l : List Hol) : Hol := if hoC l = 0 then hsum l l.length else hzero
theorem su_bad {l : List Hol} {i : Nat} (h : hoF l = some i) : hoC l = cdN i ∧ suL l = hzero := by
  have h1 : hoC l = cdN i := by rw [← hoF_C, h]; rfl
  exact ⟨h1, by rw [suL, if_neg (by rw [h1]; exact cdN_ne)]⟩
theorem su_ok {l : List Hol} (h : hoF l = none) : hoC l = 0 ∧ suL l = hsum l l.length := by
  have h1 : hoC l = 0 := by rw [← hoF_C, h]; rfl
  exact ⟨h1, by rw [suL, if_pos h1]⟩
def W64' (a : Int) : Prop := IntKind.i64.wrap a = a ∧ wrap64 a = a
theorem w64' {a : Int} (h : -1000000000000 ≤ a ∧ a ≤ 1000000000000) : W64' a := ⟨IntWalk.i64_in _ ⟨by omega, by omega⟩, IntWalk.wrap64_in _ ⟨by omega, by omega⟩⟩
/-- A sum and one more: nothing overflows. -/
theorem sum_facts {l : List Hol} (hv : ∀ x ∈ l, hoOk x = true) (h6 : l.length ≤ 6) {k : Nat} {fu em cr br mo : Int} (hx : l[k]? = some ⟨fu, em, cr, br, mo⟩) :
    ∃ a b c d e, hsum l k = ⟨a, b, c, d, e⟩ ∧ hsum l (k + 1) = ⟨a + fu, b + em, c + cr, d + br, e + mo⟩ ∧ W64' (a + fu) ∧ W64' (b + em) ∧ W64' (c + cr) ∧ W64' (d + br) ∧ W64' (e + mo) := by
  have hk := (List.getElem?_eq_some_iff.1 hx).1
  have h1 := hsum_in (fun x hx => hoOk_in (hv x hx)) k (by omega)
  have h2 := hoOk_in (hv _ (List.mem_of_getElem? hx))
  have h3 := hsum_succ hx
  generalize hs : hsum l k = s at *
  obtain ⟨a, b, c, d, e⟩ := s
  have hk6 : (k : Int) ≤ 6 := by omega
  have hk0 : (0 : Int) ≤ k := Int.natCast_nonneg _
  obtain ⟨⟨a0, a1⟩, ⟨b0, b1⟩, ⟨c0, c1⟩, ⟨d0, d1⟩, e0, e1⟩ := h1
  obtain ⟨⟨f0, f1⟩, ⟨g0, g1⟩, ⟨i0, i1⟩, ⟨j0, j1⟩, m0, m1⟩ := h2
  simp only at a0 a1 b0 b1 c0 c1 d0 d1 e0 e1 f0 f1 g0 g1 i0 i1 j0 j1 m0 m1
  exact ⟨a, b, c, d, e, rfl, h3, w64' ⟨by omega, by omega⟩, w64' ⟨by omega, by omega⟩, w64' ⟨by omega, by omega⟩, w64' ⟨by omega, by omega⟩, w64' ⟨by omega, by omega⟩⟩
set_option maxRecDepth 100000 in
set_option maxHeartbeats 4000000 in
theorem specSumOf_any (l : List Hol) (A : Option Addr) (c : Nat) (w : World) (hl : l.length ≤ 1048576) (hr : Rd w w.heap.size hcells A l) :
    Calls Tryd.prog 5 #[.slice A l.length c] w fun e w' => e = .returned (.tuple #[.agg (hcells (suL l)).toArray, .int .i64 (hoC l)]) ∧ Below w.heap.size w w' := by
  obtain ⟨W1, hW1⟩ : ∃ W, w.alloc (.cells #[.int .i64 0, .int .i64 0, .int .i64 0, .int .i64 0, .int .i64 0] 25) = W := ⟨_, rfl⟩
  have hB1 : Below w.heap.size w W1 := by rw [← hW1]; exact (Below.refl _ _).alloc (Nat.le_refl _) _
  have hZ1 : Blk W1 w.heap.size 25 #[.int .i64 0, .int .i64 0, .int .i64 0, .int .i64 0, .int .i64 0] := by rw [← hW1]; exact Blk.new w _ _
  have HR : Hid (Rd W1 W1.heap.size hcells A l) := hr.keep hB1
  have HB1 := Lib.hid hB1
  have HZ1 := Lib.hid hZ1
  clear hr hB1 hZ1
  go_enter Tryd.func5, Tryd.ntmps5
  go_wp2_with fail
  clear hW1
  refine (l06Holdings_any l A c _ hl HR.out).mono ?_
  rintro e w1 ⟨rfl, rfl⟩
  cases hf : hoF l with
  | some i =>
    have E := Lib.hid (su_bad hf)
    have hne : hoC l ≠ 0 := by rw [E.out.1]; exact cdN_ne
    obtain ⟨cc, hcc⟩ : ∃ cc, hoC l = cc := ⟨_, rfl⟩
    have HCC := Lib.hid hcc
    rw [hcc] at hne ⊢
    have hzb : (cc == 0) = false := by simpa using hne
    have d0 : W1.cell? ⟨w.heap.size, 0, none⟩ = some (.int .i64 0) := HZ1.out.cell 0
    have d1 : W1.cell? ⟨w.heap.size, 1, none⟩ = some (.int .i64 0) := HZ1.out.cell 1
    have d2 : W1.cell? ⟨w.heap.size, 2, none⟩ = some (.int .i64 0) := HZ1.out.cell 2
    have d3 : W1.cell? ⟨w.heap.size, 3, none⟩ = some (.int .i64 0) := HZ1.out.cell 3
    have d4 : W1.cell? ⟨w.heap.size, 4, none⟩ = some (.int .i64 0) := HZ1.out.cell 4
    have f0 : W1.frozen? ⟨w.heap.size, 0, none⟩ = false := HZ1.out.frozen 0
    have f1 : W1.frozen? ⟨w.heap.size, 1, none⟩ = false := HZ1.out.frozen 1
    have f2 : W1.frozen? ⟨w.heap.size, 2, none⟩ = false := HZ1.out.frozen 2
    have f3 : W1.frozen? ⟨w.heap.size, 3, none⟩ = false := HZ1.out.frozen 3
    have f4 : W1.frozen? ⟨w.heap.size, 4, none⟩ = false := HZ1.out.frozen 4
    clear hf hcc
    go_wp2
    refine bodyPost_ret (v := .tuple #[.agg #[.int .i64 0, .int .i64 0, .int .i64 0, .int .i64 0, .int .i64 0], .int .i64 cc]) (by simp [results, Tryd.results5, go_sem, *]) rfl ?_
    exact ⟨by (rw [E.out.2, HCC.out]; first | done | rfl), ((((((((((HB1.out).setCell (p := ⟨w.heap.size, 0, none⟩) (Nat.le_refl _) _)).setCell (p := ⟨w.heap.size, 1, none⟩) (Nat.le_refl _) _)).setCell (p := ⟨w.heap.size, 2, none⟩) (Nat.le_refl _) _)).setCell (p := ⟨w.heap.size, 3, none⟩) (Nat.le_refl _) _)).setCell (p := ⟨w.heap.size, 4, none⟩) (Nat.le_refl _) _)⟩
  | none =>
    obtain ⟨h0, h1⟩ := su_ok hf
    obtain ⟨⟨hn1, hn6⟩, hv⟩ := hoC_ok h0
    have E0 := Lib.hid h0
    have E1 := Lib.hid h1
    have HV := Lib.hid hv
    rw [h0]
    have hb2 : Below W1.heap.size W1 (W1.alloc (.cells #[.int .i64 0, .int .i64 0, .int .i64 0, .int .i64 0, .int .i64 0] 25)) := (Below.refl _ _).alloc (Nat.le_refl _) _
    have HB2w := Lib.hid hb2
    have HK2 : Hid (Blk (W1.alloc (.cells #[.int .i64 0, .int .i64 0, .int .i64 0, .int .i64 0, .int .i64 0] 25)) W1.heap.size 25 #[.int .i64 0, .int .i64 0, .int .i64 0, .int .i64 0, .int .i64 0]) := Blk.new W1 _ _
    have HZ2 : Hid (Blk (W1.alloc (.cells #[.int .i64 0, .int .i64 0, .int .i64 0, .int .i64 0, .int .i64 0] 25)) w.heap.size 25 #[.int .i64 0, .int .i64 0, .int .i64 0, .int .i64 0, .int .i64 0]) := Blk.keep HZ1.out hb2
    have HB2 : Hid (Below w.heap.size w (W1.alloc (.cells #[.int .i64 0, .int .i64 0, .int .i64 0, .int .i64 0, .int .i64 0] 25))) := HB1.out.trans (hb2.mono HB1.out.size)
    have HWl : Hid (w.heap.size < W1.heap.size) := HZ1.out.lt
    have hn0 : (0 : Int) ≤ (l.length : Int) := Int.natCast_nonneg _
    clear hf h0 h1 hv hb2
    go_wp2_with fail
    go_loopw [6] (fun i wr => ∃ (k : Nat), k ≤ l.length ∧ i = .int .i64 k ∧ Blk wr W1.heap.size 25 (hcells (hsum l k)).toArray ∧ Blk wr w.heap.size 25 #[.int .i64 0, .int .i64 0, .int .i64 0, .int .i64 0, .int .i64 0] ∧ Below w.heap.size w wr ∧ Below W1.heap.size W1 wr) (fun i _ => l.length - (intOf i).toNat)
    case atStart => exact ⟨0, by omega, rfl, HK2.out, HZ2.out, HB2.out, HB2w.out⟩
    case round =>
      clear HK2 HZ2 HB2 HB2w
      obtain ⟨k, hk, rfl, hK, hZ, hB, hBW⟩ := hrel
      have HB := Lib.hid hB
      have HZ := Lib.hid hZ
      have HBW := Lib.hid hBW
      by_cases hlt : k < l.length
      · obtain ⟨⟨fu, em, cr, br, mo⟩, hx⟩ : ∃ x, l[k]? = some x := ⟨_, List.getElem?_eq_getElem hlt⟩
        obtain ⟨b, o, rfl, hbl, hrow⟩ := HR.out.at_ hcells_length hx
        have HRow := Lib.hid hrow
        have HBl : Hid (b < W1.heap.size) := hbl
        obtain ⟨a0, a1, a2, a3, a4, hs, hs1, ⟨x0, y0⟩, ⟨x1, y1⟩, ⟨x2, y2⟩, ⟨x3, y3⟩, ⟨x4, y4⟩⟩ := sum_facts HV.out (by omega) hx
        rw [hs] at hK
        have HZ0 := HZ.out
        have HZ0 := Lib.hid HZ0
        have HB0 := Lib.hid HB.out
        have HBW0 := Lib.hid HBW.out
        have HK0 : Hid (Blk wr W1.heap.size 25 #[.int .i64 a0, .int .i64 a1, .int .i64 a2, .int .i64 a3, .int .i64 a4]) := hK
        have HS1 := Lib.hid hs1
        have hk0 : (0 : Int) ≤ (k : Int) := Int.natCast_nonneg _
        have hk8 : (k : Int) < l.length := by omega
        clear hx hrow hK hB hZ hBW hs hs1 hbl
        have k0 : wr.cell? ⟨W1.heap.size, 0, none⟩ = some (.int .i64 a0) := HK0.out.cell 0
        have f0 : wr.frozen? ⟨W1.heap.size, 0, none⟩ = false := HK0.out.frozen 0
        have e0 : wr.cell? ⟨b, o + k * 5, none⟩ = some (.int .i64 fu) := by
          have := rowH5 (rangeAt_below HRow.out HBW0.out HBl.out)
          exact this.1
        have hne : b ≠ W1.heap.size := Nat.ne_of_lt HBl.out
        go_wp2_with fail
        go_region
        clear k0 f0 e0 hne
        obtain ⟨r1, hr1⟩ : ∃ W, (wr.setCell ⟨W1.heap.size, 0, none⟩ (.int .i64 (a0 + fu))).drew = W := ⟨_, rfl⟩
        rw [hr1]
        have HK1 : Hid (Blk r1 W1.heap.size 25 #[.int .i64 (a0 + fu), .int .i64 a1, .int .i64 a2, .int .i64 a3, .int .i64 a4]) := by show Blk _ _ _ _; rw [← hr1]; exact HK0.out.set_ 0 _
        have HZ1 : Hid (Blk r1 w.heap.size 25 #[.int .i64 0, .int .i64 0, .int .i64 0, .int .i64 0, .int .i64 0]) := by show Blk _ _ _ _; rw [← hr1]; exact Blk.far (p := ⟨W1.heap.size, 0, none⟩) HZ0.out (Nat.ne_of_lt HWl.out) _
        have HB1 : Hid (Below w.heap.size w r1) := by show Below _ _ _; rw [← hr1]; exact (HB0.out.setCell (p := ⟨W1.heap.size, 0, none⟩) (Nat.le_of_lt HWl.out) _).drew
        have HBW1 : Hid (Below W1.heap.size W1 r1) := by show Below _ _ _; rw [← hr1]; exact (HBW0.out.setCell (p := ⟨W1.heap.size, 0, none⟩) (Nat.le_refl _) _).drew
        clear hr1 HK0 HZ0 HB0 HBW0
        have k0 : r1.cell? ⟨W1.heap.size, 1, none⟩ = some (.int .i64 a1) := HK1.out.cell 1
        have f0 : r1.frozen? ⟨W1.heap.size, 1, none⟩ = false := HK1.out.frozen 1
        have e0 : r1.cell? ⟨b, o + k * 5 + 1, none⟩ = some (.int .i64 em) := by
          have := rowH5 (rangeAt_below HRow.out HBW1.out HBl.out)
          exact this.2.1
        have hne : b ≠ W1.heap.size := Nat.ne_of_lt HBl.out
        go_wp2_with fail
        go_region
        clear k0 f0 e0 hne
        obtain ⟨r2, hr2⟩ : ∃ W, (r1.setCell ⟨W1.heap.size, 1, none⟩ (.int .i64 (a1 + em))).drew = W := ⟨_, rfl⟩
        rw [hr2]
        have HK2 : Hid (Blk r2 W1.heap.size 25 #[.int .i64 (a0 + fu), .int .i64 (a1 + em), .int .i64 a2, .int .i64 a3, .int .i64 a4]) := by show Blk _ _ _ _; rw [← hr2]; exact HK1.out.set_ 1 _
        have HZ2 : Hid (Blk r2 w.heap.size 25 #[.int .i64 0, .int .i64 0, .int .i64 0, .int .i64 0, .int .i64 0]) := by show Blk _ _ _ _; rw [← hr2]; exact Blk.far (p := ⟨W1.heap.size, 1, none⟩) HZ1.out (Nat.ne_of_lt HWl.out) _
        have HB2 : Hid (Below w.heap.size w r2) := by show Below _ _ _; rw [← hr2]; exact (HB1.out.setCell (p := ⟨W1.heap.size, 1, none⟩) (Nat.le_of_lt HWl.out) _).drew
        have HBW2 : Hid (Below W1.heap.size W1 r2) := by show Below _ _ _; rw [← hr2]; exact (HBW1.out.setCell (p := ⟨W1.heap.size, 1, none⟩) (Nat.le_refl _) _).drew
        clear hr2 HK1 HZ1 HB1 HBW1
        have k0 : r2.cell? ⟨W1.heap.size, 2, none⟩ = some (.int .i64 a2) := HK2.out.cell 2
        have f0 : r2.frozen? ⟨W1.heap.size, 2, none⟩ = false := HK2.out.frozen 2
        have e0 : r2.cell? ⟨b, o + k * 5 + 2, none⟩ = some (.int .i64 cr) := by
          have := rowH5 (rangeAt_below HRow.out HBW2.out HBl.out)
          exact this.2.2.1
        have hne : b ≠ W1.heap.size := Nat.ne_of_lt HBl.out
        go_wp2_with fail
        go_region
        clear k0 f0 e0 hne
        obtain ⟨r3, hr3⟩ : ∃ W, (r2.setCell ⟨W1.heap.size, 2, none⟩ (.int .i64 (a2 + cr))).drew = W := ⟨_, rfl⟩
        rw [hr3]
        have HK3 : Hid (Blk r3 W1.heap.size 25 #[.int .i64 (a0 + fu), .int .i64 (a1 + em), .int .i64 (a2 + cr), .int .i64 a3, .int .i64 a4]) := by show Blk _ _ _ _; rw [← hr3]; exact HK2.out.set_ 2 _
        have HZ3 : Hid (Blk r3 w.heap.size 25 #[.int .i64 0, .int .i64 0, .int .i64 0, .int .i64 0, .int .i64 0]) := by show Blk _ _ _ _; rw [← hr3]; exact Blk.far (p := ⟨W1.heap.size, 2, none⟩) HZ2.out (Nat.ne_of_lt HWl.out) _
        have HB3 : Hid (Below w.heap.size w r3) := by show Below _ _ _; rw [← hr3]; exact (HB2.out.setCell (p := ⟨W1.heap.size, 2, none⟩) (Nat.le_of_lt HWl.out) _).drew
        have HBW3 : Hid (Below W1.heap.size W1 r3) := by show Below _ _ _; rw [← hr3]; exact (HBW2.out.setCell (p := ⟨W1.heap.size, 2, none⟩) (Nat.le_refl _) _).drew
        clear hr3 HK2 HZ2 HB2 HBW2
        have k0 : r3.cell? ⟨W1.heap.size, 3, none⟩ = some (.int .i64 a3) := HK3.out.cell 3
        have f0 : r3.frozen? ⟨W1.heap.size, 3, none⟩ = false := HK3.out.frozen 3
        have e0 : r3.cell? ⟨b, o + k * 5 + 3, none⟩ = some (.int .i64 br) := by
          have := rowH5 (rangeAt_below HRow.out HBW3.out HBl.out)
          exact this.2.2.2.1
        have hne : b ≠ W1.heap.size := Nat.ne_of_lt HBl.out
        go_wp2_with fail
        go_region
        clear k0 f0 e0 hne
        obtain ⟨r4, hr4⟩ : ∃ W, (r3.setCell ⟨W1.heap.size, 3, none⟩ (.int .i64 (a3 + br))).drew = W := ⟨_, rfl⟩
        rw [hr4]
        have HK4 : Hid (Blk r4 W1.heap.size 25 #[.int .i64 (a0 + fu), .int .i64 (a1 + em), .int .i64 (a2 + cr), .int .i64 (a3 + br), .int .i64 a4]) := by show Blk _ _ _ _; rw [← hr4]; exact HK3.out.set_ 3 _
        have HZ4 : Hid (Blk r4 w.heap.size 25 #[.int .i64 0, .int .i64 0, .int .i64 0, .int .i64 0, .int .i64 0]) := by show Blk _ _ _ _; rw [← hr4]; exact Blk.far (p := ⟨W1.heap.size, 3, none⟩) HZ3.out (Nat.ne_of_lt HWl.out) _
        have HB4 : Hid (Below w.heap.size w r4) := by show Below _ _ _; rw [← hr4]; exact (HB3.out.setCell (p := ⟨W1.heap.size, 3, none⟩) (Nat.le_of_lt HWl.out) _).drew
        have HBW4 : Hid (Below W1.heap.size W1 r4) := by show Below _ _ _; rw [← hr4]; exact (HBW3.out.setCell (p := ⟨W1.heap.size, 3, none⟩) (Nat.le_refl _) _).drew
        clear hr4 HK3 HZ3 HB3 HBW3
        have k0 : r4.cell? ⟨W1.heap.size, 4, none⟩ = some (.int .i64 a4) := HK4.out.cell 4
        have f0 : r4.frozen? ⟨W1.heap.size, 4, none⟩ = false := HK4.out.frozen 4
        have e0 : r4.cell? ⟨b, o + k * 5 + 4, none⟩ = some (.int .i64 mo) := by
          have := rowH5 (rangeAt_below HRow.out HBW4.out HBl.out)
          exact this.2.2.2.2
        have hne : b ≠ W1.heap.size := Nat.ne_of_lt HBl.out
        go_wp2_with fail
        go_region
        clear k0 f0 e0 hne
        obtain ⟨r5, hr5⟩ : ∃ W, (r4.setCell ⟨W1.heap.size, 4, none⟩ (.int .i64 (a4 + mo))).drew = W := ⟨_, rfl⟩
        rw [hr5]
        have HK5 : Hid (Blk r5 W1.heap.size 25 #[.int .i64 (a0 + fu), .int .i64 (a1 + em), .int .i64 (a2 + cr), .int .i64 (a3 + br), .int .i64 (a4 + mo)]) := by show Blk _ _ _ _; rw [← hr5]; exact HK4.out.set_ 4 _
        have HZ5 : Hid (Blk r5 w.heap.size 25 #[.int .i64 0, .int .i64 0, .int .i64 0, .int .i64 0, .int .i64 0]) := by show Blk _ _ _ _; rw [← hr5]; exact Blk.far (p := ⟨W1.heap.size, 4, none⟩) HZ4.out (Nat.ne_of_lt HWl.out) _
        have HB5 : Hid (Below w.heap.size w r5) := by show Below _ _ _; rw [← hr5]; exact (HB4.out.setCell (p := ⟨W1.heap.size, 4, none⟩) (Nat.le_of_lt HWl.out) _).drew
        have HBW5 : Hid (Below W1.heap.size W1 r5) := by show Below _ _ _; rw [← hr5]; exact (HBW4.out.setCell (p := ⟨W1.heap.size, 4, none⟩) (Nat.le_refl _) _).drew
        clear hr5 HK4 HZ4 HB4 HBW4
        go_wp2
        go_roundw
        case rel => exact ⟨k + 1, by omega, by go_num, by rw [HS1.out]; exact HK5.out, HZ5.out, HB5.out, HBW5.out⟩
        case measure => simp [intOf]; omega
      · obtain rfl : k = l.length := by omega
        obtain ⟨⟨fu, em, cr, br, mo⟩, hs⟩ : ∃ s, hsum l l.length = s := ⟨_, rfl⟩
        have HS := Lib.hid hs
        rw [hs] at hK
        have k0 : wr.cell? ⟨W1.heap.size, 0, none⟩ = some (.int .i64 fu) := hK.cell 0
        have k1 : wr.cell? ⟨W1.heap.size, 1, none⟩ = some (.int .i64 em) := hK.cell 1
        have k2 : wr.cell? ⟨W1.heap.size, 2, none⟩ = some (.int .i64 cr) := hK.cell 2
        have k3 : wr.cell? ⟨W1.heap.size, 3, none⟩ = some (.int .i64 br) := hK.cell 3
        have k4 : wr.cell? ⟨W1.heap.size, 4, none⟩ = some (.int .i64 mo) := hK.cell 4
        have d0 : wr.cell? ⟨w.heap.size, 0, none⟩ = some (.int .i64 0) := hZ.cell 0
        have d1 : wr.cell? ⟨w.heap.size, 1, none⟩ = some (.int .i64 0) := hZ.cell 1
        have d2 : wr.cell? ⟨w.heap.size, 2, none⟩ = some (.int .i64 0) := hZ.cell 2
        have d3 : wr.cell? ⟨w.heap.size, 3, none⟩ = some (.int .i64 0) := hZ.cell 3
        have d4 : wr.cell? ⟨w.heap.size, 4, none⟩ = some (.int .i64 0) := hZ.cell 4
        have f0 : wr.frozen? ⟨w.heap.size, 0, none⟩ = false := hZ.frozen 0
        have f1 : wr.frozen? ⟨w.heap.size, 1, none⟩ = false := hZ.frozen 1
        have f2 : wr.frozen? ⟨w.heap.size, 2, none⟩ = false := hZ.frozen 2
        have f3 : wr.frozen? ⟨w.heap.size, 3, none⟩ = false := hZ.frozen 3
        have f4 : wr.frozen? ⟨w.heap.size, 4, none⟩ = false := hZ.frozen 4
        clear hs hK hB hZ hBW
        go_wp2
        refine bodyPost_ret (v := .tuple #[.agg #[.int .i64 fu, .int .i64 em, .int .i64 cr, .int .i64 br, .int .i64 mo], .int .i64 0]) (by simp [results, Tryd.results5, go_sem, *]) rfl ?_
        exact ⟨by (rw [E1.out, HS.out, E0.out]; first | done | rfl), ((((((((((HB.out).setCell (p := ⟨w.heap.size, 0, none⟩) (Nat.le_refl _) _)).setCell (p := ⟨w.heap.size, 1, none⟩) (Nat.le_refl _) _)).setCell (p := ⟨w.heap.size, 2, none⟩) (Nat.le_refl _) _)).setCell (p := ⟨w.heap.size, 3, none⟩) (Nat.le_refl _) _)).setCell (p := ⟨w.heap.size, 4, none⟩) (Nat.le_refl _) _)⟩
theorem plus_any (x y : Hol) (h : W64' (x.fu + y.fu) ∧ W64' (x.em + y.em) ∧ W64' (x.cr + y.cr) ∧ W64' (x.br + y.br) ∧ W64' (x.mo + y.mo)) (w : World) :
    Calls Tryd.prog 41 #[.agg (hcells x).toArray, .agg (hcells y).toArray] w fun e w' => e = .returned (.agg (hcells (hadd x y)).toArray) ∧ Below w.heap.size w w' := by
  obtain ⟨fu, em, cr, br, mo⟩ := x
  obtain ⟨fu', em', cr', br', mo'⟩ := y
  obtain ⟨⟨x0, y0⟩, ⟨x1, y1⟩, ⟨x2, y2⟩, ⟨x3, y3⟩, ⟨x4, y4⟩⟩ := h
  simp only at x0 y0 x1 y1 x2 y2 x3 y3 x4 y4
  show Calls Tryd.prog 41 #[.agg #[.int .i64 fu, .int .i64 em, .int .i64 cr, .int .i64 br, .int .i64 mo], .agg #[.int .i64 fu', .int .i64 em', .int .i64 cr', .int .i64 br', .int .i64 mo']] w fun e w' => e = .returned (.agg #[.int .i64 (fu + fu'), .int .i64 (em + em'), .int .i64 (cr + cr'), .int .i64 (br + br'), .int .i64 (mo + mo')]) ∧ Below w.heap.size w w'
  go_enter Tryd.func41, Tryd.ntmps41
  go_wp2
  refine bodyPost_ret (v := .agg #[.int .i64 (fu + fu'), .int .i64 (em + em'), .int .i64 (cr + cr'), .int .i64 (br + br'), .int .i64 (mo + mo')]) (by simp [results, Tryd.results41, go_sem]) rfl ⟨rfl, (by repeat (first | exact Below.refl _ _ | refine Below.drew ?_ | refine Below.alloc ?_ (by simp <;> omega) _ | refine Below.setCell ?_ (by simp <;> omega) _))⟩

set_option maxRecDepth 100000 in
set_option maxHeartbeats 4000000 in
theorem sumOf_any (l : List Hol) (hn6 : l.length ≤ 6) (hv : ∀ x ∈ l, hoOk x = true) (A : Option Addr) (c : Nat) (w : World) (hr : Rd w w.heap.size hcells A l) :
    Calls Tryd.prog 16 #[.slice A l.length c] w fun e w' => e = .returned (.agg (hcells (hsum l l.length)).toArray) ∧ Below w.heap.size w w' := by
  have HV := Lib.hid hv
  obtain ⟨W1, hW1⟩ : ∃ W, w.alloc (.cells #[.int .i64 0, .int .i64 0, .int .i64 0, .int .i64 0, .int .i64 0] 25) = W := ⟨_, rfl⟩
  have hB1 : Below w.heap.size w W1 := by rw [← hW1]; exact (Below.refl _ _).alloc (Nat.le_refl _) _
  have hZ1 : Blk W1 w.heap.size 25 #[.int .i64 0, .int .i64 0, .int .i64 0, .int .i64 0, .int .i64 0] := by rw [← hW1]; exact Blk.new w _ _
  have HR : Hid (Rd W1 W1.heap.size hcells A l) := hr.keep hB1
  have hb2 : Below W1.heap.size W1 (W1.alloc (.cells #[.int .i64 0, .int .i64 0, .int .i64 0, .int .i64 0, .int .i64 0] 25)) := (Below.refl _ _).alloc (Nat.le_refl _) _
  have HB2w := Lib.hid hb2
  have HK2 : Hid (Blk (W1.alloc (.cells #[.int .i64 0, .int .i64 0, .int .i64 0, .int .i64 0, .int .i64 0] 25)) W1.heap.size 25 #[.int .i64 0, .int .i64 0, .int .i64 0, .int .i64 0, .int .i64 0]) := Blk.new W1 _ _
  have HZ2 : Hid (Blk (W1.alloc (.cells #[.int .i64 0, .int .i64 0, .int .i64 0, .int .i64 0, .int .i64 0] 25)) w.heap.size 25 #[.int .i64 0, .int .i64 0, .int .i64 0, .int .i64 0, .int .i64 0]) := Blk.keep hZ1 hb2
  have HB2 : Hid (Below w.heap.size w (W1.alloc (.cells #[.int .i64 0, .int .i64 0, .int .i64 0, .int .i64 0, .int .i64 0] 25))) := hB1.trans (hb2.mono hB1.size)
  have HWl : Hid (w.heap.size < W1.heap.size) := hZ1.lt
  have hn0 : (0 : Int) ≤ (l.length : Int) := Int.natCast_nonneg _
  clear hr hv hB1 hZ1 hb2
  go_enter Tryd.func16, Tryd.ntmps16
  go_wp2_with fail
  clear hW1
  go_loopw [8] (fun i wr => ∃ (k : Nat), k ≤ l.length ∧ i = .int .i64 k ∧ Blk wr W1.heap.size 25 (hcells (hsum l k)).toArray ∧ Blk wr w.heap.size 25 #[.int .i64 0, .int .i64 0, .int .i64 0, .int .i64 0, .int .i64 0] ∧ Below w.heap.size w wr ∧ Below W1.heap.size W1 wr) (fun i _ => l.length - (intOf i).toNat)
  case atStart => exact ⟨0, by omega, rfl, HK2.out, HZ2.out, HB2.out, HB2w.out⟩
  case round =>
    clear HK2 HZ2 HB2 HB2w
    obtain ⟨k, hk, rfl, hK, hZ, hB, hBW⟩ := hrel
    have HB := Lib.hid hB
    have HZ := Lib.hid hZ
    have HBW := Lib.hid hBW
    by_cases hlt : k < l.length
    · obtain ⟨⟨fu, em, cr, br, mo⟩, hx⟩ : ∃ x, l[k]? = some x := ⟨_, List.getElem?_eq_getElem hlt⟩
      obtain ⟨b, o, rfl, hbl, hrow⟩ := (HR.out.below (Nat.le_refl _) hBW).at_ hcells_length hx
      obtain ⟨e0, e1, e2, e3, e4⟩ := rowH5 hrow
      simp only at e0 e1 e2 e3 e4
      obtain ⟨a0, a1, a2, a3, a4, hs, hs1, hw0, hw1, hw2, hw3, hw4⟩ := sum_facts HV.out hn6 hx
      have HP : Hid (∀ z, Calls Tryd.prog 41 #[.agg #[.int .i64 a0, .int .i64 a1, .int .i64 a2, .int .i64 a3, .int .i64 a4], .agg #[.int .i64 fu, .int .i64 em, .int .i64 cr, .int .i64 br, .int .i64 mo]] z fun e w' => e = .returned (.agg #[.int .i64 (a0 + fu), .int .i64 (a1 + em), .int .i64 (a2 + cr), .int .i64 (a3 + br), .int .i64 (a4 + mo)]) ∧ Below z.heap.size z w') := fun z => plus_any ⟨a0, a1, a2, a3, a4⟩ ⟨fu, em, cr, br, mo⟩ ⟨hw0, hw1, hw2, hw3, hw4⟩ z
      rw [hs] at hK
      have HS1 := Lib.hid hs1
      have hba : Below wr.heap.size wr (wr.alloc (.cells #[.int .i64 fu, .int .i64 em, .int .i64 cr, .int .i64 br, .int .i64 mo] 25)) := (Below.refl _ wr).alloc (Nat.le_refl _) _
      have HA : Hid (Below w.heap.size w (wr.alloc (.cells #[.int .i64 fu, .int .i64 em, .int .i64 cr, .int .i64 br, .int .i64 mo] 25))) := hB.trans (hba.mono hB.size)
      have HAW : Hid (Below W1.heap.size W1 (wr.alloc (.cells #[.int .i64 fu, .int .i64 em, .int .i64 cr, .int .i64 br, .int .i64 mo] 25))) := hBW.trans (hba.mono hBW.size)
      have hKA : Blk (wr.alloc (.cells #[.int .i64 fu, .int .i64 em, .int .i64 cr, .int .i64 br, .int .i64 mo] 25)) W1.heap.size 25 #[.int .i64 a0, .int .i64 a1, .int .i64 a2, .int .i64 a3, .int .i64 a4] := Blk.keep hK hba
      have HKA := Lib.hid hKA
      have HZA : Hid (Blk (wr.alloc (.cells #[.int .i64 fu, .int .i64 em, .int .i64 cr, .int .i64 br, .int .i64 mo] 25)) w.heap.size 25 #[.int .i64 0, .int .i64 0, .int .i64 0, .int .i64 0, .int .i64 0]) := Blk.keep hZ hba
      have hne : W1.heap.size ≠ wr.heap.size := Nat.ne_of_lt hK.lt
      have k0 : (wr.alloc (.cells #[.int .i64 fu, .int .i64 em, .int .i64 cr, .int .i64 br, .int .i64 mo] 25)).cell? ⟨W1.heap.size, 0, none⟩ = some (.int .i64 a0) := hKA.cell 0
      have k1 : (wr.alloc (.cells #[.int .i64 fu, .int .i64 em, .int .i64 cr, .int .i64 br, .int .i64 mo] 25)).cell? ⟨W1.heap.size, 1, none⟩ = some (.int .i64 a1) := hKA.cell 1
      have k2 : (wr.alloc (.cells #[.int .i64 fu, .int .i64 em, .int .i64 cr, .int .i64 br, .int .i64 mo] 25)).cell? ⟨W1.heap.size, 2, none⟩ = some (.int .i64 a2) := hKA.cell 2
      have k3 : (wr.alloc (.cells #[.int .i64 fu, .int .i64 em, .int .i64 cr, .int .i64 br, .int .i64 mo] 25)).cell? ⟨W1.heap.size, 3, none⟩ = some (.int .i64 a3) := hKA.cell 3
      have k4 : (wr.alloc (.cells #[.int .i64 fu, .int .i64 em, .int .i64 cr, .int .i64 br, .int .i64 mo] 25)).cell? ⟨W1.heap.size, 4, none⟩ = some (.int .i64 a4) := hKA.cell 4
      have hk0 : (0 : Int) ≤ (k : Int) := Int.natCast_nonneg _
      have hk8 : (k : Int) < l.length := by omega
      clear hx hrow hK hB hZ hBW hs hs1 hba hKA hw0 hw1 hw2 hw3 hw4
      go_wp2_with fail
      refine (HP.out _).mono ?_
      rintro e w2 ⟨rfl, hb⟩
      have HB2 : Hid (Below w.heap.size w w2) := HA.out.trans (hb.mono HA.out.size)
      have HBW2 : Hid (Below W1.heap.size W1 w2) := HAW.out.trans (hb.mono HAW.out.size)
      have hK2 : Blk w2 W1.heap.size 25 #[.int .i64 a0, .int .i64 a1, .int .i64 a2, .int .i64 a3, .int .i64 a4] := Blk.keep HKA.out hb
      have HK2 := Lib.hid hK2
      have HZ2 : Hid (Blk w2 w.heap.size 25 #[.int .i64 0, .int .i64 0, .int .i64 0, .int .i64 0, .int .i64 0]) := Blk.keep HZA.out hb
      have f0 : w2.frozen? ⟨W1.heap.size, 0, none⟩ = false := hK2.frozen 0
      have f1 : w2.frozen? ⟨W1.heap.size, 1, none⟩ = false := hK2.frozen 1
      have f2 : w2.frozen? ⟨W1.heap.size, 2, none⟩ = false := hK2.frozen 2
      have f3 : w2.frozen? ⟨W1.heap.size, 3, none⟩ = false := hK2.frozen 3
      have f4 : w2.frozen? ⟨W1.heap.size, 4, none⟩ = false := hK2.frozen 4
      clear k0 k1 k2 k3 k4 e0 e1 e2 e3 e4
      have k0 : w2.cell? ⟨W1.heap.size, 0, none⟩ = some (.int .i64 a0) := hK2.cell 0
      have k1 : w2.cell? ⟨W1.heap.size, 1, none⟩ = some (.int .i64 a1) := hK2.cell 1
      have k2 : w2.cell? ⟨W1.heap.size, 2, none⟩ = some (.int .i64 a2) := hK2.cell 2
      have k3 : w2.cell? ⟨W1.heap.size, 3, none⟩ = some (.int .i64 a3) := hK2.cell 3
      have k4 : w2.cell? ⟨W1.heap.size, 4, none⟩ = some (.int .i64 a4) := hK2.cell 4
      clear hb hK2
      go_wp2
      go_roundw
      case rel =>
        refine ⟨k + 1, by omega, by go_num, ?_, ?_, ?_, ?_⟩
        · rw [HS1.out]
          exact (((((HK2.out.set_ 0 _).set_ 1 _).set_ 2 _).set_ 3 _).set_ 4 _)
        · exact Blk.far (p := ⟨W1.heap.size, 4, none⟩) (Blk.far (p := ⟨W1.heap.size, 3, none⟩) (Blk.far (p := ⟨W1.heap.size, 2, none⟩) (Blk.far (p := ⟨W1.heap.size, 1, none⟩) (Blk.far (p := ⟨W1.heap.size, 0, none⟩) HZ2.out (Nat.ne_of_lt HWl.out) _) (Nat.ne_of_lt HWl.out) _) (Nat.ne_of_lt HWl.out) _) (Nat.ne_of_lt HWl.out) _) (Nat.ne_of_lt HWl.out) _
        · have hWl := HWl.out
          repeat (first | exact HB2.out | refine Below.drew ?_ | refine Below.setCell ?_ (by simp <;> omega) _)
        · repeat (first | exact HBW2.out | refine Below.drew ?_ | refine Below.setCell ?_ (by simp <;> omega) _)
      case measure => simp [intOf]; omega
    · obtain rfl : k = l.length := by omega
      obtain ⟨⟨fu, em, cr, br, mo⟩, hs⟩ : ∃ s, hsum l l.length = s := ⟨_, rfl⟩
      have HS := Lib.hid hs
      rw [hs] at hK
      have k0 : wr.cell? ⟨W1.heap.size, 0, none⟩ = some (.int .i64 fu) := hK.cell 0
      have k1 : wr.cell? ⟨W1.heap.size, 1, none⟩ = some (.int .i64 em) := hK.cell 1
      have k2 : wr.cell? ⟨W1.heap.size, 2, none⟩ = some (.int .i64 cr) := hK.cell 2
      have k3 : wr.cell? ⟨W1.heap.size, 3, none⟩ = some (.int .i64 br) := hK.cell 3
      have k4 : wr.cell? ⟨W1.heap.size, 4, none⟩ = some (.int .i64 mo) := hK.cell 4
      have d0 : wr.cell? ⟨w.heap.size, 0, none⟩ = some (.int .i64 0) := hZ.cell 0
      have d1 : wr.cell? ⟨w.heap.size, 1, none⟩ = some (.int .i64 0) := hZ.cell 1
      have d2 : wr.cell? ⟨w.heap.size, 2, none⟩ = some (.int .i64 0) := hZ.cell 2
      have d3 : wr.cell? ⟨w.heap.size, 3, none⟩ = some (.int .i64 0) := hZ.cell 3
      have d4 : wr.cell? ⟨w.heap.size, 4, none⟩ = some (.int .i64 0) := hZ.cell 4
      have f0 : wr.frozen? ⟨w.heap.size, 0, none⟩ = false := hZ.frozen 0
      have f1 : wr.frozen? ⟨w.heap.size, 1, none⟩ = false := hZ.frozen 1
      have f2 : wr.frozen? ⟨w.heap.size, 2, none⟩ = false := hZ.frozen 2
      have f3 : wr.frozen? ⟨w.heap.size, 3, none⟩ = false := hZ.frozen 3
      have f4 : wr.frozen? ⟨w.heap.size, 4, none⟩ = false := hZ.frozen 4
      clear hs hK hB hZ hBW
      go_wp2
      refine bodyPost_ret (v := .agg #[.int .i64 fu, .int .i64 em, .int .i64 cr, .int .i64 br, .int .i64 mo]) (by simp [results, Tryd.results16, go_sem, *]) rfl ?_
      refine ⟨by (rw [HS.out]; first | done | rfl), ?_⟩
      repeat (first | exact HB.out | refine Below.drew ?_ | refine Below.setCell ?_ (by simp <;> omega) _)
set_option maxRecDepth 100000 in
set_option maxHeartbeats 4000000 in
theorem implSumOf_any (l : List Hol) (hwf : ∀ x ∈ l, wfH x) (A : Option Addr) (c : Nat) (ad : Nat → Addr) (w : World) (hl : l.length ≤ 1048576) (hr : Rd w w.heap.size hcells A l) (hE : EW 7 w ad) :
    Calls Tryd.prog 7 #[.slice A l.length c] w fun e w' => e = .returned (.tuple #[.agg (hcells (suL l)).toArray, .int .i64 (hoC l)]) ∧ Below w.heap.size w w' := by
  obtain ⟨W1, hW1⟩ : ∃ W, w.alloc (.cells #[.int .i64 0, .int .i64 0, .int .i64 0, .int .i64 0, .int .i64 0] 25) = W := ⟨_, rfl⟩
  have hB1 : Below w.heap.size w W1 := by rw [← hW1]; exact (Below.refl _ _).alloc (Nat.le_refl _) _
  have hZ1 : Blk W1 w.heap.size 25 #[.int .i64 0, .int .i64 0, .int .i64 0, .int .i64 0, .int .i64 0] := by rw [← hW1]; exact Blk.new w _ _
  have HR : Hid (Rd W1 W1.heap.size hcells A l) := hr.keep hB1
  have HE : Hid (EW 7 W1 ad) := hE.below hB1 (Nat.le_refl _)
  have HB1 := Lib.hid hB1
  have HZ1 := Lib.hid hZ1
  clear hr hB1 hZ1 hE
  go_enter Tryd.func7, Tryd.ntmps7
  go_wp2_with fail
  clear hW1
  refine (checkPerH_any l.length c A ad _ hl HE.out).mono ?_
  rintro e w1 ⟨rfl, rfl⟩
  obtain ⟨v0, hv0⟩ : ∃ v, erO ad (chk 5 (paOk l.length)) = v := ⟨_, rfl⟩
  have HV0 := Lib.hid hv0
  have P0 : Hid (isE v0) := by show isE v0; rw [← hv0]; exact erO_isE _ _
  rw [hv0]
  clear hv0
  go_wp2_with fail
  refine (checkHoldings_any l hwf A c ad _ hl HR.out HE.out).mono ?_
  rintro e w2 ⟨rfl, hb⟩
  have HB2 : Hid (Below w.heap.size w w2) := HB1.out.trans (hb.mono HB1.out.size)
  have HBW2 : Hid (Below W1.heap.size W1 w2) := hb
  have HZ2 : Hid (Blk w2 w.heap.size 25 #[.int .i64 0, .int .i64 0, .int .i64 0, .int .i64 0, .int .i64 0]) := Blk.keep HZ1.out hb
  clear hb
  obtain ⟨v1, hv1⟩ : ∃ v, erO ad (chk 0 (l.all hoOk)) = v := ⟨_, rfl⟩
  have HV1 := Lib.hid hv1
  have P1 : Hid (isE v1) := by show isE v1; rw [← hv1]; exact erO_isE _ _
  rw [hv1]
  clear hv1
  go_wp2_with (refine wpList_twoErrs rfl (.tmp 6) (.tmp 8) rfl P0.out P1.out rfl rfl ?_)
  have q0 := new_cell2 w2 v0 v1 37
  rw [← HV0.out, ← HV1.out] at q0 ⊢
  refine (firstErr2_O ad _ _ _ _ _ q0.1 q0.2).mono ?_
  rintro e w9 ⟨rfl, rfl⟩
  rw [HV0.out, HV1.out]
  have L2 : Below w.heap.size w (w2.alloc (.cells #[v0, v1] 37)) := HB2.out.alloc HB2.out.size _
  have L3 : Below W1.heap.size W1 (w2.alloc (.cells #[v0, v1] 37)) := HBW2.out.alloc HBW2.out.size _
  have L4 : Blk (w2.alloc (.cells #[v0, v1] 37)) w.heap.size 25 #[.int .i64 0, .int .i64 0, .int .i64 0, .int .i64 0, .int .i64 0] := Blk.keep HZ2.out ((Below.refl _ _).alloc (Nat.le_refl _) _)
  obtain ⟨w3, hw3⟩ : ∃ w3, w2.alloc (.cells #[v0, v1] 37) = w3 := ⟨_, rfl⟩
  rw [hw3] at L2 L3 L4 ⊢
  have M2 := Lib.hid L2
  have M3 := Lib.hid L3
  have M4 := Lib.hid L4
  rw [show firstO [chk 5 (paOk l.length), chk 0 (l.all hoOk)] = hoF l from rfl]
  clear q0 hw3 L2 L3 L4 HB2 HBW2 HZ2 HV0 HV1 P0 P1
  cases ho : hoF l with
  | some i =>
    have hi : i < 7 := hoF_lt i ho
    have E := Lib.hid (su_bad ho)
    have HIi := Lib.hid hi
    rw [erO_some]
    clear ho hi
    go_wp2_with fail
    refine (codeOf_O (HE.out.below M3.out (Nat.le_refl _)) i HIi.out).mono ?_
    rintro e w4 ⟨rfl, rfl⟩
    obtain ⟨cc, hcc⟩ : ∃ cc, cdN i = cc := ⟨_, rfl⟩
    have HCC := Lib.hid hcc
    rw [hcc]
    clear hcc
    have d0 : w3.cell? ⟨w.heap.size, 0, none⟩ = some (.int .i64 0) := M4.out.cell 0
    have d1 : w3.cell? ⟨w.heap.size, 1, none⟩ = some (.int .i64 0) := M4.out.cell 1
    have d2 : w3.cell? ⟨w.heap.size, 2, none⟩ = some (.int .i64 0) := M4.out.cell 2
    have d3 : w3.cell? ⟨w.heap.size, 3, none⟩ = some (.int .i64 0) := M4.out.cell 3
    have d4 : w3.cell? ⟨w.heap.size, 4, none⟩ = some (.int .i64 0) := M4.out.cell 4
    have f0 : w3.frozen? ⟨w.heap.size, 0, none⟩ = false := M4.out.frozen 0
    have f1 : w3.frozen? ⟨w.heap.size, 1, none⟩ = false := M4.out.frozen 1
    have f2 : w3.frozen? ⟨w.heap.size, 2, none⟩ = false := M4.out.frozen 2
    have f3 : w3.frozen? ⟨w.heap.size, 3, none⟩ = false := M4.out.frozen 3
    have f4 : w3.frozen? ⟨w.heap.size, 4, none⟩ = false := M4.out.frozen 4
    go_wp2
    refine bodyPost_ret (v := .tuple #[.agg #[.int .i64 0, .int .i64 0, .int .i64 0, .int .i64 0, .int .i64 0], .int .i64 cc]) (by simp [results, Tryd.results7, go_sem, *]) rfl ?_
    refine ⟨by (rw [E.out.1, E.out.2, HCC.out]; first | done | rfl), ?_⟩
    repeat (first | exact M2.out | refine Below.drew ?_ | refine Below.setCell ?_ (by simp <;> omega) _)
  | none =>
    obtain ⟨h0, h1⟩ := su_ok ho
    obtain ⟨⟨hn1, hn6⟩, hv⟩ := hoC_ok h0
    have E0 := Lib.hid h0
    have E1 := Lib.hid h1
    have HV := Lib.hid hv
    rw [erO_none]
    clear ho h0 h1 hv
    go_wp2_with fail
    refine (sumOf_any l hn6 HV.out A c _ (HR.out.keep M3.out)).mono ?_
    rintro e w4 ⟨rfl, hb⟩
    have HB4 : Hid (Below w.heap.size w w4) := M2.out.trans (hb.mono M2.out.size)
    have hM4 : Blk w4 w.heap.size 25 #[.int .i64 0, .int .i64 0, .int .i64 0, .int .i64 0, .int .i64 0] := Blk.keep M4.out hb
    have d0 : w4.cell? ⟨w.heap.size, 0, none⟩ = some (.int .i64 0) := hM4.cell 0
    have d1 : w4.cell? ⟨w.heap.size, 1, none⟩ = some (.int .i64 0) := hM4.cell 1
    have d2 : w4.cell? ⟨w.heap.size, 2, none⟩ = some (.int .i64 0) := hM4.cell 2
    have d3 : w4.cell? ⟨w.heap.size, 3, none⟩ = some (.int .i64 0) := hM4.cell 3
    have d4 : w4.cell? ⟨w.heap.size, 4, none⟩ = some (.int .i64 0) := hM4.cell 4
    have f0 : w4.frozen? ⟨w.heap.size, 0, none⟩ = false := hM4.frozen 0
    have f1 : w4.frozen? ⟨w.heap.size, 1, none⟩ = false := hM4.frozen 1
    have f2 : w4.frozen? ⟨w.heap.size, 2, none⟩ = false := hM4.frozen 2
    have f3 : w4.frozen? ⟨w.heap.size, 3, none⟩ = false := hM4.frozen 3
    have f4 : w4.frozen? ⟨w.heap.size, 4, none⟩ = false := hM4.frozen 4
    obtain ⟨⟨fu, em, cr, br, mo⟩, hs⟩ : ∃ s, hsum l l.length = s := ⟨_, rfl⟩
    have HS := Lib.hid hs
    rw [hs]
    rw [show (hcells ⟨fu, em, cr, br, mo⟩).toArray = #[.int .i64 fu, .int .i64 em, .int .i64 cr, .int .i64 br, .int .i64 mo] from rfl]
    clear hs hb hM4
    go_wp2
    refine bodyPost_ret (v := .tuple #[.agg #[.int .i64 fu, .int .i64 em, .int .i64 cr, .int .i64 br, .int .i64 mo], .int .i64 0]) (by simp [results, Tryd.results7, go_sem, *]) rfl ?_
    refine ⟨by (rw [E1.out, HS.out, E0.out]; first | done | rfl), ?_⟩
    repeat (first | exact HB4.out | refine Below.drew ?_ | refine Below.setCell ?_ (by simp <;> omega) _)
end Go.Proofs.YtjgafdfffmfhhaaDoor
