/-
  What an entry changes: the program's negative and changesBy. Condition: valid prices; entries fit their kinds.
-/
import Derived.Test.YtjgafdfffmfhhabDoorLb
import Derived.Test.YtjgafdfffmfhhabDoorOb
namespace Go.Proofs.YtjgafdfffmfhhabDoor
open Go.ChangeShapes Go.WideShapes Go.ChangeAt Go.RowKit Go.Deep

theorem negative_any (a b c d e : Int) (ha : W64' (-a)) (hb : W64' (-b)) (hc : W64' (-c)) (hd : W64' (-d)) (he : W64' (-e)) (w : World) :
    Calls Tryd.prog 55 #[.agg #[.int .i64 a, .int .i64 b, .int .i64 c, .int .i64 d, .int .i64 e]] w fun x w' => x = .returned (.agg #[.int .i64 (-a), .int .i64 (-b), .int .i64 (-c), .int .i64 (-d), .int .i64 (-e)]) ∧ Below w.heap.size w w' := by
  obtain ⟨x0, y0⟩ := ha
  obtain ⟨x1, y1⟩ := hb
  obtain ⟨x2, y2⟩ := hc
  obtain ⟨x3, y3⟩ := hd
  obtain ⟨x4, y4⟩ := he
  go_enter Tryd.func55, Tryd.ntmps55
  go_wp2
  refine bodyPost_ret (v := .agg #[.int .i64 (-a), .int .i64 (-b), .int .i64 (-c), .int .i64 (-d), .int .i64 (-e)]) (by simp [results, Tryd.results55, go_sem]) rfl ⟨rfl, (by repeat (first | exact Below.refl _ _ | refine Below.drew ?_ | refine Below.alloc ?_ (by simp <;> omega) _ | refine Below.setCell ?_ (by simp <;> omega) _))⟩
theorem Tryd.asGG (a b c d e : Int) (w : World) : (Instr.typeAssert (.iface 97 (.agg #[.int .i64 a, .int .i64 b, .int .i64 c, .int .i64 d, .int .i64 e])) 78 97 true).run Tryd.prog w = .ok (.tuple #[.agg #[.int .i64 a, .int .i64 b, .int .i64 c, .int .i64 d, .int .i64 e], .bool true]) w := by kernel_rfl
theorem Tryd.asDG (n : Int) (w : World) : (Instr.typeAssert (.iface 98 (.int .i64 n)) 78 97 true).run Tryd.prog w = .ok (.tuple #[.agg #[.int .i64 0, .int .i64 0, .int .i64 0, .int .i64 0, .int .i64 0], .bool false]) w := by kernel_rfl
theorem Tryd.asDD (n : Int) (w : World) : (Instr.typeAssert (.iface 98 (.int .i64 n)) 78 98 true).run Tryd.prog w = .ok (.tuple #[.int .i64 n, .bool true]) w := by kernel_rfl
theorem Tryd.asBG (n : Int) (w : World) : (Instr.typeAssert (.iface 99 (.int .i64 n)) 78 97 true).run Tryd.prog w = .ok (.tuple #[.agg #[.int .i64 0, .int .i64 0, .int .i64 0, .int .i64 0, .int .i64 0], .bool false]) w := by kernel_rfl
theorem Tryd.asBD (n : Int) (w : World) : (Instr.typeAssert (.iface 99 (.int .i64 n)) 78 98 true).run Tryd.prog w = .ok (.tuple #[.int .i64 0, .bool false]) w := by kernel_rfl
theorem Tryd.asBB (n : Int) (w : World) : (Instr.typeAssert (.iface 99 (.int .i64 n)) 78 99 true).run Tryd.prog w = .ok (.tuple #[.int .i64 n, .bool true]) w := by kernel_rfl
theorem blk_drew {w : World} {b : Nat} {t : TypeId} {c : Array Value} (h : Blk w b t c) : Blk w.drew b t c := h
theorem gds_zero (x : Ent) : (gds x).br = 0 ∧ (gds x).mo = 0 := by
  unfold gds hzero
  split
  · exact ⟨rfl, rfl⟩
  split
  · exact ⟨rfl, rfl⟩
  split <;> exact ⟨rfl, rfl⟩
theorem gds_in {x : Ent} (h : wfE x) : (0 ≤ (gds x).fu ∧ (gds x).fu ≤ 32767) ∧ (0 ≤ (gds x).em ∧ (gds x).em ≤ 32767) ∧ (0 ≤ (gds x).cr ∧ (gds x).cr ≤ 32767) := by
  have := nmE_in h
  unfold gds hzero
  split
  · simp only; omega
  split
  · simp only; omega
  split <;> (simp only; omega)
set_option maxRecDepth 100000 in
set_option maxHeartbeats 8000000 in
theorem changesBy_any (p : Pri) (hp : wfP p) (hv : prOk p = true) (x : Ent) (hx : wfE x) (w : World) :
    Calls Tryd.prog 40 #[.agg (pcells p).toArray, hapV x] w fun e w' => e = .returned (.tuple #[.agg (hcells (chF p x)).toArray, .agg (hcells (chT p x)).toArray]) ∧ Below w.heap.size w w' := by
  have hg := gds_in hx
  have hz := gds_zero x
  have hn := nmE_in hx
  have HWays := hap_ways x
  have HF : Hid (chF p x = if x.wh = 3 then ⟨-nmE x, nmE x, 0, 0, 0⟩ else if x.wh = 4 then ⟨-nmE x, 0, 0, nmE x, 0⟩ else ⟨-(gds x).fu, -(gds x).em, -(gds x).cr, 0, dep p (gds x)⟩) := by show _ = _; rfl
  have HT : Hid (chT p x = if x.wh = 3 then hzero else if x.wh = 4 then hzero else ⟨(gds x).fu, (gds x).em, (gds x).cr, 0, -dep p (gds x)⟩) := by show _ = _; rfl
  obtain ⟨F, hF⟩ : ∃ F, chF p x = F := ⟨_, rfl⟩
  obtain ⟨T, hT⟩ : ∃ T, chT p x = T := ⟨_, rfl⟩
  rw [hF] at HF ⊢
  rw [hT] at HT ⊢
  obtain ⟨v, hvv⟩ : ∃ v, hapV x = v := ⟨_, rfl⟩
  rw [hvv] at HWays ⊢
  obtain ⟨G, hG⟩ : ∃ G, gds x = G := ⟨_, rfl⟩
  rw [hG] at HWays HF HT hg hz
  obtain ⟨n, hnn⟩ : ∃ n, nmE x = n := ⟨_, rfl⟩
  rw [hnn] at HWays HF hn
  obtain ⟨g0, g1, g2, g3, g4⟩ := G
  obtain ⟨hg0, hg1, hg2⟩ := hg
  obtain ⟨hz3, hz4⟩ := hz
  simp only at hg0 hg1 hg2 hz3 hz4 HWays HF HT
  obtain ⟨W1, hW1⟩ : ∃ W, w.alloc (.cells (pcells p).toArray 29) = W := ⟨_, rfl⟩
  obtain ⟨W2, hW2⟩ : ∃ W, W1.alloc (.cells #[.int .i64 0, .int .i64 0, .int .i64 0, .int .i64 0, .int .i64 0] 31) = W := ⟨_, rfl⟩
  obtain ⟨W3, hW3⟩ : ∃ W, W2.alloc (.cells #[.int .i64 0, .int .i64 0, .int .i64 0, .int .i64 0, .int .i64 0] 31) = W := ⟨_, rfl⟩
  have hb1 : Below w.heap.size w W1 := by rw [← hW1]; exact (Below.refl _ _).alloc (Nat.le_refl _) _
  have hb12 : Below W1.heap.size W1 W2 := by rw [← hW2]; exact (Below.refl _ _).alloc (Nat.le_refl _) _
  have hb23 : Below W2.heap.size W2 W3 := by rw [← hW3]; exact (Below.refl _ _).alloc (Nat.le_refl _) _
  have hk1 : Blk W1 w.heap.size 29 (pcells p).toArray := by rw [← hW1]; exact Blk.new w _ _
  have hf2 : Blk W2 W1.heap.size 31 #[.int .i64 0, .int .i64 0, .int .i64 0, .int .i64 0, .int .i64 0] := by rw [← hW2]; exact Blk.new W1 _ _
  have HK3 : Hid (Blk W3 w.heap.size 29 (pcells p).toArray) := Blk.keep (Blk.keep hk1 hb12) hb23
  have HF3 : Hid (Blk W3 W1.heap.size 31 #[.int .i64 0, .int .i64 0, .int .i64 0, .int .i64 0, .int .i64 0]) := Blk.keep hf2 hb23
  have HT3 : Hid (Blk W3 W2.heap.size 31 #[.int .i64 0, .int .i64 0, .int .i64 0, .int .i64 0, .int .i64 0]) := by show Blk _ _ _ _; rw [← hW3]; exact Blk.new W2 _ _
  have HB3 : Hid (Below w.heap.size w W3) := (hb1.trans (hb12.mono hb1.size)).trans (hb23.mono (Nat.le_trans hb1.size hb12.size))
  have hl1 : w.heap.size < W1.heap.size := hk1.lt
  have hl2 : W1.heap.size < W2.heap.size := hf2.lt
  have n1 : w.heap.size ≠ W1.heap.size := by omega
  have n2 : w.heap.size ≠ W2.heap.size := by omega
  have n3 : W1.heap.size ≠ W2.heap.size := by omega
  have HLs : Hid (w.heap.size < W1.heap.size ∧ W1.heap.size < W2.heap.size) := ⟨hl1, hl2⟩
  have HPV := Lib.hid hv
  clear hb1 hb12 hb23 hk1 hf2 hF hT hvv hG hnn hv hl1 hl2 n1 n2 n3
  rcases HWays with ⟨rfl, h3, h4⟩ | ⟨rfl, h3⟩ | ⟨rfl, h4⟩
  · obtain ⟨s, q, t, D, -, -, -, -, -, -, -, -, hD0, hdep⟩ := dep_facts HPV.out (fu := g0) (em := g1) (cr := g2) ⟨hg0.1, by omega⟩ ⟨hg1.1, by omega⟩ ⟨hg2.1, by omega⟩
    have hdepE : dep p ⟨g0, g1, g2, g3, g4⟩ = D := hdep g3 g4
    have EF : Hid ((hcells F).toArray = #[.int .i64 (-g0), .int .i64 (-g1), .int .i64 (-g2), .int .i64 (-g3), .int .i64 D]) := by show _ = _; rw [HF.out, if_neg h3, if_neg h4, hdepE, hz3]; rfl
    have ET : Hid ((hcells T).toArray = #[.int .i64 g0, .int .i64 g1, .int .i64 g2, .int .i64 g3, .int .i64 (-D)]) := by show _ = _; rw [HT.out, if_neg h3, if_neg h4, hdepE, hz3]; rfl
    have HDq : Hid (∀ z, Calls Tryd.prog 33 #[.agg (pcells p).toArray, .agg #[.int .i64 g0, .int .i64 g1, .int .i64 g2, .int .i64 g3, .int .i64 g4]] z fun e w' => e = .returned (.int .i64 D) ∧ Below z.heap.size z w') := fun z => by
      have := depositOf_any p HPV.out ⟨g0, g1, g2, g3, g4⟩ ⟨hg0.1, by simp only; omega⟩ ⟨hg1.1, by simp only; omega⟩ ⟨hg2.1, by simp only; omega⟩ z
      rw [hdepE] at this
      exact this
    have HN1 : Hid (∀ z, Calls Tryd.prog 55 #[.agg #[.int .i64 g0, .int .i64 g1, .int .i64 g2, .int .i64 g3, .int .i64 g4]] z fun e w' => e = .returned (.agg #[.int .i64 (-g0), .int .i64 (-g1), .int .i64 (-g2), .int .i64 (-g3), .int .i64 (-g4)]) ∧ Below z.heap.size z w') := fun z => negative_any g0 g1 g2 g3 g4 (w64' ⟨by omega, by omega⟩) (w64' ⟨by omega, by omega⟩) (w64' ⟨by omega, by omega⟩) (w64' ⟨by omega, by omega⟩) (w64' ⟨by omega, by omega⟩) z
    have HN2 : Hid (∀ z, Calls Tryd.prog 55 #[.agg #[.int .i64 (-g0), .int .i64 (-g1), .int .i64 (-g2), .int .i64 (-g3), .int .i64 D]] z fun e w' => e = .returned (.agg #[.int .i64 g0, .int .i64 g1, .int .i64 g2, .int .i64 g3, .int .i64 (-D)]) ∧ Below z.heap.size z w') := fun z => by
      have := negative_any (-g0) (-g1) (-g2) (-g3) D (w64' ⟨by omega, by omega⟩) (w64' ⟨by omega, by omega⟩) (w64' ⟨by omega, by omega⟩) (w64' ⟨by omega, by omega⟩) (w64' ⟨by omega, by omega⟩) z
      simpa only [Int.neg_neg] using this
    have m1 := Tryd.methGoing g0 g1 g2 g3 g4
    clear hdep hdepE hD0 h3 h4 hz3 hz4 hg0 hg1 hg2 HF HT hn hp hx
    go_enter Tryd.func40, Tryd.ntmps40
    go_wp2_with fail
    clear hW1 hW2 hW3
    refine (takenG_any g0 g1 g2 g3 g4 _).mono ?_
    rintro e w4 ⟨rfl, hb⟩
    have HK4 : Hid (Blk w4 w.heap.size 29 (pcells p).toArray) := Blk.keep HK3.out hb
    have HF4 : Hid (Blk w4 W1.heap.size 31 #[.int .i64 0, .int .i64 0, .int .i64 0, .int .i64 0, .int .i64 0]) := Blk.keep HF3.out hb
    have HT4 : Hid (Blk w4 W2.heap.size 31 #[.int .i64 0, .int .i64 0, .int .i64 0, .int .i64 0, .int .i64 0]) := Blk.keep HT3.out hb
    have HB4 : Hid (Below w.heap.size w w4) := HB3.out.trans (hb.mono HB3.out.size)
    clear hb m1 HK3 HF3 HT3 HB3
    go_wp2_with fail
    refine (HN1.out _).mono ?_
    rintro e w5 ⟨rfl, hb⟩
    have HK5 : Hid (Blk w5 w.heap.size 29 (pcells p).toArray) := Blk.keep HK4.out hb
    have HF5 : Hid (Blk w5 W1.heap.size 31 #[.int .i64 0, .int .i64 0, .int .i64 0, .int .i64 0, .int .i64 0]) := Blk.keep HF4.out hb
    have HT5 : Hid (Blk w5 W2.heap.size 31 #[.int .i64 0, .int .i64 0, .int .i64 0, .int .i64 0, .int .i64 0]) := Blk.keep HT4.out hb
    have HB5 : Hid (Below w.heap.size w w5) := HB4.out.trans (hb.mono HB4.out.size)
    clear hb HN1 HK4 HF4 HT4 HB4
    have d0 : w5.cell? ⟨W1.heap.size, 0, none⟩ = some (.int .i64 0) := HF5.out.cell 0
    have d1 : w5.cell? ⟨W1.heap.size, 1, none⟩ = some (.int .i64 0) := HF5.out.cell 1
    have d2 : w5.cell? ⟨W1.heap.size, 2, none⟩ = some (.int .i64 0) := HF5.out.cell 2
    have d3 : w5.cell? ⟨W1.heap.size, 3, none⟩ = some (.int .i64 0) := HF5.out.cell 3
    have d4 : w5.cell? ⟨W1.heap.size, 4, none⟩ = some (.int .i64 0) := HF5.out.cell 4
    have f0 : w5.frozen? ⟨W1.heap.size, 0, none⟩ = false := HF5.out.frozen 0
    have f1 : w5.frozen? ⟨W1.heap.size, 1, none⟩ = false := HF5.out.frozen 1
    have f2 : w5.frozen? ⟨W1.heap.size, 2, none⟩ = false := HF5.out.frozen 2
    have f3 : w5.frozen? ⟨W1.heap.size, 3, none⟩ = false := HF5.out.frozen 3
    have f4 : w5.frozen? ⟨W1.heap.size, 4, none⟩ = false := HF5.out.frozen 4
    have a1 := Tryd.asGG g0 g1 g2 g3 g4
    obtain ⟨X, hX⟩ : ∃ X, (((((w5.setCell ⟨W1.heap.size, 0, none⟩ (.int .i64 (-g0))).setCell ⟨W1.heap.size, 1, none⟩ (.int .i64 (-g1))).setCell ⟨W1.heap.size, 2, none⟩ (.int .i64 (-g2))).setCell ⟨W1.heap.size, 3, none⟩ (.int .i64 (-g3))).setCell ⟨W1.heap.size, 4, none⟩ (.int .i64 (-g4))) = X := ⟨_, rfl⟩
    have hbA : Below X.heap.size X (X.alloc (.cells #[.int .i64 g0, .int .i64 g1, .int .i64 g2, .int .i64 g3, .int .i64 g4] 97)) := (Below.refl _ _).alloc (Nat.le_refl _) _
    have HF6 : Hid (Blk (X.alloc (.cells #[.int .i64 g0, .int .i64 g1, .int .i64 g2, .int .i64 g3, .int .i64 g4] 97)) W1.heap.size 31 #[.int .i64 (-g0), .int .i64 (-g1), .int .i64 (-g2), .int .i64 (-g3), .int .i64 (-g4)]) := by show Blk _ _ _ _; refine Blk.keep ?_ hbA; rw [← hX]; exact (((((HF5.out.set_ 0 _).set_ 1 _).set_ 2 _).set_ 3 _).set_ 4 _)
    have HK6 : Hid (Blk (X.alloc (.cells #[.int .i64 g0, .int .i64 g1, .int .i64 g2, .int .i64 g3, .int .i64 g4] 97)) w.heap.size 29 (pcells p).toArray) := by show Blk _ _ _ _; refine Blk.keep ?_ hbA; rw [← hX]; exact (Blk.far (p := ⟨W1.heap.size, 4, none⟩) (Blk.far (p := ⟨W1.heap.size, 3, none⟩) (Blk.far (p := ⟨W1.heap.size, 2, none⟩) (Blk.far (p := ⟨W1.heap.size, 1, none⟩) (Blk.far (p := ⟨W1.heap.size, 0, none⟩) HK5.out (by have hls := HLs.out; (try dsimp only); omega) _) (by have hls := HLs.out; (try dsimp only); omega) _) (by have hls := HLs.out; (try dsimp only); omega) _) (by have hls := HLs.out; (try dsimp only); omega) _) (by have hls := HLs.out; (try dsimp only); omega) _)
    have HT6 : Hid (Blk (X.alloc (.cells #[.int .i64 g0, .int .i64 g1, .int .i64 g2, .int .i64 g3, .int .i64 g4] 97)) W2.heap.size 31 #[.int .i64 0, .int .i64 0, .int .i64 0, .int .i64 0, .int .i64 0]) := by show Blk _ _ _ _; refine Blk.keep ?_ hbA; rw [← hX]; exact (Blk.far (p := ⟨W1.heap.size, 4, none⟩) (Blk.far (p := ⟨W1.heap.size, 3, none⟩) (Blk.far (p := ⟨W1.heap.size, 2, none⟩) (Blk.far (p := ⟨W1.heap.size, 1, none⟩) (Blk.far (p := ⟨W1.heap.size, 0, none⟩) HT5.out (by have hls := HLs.out; (try dsimp only); omega) _) (by have hls := HLs.out; (try dsimp only); omega) _) (by have hls := HLs.out; (try dsimp only); omega) _) (by have hls := HLs.out; (try dsimp only); omega) _) (by have hls := HLs.out; (try dsimp only); omega) _)
    have HB6 : Hid (Below w.heap.size w (X.alloc (.cells #[.int .i64 g0, .int .i64 g1, .int .i64 g2, .int .i64 g3, .int .i64 g4] 97))) := by
      show Below _ _ _
      have hx : Below w.heap.size w X := by rw [← hX]; exact (((((HB5.out.setCell (p := ⟨W1.heap.size, 0, none⟩) (by have hls := HLs.out; (try dsimp only); omega) _).setCell (p := ⟨W1.heap.size, 1, none⟩) (by have hls := HLs.out; (try dsimp only); omega) _).setCell (p := ⟨W1.heap.size, 2, none⟩) (by have hls := HLs.out; (try dsimp only); omega) _).setCell (p := ⟨W1.heap.size, 3, none⟩) (by have hls := HLs.out; (try dsimp only); omega) _).setCell (p := ⟨W1.heap.size, 4, none⟩) (by have hls := HLs.out; (try dsimp only); omega) _)
      exact hx.trans (hbA.mono hx.size)
    clear hbA
    go_wp2_with (refine wpList_load_row rfl 29 (.tmp 2) rfl w.heap.size rfl 29 _ (0, 0) _ HK6.out Tryd.underlying29 rfl Tryd.sizePI ?_)
    clear hX a1 d0 d1 d2 d3 d4 f0 f1 f2 f3 f4
    refine (HDq.out _).mono ?_
    rintro e w7 ⟨rfl, hb⟩
    have HK7 : Hid (Blk w7 w.heap.size 29 (pcells p).toArray) := Blk.keep HK6.out hb
    have HF7 : Hid (Blk w7 W1.heap.size 31 #[.int .i64 (-g0), .int .i64 (-g1), .int .i64 (-g2), .int .i64 (-g3), .int .i64 (-g4)]) := Blk.keep HF6.out hb
    have HT7 : Hid (Blk w7 W2.heap.size 31 #[.int .i64 0, .int .i64 0, .int .i64 0, .int .i64 0, .int .i64 0]) := Blk.keep HT6.out hb
    have HB7 : Hid (Below w.heap.size w w7) := HB6.out.trans (hb.mono HB6.out.size)
    clear hb HDq HK6 HF6 HT6 HB6
    have d0 : w7.cell? ⟨W1.heap.size, 0, none⟩ = some (.int .i64 (-g0)) := HF7.out.cell 0
    have d1 : w7.cell? ⟨W1.heap.size, 1, none⟩ = some (.int .i64 (-g1)) := HF7.out.cell 1
    have d2 : w7.cell? ⟨W1.heap.size, 2, none⟩ = some (.int .i64 (-g2)) := HF7.out.cell 2
    have d3 : w7.cell? ⟨W1.heap.size, 3, none⟩ = some (.int .i64 (-g3)) := HF7.out.cell 3
    have d4 : w7.cell? ⟨W1.heap.size, 4, none⟩ = some (.int .i64 (-g4)) := HF7.out.cell 4
    have f0 : w7.frozen? ⟨W1.heap.size, 0, none⟩ = false := HF7.out.frozen 0
    have f1 : w7.frozen? ⟨W1.heap.size, 1, none⟩ = false := HF7.out.frozen 1
    have f2 : w7.frozen? ⟨W1.heap.size, 2, none⟩ = false := HF7.out.frozen 2
    have f3 : w7.frozen? ⟨W1.heap.size, 3, none⟩ = false := HF7.out.frozen 3
    have f4 : w7.frozen? ⟨W1.heap.size, 4, none⟩ = false := HF7.out.frozen 4
    go_wp2_with fail
    refine (HN2.out _).mono ?_
    rintro e w8 ⟨rfl, hb⟩
    have HF7' := HF7.out.set_ 4 (.int .i64 D)
    have HT7' := Blk.far (p := ⟨W1.heap.size, 4, none⟩) HT7.out (by have hls := HLs.out; (try dsimp only); omega) (.int .i64 D)
    have HB7' : Below w.heap.size w (w7.setCell ⟨W1.heap.size, 4, none⟩ (.int .i64 D)) := (HB7.out.setCell (p := ⟨W1.heap.size, 4, none⟩) (by have hls := HLs.out; (try dsimp only); omega) _)
    have HF8 : Hid (Blk w8 W1.heap.size 31 #[.int .i64 (-g0), .int .i64 (-g1), .int .i64 (-g2), .int .i64 (-g3), .int .i64 D]) := Blk.keep HF7' hb
    have HT8 : Hid (Blk w8 W2.heap.size 31 #[.int .i64 0, .int .i64 0, .int .i64 0, .int .i64 0, .int .i64 0]) := Blk.keep HT7' hb
    have HB8 : Hid (Below w.heap.size w w8) := HB7'.trans (hb.mono HB7'.size)
    clear hb HN2 HF7' HT7' HB7' d0 d1 d2 d3 d4 f0 f1 f2 f3 f4 HK7 HF7 HT7 HB7
    have d0 : w8.cell? ⟨W1.heap.size, 0, none⟩ = some (.int .i64 (-g0)) := HF8.out.cell 0
    have d1 : w8.cell? ⟨W1.heap.size, 1, none⟩ = some (.int .i64 (-g1)) := HF8.out.cell 1
    have d2 : w8.cell? ⟨W1.heap.size, 2, none⟩ = some (.int .i64 (-g2)) := HF8.out.cell 2
    have d3 : w8.cell? ⟨W1.heap.size, 3, none⟩ = some (.int .i64 (-g3)) := HF8.out.cell 3
    have d4 : w8.cell? ⟨W1.heap.size, 4, none⟩ = some (.int .i64 D) := HF8.out.cell 4
    have f0 : w8.frozen? ⟨W1.heap.size, 0, none⟩ = false := HF8.out.frozen 0
    have f1 : w8.frozen? ⟨W1.heap.size, 1, none⟩ = false := HF8.out.frozen 1
    have f2 : w8.frozen? ⟨W1.heap.size, 2, none⟩ = false := HF8.out.frozen 2
    have f3 : w8.frozen? ⟨W1.heap.size, 3, none⟩ = false := HF8.out.frozen 3
    have f4 : w8.frozen? ⟨W1.heap.size, 4, none⟩ = false := HF8.out.frozen 4
    have k0 : w8.cell? ⟨W2.heap.size, 0, none⟩ = some (.int .i64 0) := HT8.out.cell 0
    have k1 : w8.cell? ⟨W2.heap.size, 1, none⟩ = some (.int .i64 0) := HT8.out.cell 1
    have k2 : w8.cell? ⟨W2.heap.size, 2, none⟩ = some (.int .i64 0) := HT8.out.cell 2
    have k3 : w8.cell? ⟨W2.heap.size, 3, none⟩ = some (.int .i64 0) := HT8.out.cell 3
    have k4 : w8.cell? ⟨W2.heap.size, 4, none⟩ = some (.int .i64 0) := HT8.out.cell 4
    have fr0 : w8.frozen? ⟨W2.heap.size, 0, none⟩ = false := HT8.out.frozen 0
    have fr1 : w8.frozen? ⟨W2.heap.size, 1, none⟩ = false := HT8.out.frozen 1
    have fr2 : w8.frozen? ⟨W2.heap.size, 2, none⟩ = false := HT8.out.frozen 2
    have fr3 : w8.frozen? ⟨W2.heap.size, 3, none⟩ = false := HT8.out.frozen 3
    have fr4 : w8.frozen? ⟨W2.heap.size, 4, none⟩ = false := HT8.out.frozen 4
    have ne1 : W1.heap.size ≠ W2.heap.size := (by have hls := HLs.out; (try dsimp only); omega)
    have ne2 : W2.heap.size ≠ W1.heap.size := (by have hls := HLs.out; (try dsimp only); omega)
    go_wp2_with fail
    go_region
    go_wp2
    obtain ⟨Y0, hY0⟩ : ∃ Y, (((((w8.setCell ⟨W2.heap.size, 0, none⟩ (.int .i64 g0)).setCell ⟨W2.heap.size, 1, none⟩ (.int .i64 g1)).setCell ⟨W2.heap.size, 2, none⟩ (.int .i64 g2)).setCell ⟨W2.heap.size, 3, none⟩ (.int .i64 g3)).setCell ⟨W2.heap.size, 4, none⟩ (.int .i64 (-D))) = Y := ⟨_, rfl⟩
    rw [hY0]
    have HFY0 : Hid (Blk Y0 W1.heap.size 31 #[.int .i64 (-g0), .int .i64 (-g1), .int .i64 (-g2), .int .i64 (-g3), .int .i64 D]) := by show Blk _ _ _ _; rw [← hY0]; exact (Blk.far (p := ⟨W2.heap.size, 4, none⟩) (Blk.far (p := ⟨W2.heap.size, 3, none⟩) (Blk.far (p := ⟨W2.heap.size, 2, none⟩) (Blk.far (p := ⟨W2.heap.size, 1, none⟩) (Blk.far (p := ⟨W2.heap.size, 0, none⟩) HF8.out (by have hls := HLs.out; (try dsimp only); omega) _) (by have hls := HLs.out; (try dsimp only); omega) _) (by have hls := HLs.out; (try dsimp only); omega) _) (by have hls := HLs.out; (try dsimp only); omega) _) (by have hls := HLs.out; (try dsimp only); omega) _)
    have HTY0 : Hid (Blk Y0 W2.heap.size 31 #[.int .i64 g0, .int .i64 g1, .int .i64 g2, .int .i64 g3, .int .i64 (-D)]) := by show Blk _ _ _ _; rw [← hY0]; exact (((((HT8.out.set_ 0 _).set_ 1 _).set_ 2 _).set_ 3 _).set_ 4 _)
    have HBY0 : Hid (Below w.heap.size w Y0) := by show Below _ _ _; rw [← hY0]; exact (((((HB8.out.setCell (p := ⟨W2.heap.size, 0, none⟩) (by have hls := HLs.out; (try dsimp only); omega) _).setCell (p := ⟨W2.heap.size, 1, none⟩) (by have hls := HLs.out; (try dsimp only); omega) _).setCell (p := ⟨W2.heap.size, 2, none⟩) (by have hls := HLs.out; (try dsimp only); omega) _).setCell (p := ⟨W2.heap.size, 3, none⟩) (by have hls := HLs.out; (try dsimp only); omega) _).setCell (p := ⟨W2.heap.size, 4, none⟩) (by have hls := HLs.out; (try dsimp only); omega) _)
    clear hY0
    obtain ⟨Y1, hY1⟩ : ∃ Y, (((((Y0.setCell ⟨W1.heap.size, 0, none⟩ (.int .i64 (-g0))).setCell ⟨W1.heap.size, 1, none⟩ (.int .i64 (-g1))).setCell ⟨W1.heap.size, 2, none⟩ (.int .i64 (-g2))).setCell ⟨W1.heap.size, 3, none⟩ (.int .i64 (-g3))).setCell ⟨W1.heap.size, 4, none⟩ (.int .i64 D)) = Y := ⟨_, rfl⟩
    rw [hY1]
    have HFY1 : Hid (Blk Y1 W1.heap.size 31 #[.int .i64 (-g0), .int .i64 (-g1), .int .i64 (-g2), .int .i64 (-g3), .int .i64 D]) := by show Blk _ _ _ _; rw [← hY1]; exact (((((HFY0.out.set_ 0 _).set_ 1 _).set_ 2 _).set_ 3 _).set_ 4 _)
    have HTY1 : Hid (Blk Y1 W2.heap.size 31 #[.int .i64 g0, .int .i64 g1, .int .i64 g2, .int .i64 g3, .int .i64 (-D)]) := by show Blk _ _ _ _; rw [← hY1]; exact (Blk.far (p := ⟨W1.heap.size, 4, none⟩) (Blk.far (p := ⟨W1.heap.size, 3, none⟩) (Blk.far (p := ⟨W1.heap.size, 2, none⟩) (Blk.far (p := ⟨W1.heap.size, 1, none⟩) (Blk.far (p := ⟨W1.heap.size, 0, none⟩) HTY0.out (by have hls := HLs.out; (try dsimp only); omega) _) (by have hls := HLs.out; (try dsimp only); omega) _) (by have hls := HLs.out; (try dsimp only); omega) _) (by have hls := HLs.out; (try dsimp only); omega) _) (by have hls := HLs.out; (try dsimp only); omega) _)
    have HBY1 : Hid (Below w.heap.size w Y1) := by show Below _ _ _; rw [← hY1]; exact (((((HBY0.out.setCell (p := ⟨W1.heap.size, 0, none⟩) (by have hls := HLs.out; (try dsimp only); omega) _).setCell (p := ⟨W1.heap.size, 1, none⟩) (by have hls := HLs.out; (try dsimp only); omega) _).setCell (p := ⟨W1.heap.size, 2, none⟩) (by have hls := HLs.out; (try dsimp only); omega) _).setCell (p := ⟨W1.heap.size, 3, none⟩) (by have hls := HLs.out; (try dsimp only); omega) _).setCell (p := ⟨W1.heap.size, 4, none⟩) (by have hls := HLs.out; (try dsimp only); omega) _)
    clear hY1
    obtain ⟨Y2, hY2⟩ : ∃ Y, (((((Y1.setCell ⟨W2.heap.size, 0, none⟩ (.int .i64 g0)).setCell ⟨W2.heap.size, 1, none⟩ (.int .i64 g1)).setCell ⟨W2.heap.size, 2, none⟩ (.int .i64 g2)).setCell ⟨W2.heap.size, 3, none⟩ (.int .i64 g3)).setCell ⟨W2.heap.size, 4, none⟩ (.int .i64 (-D))).drew = Y := ⟨_, rfl⟩
    rw [hY2]
    have HFY2 : Hid (Blk Y2 W1.heap.size 31 #[.int .i64 (-g0), .int .i64 (-g1), .int .i64 (-g2), .int .i64 (-g3), .int .i64 D]) := by show Blk _ _ _ _; rw [← hY2]; exact blk_drew ((Blk.far (p := ⟨W2.heap.size, 4, none⟩) (Blk.far (p := ⟨W2.heap.size, 3, none⟩) (Blk.far (p := ⟨W2.heap.size, 2, none⟩) (Blk.far (p := ⟨W2.heap.size, 1, none⟩) (Blk.far (p := ⟨W2.heap.size, 0, none⟩) HFY1.out (by have hls := HLs.out; (try dsimp only); omega) _) (by have hls := HLs.out; (try dsimp only); omega) _) (by have hls := HLs.out; (try dsimp only); omega) _) (by have hls := HLs.out; (try dsimp only); omega) _) (by have hls := HLs.out; (try dsimp only); omega) _))
    have HTY2 : Hid (Blk Y2 W2.heap.size 31 #[.int .i64 g0, .int .i64 g1, .int .i64 g2, .int .i64 g3, .int .i64 (-D)]) := by show Blk _ _ _ _; rw [← hY2]; exact blk_drew ((((((HTY1.out.set_ 0 _).set_ 1 _).set_ 2 _).set_ 3 _).set_ 4 _))
    have HBY2 : Hid (Below w.heap.size w Y2) := by show Below _ _ _; rw [← hY2]; exact (((((HBY1.out.setCell (p := ⟨W2.heap.size, 0, none⟩) (by have hls := HLs.out; (try dsimp only); omega) _).setCell (p := ⟨W2.heap.size, 1, none⟩) (by have hls := HLs.out; (try dsimp only); omega) _).setCell (p := ⟨W2.heap.size, 2, none⟩) (by have hls := HLs.out; (try dsimp only); omega) _).setCell (p := ⟨W2.heap.size, 3, none⟩) (by have hls := HLs.out; (try dsimp only); omega) _).setCell (p := ⟨W2.heap.size, 4, none⟩) (by have hls := HLs.out; (try dsimp only); omega) _).drew
    clear hY2
    clear d0 d1 d2 d3 d4 f0 f1 f2 f3 f4 k0 k1 k2 k3 k4 fr0 fr1 fr2 fr3 fr4 ne1 ne2
    have d0 : Y2.cell? ⟨W1.heap.size, 0, none⟩ = some (.int .i64 (-g0)) := HFY2.out.cell 0
    have d1 : Y2.cell? ⟨W1.heap.size, 1, none⟩ = some (.int .i64 (-g1)) := HFY2.out.cell 1
    have d2 : Y2.cell? ⟨W1.heap.size, 2, none⟩ = some (.int .i64 (-g2)) := HFY2.out.cell 2
    have d3 : Y2.cell? ⟨W1.heap.size, 3, none⟩ = some (.int .i64 (-g3)) := HFY2.out.cell 3
    have d4 : Y2.cell? ⟨W1.heap.size, 4, none⟩ = some (.int .i64 D) := HFY2.out.cell 4
    have k0 : Y2.cell? ⟨W2.heap.size, 0, none⟩ = some (.int .i64 g0) := HTY2.out.cell 0
    have k1 : Y2.cell? ⟨W2.heap.size, 1, none⟩ = some (.int .i64 g1) := HTY2.out.cell 1
    have k2 : Y2.cell? ⟨W2.heap.size, 2, none⟩ = some (.int .i64 g2) := HTY2.out.cell 2
    have k3 : Y2.cell? ⟨W2.heap.size, 3, none⟩ = some (.int .i64 g3) := HTY2.out.cell 3
    have k4 : Y2.cell? ⟨W2.heap.size, 4, none⟩ = some (.int .i64 (-D)) := HTY2.out.cell 4
    refine bodyPost_ret (v := .tuple #[.agg #[.int .i64 (-g0), .int .i64 (-g1), .int .i64 (-g2), .int .i64 (-g3), .int .i64 D], .agg #[.int .i64 g0, .int .i64 g1, .int .i64 g2, .int .i64 g3, .int .i64 (-D)]]) (by simp [results, Tryd.results40, go_sem, d0, d1, d2, d3, d4, k0, k1, k2, k3, k4]) rfl ?_
    exact ⟨by (rw [EF.out, ET.out]; first | done | rfl), HBY2.out⟩
  · have EF : Hid ((hcells F).toArray = #[.int .i64 (-n), .int .i64 n, .int .i64 0, .int .i64 0, .int .i64 0]) := by show _ = _; rw [HF.out]; rw [if_pos h3]; rfl
    have ET : Hid ((hcells T).toArray = #[.int .i64 0, .int .i64 0, .int .i64 0, .int .i64 0, .int .i64 0]) := by show _ = _; rw [HT.out]; rw [if_pos h3]; rfl
    have HN1 : Hid (∀ z, Calls Tryd.prog 55 #[.agg #[.int .i64 n, .int .i64 0, .int .i64 0, .int .i64 0, .int .i64 0]] z fun e w' => e = .returned (.agg #[.int .i64 (-n), .int .i64 0, .int .i64 0, .int .i64 0, .int .i64 0]) ∧ Below z.heap.size z w') := fun z => by
      have := negative_any n 0 0 0 0 (w64' ⟨by omega, by omega⟩) (w64' ⟨by omega, by omega⟩) (w64' ⟨by omega, by omega⟩) (w64' ⟨by omega, by omega⟩) (w64' ⟨by omega, by omega⟩) z
      simpa only [Int.neg_zero] using this
    have m1 := Tryd.methDrinking n
    clear hz3 hz4 hg0 hg1 hg2 HF HT hn hp hx
    go_enter Tryd.func40, Tryd.ntmps40
    go_wp2_with fail
    clear hW1 hW2 hW3
    refine (takenD_any n _).mono ?_
    rintro e w4 ⟨rfl, hb⟩
    have HK4 : Hid (Blk w4 w.heap.size 29 (pcells p).toArray) := Blk.keep HK3.out hb
    have HF4 : Hid (Blk w4 W1.heap.size 31 #[.int .i64 0, .int .i64 0, .int .i64 0, .int .i64 0, .int .i64 0]) := Blk.keep HF3.out hb
    have HT4 : Hid (Blk w4 W2.heap.size 31 #[.int .i64 0, .int .i64 0, .int .i64 0, .int .i64 0, .int .i64 0]) := Blk.keep HT3.out hb
    have HB4 : Hid (Below w.heap.size w w4) := HB3.out.trans (hb.mono HB3.out.size)
    clear hb m1 HK3 HF3 HT3 HB3
    go_wp2_with fail
    refine (HN1.out _).mono ?_
    rintro e w5 ⟨rfl, hb⟩
    have HK5 : Hid (Blk w5 w.heap.size 29 (pcells p).toArray) := Blk.keep HK4.out hb
    have HF5 : Hid (Blk w5 W1.heap.size 31 #[.int .i64 0, .int .i64 0, .int .i64 0, .int .i64 0, .int .i64 0]) := Blk.keep HF4.out hb
    have HT5 : Hid (Blk w5 W2.heap.size 31 #[.int .i64 0, .int .i64 0, .int .i64 0, .int .i64 0, .int .i64 0]) := Blk.keep HT4.out hb
    have HB5 : Hid (Below w.heap.size w w5) := HB4.out.trans (hb.mono HB4.out.size)
    clear hb HN1 HK4 HF4 HT4 HB4
    have d0 : w5.cell? ⟨W1.heap.size, 0, none⟩ = some (.int .i64 0) := HF5.out.cell 0
    have d1 : w5.cell? ⟨W1.heap.size, 1, none⟩ = some (.int .i64 0) := HF5.out.cell 1
    have d2 : w5.cell? ⟨W1.heap.size, 2, none⟩ = some (.int .i64 0) := HF5.out.cell 2
    have d3 : w5.cell? ⟨W1.heap.size, 3, none⟩ = some (.int .i64 0) := HF5.out.cell 3
    have d4 : w5.cell? ⟨W1.heap.size, 4, none⟩ = some (.int .i64 0) := HF5.out.cell 4
    have f0 : w5.frozen? ⟨W1.heap.size, 0, none⟩ = false := HF5.out.frozen 0
    have f1 : w5.frozen? ⟨W1.heap.size, 1, none⟩ = false := HF5.out.frozen 1
    have f2 : w5.frozen? ⟨W1.heap.size, 2, none⟩ = false := HF5.out.frozen 2
    have f3 : w5.frozen? ⟨W1.heap.size, 3, none⟩ = false := HF5.out.frozen 3
    have f4 : w5.frozen? ⟨W1.heap.size, 4, none⟩ = false := HF5.out.frozen 4
    have k0 : w5.cell? ⟨W2.heap.size, 0, none⟩ = some (.int .i64 0) := HT5.out.cell 0
    have k1 : w5.cell? ⟨W2.heap.size, 1, none⟩ = some (.int .i64 0) := HT5.out.cell 1
    have k2 : w5.cell? ⟨W2.heap.size, 2, none⟩ = some (.int .i64 0) := HT5.out.cell 2
    have k3 : w5.cell? ⟨W2.heap.size, 3, none⟩ = some (.int .i64 0) := HT5.out.cell 3
    have k4 : w5.cell? ⟨W2.heap.size, 4, none⟩ = some (.int .i64 0) := HT5.out.cell 4
    have fr0 : w5.frozen? ⟨W2.heap.size, 0, none⟩ = false := HT5.out.frozen 0
    have fr1 : w5.frozen? ⟨W2.heap.size, 1, none⟩ = false := HT5.out.frozen 1
    have fr2 : w5.frozen? ⟨W2.heap.size, 2, none⟩ = false := HT5.out.frozen 2
    have fr3 : w5.frozen? ⟨W2.heap.size, 3, none⟩ = false := HT5.out.frozen 3
    have fr4 : w5.frozen? ⟨W2.heap.size, 4, none⟩ = false := HT5.out.frozen 4
    have ne1 : W1.heap.size ≠ W2.heap.size := (by have hls := HLs.out; (try dsimp only); omega)
    have ne2 : W2.heap.size ≠ W1.heap.size := (by have hls := HLs.out; (try dsimp only); omega)
    have a1 := Tryd.asDG n
    have a2 := Tryd.asDD n
    go_wp2_with fail
    obtain ⟨X0, hX0⟩ : ∃ Y, (((((w5.setCell ⟨W1.heap.size, 0, none⟩ (.int .i64 (-n))).setCell ⟨W1.heap.size, 1, none⟩ (.int .i64 0)).setCell ⟨W1.heap.size, 2, none⟩ (.int .i64 0)).setCell ⟨W1.heap.size, 3, none⟩ (.int .i64 0)).setCell ⟨W1.heap.size, 4, none⟩ (.int .i64 0)) = Y := ⟨_, rfl⟩
    rw [hX0]
    have HFX0 : Hid (Blk X0 W1.heap.size 31 #[.int .i64 (-n), .int .i64 0, .int .i64 0, .int .i64 0, .int .i64 0]) := by show Blk _ _ _ _; rw [← hX0]; exact (((((HF5.out.set_ 0 _).set_ 1 _).set_ 2 _).set_ 3 _).set_ 4 _)
    have HTX0 : Hid (Blk X0 W2.heap.size 31 #[.int .i64 0, .int .i64 0, .int .i64 0, .int .i64 0, .int .i64 0]) := by show Blk _ _ _ _; rw [← hX0]; exact (Blk.far (p := ⟨W1.heap.size, 4, none⟩) (Blk.far (p := ⟨W1.heap.size, 3, none⟩) (Blk.far (p := ⟨W1.heap.size, 2, none⟩) (Blk.far (p := ⟨W1.heap.size, 1, none⟩) (Blk.far (p := ⟨W1.heap.size, 0, none⟩) HT5.out (by have hls := HLs.out; (try dsimp only); omega) _) (by have hls := HLs.out; (try dsimp only); omega) _) (by have hls := HLs.out; (try dsimp only); omega) _) (by have hls := HLs.out; (try dsimp only); omega) _) (by have hls := HLs.out; (try dsimp only); omega) _)
    have HBX0 : Hid (Below w.heap.size w X0) := by show Below _ _ _; rw [← hX0]; exact (((((HB5.out.setCell (p := ⟨W1.heap.size, 0, none⟩) (by have hls := HLs.out; (try dsimp only); omega) _).setCell (p := ⟨W1.heap.size, 1, none⟩) (by have hls := HLs.out; (try dsimp only); omega) _).setCell (p := ⟨W1.heap.size, 2, none⟩) (by have hls := HLs.out; (try dsimp only); omega) _).setCell (p := ⟨W1.heap.size, 3, none⟩) (by have hls := HLs.out; (try dsimp only); omega) _).setCell (p := ⟨W1.heap.size, 4, none⟩) (by have hls := HLs.out; (try dsimp only); omega) _)
    clear hX0
    obtain ⟨X1, hX1⟩ : ∃ Y, (X0.setCell ⟨W1.heap.size, 1, none⟩ (.int .i64 n)) = Y := ⟨_, rfl⟩
    rw [hX1]
    have HFX1 : Hid (Blk X1 W1.heap.size 31 #[.int .i64 (-n), .int .i64 n, .int .i64 0, .int .i64 0, .int .i64 0]) := by show Blk _ _ _ _; rw [← hX1]; exact (HFX0.out.set_ 1 _)
    have HTX1 : Hid (Blk X1 W2.heap.size 31 #[.int .i64 0, .int .i64 0, .int .i64 0, .int .i64 0, .int .i64 0]) := by show Blk _ _ _ _; rw [← hX1]; exact (Blk.far (p := ⟨W1.heap.size, 1, none⟩) HTX0.out (by have hls := HLs.out; (try dsimp only); omega) _)
    have HBX1 : Hid (Below w.heap.size w X1) := by show Below _ _ _; rw [← hX1]; exact (HBX0.out.setCell (p := ⟨W1.heap.size, 1, none⟩) (by have hls := HLs.out; (try dsimp only); omega) _)
    clear hX1
    clear d0 d1 d2 d3 d4 f0 f1 f2 f3 f4 k0 k1 k2 k3 k4 fr0 fr1 fr2 fr3 fr4
    have d0 : X1.cell? ⟨W1.heap.size, 0, none⟩ = some (.int .i64 (-n)) := HFX1.out.cell 0
    have d1 : X1.cell? ⟨W1.heap.size, 1, none⟩ = some (.int .i64 n) := HFX1.out.cell 1
    have d2 : X1.cell? ⟨W1.heap.size, 2, none⟩ = some (.int .i64 0) := HFX1.out.cell 2
    have d3 : X1.cell? ⟨W1.heap.size, 3, none⟩ = some (.int .i64 0) := HFX1.out.cell 3
    have d4 : X1.cell? ⟨W1.heap.size, 4, none⟩ = some (.int .i64 0) := HFX1.out.cell 4
    have f0 : X1.frozen? ⟨W1.heap.size, 0, none⟩ = false := HFX1.out.frozen 0
    have f1 : X1.frozen? ⟨W1.heap.size, 1, none⟩ = false := HFX1.out.frozen 1
    have f2 : X1.frozen? ⟨W1.heap.size, 2, none⟩ = false := HFX1.out.frozen 2
    have f3 : X1.frozen? ⟨W1.heap.size, 3, none⟩ = false := HFX1.out.frozen 3
    have f4 : X1.frozen? ⟨W1.heap.size, 4, none⟩ = false := HFX1.out.frozen 4
    have k0 : X1.cell? ⟨W2.heap.size, 0, none⟩ = some (.int .i64 0) := HTX1.out.cell 0
    have k1 : X1.cell? ⟨W2.heap.size, 1, none⟩ = some (.int .i64 0) := HTX1.out.cell 1
    have k2 : X1.cell? ⟨W2.heap.size, 2, none⟩ = some (.int .i64 0) := HTX1.out.cell 2
    have k3 : X1.cell? ⟨W2.heap.size, 3, none⟩ = some (.int .i64 0) := HTX1.out.cell 3
    have k4 : X1.cell? ⟨W2.heap.size, 4, none⟩ = some (.int .i64 0) := HTX1.out.cell 4
    have fr0 : X1.frozen? ⟨W2.heap.size, 0, none⟩ = false := HTX1.out.frozen 0
    have fr1 : X1.frozen? ⟨W2.heap.size, 1, none⟩ = false := HTX1.out.frozen 1
    have fr2 : X1.frozen? ⟨W2.heap.size, 2, none⟩ = false := HTX1.out.frozen 2
    have fr3 : X1.frozen? ⟨W2.heap.size, 3, none⟩ = false := HTX1.out.frozen 3
    have fr4 : X1.frozen? ⟨W2.heap.size, 4, none⟩ = false := HTX1.out.frozen 4
    go_region
    go_wp2
    obtain ⟨Y0, hY0⟩ : ∃ Y, (((((X1.setCell ⟨W1.heap.size, 0, none⟩ (.int .i64 (-n))).setCell ⟨W1.heap.size, 1, none⟩ (.int .i64 n)).setCell ⟨W1.heap.size, 2, none⟩ (.int .i64 0)).setCell ⟨W1.heap.size, 3, none⟩ (.int .i64 0)).setCell ⟨W1.heap.size, 4, none⟩ (.int .i64 0)) = Y := ⟨_, rfl⟩
    rw [hY0]
    have HFY0 : Hid (Blk Y0 W1.heap.size 31 #[.int .i64 (-n), .int .i64 n, .int .i64 0, .int .i64 0, .int .i64 0]) := by show Blk _ _ _ _; rw [← hY0]; exact (((((HFX1.out.set_ 0 _).set_ 1 _).set_ 2 _).set_ 3 _).set_ 4 _)
    have HTY0 : Hid (Blk Y0 W2.heap.size 31 #[.int .i64 0, .int .i64 0, .int .i64 0, .int .i64 0, .int .i64 0]) := by show Blk _ _ _ _; rw [← hY0]; exact (Blk.far (p := ⟨W1.heap.size, 4, none⟩) (Blk.far (p := ⟨W1.heap.size, 3, none⟩) (Blk.far (p := ⟨W1.heap.size, 2, none⟩) (Blk.far (p := ⟨W1.heap.size, 1, none⟩) (Blk.far (p := ⟨W1.heap.size, 0, none⟩) HTX1.out (by have hls := HLs.out; (try dsimp only); omega) _) (by have hls := HLs.out; (try dsimp only); omega) _) (by have hls := HLs.out; (try dsimp only); omega) _) (by have hls := HLs.out; (try dsimp only); omega) _) (by have hls := HLs.out; (try dsimp only); omega) _)
    have HBY0 : Hid (Below w.heap.size w Y0) := by show Below _ _ _; rw [← hY0]; exact (((((HBX1.out.setCell (p := ⟨W1.heap.size, 0, none⟩) (by have hls := HLs.out; (try dsimp only); omega) _).setCell (p := ⟨W1.heap.size, 1, none⟩) (by have hls := HLs.out; (try dsimp only); omega) _).setCell (p := ⟨W1.heap.size, 2, none⟩) (by have hls := HLs.out; (try dsimp only); omega) _).setCell (p := ⟨W1.heap.size, 3, none⟩) (by have hls := HLs.out; (try dsimp only); omega) _).setCell (p := ⟨W1.heap.size, 4, none⟩) (by have hls := HLs.out; (try dsimp only); omega) _)
    clear hY0
    obtain ⟨Y1, hY1⟩ : ∃ Y, (((((Y0.setCell ⟨W2.heap.size, 0, none⟩ (.int .i64 0)).setCell ⟨W2.heap.size, 1, none⟩ (.int .i64 0)).setCell ⟨W2.heap.size, 2, none⟩ (.int .i64 0)).setCell ⟨W2.heap.size, 3, none⟩ (.int .i64 0)).setCell ⟨W2.heap.size, 4, none⟩ (.int .i64 0)).drew = Y := ⟨_, rfl⟩
    rw [hY1]
    have HFY1 : Hid (Blk Y1 W1.heap.size 31 #[.int .i64 (-n), .int .i64 n, .int .i64 0, .int .i64 0, .int .i64 0]) := by show Blk _ _ _ _; rw [← hY1]; exact blk_drew ((Blk.far (p := ⟨W2.heap.size, 4, none⟩) (Blk.far (p := ⟨W2.heap.size, 3, none⟩) (Blk.far (p := ⟨W2.heap.size, 2, none⟩) (Blk.far (p := ⟨W2.heap.size, 1, none⟩) (Blk.far (p := ⟨W2.heap.size, 0, none⟩) HFY0.out (by have hls := HLs.out; (try dsimp only); omega) _) (by have hls := HLs.out; (try dsimp only); omega) _) (by have hls := HLs.out; (try dsimp only); omega) _) (by have hls := HLs.out; (try dsimp only); omega) _) (by have hls := HLs.out; (try dsimp only); omega) _))
    have HTY1 : Hid (Blk Y1 W2.heap.size 31 #[.int .i64 0, .int .i64 0, .int .i64 0, .int .i64 0, .int .i64 0]) := by show Blk _ _ _ _; rw [← hY1]; exact blk_drew ((((((HTY0.out.set_ 0 _).set_ 1 _).set_ 2 _).set_ 3 _).set_ 4 _))
    have HBY1 : Hid (Below w.heap.size w Y1) := by show Below _ _ _; rw [← hY1]; exact (((((HBY0.out.setCell (p := ⟨W2.heap.size, 0, none⟩) (by have hls := HLs.out; (try dsimp only); omega) _).setCell (p := ⟨W2.heap.size, 1, none⟩) (by have hls := HLs.out; (try dsimp only); omega) _).setCell (p := ⟨W2.heap.size, 2, none⟩) (by have hls := HLs.out; (try dsimp only); omega) _).setCell (p := ⟨W2.heap.size, 3, none⟩) (by have hls := HLs.out; (try dsimp only); omega) _).setCell (p := ⟨W2.heap.size, 4, none⟩) (by have hls := HLs.out; (try dsimp only); omega) _).drew
    clear hY1
    clear d0 d1 d2 d3 d4 f0 f1 f2 f3 f4 k0 k1 k2 k3 k4 fr0 fr1 fr2 fr3 fr4 ne1 ne2
    have d0 : Y1.cell? ⟨W1.heap.size, 0, none⟩ = some (.int .i64 (-n)) := HFY1.out.cell 0
    have d1 : Y1.cell? ⟨W1.heap.size, 1, none⟩ = some (.int .i64 n) := HFY1.out.cell 1
    have d2 : Y1.cell? ⟨W1.heap.size, 2, none⟩ = some (.int .i64 0) := HFY1.out.cell 2
    have d3 : Y1.cell? ⟨W1.heap.size, 3, none⟩ = some (.int .i64 0) := HFY1.out.cell 3
    have d4 : Y1.cell? ⟨W1.heap.size, 4, none⟩ = some (.int .i64 0) := HFY1.out.cell 4
    have k0 : Y1.cell? ⟨W2.heap.size, 0, none⟩ = some (.int .i64 0) := HTY1.out.cell 0
    have k1 : Y1.cell? ⟨W2.heap.size, 1, none⟩ = some (.int .i64 0) := HTY1.out.cell 1
    have k2 : Y1.cell? ⟨W2.heap.size, 2, none⟩ = some (.int .i64 0) := HTY1.out.cell 2
    have k3 : Y1.cell? ⟨W2.heap.size, 3, none⟩ = some (.int .i64 0) := HTY1.out.cell 3
    have k4 : Y1.cell? ⟨W2.heap.size, 4, none⟩ = some (.int .i64 0) := HTY1.out.cell 4
    refine bodyPost_ret (v := .tuple #[.agg #[.int .i64 (-n), .int .i64 n, .int .i64 0, .int .i64 0, .int .i64 0], .agg #[.int .i64 0, .int .i64 0, .int .i64 0, .int .i64 0, .int .i64 0]]) (by simp [results, Tryd.results40, go_sem, d0, d1, d2, d3, d4, k0, k1, k2, k3, k4]) rfl ?_
    exact ⟨by (rw [EF.out, ET.out]; first | done | rfl), HBY1.out⟩
  · have EF : Hid ((hcells F).toArray = #[.int .i64 (-n), .int .i64 0, .int .i64 0, .int .i64 n, .int .i64 0]) := by show _ = _; rw [HF.out]; rw [if_neg (by omega), if_pos h4]; rfl
    have ET : Hid ((hcells T).toArray = #[.int .i64 0, .int .i64 0, .int .i64 0, .int .i64 0, .int .i64 0]) := by show _ = _; rw [HT.out]; rw [if_neg (by omega), if_pos h4]; rfl
    have HN1 : Hid (∀ z, Calls Tryd.prog 55 #[.agg #[.int .i64 n, .int .i64 0, .int .i64 0, .int .i64 0, .int .i64 0]] z fun e w' => e = .returned (.agg #[.int .i64 (-n), .int .i64 0, .int .i64 0, .int .i64 0, .int .i64 0]) ∧ Below z.heap.size z w') := fun z => by
      have := negative_any n 0 0 0 0 (w64' ⟨by omega, by omega⟩) (w64' ⟨by omega, by omega⟩) (w64' ⟨by omega, by omega⟩) (w64' ⟨by omega, by omega⟩) (w64' ⟨by omega, by omega⟩) z
      simpa only [Int.neg_zero] using this
    have m1 := Tryd.methBreaking n
    clear hz3 hz4 hg0 hg1 hg2 HF HT hn hp hx
    go_enter Tryd.func40, Tryd.ntmps40
    go_wp2_with fail
    clear hW1 hW2 hW3
    refine (takenB_any n _).mono ?_
    rintro e w4 ⟨rfl, hb⟩
    have HK4 : Hid (Blk w4 w.heap.size 29 (pcells p).toArray) := Blk.keep HK3.out hb
    have HF4 : Hid (Blk w4 W1.heap.size 31 #[.int .i64 0, .int .i64 0, .int .i64 0, .int .i64 0, .int .i64 0]) := Blk.keep HF3.out hb
    have HT4 : Hid (Blk w4 W2.heap.size 31 #[.int .i64 0, .int .i64 0, .int .i64 0, .int .i64 0, .int .i64 0]) := Blk.keep HT3.out hb
    have HB4 : Hid (Below w.heap.size w w4) := HB3.out.trans (hb.mono HB3.out.size)
    clear hb m1 HK3 HF3 HT3 HB3
    go_wp2_with fail
    refine (HN1.out _).mono ?_
    rintro e w5 ⟨rfl, hb⟩
    have HK5 : Hid (Blk w5 w.heap.size 29 (pcells p).toArray) := Blk.keep HK4.out hb
    have HF5 : Hid (Blk w5 W1.heap.size 31 #[.int .i64 0, .int .i64 0, .int .i64 0, .int .i64 0, .int .i64 0]) := Blk.keep HF4.out hb
    have HT5 : Hid (Blk w5 W2.heap.size 31 #[.int .i64 0, .int .i64 0, .int .i64 0, .int .i64 0, .int .i64 0]) := Blk.keep HT4.out hb
    have HB5 : Hid (Below w.heap.size w w5) := HB4.out.trans (hb.mono HB4.out.size)
    clear hb HN1 HK4 HF4 HT4 HB4
    have d0 : w5.cell? ⟨W1.heap.size, 0, none⟩ = some (.int .i64 0) := HF5.out.cell 0
    have d1 : w5.cell? ⟨W1.heap.size, 1, none⟩ = some (.int .i64 0) := HF5.out.cell 1
    have d2 : w5.cell? ⟨W1.heap.size, 2, none⟩ = some (.int .i64 0) := HF5.out.cell 2
    have d3 : w5.cell? ⟨W1.heap.size, 3, none⟩ = some (.int .i64 0) := HF5.out.cell 3
    have d4 : w5.cell? ⟨W1.heap.size, 4, none⟩ = some (.int .i64 0) := HF5.out.cell 4
    have f0 : w5.frozen? ⟨W1.heap.size, 0, none⟩ = false := HF5.out.frozen 0
    have f1 : w5.frozen? ⟨W1.heap.size, 1, none⟩ = false := HF5.out.frozen 1
    have f2 : w5.frozen? ⟨W1.heap.size, 2, none⟩ = false := HF5.out.frozen 2
    have f3 : w5.frozen? ⟨W1.heap.size, 3, none⟩ = false := HF5.out.frozen 3
    have f4 : w5.frozen? ⟨W1.heap.size, 4, none⟩ = false := HF5.out.frozen 4
    have k0 : w5.cell? ⟨W2.heap.size, 0, none⟩ = some (.int .i64 0) := HT5.out.cell 0
    have k1 : w5.cell? ⟨W2.heap.size, 1, none⟩ = some (.int .i64 0) := HT5.out.cell 1
    have k2 : w5.cell? ⟨W2.heap.size, 2, none⟩ = some (.int .i64 0) := HT5.out.cell 2
    have k3 : w5.cell? ⟨W2.heap.size, 3, none⟩ = some (.int .i64 0) := HT5.out.cell 3
    have k4 : w5.cell? ⟨W2.heap.size, 4, none⟩ = some (.int .i64 0) := HT5.out.cell 4
    have fr0 : w5.frozen? ⟨W2.heap.size, 0, none⟩ = false := HT5.out.frozen 0
    have fr1 : w5.frozen? ⟨W2.heap.size, 1, none⟩ = false := HT5.out.frozen 1
    have fr2 : w5.frozen? ⟨W2.heap.size, 2, none⟩ = false := HT5.out.frozen 2
    have fr3 : w5.frozen? ⟨W2.heap.size, 3, none⟩ = false := HT5.out.frozen 3
    have fr4 : w5.frozen? ⟨W2.heap.size, 4, none⟩ = false := HT5.out.frozen 4
    have ne1 : W1.heap.size ≠ W2.heap.size := (by have hls := HLs.out; (try dsimp only); omega)
    have ne2 : W2.heap.size ≠ W1.heap.size := (by have hls := HLs.out; (try dsimp only); omega)
    have a1 := Tryd.asBG n
    have a2 := Tryd.asBD n
    have a3 := Tryd.asBB n
    go_wp2_with fail
    obtain ⟨X0, hX0⟩ : ∃ Y, (((((w5.setCell ⟨W1.heap.size, 0, none⟩ (.int .i64 (-n))).setCell ⟨W1.heap.size, 1, none⟩ (.int .i64 0)).setCell ⟨W1.heap.size, 2, none⟩ (.int .i64 0)).setCell ⟨W1.heap.size, 3, none⟩ (.int .i64 0)).setCell ⟨W1.heap.size, 4, none⟩ (.int .i64 0)) = Y := ⟨_, rfl⟩
    rw [hX0]
    have HFX0 : Hid (Blk X0 W1.heap.size 31 #[.int .i64 (-n), .int .i64 0, .int .i64 0, .int .i64 0, .int .i64 0]) := by show Blk _ _ _ _; rw [← hX0]; exact (((((HF5.out.set_ 0 _).set_ 1 _).set_ 2 _).set_ 3 _).set_ 4 _)
    have HTX0 : Hid (Blk X0 W2.heap.size 31 #[.int .i64 0, .int .i64 0, .int .i64 0, .int .i64 0, .int .i64 0]) := by show Blk _ _ _ _; rw [← hX0]; exact (Blk.far (p := ⟨W1.heap.size, 4, none⟩) (Blk.far (p := ⟨W1.heap.size, 3, none⟩) (Blk.far (p := ⟨W1.heap.size, 2, none⟩) (Blk.far (p := ⟨W1.heap.size, 1, none⟩) (Blk.far (p := ⟨W1.heap.size, 0, none⟩) HT5.out (by have hls := HLs.out; (try dsimp only); omega) _) (by have hls := HLs.out; (try dsimp only); omega) _) (by have hls := HLs.out; (try dsimp only); omega) _) (by have hls := HLs.out; (try dsimp only); omega) _) (by have hls := HLs.out; (try dsimp only); omega) _)
    have HBX0 : Hid (Below w.heap.size w X0) := by show Below _ _ _; rw [← hX0]; exact (((((HB5.out.setCell (p := ⟨W1.heap.size, 0, none⟩) (by have hls := HLs.out; (try dsimp only); omega) _).setCell (p := ⟨W1.heap.size, 1, none⟩) (by have hls := HLs.out; (try dsimp only); omega) _).setCell (p := ⟨W1.heap.size, 2, none⟩) (by have hls := HLs.out; (try dsimp only); omega) _).setCell (p := ⟨W1.heap.size, 3, none⟩) (by have hls := HLs.out; (try dsimp only); omega) _).setCell (p := ⟨W1.heap.size, 4, none⟩) (by have hls := HLs.out; (try dsimp only); omega) _)
    clear hX0
    obtain ⟨X1, hX1⟩ : ∃ Y, (X0.setCell ⟨W1.heap.size, 3, none⟩ (.int .i64 n)) = Y := ⟨_, rfl⟩
    rw [hX1]
    have HFX1 : Hid (Blk X1 W1.heap.size 31 #[.int .i64 (-n), .int .i64 0, .int .i64 0, .int .i64 n, .int .i64 0]) := by show Blk _ _ _ _; rw [← hX1]; exact (HFX0.out.set_ 3 _)
    have HTX1 : Hid (Blk X1 W2.heap.size 31 #[.int .i64 0, .int .i64 0, .int .i64 0, .int .i64 0, .int .i64 0]) := by show Blk _ _ _ _; rw [← hX1]; exact (Blk.far (p := ⟨W1.heap.size, 3, none⟩) HTX0.out (by have hls := HLs.out; (try dsimp only); omega) _)
    have HBX1 : Hid (Below w.heap.size w X1) := by show Below _ _ _; rw [← hX1]; exact (HBX0.out.setCell (p := ⟨W1.heap.size, 3, none⟩) (by have hls := HLs.out; (try dsimp only); omega) _)
    clear hX1
    clear d0 d1 d2 d3 d4 f0 f1 f2 f3 f4 k0 k1 k2 k3 k4 fr0 fr1 fr2 fr3 fr4
    have d0 : X1.cell? ⟨W1.heap.size, 0, none⟩ = some (.int .i64 (-n)) := HFX1.out.cell 0
    have d1 : X1.cell? ⟨W1.heap.size, 1, none⟩ = some (.int .i64 0) := HFX1.out.cell 1
    have d2 : X1.cell? ⟨W1.heap.size, 2, none⟩ = some (.int .i64 0) := HFX1.out.cell 2
    have d3 : X1.cell? ⟨W1.heap.size, 3, none⟩ = some (.int .i64 n) := HFX1.out.cell 3
    have d4 : X1.cell? ⟨W1.heap.size, 4, none⟩ = some (.int .i64 0) := HFX1.out.cell 4
    have f0 : X1.frozen? ⟨W1.heap.size, 0, none⟩ = false := HFX1.out.frozen 0
    have f1 : X1.frozen? ⟨W1.heap.size, 1, none⟩ = false := HFX1.out.frozen 1
    have f2 : X1.frozen? ⟨W1.heap.size, 2, none⟩ = false := HFX1.out.frozen 2
    have f3 : X1.frozen? ⟨W1.heap.size, 3, none⟩ = false := HFX1.out.frozen 3
    have f4 : X1.frozen? ⟨W1.heap.size, 4, none⟩ = false := HFX1.out.frozen 4
    have k0 : X1.cell? ⟨W2.heap.size, 0, none⟩ = some (.int .i64 0) := HTX1.out.cell 0
    have k1 : X1.cell? ⟨W2.heap.size, 1, none⟩ = some (.int .i64 0) := HTX1.out.cell 1
    have k2 : X1.cell? ⟨W2.heap.size, 2, none⟩ = some (.int .i64 0) := HTX1.out.cell 2
    have k3 : X1.cell? ⟨W2.heap.size, 3, none⟩ = some (.int .i64 0) := HTX1.out.cell 3
    have k4 : X1.cell? ⟨W2.heap.size, 4, none⟩ = some (.int .i64 0) := HTX1.out.cell 4
    have fr0 : X1.frozen? ⟨W2.heap.size, 0, none⟩ = false := HTX1.out.frozen 0
    have fr1 : X1.frozen? ⟨W2.heap.size, 1, none⟩ = false := HTX1.out.frozen 1
    have fr2 : X1.frozen? ⟨W2.heap.size, 2, none⟩ = false := HTX1.out.frozen 2
    have fr3 : X1.frozen? ⟨W2.heap.size, 3, none⟩ = false := HTX1.out.frozen 3
    have fr4 : X1.frozen? ⟨W2.heap.size, 4, none⟩ = false := HTX1.out.frozen 4
    go_region
    go_wp2
    obtain ⟨Y0, hY0⟩ : ∃ Y, (((((X1.setCell ⟨W1.heap.size, 0, none⟩ (.int .i64 (-n))).setCell ⟨W1.heap.size, 1, none⟩ (.int .i64 0)).setCell ⟨W1.heap.size, 2, none⟩ (.int .i64 0)).setCell ⟨W1.heap.size, 3, none⟩ (.int .i64 n)).setCell ⟨W1.heap.size, 4, none⟩ (.int .i64 0)) = Y := ⟨_, rfl⟩
    rw [hY0]
    have HFY0 : Hid (Blk Y0 W1.heap.size 31 #[.int .i64 (-n), .int .i64 0, .int .i64 0, .int .i64 n, .int .i64 0]) := by show Blk _ _ _ _; rw [← hY0]; exact (((((HFX1.out.set_ 0 _).set_ 1 _).set_ 2 _).set_ 3 _).set_ 4 _)
    have HTY0 : Hid (Blk Y0 W2.heap.size 31 #[.int .i64 0, .int .i64 0, .int .i64 0, .int .i64 0, .int .i64 0]) := by show Blk _ _ _ _; rw [← hY0]; exact (Blk.far (p := ⟨W1.heap.size, 4, none⟩) (Blk.far (p := ⟨W1.heap.size, 3, none⟩) (Blk.far (p := ⟨W1.heap.size, 2, none⟩) (Blk.far (p := ⟨W1.heap.size, 1, none⟩) (Blk.far (p := ⟨W1.heap.size, 0, none⟩) HTX1.out (by have hls := HLs.out; (try dsimp only); omega) _) (by have hls := HLs.out; (try dsimp only); omega) _) (by have hls := HLs.out; (try dsimp only); omega) _) (by have hls := HLs.out; (try dsimp only); omega) _) (by have hls := HLs.out; (try dsimp only); omega) _)
    have HBY0 : Hid (Below w.heap.size w Y0) := by show Below _ _ _; rw [← hY0]; exact (((((HBX1.out.setCell (p := ⟨W1.heap.size, 0, none⟩) (by have hls := HLs.out; (try dsimp only); omega) _).setCell (p := ⟨W1.heap.size, 1, none⟩) (by have hls := HLs.out; (try dsimp only); omega) _).setCell (p := ⟨W1.heap.size, 2, none⟩) (by have hls := HLs.out; (try dsimp only); omega) _).setCell (p := ⟨W1.heap.size, 3, none⟩) (by have hls := HLs.out; (try dsimp only); omega) _).setCell (p := ⟨W1.heap.size, 4, none⟩) (by have hls := HLs.out; (try dsimp only); omega) _)
    clear hY0
    obtain ⟨Y1, hY1⟩ : ∃ Y, (((((Y0.setCell ⟨W2.heap.size, 0, none⟩ (.int .i64 0)).setCell ⟨W2.heap.size, 1, none⟩ (.int .i64 0)).setCell ⟨W2.heap.size, 2, none⟩ (.int .i64 0)).setCell ⟨W2.heap.size, 3, none⟩ (.int .i64 0)).setCell ⟨W2.heap.size, 4, none⟩ (.int .i64 0)).drew = Y := ⟨_, rfl⟩
    rw [hY1]
    have HFY1 : Hid (Blk Y1 W1.heap.size 31 #[.int .i64 (-n), .int .i64 0, .int .i64 0, .int .i64 n, .int .i64 0]) := by show Blk _ _ _ _; rw [← hY1]; exact blk_drew ((Blk.far (p := ⟨W2.heap.size, 4, none⟩) (Blk.far (p := ⟨W2.heap.size, 3, none⟩) (Blk.far (p := ⟨W2.heap.size, 2, none⟩) (Blk.far (p := ⟨W2.heap.size, 1, none⟩) (Blk.far (p := ⟨W2.heap.size, 0, none⟩) HFY0.out (by have hls := HLs.out; (try dsimp only); omega) _) (by have hls := HLs.out; (try dsimp only); omega) _) (by have hls := HLs.out; (try dsimp only); omega) _) (by have hls := HLs.out; (try dsimp only); omega) _) (by have hls := HLs.out; (try dsimp only); omega) _))
    have HTY1 : Hid (Blk Y1 W2.heap.size 31 #[.int .i64 0, .int .i64 0, .int .i64 0, .int .i64 0, .int .i64 0]) := by show Blk _ _ _ _; rw [← hY1]; exact blk_drew ((((((HTY0.out.set_ 0 _).set_ 1 _).set_ 2 _).set_ 3 _).set_ 4 _))
    have HBY1 : Hid (Below w.heap.size w Y1) := by show Below _ _ _; rw [← hY1]; exact (((((HBY0.out.setCell (p := ⟨W2.heap.size, 0, none⟩) (by have hls := HLs.out; (try dsimp only); omega) _).setCell (p := ⟨W2.heap.size, 1, none⟩) (by have hls := HLs.out; (try dsimp only); omega) _).setCell (p := ⟨W2.heap.size, 2, none⟩) (by have hls := HLs.out; (try dsimp only); omega) _).setCell (p := ⟨W2.heap.size, 3, none⟩) (by have hls := HLs.out; (try dsimp only); omega) _).setCell (p := ⟨W2.heap.size, 4, none⟩) (by have hls := HLs.out; (try dsimp only); omega) _).drew
    clear hY1
    clear d0 d1 d2 d3 d4 f0 f1 f2 f3 f4 k0 k1 k2 k3 k4 fr0 fr1 fr2 fr3 fr4 ne1 ne2
    have d0 : Y1.cell? ⟨W1.heap.size, 0, none⟩ = some (.int .i64 (-n)) := HFY1.out.cell 0
    have d1 : Y1.cell? ⟨W1.heap.size, 1, none⟩ = some (.int .i64 0) := HFY1.out.cell 1
    have d2 : Y1.cell? ⟨W1.heap.size, 2, none⟩ = some (.int .i64 0) := HFY1.out.cell 2
    have d3 : Y1.cell? ⟨W1.heap.size, 3, none⟩ = some (.int .i64 n) := HFY1.out.cell 3
    have d4 : Y1.cell? ⟨W1.heap.size, 4, none⟩ = some (.int .i64 0) := HFY1.out.cell 4
    have k0 : Y1.cell? ⟨W2.heap.size, 0, none⟩ = some (.int .i64 0) := HTY1.out.cell 0
    have k1 : Y1.cell? ⟨W2.heap.size, 1, none⟩ = some (.int .i64 0) := HTY1.out.cell 1
    have k2 : Y1.cell? ⟨W2.heap.size, 2, none⟩ = some (.int .i64 0) := HTY1.out.cell 2
    have k3 : Y1.cell? ⟨W2.heap.size, 3, none⟩ = some (.int .i64 0) := HTY1.out.cell 3
    have k4 : Y1.cell? ⟨W2.heap.size, 4, none⟩ = some (.int .i64 0) := HTY1.out.cell 4
    refine bodyPost_ret (v := .tuple #[.agg #[.int .i64 (-n), .int .i64 0, .int .i64 0, .int .i64 n, .int .i64 0], .agg #[.int .i64 0, .int .i64 0, .int .i64 0, .int .i64 0, .int .i64 0]]) (by simp [results, Tryd.results40, go_sem, d0, d1, d2, d3, d4, k0, k1, k2, k3, k4]) rfl ?_
    exact ⟨by (rw [EF.out, ET.out]; first | done | rfl), HBY1.out⟩
end Go.Proofs.YtjgafdfffmfhhabDoor
