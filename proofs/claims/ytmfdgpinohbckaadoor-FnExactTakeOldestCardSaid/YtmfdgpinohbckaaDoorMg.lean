/-
  firstLeast: its contract, of no spots and of some. Condition: each of the numbers' functions has its contract; the sentinel errors lie as the row lists them.
-/
import Derived.Test.YtmfdgpinohbckaaDoorMf
import Derived.Test.YtmfdgpinohbckaaDoorE
namespace Go.Proofs.YtmfdgpinohbckaaDoor
open Go.ChangeShapes Go.WideShapes Go.ChangeAt Go.RowKit Go.Deep

set_option maxRecDepth 100000 in
set_option maxHeartbeats 4000000 in
theorem firstLeast_nil (A : Option Addr) (cx : Nat) (P : Value) (ad : Nat → Addr) (w : World) (hE : EW 7 w ad) :
    Calls Tryd.prog 92 #[.slice A 0 cx, P] w fun e w' => e = .returned (.tuple #[.agg #[.int .u8 0, .int .i16 0, .int .i64 0, .int .i64 0, .int .i64 0, .slice none 0 0], .iface 165 (.pointer (some (ad 4)))]) ∧ Below w.heap.size w w' := by
  have h1 : Blk (w.alloc (.cells #[.int .u8 0, .int .i16 0, .int .i64 0, .int .i64 0, .int .i64 0, .slice none 0 0] 107)) w.heap.size 107 #[.int .u8 0, .int .i16 0, .int .i64 0, .int .i64 0, .int .i64 0, .slice none 0 0] := Blk.new w _ _
  have h2 : Below w.heap.size w (w.alloc (.cells #[.int .u8 0, .int .i16 0, .int .i64 0, .int .i64 0, .int .i64 0, .slice none 0 0] 107)) := (Below.refl _ w).alloc (Nat.le_refl _) _
  have c1 : (w.alloc (.cells #[.int .u8 0, .int .i16 0, .int .i64 0, .int .i64 0, .int .i64 0, .slice none 0 0] 107)).cell? ⟨5, 0, none⟩ = some (.iface 165 (.pointer (some (ad 4)))) := (hE.below h2 (Nat.le_refl _)).cell 4 (by omega)
  obtain ⟨W0, hW0⟩ : ∃ W0, w.alloc (.cells #[.int .u8 0, .int .i16 0, .int .i64 0, .int .i64 0, .int .i64 0, .slice none 0 0] 107) = W0 := ⟨_, rfl⟩
  rw [hW0] at h1 h2 c1
  have H1 := Lib.hid h1
  have H2 := Lib.hid h2
  have H3 := Lib.hid hE
  clear hE h1 h2
  have z0 : W0.cell? ⟨w.heap.size, 0, none⟩ = some (.int .u8 0) := H1.out.cell 0
  have f0 : W0.frozen? ⟨w.heap.size, 0, none⟩ = false := H1.out.frozen 0
  have z1 : W0.cell? ⟨w.heap.size, 1, none⟩ = some (.int .i16 0) := H1.out.cell 1
  have f1 : W0.frozen? ⟨w.heap.size, 1, none⟩ = false := H1.out.frozen 1
  have z2 : W0.cell? ⟨w.heap.size, 2, none⟩ = some (.int .i64 0) := H1.out.cell 2
  have f2 : W0.frozen? ⟨w.heap.size, 2, none⟩ = false := H1.out.frozen 2
  have z3 : W0.cell? ⟨w.heap.size, 3, none⟩ = some (.int .i64 0) := H1.out.cell 3
  have f3 : W0.frozen? ⟨w.heap.size, 3, none⟩ = false := H1.out.frozen 3
  have z4 : W0.cell? ⟨w.heap.size, 4, none⟩ = some (.int .i64 0) := H1.out.cell 4
  have f4 : W0.frozen? ⟨w.heap.size, 4, none⟩ = false := H1.out.frozen 4
  have z5 : W0.cell? ⟨w.heap.size, 5, none⟩ = some (.slice none 0 0) := H1.out.cell 5
  have f5 : W0.frozen? ⟨w.heap.size, 5, none⟩ = false := H1.out.frozen 5
  have hg : w.heap.size ≠ 5 := by
    have := block_lt_of_cell (H3.out.cell 4 (by omega))
    have e : gN 4 = 5 := rfl
    rw [← e]; exact Nat.ne_of_gt this
  go_enter Tryd.func92, Tryd.ntmps92
  go_wp2_with fail
  clear hW0
  go_region
  go_wp2
  refine bodyPost_ret (v := .tuple #[.agg #[.int .u8 0, .int .i16 0, .int .i64 0, .int .i64 0, .int .i64 0, .slice none 0 0], .iface 165 (.pointer (some (ad 4)))]) (by simp [results, Tryd.results92, go_sem, *]) rfl ?_
  exact ⟨rfl, ((((((H2.out.setCell (p := ⟨w.heap.size, 0, none⟩) (Nat.le_refl _) _).setCell (p := ⟨w.heap.size, 1, none⟩) (Nat.le_refl _) _).setCell (p := ⟨w.heap.size, 2, none⟩) (Nat.le_refl _) _).setCell (p := ⟨w.heap.size, 3, none⟩) (Nat.le_refl _) _).setCell (p := ⟨w.heap.size, 4, none⟩) (Nat.le_refl _) _).setCell (p := ⟨w.heap.size, 5, none⟩) (Nat.le_refl _) _).drew⟩

set_option maxRecDepth 100000 in
set_option maxHeartbeats 4000000 in
theorem firstLeast_cons (fs : List Num) (B c : Nat) (x0 : Sp) (xt : List Sp) (A : Option Addr) (cx : Nat) (w : World) (hn : fs.length ≤ 1000) (hl : (x0 :: xt).length ≤ 1000000) (hB : B < w.heap.size) (hc : ∀ (j : Nat) (f : Num), fs[j]? = some f → w.cell? ⟨B, j, none⟩ = some (.func (.func f.1) #[] #[])) (hT : ∀ s ∈ x0 :: xt, Tells w fs s) (hen : Enters fs) (hr : Rd w w.heap.size spcells A (x0 :: xt)) :
    Calls Tryd.prog 92 #[.slice A (x0 :: xt).length cx, .slice (some ⟨B, 0, none⟩) fs.length c] w fun e w' => e = .returned (.tuple #[.agg (spcells (minL fs x0 xt)).toArray, .nilIface]) ∧ Below w.heap.size w w' := by
  have h1 : Blk (w.alloc (.cells #[.int .u8 0, .int .i16 0, .int .i64 0, .int .i64 0, .int .i64 0, .slice none 0 0] 107)) w.heap.size 107 #[.int .u8 0, .int .i16 0, .int .i64 0, .int .i64 0, .int .i64 0, .slice none 0 0] := Blk.new w _ _
  have h2 : Below w.heap.size w (w.alloc (.cells #[.int .u8 0, .int .i16 0, .int .i64 0, .int .i64 0, .int .i64 0, .slice none 0 0] 107)) := (Below.refl _ w).alloc (Nat.le_refl _) _
  obtain ⟨W0, hW0⟩ : ∃ W0, w.alloc (.cells #[.int .u8 0, .int .i16 0, .int .i64 0, .int .i64 0, .int .i64 0, .slice none 0 0] 107) = W0 := ⟨_, rfl⟩
  rw [hW0] at h1 h2
  obtain ⟨n, hnn⟩ : ∃ n : Nat, (x0 :: xt).length = n := ⟨_, rfl⟩
  have HMF : Hid (Calls Tryd.prog 104 #[.slice A n cx, .func (.func 105) #[.slice (some ⟨B, 0, none⟩) fs.length c] #[]] W0 fun e w' => e = .returned (.agg (spcells (minL fs x0 xt)).toArray) ∧ Below W0.heap.size W0 w') := by
    have := minFunc_any fs B c x0 xt A cx W0 hn hl (Nat.lt_of_lt_of_le hB h2.size) (fun j f hf => (h2.cell (p := ⟨B, j, none⟩) hB).trans (hc j f hf)) (fun s hs => (hT s hs).keep h2) hen (hr.keep h2)
    rw [hnn] at this; exact this
  have hn0 : ((n : Int) == 0) = false := by rw [← hnn]; simp only [List.length_cons, beq_eq_false_iff_ne, ne_eq]; omega
  rw [hnn]
  have H1 := Lib.hid h1
  have H2 := Lib.hid h2
  clear hnn hl hc hT hen hr h1 h2
  obtain ⟨⟨⟨⟨⟨k2, y2⟩, d2⟩, l2, i2⟩, a2, n2, c2⟩, hm⟩ : ∃ m, minL fs x0 xt = m := ⟨_, rfl⟩
  rw [hm] at HMF ⊢
  clear hm
  go_enter Tryd.func92, Tryd.ntmps92
  go_wp2_with fail
  clear hW0
  refine HMF.out.mono ?_
  rintro e w2 ⟨he, hb⟩
  have he2 : e = .returned (.agg #[.int .u8 k2, .int .i16 y2, .int .i64 d2, .int .i64 l2, .int .i64 i2, .slice a2 n2 c2]) := he
  subst he2
  have HB2 : Hid (Below w.heap.size w w2) := H2.out.trans (hb.mono H2.out.size)
  have hK := H1.out.keep hb
  have z0 : w2.cell? ⟨w.heap.size, 0, none⟩ = some (.int .u8 0) := hK.cell 0
  have f0 : w2.frozen? ⟨w.heap.size, 0, none⟩ = false := hK.frozen 0
  have z1 : w2.cell? ⟨w.heap.size, 1, none⟩ = some (.int .i16 0) := hK.cell 1
  have f1 : w2.frozen? ⟨w.heap.size, 1, none⟩ = false := hK.frozen 1
  have z2 : w2.cell? ⟨w.heap.size, 2, none⟩ = some (.int .i64 0) := hK.cell 2
  have f2 : w2.frozen? ⟨w.heap.size, 2, none⟩ = false := hK.frozen 2
  have z3 : w2.cell? ⟨w.heap.size, 3, none⟩ = some (.int .i64 0) := hK.cell 3
  have f3 : w2.frozen? ⟨w.heap.size, 3, none⟩ = false := hK.frozen 3
  have z4 : w2.cell? ⟨w.heap.size, 4, none⟩ = some (.int .i64 0) := hK.cell 4
  have f4 : w2.frozen? ⟨w.heap.size, 4, none⟩ = false := hK.frozen 4
  have z5 : w2.cell? ⟨w.heap.size, 5, none⟩ = some (.slice none 0 0) := hK.cell 5
  have f5 : w2.frozen? ⟨w.heap.size, 5, none⟩ = false := hK.frozen 5
  clear hK hb
  go_wp2
  refine bodyPost_ret (v := .tuple #[.agg #[.int .u8 k2, .int .i16 y2, .int .i64 d2, .int .i64 l2, .int .i64 i2, .slice a2 n2 c2], .nilIface]) (by simp [results, Tryd.results92, go_sem, *]) rfl ?_
  exact ⟨rfl, ((((((HB2.out.setCell (p := ⟨w.heap.size, 0, none⟩) (Nat.le_refl _) _).setCell (p := ⟨w.heap.size, 1, none⟩) (Nat.le_refl _) _).setCell (p := ⟨w.heap.size, 2, none⟩) (Nat.le_refl _) _).setCell (p := ⟨w.heap.size, 3, none⟩) (Nat.le_refl _) _).setCell (p := ⟨w.heap.size, 4, none⟩) (Nat.le_refl _) _).setCell (p := ⟨w.heap.size, 5, none⟩) (Nat.le_refl _) _)⟩
end Go.Proofs.YtmfdgpinohbckaaDoor
