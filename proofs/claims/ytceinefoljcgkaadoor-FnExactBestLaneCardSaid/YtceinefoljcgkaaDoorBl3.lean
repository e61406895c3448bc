/-
  bestLane: its contract. Condition: the rack is a new valid one; the sentinel errors lie as the row lists them.
-/
import Derived.Test.YtceinefoljcgkaaDoorBl2
import Derived.Test.YtceinefoljcgkaaDoorMg
namespace Go.Proofs.YtceinefoljcgkaaDoor
open Go.ChangeShapes Go.WideShapes Go.ChangeAt Go.RowKit Go.Deep

def laneV : Option (Nat × Nat × Nat) → Int
  | none => 0
  | some (b, _, _) => b
def bErr (ad : Nat → Addr) : Option (Nat × Nat × Nat) → Value
  | none => .iface 135 (.pointer (some (ad 4)))
  | some _ => .nilIface
theorem behind_any (k y d l i : Int) (a : Option Addr) (n c : Nat) (w : World) : Calls Tryd.prog 75 #[.agg (spC k y d l i a n c)] w fun e w' => e = .returned (.int .i64 i) ∧ Below w.heap.size w w' := by
  unfold spC
  go_enter Tryd.func75, Tryd.ntmps75
  go_wp2
  go_ret
  exact ⟨rfl, (Below.refl _ w).alloc (Nat.le_refl _) _⟩
theorem bl_enters (xss : List (List Wnt)) : Enters (blF xss) := by
  intro f hf args w
  simp only [blF, List.mem_cons, List.not_mem_nil, or_false] at hf
  rcases hf with rfl | rfl
  · kernel_rfl
  · kernel_rfl
theorem bl_tells {xss : List (List Wnt)} {x : Wnt} {w : World} {s : Sp} (hwf : ∀ xs ∈ xss, ∀ x ∈ xs, wfW x) (h : okF xss x w s) : Tells w (blF xss) s := by
  obtain ⟨xs, g, h1, h2, h3, h4, h5, h6⟩ := h
  obtain ⟨⟨⟨⟨k1, y1⟩, d⟩, l, i⟩, a, n, c⟩ := s
  dsimp only at h1 h2 h3 h5
  cases h5
  subst h3
  intro f hf w' hb
  simp only [blF, List.mem_cons, List.not_mem_nil, or_false] at hf
  rcases hf with rfl | rfl
  · have e : bC xss (((k1, y1), d), l, xs.length) = cntB xs d xs.length := by simp [bC, h1]
    have := blocked_any xs k1 y1 d l xs.length (some ⟨g, 0, none⟩) w' (by omega) (Nat.le_refl _) (hwf xs (List.mem_of_getElem? h1)) (h6.keep hb)
    rw [← e] at this
    exact this
  · exact behind_any k1 y1 d l xs.length (some ⟨g, 0, none⟩) xs.length xs.length w'

set_option maxRecDepth 100000 in
set_option maxHeartbeats 4000000 in
theorem bestLane_any (xss : List (List Wnt)) (hwf : ∀ xs ∈ xss, ∀ x ∈ xs, wfW x) (x : Wnt) (hwx : wfW x) (g c : Nat) (gs : List Nat) (ad : Nat → Addr) (w : World) (hl : xss.length ≤ 8) (h6 : ∀ xs ∈ xss, xs.length ≤ 6) (hr : RsN w g 59 45 wcells xss gs) (hE : EW 7 w ad) :
    Calls Tryd.prog 49 #[.slice (some ⟨g, 0, none⟩) xss.length c, .agg (wcells x).toArray] w fun e w' => ∃ (k2 y2 d2 i2 : Int) (a2 : Option Addr) (n2 c2 : Nat), e = .returned (.tuple #[.agg #[.int .u8 k2, .int .i16 y2, .int .i64 d2, .int .i64 (laneV (bst xss x.2 xss.length)), .int .i64 i2, .slice a2 n2 c2], bErr ad (bst xss x.2 xss.length)]) ∧ Below w.heap.size w w' := by
  have HWX := Lib.hid hwx
  obtain ⟨⟨k1, y1⟩, d⟩ := x
  show Calls Tryd.prog 49 #[.slice (some ⟨g, 0, none⟩) xss.length c, .agg #[.int .u8 k1, .int .i16 y1, .int .i16 d]] w _
  have HR := Lib.hid hr
  have H6 := Lib.hid h6
  have HW := Lib.hid hwf
  have HE := Lib.hid hE
  clear hr h6 hwf hwx hE
  have h2 : Below w.heap.size w ((w.alloc (.cells #[.int .u8 k1, .int .i16 y1, .int .i16 d] 45)).alloc (.cells #[.int .u8 0, .int .i16 0, .int .i64 0, .int .i64 0, .int .i64 0, .slice none 0 0] 68)) := by
    have q1 : Below w.heap.size w (w.alloc (.cells #[.int .u8 k1, .int .i16 y1, .int .i16 d] 45)) := (Below.refl _ w).alloc (Nat.le_refl _) _
    exact q1.alloc q1.size _
  have h1 : Blk ((w.alloc (.cells #[.int .u8 k1, .int .i16 y1, .int .i16 d] 45)).alloc (.cells #[.int .u8 0, .int .i16 0, .int .i64 0, .int .i64 0, .int .i64 0, .slice none 0 0] 68)) (w.heap.size + 1) 68 #[.int .u8 0, .int .i16 0, .int .i64 0, .int .i64 0, .int .i64 0, .slice none 0 0] := by
    have := Blk.new (w.alloc (.cells #[.int .u8 k1, .int .i16 y1, .int .i16 d] 45)) 68 #[.int .u8 0, .int .i16 0, .int .i64 0, .int .i64 0, .int .i64 0, .slice none 0 0]
    simpa using this
  have h3 : Blk ((w.alloc (.cells #[.int .u8 k1, .int .i16 y1, .int .i16 d] 45)).alloc (.cells #[.int .u8 0, .int .i16 0, .int .i64 0, .int .i64 0, .int .i64 0, .slice none 0 0] 68)) w.heap.size 45 #[.int .u8 k1, .int .i16 y1, .int .i16 d] := (Blk.new w _ _).alloc _
  obtain ⟨W0, hW0⟩ : ∃ W0, (w.alloc (.cells #[.int .u8 k1, .int .i16 y1, .int .i16 d] 45)).alloc (.cells #[.int .u8 0, .int .i16 0, .int .i64 0, .int .i64 0, .int .i64 0, .slice none 0 0] 68) = W0 := ⟨_, rfl⟩
  rw [hW0] at h1 h2 h3
  have H1 := Lib.hid h1
  have H2 := Lib.hid h2
  have b0 : W0.cell? ⟨w.heap.size, 0, none⟩ = some (.int .u8 k1) := h3.cell 0
  have b1 : W0.cell? ⟨w.heap.size, 1, none⟩ = some (.int .i16 y1) := h3.cell 1
  have b2 : W0.cell? ⟨w.heap.size, 2, none⟩ = some (.int .i16 d) := h3.cell 2
  clear h1 h2 h3
  go_enter Tryd.func49, Tryd.ntmps49
  go_wp2_with fail
  clear hW0
  refine (frontsIn_any xss ((k1, y1), d) HWX.out g c gs W0 hl H6.out (HR.out.keep H2.out)).mono ?_
  rintro e w2 ⟨A', c', ss, rfl, hRd, hC, hS, hb⟩
  have HRd := Lib.hid hRd
  have HS := Lib.hid hS
  have HBw := Lib.hid hb
  have HB2 : Hid (Below w.heap.size w w2) := H2.out.trans (hb.mono H2.out.size)
  have HK2 := Lib.hid (H1.out.keep hb)
  have hlk := bl_link H6.out xss.length (Nat.le_refl _) ss hC
  have hsl : ss.length ≤ 8 := by have := frT_le xss ((k1, y1), d) xss.length; rw [← hC] at this; simp at this; omega
  clear hRd hS hb hC b0 b1 b2
  have hq1 : Below w2.heap.size w2 (w2.alloc (.cells #[.func (.func 35) #[] #[], .func (.func 75) #[] #[]] 102)) := (Below.refl _ w2).alloc (Nat.le_refl _) _
  have hq2 : Blk (w2.alloc (.cells #[.func (.func 35) #[] #[], .func (.func 75) #[] #[]] 102)) w2.heap.size 102 #[.func (.func 35) #[] #[], .func (.func 75) #[] #[]] := Blk.new w2 _ _
  rcases hlk with ⟨hn, hT⟩ | ⟨m, tl, hn, hT⟩
  · subst hn
    have hT' : bst xss d xss.length = none := hT
    have HT := Lib.hid hT'
    clear hT hT'
    go_wp2_with fail
    refine (firstLeast_nil A' c' _ ad _ ((HE.out.below HB2.out (Nat.le_refl _)).below hq1 (by have := HB2.out.size; omega))).mono ?_
    rintro e w5 ⟨rfl, hb⟩
    have HB5 : Hid (Below w.heap.size w w5) := (HB2.out.trans (hq1.mono HB2.out.size)).trans (hb.mono (HB2.out.trans (hq1.mono HB2.out.size)).size)
    have hK5 := (HK2.out.keep hq1).keep hb
    have z0 : w5.cell? ⟨w.heap.size + 1, 0, none⟩ = some (.int .u8 0) := hK5.cell 0
    have f0 : w5.frozen? ⟨w.heap.size + 1, 0, none⟩ = false := hK5.frozen 0
    have z1 : w5.cell? ⟨w.heap.size + 1, 1, none⟩ = some (.int .i16 0) := hK5.cell 1
    have f1 : w5.frozen? ⟨w.heap.size + 1, 1, none⟩ = false := hK5.frozen 1
    have z2 : w5.cell? ⟨w.heap.size + 1, 2, none⟩ = some (.int .i64 0) := hK5.cell 2
    have f2 : w5.frozen? ⟨w.heap.size + 1, 2, none⟩ = false := hK5.frozen 2
    have z3 : w5.cell? ⟨w.heap.size + 1, 3, none⟩ = some (.int .i64 0) := hK5.cell 3
    have f3 : w5.frozen? ⟨w.heap.size + 1, 3, none⟩ = false := hK5.frozen 3
    have z4 : w5.cell? ⟨w.heap.size + 1, 4, none⟩ = some (.int .i64 0) := hK5.cell 4
    have f4 : w5.frozen? ⟨w.heap.size + 1, 4, none⟩ = false := hK5.frozen 4
    have z5 : w5.cell? ⟨w.heap.size + 1, 5, none⟩ = some (.slice none 0 0) := hK5.cell 5
    have f5 : w5.frozen? ⟨w.heap.size + 1, 5, none⟩ = false := hK5.frozen 5
    clear hb hK5 hq1 hq2
    go_wp2
    refine bodyPost_ret (v := .tuple #[.agg #[.int .u8 0, .int .i16 0, .int .i64 0, .int .i64 0, .int .i64 0, .slice none 0 0], .iface 135 (.pointer (some (ad 4)))]) (by simp [results, Tryd.results49, go_sem, *]) rfl ?_
    exact ⟨_, _, _, _, _, _, _, by (rw [HT.out]; rfl), ((((((HB5.out.setCell (p := ⟨w.heap.size + 1, 0, none⟩) (by show w.heap.size ≤ w.heap.size + 1; omega) _).setCell (p := ⟨w.heap.size + 1, 1, none⟩) (by show w.heap.size ≤ w.heap.size + 1; omega) _).setCell (p := ⟨w.heap.size + 1, 2, none⟩) (by show w.heap.size ≤ w.heap.size + 1; omega) _).setCell (p := ⟨w.heap.size + 1, 3, none⟩) (by show w.heap.size ≤ w.heap.size + 1; omega) _).setCell (p := ⟨w.heap.size + 1, 4, none⟩) (by show w.heap.size ≤ w.heap.size + 1; omega) _).setCell (p := ⟨w.heap.size + 1, 5, none⟩) (by show w.heap.size ≤ w.heap.size + 1; omega) _)⟩
  · have hT' : bst xss d xss.length = some ((minL (blF xss) m tl).1.2.1, bC xss (minL (blF xss) m tl).1, (minL (blF xss) m tl).1.2.2) := hT
    clear hT
    obtain ⟨n, hnn⟩ : ∃ n : Nat, ss.length = n := ⟨_, rfl⟩
    have HFL : Hid (∀ w', Below (w2.alloc (.cells #[.func (.func 35) #[] #[], .func (.func 75) #[] #[]] 102)).heap.size (w2.alloc (.cells #[.func (.func 35) #[] #[], .func (.func 75) #[] #[]] 102)) w' → Calls Tryd.prog 65 #[.slice A' n c', .slice (some ⟨w2.heap.size, 0, none⟩) 2 2] w' fun e w'' => e = .returned (.tuple #[.agg (spcells (minL (blF xss) m tl)).toArray, .nilIface]) ∧ Below w'.heap.size w' w'') := fun w' hb => by
      have hlt : w2.heap.size < w'.heap.size := Nat.lt_of_lt_of_le hq2.lt hb.size
      have hbw : Below w2.heap.size w2 w' := hq1.trans (hb.mono hq1.size)
      have hbW : Below W0.heap.size W0 w' := HBw.out.trans (hbw.mono HBw.out.size)
      have := firstLeast_cons (blF xss) w2.heap.size 2 m tl A' c' w' (by show 2 ≤ 1000; omega) (by rw [← hn]; omega) hlt (fun j f hf => by
        match j, hf with
        | 0, hf => cases hf; exact (hq2.keep hb).cell 0
        | 1, hf => cases hf; exact (hq2.keep hb).cell 1
        | j + 2, hf => simp [blF] at hf) (fun s hs => bl_tells HW.out ((HS.out s (by rw [hn]; exact hs)).keep hbW)) (bl_enters xss) (by rw [← hn]; exact HRd.out.keep hbw)
      rw [← hn, hnn] at this
      exact this
    rw [hnn]
    obtain ⟨⟨⟨⟨⟨k2, y2⟩, d2⟩, l2, i2⟩, a2, n2, c2⟩, hm⟩ : ∃ p, minL (blF xss) m tl = p := ⟨_, rfl⟩
    rw [hm] at HFL hT'
    have HT := Lib.hid hT'
    clear hT' hm hnn hn hsl
    go_wp2_with fail
    refine (HFL.out _ (Below.refl _ _)).mono ?_
    rintro e w5 ⟨he, hb⟩
    have he2 : e = .returned (.tuple #[.agg #[.int .u8 k2, .int .i16 y2, .int .i64 d2, .int .i64 l2, .int .i64 i2, .slice a2 n2 c2], .nilIface]) := he
    subst he2
    have HB5 : Hid (Below w.heap.size w w5) := (HB2.out.trans (hq1.mono HB2.out.size)).trans (hb.mono (HB2.out.trans (hq1.mono HB2.out.size)).size)
    have hK5 := (HK2.out.keep hq1).keep hb
    have z0 : w5.cell? ⟨w.heap.size + 1, 0, none⟩ = some (.int .u8 0) := hK5.cell 0
    have f0 : w5.frozen? ⟨w.heap.size + 1, 0, none⟩ = false := hK5.frozen 0
    have z1 : w5.cell? ⟨w.heap.size + 1, 1, none⟩ = some (.int .i16 0) := hK5.cell 1
    have f1 : w5.frozen? ⟨w.heap.size + 1, 1, none⟩ = false := hK5.frozen 1
    have z2 : w5.cell? ⟨w.heap.size + 1, 2, none⟩ = some (.int .i64 0) := hK5.cell 2
    have f2 : w5.frozen? ⟨w.heap.size + 1, 2, none⟩ = false := hK5.frozen 2
    have z3 : w5.cell? ⟨w.heap.size + 1, 3, none⟩ = some (.int .i64 0) := hK5.cell 3
    have f3 : w5.frozen? ⟨w.heap.size + 1, 3, none⟩ = false := hK5.frozen 3
    have z4 : w5.cell? ⟨w.heap.size + 1, 4, none⟩ = some (.int .i64 0) := hK5.cell 4
    have f4 : w5.frozen? ⟨w.heap.size + 1, 4, none⟩ = false := hK5.frozen 4
    have z5 : w5.cell? ⟨w.heap.size + 1, 5, none⟩ = some (.slice none 0 0) := hK5.cell 5
    have f5 : w5.frozen? ⟨w.heap.size + 1, 5, none⟩ = false := hK5.frozen 5
    clear hb hK5 hq1 hq2 HFL
    go_wp2
    refine bodyPost_ret (v := .tuple #[.agg #[.int .u8 k2, .int .i16 y2, .int .i64 d2, .int .i64 l2, .int .i64 i2, .slice a2 n2 c2], .nilIface]) (by simp [results, Tryd.results49, go_sem, *]) rfl ?_
    exact ⟨_, _, _, _, _, _, _, by (rw [HT.out]; rfl), ((((((HB5.out.setCell (p := ⟨w.heap.size + 1, 0, none⟩) (by show w.heap.size ≤ w.heap.size + 1; omega) _).setCell (p := ⟨w.heap.size + 1, 1, none⟩) (by show w.heap.size ≤ w.heap.size + 1; omega) _).setCell (p := ⟨w.heap.size + 1, 2, none⟩) (by show w.heap.size ≤ w.heap.size + 1; omega) _).setCell (p := ⟨w.heap.size + 1, 3, none⟩) (by show w.heap.size ≤ w.heap.size + 1; omega) _).setCell (p := ⟨w.heap.size + 1, 4, none⟩) (by show w.heap.size ≤ w.heap.size + 1; omega) _).setCell (p := ⟨w.heap.size + 1, 5, none⟩) (by show w.heap.size ≤ w.heap.size + 1; omega) _)⟩
end Go.Proofs.YtceinefoljcgkaaDoor
