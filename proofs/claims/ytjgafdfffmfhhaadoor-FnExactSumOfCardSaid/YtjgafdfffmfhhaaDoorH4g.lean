/-
  FnExactSumOf: for all arguments the law returns true, and they read as before. No condition but that the sentinel errors hold what the program's text lays (tied).
-/
import Derived.Test.YtjgafdfffmfhhaaDoorCards
import Derived.Test.YtjgafdfffmfhhaaDoorTie
import Derived.Test.YtjgafdfffmfhhaaDoorG
import Derived.Test.YtjgafdfffmfhhaaDoorSu
import Derived.Test.YtjgafdfffmfhhaaDoorGk
import Derived.SevenTiedAt
namespace Go.Proofs.YtjgafdfffmfhhaaDoor
open Go.ChangeShapes Go.WideShapes Go.ChangeAt Go.RowKit Go.Deep

set_option maxRecDepth 100000 in
set_option maxHeartbeats 4000000 in
theorem suLaw_any (l : List Hol) (A : Option Addr) (c : Nat) (ad : Nat → Addr) (w : World) (hl0 : l.length ≤ 9223372036854775807) (hr0 : Rd w w.heap.size hcells A l) (hw0 : ∀ x ∈ l, wfH x) (hE : EW 7 w ad) :
    Calls Tryd.prog 3 #[.slice A l.length c] w (Good w) := by
  have HR0 := Lib.hid hr0
  have HW0 := Lib.hid hw0
  have HE := Lib.hid hE
  clear hE
  clear hr0 hw0
  go_enter Tryd.func3, Tryd.ntmps3
  go_wp2_with fail
  refine (szHoldingS_any A l.length c (1048576) hl0 ⟨by omega, by omega⟩ _).mono ?_
  rintro e w' ⟨rfl, rfl⟩
  by_cases hn0 : (1048576 : Int) < l.length
  · rw [if_pos hn0]
    go_wp2
    go_ret
    exact ⟨rfl, (Below.refl _ _)⟩
  rw [if_neg hn0]
  have hz0 : (0 : Int) ≤ 1048576 - l.length := by omega
  have hm0 : l.length ≤ 1048576 := by omega
  have HB_0 : Hid (Below w.heap.size w w) := Below.refl _ _
  go_wp2_with fail
  refine (toHoldingS_any l A c _ hm0 (HR0.out.keep HB_0.out)).mono ?_
  rintro e w1 ⟨rfl, hR, hb⟩
  have HB_1 : Hid (Below w.heap.size w w1) := HB_0.out.trans (hb.mono HB_0.out.size)
  clear hb HB_0
  have Y0_1 : Hid (Rs w1 w.heap.size 25 hcells l) := hR
  clear hR
  go_wp2_with fail
  refine (specSumOf_any l _ _ _ hm0 (Y0_1.out.rd Y0_1.out.lt)).mono ?_
  rintro e w2 ⟨rfl, hb⟩
  clear Y0_1
  have HB_2 : Hid (Below w.heap.size w w2) := HB_1.out.trans (hb.mono HB_1.out.size)
  clear hb HB_1
  obtain ⟨cd0, hcd0⟩ : ∃ c, hoC l = c := ⟨_, rfl⟩
  have HCD0 := Lib.hid hcd0
  clear hcd0
  rw [HCD0.out]
  obtain ⟨⟨q0, q1, q2, q3, q4⟩, hq⟩ : ∃ s, suL l = s := ⟨_, rfl⟩
  have HQ := Lib.hid hq
  clear hq
  rw [HQ.out]
  rw [show (hcells ⟨q0, q1, q2, q3, q4⟩).toArray = #[.int .i64 q0, .int .i64 q1, .int .i64 q2, .int .i64 q3, .int .i64 q4] from rfl]
  have hb : Below w2.heap.size w2 (w2.alloc (.cells #[.int .i64 q0, .int .i64 q1, .int .i64 q2, .int .i64 q3, .int .i64 q4] 25)) := (Below.refl _ _).alloc (Nat.le_refl _) _
  go_wp2_with fail
  obtain ⟨VKW, hVKW⟩ : ∃ V, (w2.alloc (.cells #[.int .i64 q0, .int .i64 q1, .int .i64 q2, .int .i64 q3, .int .i64 q4] 25)) = V := ⟨_, rfl⟩
  have hkk : Blk (w2.alloc (.cells #[.int .i64 q0, .int .i64 q1, .int .i64 q2, .int .i64 q3, .int .i64 q4] 25)) w2.heap.size 25 #[.int .i64 q0, .int .i64 q1, .int .i64 q2, .int .i64 q3, .int .i64 q4] := Blk.new w2 _ _
  rw [hVKW] at hb hkk ⊢
  clear hVKW
  have HB_3 : Hid (Below w.heap.size w VKW) := HB_2.out.trans (hb.mono HB_2.out.size)
  clear hb HB_2
  have KW_3 : Hid (Blk VKW w2.heap.size 25 #[.int .i64 q0, .int .i64 q1, .int .i64 q2, .int .i64 q3, .int .i64 q4]) := hkk
  clear hkk
  go_wp2_with fail
  refine (toHoldingS_any l A c _ hm0 (HR0.out.keep HB_3.out)).mono ?_
  rintro e w3 ⟨rfl, hR, hb⟩
  have LE0 : Hid (w.heap.size ≤ VKW.heap.size) := HB_3.out.size
  have LE1 : Hid (w2.heap.size < VKW.heap.size) := KW_3.out.lt
  have HB_4 : Hid (Below w.heap.size w w3) := HB_3.out.trans (hb.mono HB_3.out.size)
  have KW_4 : Hid (Blk w3 w2.heap.size 25 #[.int .i64 q0, .int .i64 q1, .int .i64 q2, .int .i64 q3, .int .i64 q4]) := Blk.keep KW_3.out hb
  clear hb HB_3 KW_3
  have X0_4 : Hid (Rs w3 VKW.heap.size 25 hcells l) := hR
  clear hR
  go_wp2_with fail
  refine (implSumOf_any l HW0.out _ _ ad _ hm0 (X0_4.out.rd X0_4.out.lt) (HE.out.below HB_4.out (Nat.le_refl _))).mono ?_
  rintro e w4 ⟨rfl, hb⟩
  have HB_5 : Hid (Below w.heap.size w w4) := HB_4.out.trans (hb.mono HB_4.out.size)
  have KW_5 : Hid (Blk w4 w2.heap.size 25 #[.int .i64 q0, .int .i64 q1, .int .i64 q2, .int .i64 q3, .int .i64 q4]) := Blk.keep KW_4.out hb
  have X0_5 : Hid (Rs w4 VKW.heap.size 25 hcells l) := Blk.keep X0_4.out hb
  clear hb HB_4 KW_4 X0_4
  rw [HCD0.out]
  rw [HQ.out]
  rw [show (hcells ⟨q0, q1, q2, q3, q4⟩).toArray = #[.int .i64 q0, .int .i64 q1, .int .i64 q2, .int .i64 q3, .int .i64 q4] from rfl]
  have hb : Below w4.heap.size w4 (w4.alloc (.cells #[.int .i64 q0, .int .i64 q1, .int .i64 q2, .int .i64 q3, .int .i64 q4] 25)) := (Below.refl _ _).alloc (Nat.le_refl _) _
  have v0 : (w4.alloc (.cells #[.int .i64 q0, .int .i64 q1, .int .i64 q2, .int .i64 q3, .int .i64 q4] 25)).cell? ⟨w2.heap.size, 0, none⟩ = some (.int .i64 q0) := (Blk.keep KW_5.out hb).cell 0
  have v1 : (w4.alloc (.cells #[.int .i64 q0, .int .i64 q1, .int .i64 q2, .int .i64 q3, .int .i64 q4] 25)).cell? ⟨w2.heap.size, 1, none⟩ = some (.int .i64 q1) := (Blk.keep KW_5.out hb).cell 1
  have v2 : (w4.alloc (.cells #[.int .i64 q0, .int .i64 q1, .int .i64 q2, .int .i64 q3, .int .i64 q4] 25)).cell? ⟨w2.heap.size, 2, none⟩ = some (.int .i64 q2) := (Blk.keep KW_5.out hb).cell 2
  have v3 : (w4.alloc (.cells #[.int .i64 q0, .int .i64 q1, .int .i64 q2, .int .i64 q3, .int .i64 q4] 25)).cell? ⟨w2.heap.size, 3, none⟩ = some (.int .i64 q3) := (Blk.keep KW_5.out hb).cell 3
  have v4 : (w4.alloc (.cells #[.int .i64 q0, .int .i64 q1, .int .i64 q2, .int .i64 q3, .int .i64 q4] 25)).cell? ⟨w2.heap.size, 4, none⟩ = some (.int .i64 q4) := (Blk.keep KW_5.out hb).cell 4
  go_wp2_with fail
  obtain ⟨VKG, hVKG⟩ : ∃ V, (w4.alloc (.cells #[.int .i64 q0, .int .i64 q1, .int .i64 q2, .int .i64 q3, .int .i64 q4] 25)) = V := ⟨_, rfl⟩
  have hkk : Blk (w4.alloc (.cells #[.int .i64 q0, .int .i64 q1, .int .i64 q2, .int .i64 q3, .int .i64 q4] 25)) w4.heap.size 25 #[.int .i64 q0, .int .i64 q1, .int .i64 q2, .int .i64 q3, .int .i64 q4] := Blk.new w4 _ _
  rw [hVKG] at hb hkk ⊢
  clear v0 v1 v2 v3 v4
  clear hVKG
  have HB_6 : Hid (Below w.heap.size w VKG) := HB_5.out.trans (hb.mono HB_5.out.size)
  have KW_6 : Hid (Blk VKG w2.heap.size 25 #[.int .i64 q0, .int .i64 q1, .int .i64 q2, .int .i64 q3, .int .i64 q4]) := Blk.keep KW_5.out hb
  have X0_6 : Hid (Rs VKG VKW.heap.size 25 hcells l) := Blk.keep X0_5.out hb
  clear hb HB_5 KW_5 X0_5
  have KG_6 : Hid (Blk VKG w4.heap.size 25 #[.int .i64 q0, .int .i64 q1, .int .i64 q2, .int .i64 q3, .int .i64 q4]) := hkk
  clear hkk
  skip
  refine (eqHolding_same ⟨q0, q1, q2, q3, q4⟩ _).mono ?_
  rintro e w5 ⟨rfl, hb⟩
  have HB_7 : Hid (Below w.heap.size w w5) := HB_6.out.trans (hb.mono HB_6.out.size)
  have KW_7 : Hid (Blk w5 w2.heap.size 25 #[.int .i64 q0, .int .i64 q1, .int .i64 q2, .int .i64 q3, .int .i64 q4]) := Blk.keep KW_6.out hb
  have X0_7 : Hid (Rs w5 VKW.heap.size 25 hcells l) := Blk.keep X0_6.out hb
  have KG_7 : Hid (Blk w5 w4.heap.size 25 #[.int .i64 q0, .int .i64 q1, .int .i64 q2, .int .i64 q3, .int .i64 q4]) := Blk.keep KG_6.out hb
  clear hb HB_6 KW_6 X0_6 KG_6
  go_wp2_with fail
  refine (toHoldingS_any l A c _ hm0 (HR0.out.keep HB_7.out)).mono ?_
  rintro e w6 ⟨rfl, hR, hb⟩
  have HB_8 : Hid (Below w.heap.size w w6) := HB_7.out.trans (hb.mono HB_7.out.size)
  have KW_8 : Hid (Blk w6 w2.heap.size 25 #[.int .i64 q0, .int .i64 q1, .int .i64 q2, .int .i64 q3, .int .i64 q4]) := Blk.keep KW_7.out hb
  have X0_8 : Hid (Rs w6 VKW.heap.size 25 hcells l) := Blk.keep X0_7.out hb
  have KG_8 : Hid (Blk w6 w4.heap.size 25 #[.int .i64 q0, .int .i64 q1, .int .i64 q2, .int .i64 q3, .int .i64 q4]) := Blk.keep KG_7.out hb
  clear hb HB_7 KW_7 X0_7 KG_7
  have Z0_8 : Hid (Rs w6 w5.heap.size 25 hcells l) := hR
  clear hR
  go_wp2_with fail
  refine (eqHoldingS_same l _ _ _ _ _ (by omega) (X0_8.out.rd X0_8.out.lt) (Z0_8.out.rd Z0_8.out.lt)).mono ?_
  rintro e w7 ⟨rfl, hb⟩
  clear Z0_8
  have HB_9 : Hid (Below w.heap.size w w7) := HB_8.out.trans (hb.mono HB_8.out.size)
  have KW_9 : Hid (Blk w7 w2.heap.size 25 #[.int .i64 q0, .int .i64 q1, .int .i64 q2, .int .i64 q3, .int .i64 q4]) := Blk.keep KW_8.out hb
  have X0_9 : Hid (Rs w7 VKW.heap.size 25 hcells l) := Blk.keep X0_8.out hb
  have KG_9 : Hid (Blk w7 w4.heap.size 25 #[.int .i64 q0, .int .i64 q1, .int .i64 q2, .int .i64 q3, .int .i64 q4]) := Blk.keep KG_8.out hb
  clear hb HB_8 KW_8 X0_8 KG_8
  go_wp2
  go_ret
  exact ⟨rfl, HB_9.out⟩
end Go.Proofs.YtjgafdfffmfhhaaDoor
