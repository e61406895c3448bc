/-
  FnExactMostOf: for every crate the law returns true, and it reads as before. No condition but that the sentinel errors hold what the program's text lays (tied).
-/
import Derived.Test.YtcdhmlalpjcidaaDoorCards
import Derived.Test.YtcdhmlalpjcidaaDoorTie
import Derived.Test.YtcdhmlalpjcidaaDoorG
import Derived.Test.YtcdhmlalpjcidaaDoorCn5
import Derived.Test.YtcdhmlalpjcidaaDoorMg1
import Derived.SevenTiedAt
namespace Go.Proofs.YtcdhmlalpjcidaaDoor
open Go.ChangeShapes Go.WideShapes Go.ChangeAt Go.RowKit Go.Deep

theorem Tryd.sizeLcM : (Tryd.prog.info? 25).map (·.size) = some 24 := by kernel_rfl
set_option maxRecDepth 100000 in
set_option maxHeartbeats 4000000 in
theorem moLaw_gen (x : Crt) (k y n d : Int)
    (hS : ∀ w, Calls Tryd.prog 7 #[.agg (ccells x.1).toArray] w fun e w' => e = .returned (.tuple #[.agg #[.int .u8 k, .int .i16 y], .int .i64 n, .int .i64 d]) ∧ Below w.heap.size w w')
    (hI : ∀ ad w, EW 7 w ad → Calls Tryd.prog 9 #[.agg (ccells x.1).toArray] w fun e w' => e = .returned (.tuple #[.agg #[.int .u8 k, .int .i16 y], .int .i64 n, .int .i64 d]) ∧ Below w.heap.size w w')
    (ad : Nat → Addr) (w : World) (hE : EW 7 w ad) : Calls Tryd.prog 3 #[.agg (ccells x.1).toArray] w (Good w) := by
  have HE := Lib.hid hE
  have HS := Lib.hid hS
  have HI := Lib.hid hI
  clear hE hS hI
  have h1 : CBlk (w.alloc (.cells (ccells x.1).toArray 25)) w.heap.size 25 x.1 := CBlk.new w 25 x.1
  have h3 : Below w.heap.size w (w.alloc (.cells (ccells x.1).toArray 25)) := (Below.refl _ w).alloc (Nat.le_refl _) _
  obtain ⟨W0, hW0⟩ : ∃ u, w.alloc (.cells (ccells x.1).toArray 25) = u := ⟨_, rfl⟩
  rw [hW0] at h1 h3
  have H1 := Lib.hid h1
  have H3 := Lib.hid h3
  clear h1 h3
  go_enter Tryd.func3, Tryd.ntmps3
  go_wp2_with (refine wpList_load_row rfl 25 (.tmp 1) rfl w.heap.size rfl 25 _ (0, 0) _ H1.out Tryd.underlying25 rfl (size_of_crate Tryd.sizeLcM _ x.2.1) ?_)
  clear hW0
  refine (toCrate_any x.1 x.2.1 _).mono ?_
  rintro e w1 ⟨rfl, hb⟩
  have K1 : Hid (CBlk w1 w.heap.size 25 x.1) := H1.out.below hb H1.out.lt
  have K3 : Hid (Below w.heap.size w w1) := H3.out.trans (hb.mono H3.out.size)
  clear hb H1 H3
  go_wp2_with fail
  refine (HS.out _).mono ?_
  rintro e w2 ⟨rfl, hb⟩
  have L1 : Hid (CBlk w2 w.heap.size 25 x.1) := K1.out.below hb K1.out.lt
  have L3 : Hid (Below w.heap.size w w2) := K3.out.trans (hb.mono K3.out.size)
  clear hb K1 K3
  obtain ⟨W2, hW2⟩ : ∃ u, w2.alloc (.cells #[.int .u8 k, .int .i16 y] 26) = u := ⟨_, rfl⟩
  have m1 : CBlk W2 w.heap.size 25 x.1 := by rw [← hW2]; exact CBlk.alloc L1.out _
  have m2 : Blk W2 w2.heap.size 26 #[.int .u8 k, .int .i16 y] := by rw [← hW2]; exact Blk.new w2 _ _
  have m3 : Below w.heap.size w W2 := by rw [← hW2]; exact L3.out.alloc L3.out.size _
  have M1 := Lib.hid m1
  have M2 := Lib.hid m2
  have M3 := Lib.hid m3
  clear m1 m2 m3 L1 L3
  go_wp2_with (refine wpList_load_row rfl 25 (.tmp 1) rfl w.heap.size rfl 25 _ (0, 0) _ M1.out Tryd.underlying25 rfl (size_of_crate Tryd.sizeLcM _ x.2.1) ?_)
  clear hW2
  refine (toCrate_any x.1 x.2.1 _).mono ?_
  rintro e w3 ⟨rfl, hb⟩
  have N2 : Hid (Blk w3 w2.heap.size 26 #[.int .u8 k, .int .i16 y]) := M2.out.keep hb
  have N3 : Hid (Below w.heap.size w w3) := M3.out.trans (hb.mono M3.out.size)
  clear hb M1 M2 M3
  go_wp2_with fail
  refine (HI.out ad _ (HE.out.below N3.out (Nat.le_refl _))).mono ?_
  rintro e w4 ⟨rfl, hb⟩
  have O2 : Hid (Blk w4 w2.heap.size 26 #[.int .u8 k, .int .i16 y]) := N2.out.keep hb
  have O3 : Hid (Below w.heap.size w w4) := N3.out.trans (hb.mono N3.out.size)
  clear hb N2 N3
  obtain ⟨W4, hW4⟩ : ∃ u, w4.alloc (.cells #[.int .u8 k, .int .i16 y] 26) = u := ⟨_, rfl⟩
  have p2 : Blk W4 w2.heap.size 26 #[.int .u8 k, .int .i16 y] := by rw [← hW4]; exact Blk.alloc O2.out _
  have p4 : Blk W4 w4.heap.size 26 #[.int .u8 k, .int .i16 y] := by rw [← hW4]; exact Blk.new w4 _ _
  have c0 : W4.cell? ⟨w2.heap.size, 0, none⟩ = some (.int .u8 k) := p2.cell 0
  have c1 : W4.cell? ⟨w2.heap.size, 1, none⟩ = some (.int .i16 y) := p2.cell 1
  have c2 : W4.cell? ⟨w4.heap.size, 0, none⟩ = some (.int .u8 k) := p4.cell 0
  have c3 : W4.cell? ⟨w4.heap.size, 1, none⟩ = some (.int .i16 y) := p4.cell 1
  have P3 : Hid (Below w.heap.size w W4) := by show Below _ _ _; rw [← hW4]; exact O3.out.alloc O3.out.size _
  clear p2 p4 O2 O3
  go_wp2_with fail
  refine (eqBottle_sameA k y _).mono ?_
  rintro e w5 ⟨rfl, hb⟩
  have P5 : Hid (Below w.heap.size w w5) := P3.out.trans (hb.mono P3.out.size)
  clear hb c0 c1 c2 c3 P3
  go_wp2
  go_ret
  exact ⟨rfl, P5.out⟩
theorem moLaw_any (x : Crt) (ad : Nat → Addr) (w : World) (hE : EW 7 w ad) : Calls Tryd.prog 3 #[.agg (ccells x.1).toArray] w (Good w) := by
  obtain ⟨C, hC⟩ := exC (allB x.1 12)
  have hC2 : IsC (mult x) C := hC
  have hS := specMost_any x C hC2
  have hI := fun ad w hE => implMost_any x C hC2 ad w hE
  obtain ⟨r, hr⟩ : ∃ r, moR x C = r := ⟨_, rfl⟩
  rw [hr] at hS hI
  obtain ⟨⟨⟨k, y⟩, n⟩, d⟩ := r
  exact moLaw_gen x k y n d hS hI ad w hE
end Go.Proofs.YtcdhmlalpjcidaaDoor
