/-
  FnExactUsefulIn: for every crate and every order the law returns true, and its arguments read as before. No condition but that the sentinel errors hold what the program's text lays (tied).
-/
import Derived.Test.YtpjmkcgofmfdaaaDoorCards
import Derived.Test.YtpjmkcgofmfdaaaDoorTie
import Derived.Test.YtpjmkcgofmfdaaaDoorG
import Derived.Test.YtpjmkcgofmfdaaaDoorLr
import Derived.SevenTiedAt
namespace Go.Proofs.YtpjmkcgofmfdaaaDoor
open Go.ChangeShapes Go.WideShapes Go.ChangeAt Go.RowKit Go.Deep

set_option maxRecDepth 100000 in
set_option maxHeartbeats 4000000 in
theorem uiLaw_any (x : Crt) (ord : List Wnt) (hwo : ∀ y ∈ ord, wfW y) (A : Option Addr) (c : Nat) (ad : Nat → Addr) (w : World) (hl : ord.length ≤ 9223372036854775807) (hr : Rd w w.heap.size wcells A ord) (hE : EW 7 w ad) :
    Calls Tryd.prog 5 #[.agg (ccells x.1).toArray, .slice A ord.length c] w (Good w) := by
  have HX := Lib.hid hwo
  have HR := Lib.hid hr
  have HE := Lib.hid hE
  clear hwo hE hr
  have h1 : CBlk (w.alloc (.cells (ccells x.1).toArray 42)) w.heap.size 42 x.1 := CBlk.new w 42 x.1
  have h3 : Below w.heap.size w (w.alloc (.cells (ccells x.1).toArray 42)) := (Below.refl _ w).alloc (Nat.le_refl _) _
  obtain ⟨W0, hW0⟩ : ∃ W0, w.alloc (.cells (ccells x.1).toArray 42) = W0 := ⟨_, rfl⟩
  rw [hW0] at h1 h3
  have HL0 := Lib.hid h1
  have HB0 := Lib.hid h3
  clear h1 h3
  go_enter Tryd.func5, Tryd.ntmps5
  go_wp2_with fail
  clear hW0
  refine (szWantS_any A ord.length c 1048576 hl ⟨by omega, by omega⟩ _).mono ?_
  rintro e w' ⟨rfl, rfl⟩
  by_cases hn : (1048576 : Int) < ord.length
  · rw [if_pos hn]
    go_wp2
    go_ret
    exact ⟨rfl, HB0.out⟩
  rw [if_neg hn]
  have hn0 : (0 : Int) ≤ 1048576 - ord.length := by omega
  have hl2 : ord.length ≤ 1048576 := by omega
  obtain ⟨un, hun⟩ : ∃ b, uiN x ord = b := ⟨_, rfl⟩
  obtain ⟨cd, hcd⟩ : ∃ c, uiC x ord = c := ⟨_, rfl⟩
  have HS : Hid (∀ A c w, Rd w w.heap.size wcells A ord → Calls Tryd.prog 21 #[.agg (ccells x.1).toArray, .slice A ord.length c] w fun e w' => e = .returned (.tuple #[.int .i64 un, .int .i64 cd]) ∧ Below w.heap.size w w') := by
    have := fun A c w hr => specUseful_any x ord HX.out A c w hl2 hr
    rw [hun, hcd] at this; exact this
  have HI : Hid (∀ A c w, Rd w w.heap.size wcells A ord → EW 7 w ad → Calls Tryd.prog 23 #[.agg (ccells x.1).toArray, .slice A ord.length c] w fun e w' => e = .returned (.tuple #[.int .i64 un, .int .i64 cd]) ∧ Below w.heap.size w w') := by
    have := fun A c w hr hE => implUseful_any x ord HX.out A c ad w hl2 hr hE
    rw [hun, hcd] at this; exact this
  clear hun hcd
  go_wp2_with (refine wpList_load_row rfl 42 (.tmp 2) rfl w.heap.size rfl 42 _ (0, 0) _ HL0.out Tryd.underlying42 rfl (size_of_crate Tryd.sizeLc _ x.2.1) ?_)
  refine (toCrate_any x.1 x.2.1 _).mono ?_
  rintro e w1 ⟨rfl, hb⟩
  have HB1 : Hid (Below w.heap.size w w1) := HB0.out.trans (hb.mono HB0.out.size)
  have HL1 : Hid (CBlk w1 w.heap.size 42 x.1) := HL0.out.below hb HL0.out.lt
  clear hb
  clear HB0
  clear HL0
  go_wp2_with fail
  refine (toWantS_any ord A c _ hl2 (HR.out.keep (HB1.out))).mono ?_
  rintro e w2 ⟨rfl, hR, hb⟩
  have HB2 : Hid (Below w.heap.size w w2) := HB1.out.trans (hb.mono HB1.out.size)
  have HL2 : Hid (CBlk w2 w.heap.size 42 x.1) := HL1.out.below hb HL1.out.lt
  clear hb
  clear HB1
  clear HL1
  go_wp2_with fail
  refine (HS.out _ _ _ (hR.rd hR.lt)).mono ?_
  rintro e w3 ⟨rfl, hb⟩
  have HB3 : Hid (Below w.heap.size w w3) := HB2.out.trans (hb.mono HB2.out.size)
  have HL3 : Hid (CBlk w3 w.heap.size 42 x.1) := HL2.out.below hb HL2.out.lt
  clear hb
  clear HB2
  clear HL2
  clear hR
  go_wp2_with fail
  refine (toWantS_any ord A c _ hl2 (HR.out.keep (HB3.out))).mono ?_
  rintro e w4 ⟨rfl, hR, hb⟩
  have HB4 : Hid (Below w.heap.size w w4) := HB3.out.trans (hb.mono HB3.out.size)
  have HL4 : Hid (CBlk w4 w.heap.size 42 x.1) := HL3.out.below hb HL3.out.lt
  clear hb
  clear HB3
  clear HL3
  have HS4 := Lib.hid hR
  clear hR
  go_wp2_with (refine wpList_load_row rfl 42 (.tmp 2) rfl w.heap.size rfl 42 _ (0, 0) _ HL4.out Tryd.underlying42 rfl (size_of_crate Tryd.sizeLc _ x.2.1) ?_)
  refine (toCrate_any x.1 x.2.1 _).mono ?_
  rintro e w5 ⟨rfl, hb⟩
  have HB5 : Hid (Below w.heap.size w w5) := HB4.out.trans (hb.mono HB4.out.size)
  have HL5 : Hid (CBlk w5 w.heap.size 42 x.1) := HL4.out.below hb HL4.out.lt
  have HS5 : Hid (Rs w5 w3.heap.size 61 wcells ord) := Blk.keep HS4.out hb
  clear hb
  clear HB4
  clear HL4
  clear HS4
  go_wp2_with fail
  refine (HI.out _ _ _ (HS5.out.rd HS5.out.lt) (HE.out.below (HB5.out) (Nat.le_refl _))).mono ?_
  rintro e w6 ⟨rfl, hb⟩
  have HB6 : Hid (Below w.heap.size w w6) := HB5.out.trans (hb.mono HB5.out.size)
  have HL6 : Hid (CBlk w6 w.heap.size 42 x.1) := HL5.out.below hb HL5.out.lt
  have HS6 : Hid (Rs w6 w3.heap.size 61 wcells ord) := Blk.keep HS5.out hb
  clear hb
  clear HB5
  clear HL5
  clear HS5
  go_wp2_with fail
  refine (toWantS_any ord A c _ hl2 (HR.out.keep (HB6.out))).mono ?_
  rintro e w7 ⟨rfl, hR, hb⟩
  have HB7 : Hid (Below w.heap.size w w7) := HB6.out.trans (hb.mono HB6.out.size)
  have HL7 : Hid (CBlk w7 w.heap.size 42 x.1) := HL6.out.below hb HL6.out.lt
  have HS7 : Hid (Rs w7 w3.heap.size 61 wcells ord) := Blk.keep HS6.out hb
  clear hb
  clear HB6
  clear HL6
  clear HS6
  have HT7 := Lib.hid hR
  clear hR
  go_wp2_with fail
  refine (eqWantS_same ord _ _ _ _ _ (by omega) (HS7.out.rd HS7.out.lt) (HT7.out.rd HT7.out.lt)).mono ?_
  rintro e w8 ⟨rfl, hb⟩
  have HB8 : Hid (Below w.heap.size w w8) := HB7.out.trans (hb.mono HB7.out.size)
  have HL8 : Hid (CBlk w8 w.heap.size 42 x.1) := HL7.out.below hb HL7.out.lt
  have HS8 : Hid (Rs w8 w3.heap.size 61 wcells ord) := Blk.keep HS7.out hb
  have HT8 : Hid (Rs w8 w6.heap.size 61 wcells ord) := Blk.keep HT7.out hb
  clear hb
  clear HB7
  clear HL7
  clear HS7
  clear HT7
  go_wp2
  go_ret
  exact ⟨rfl, HB8.out⟩
end Go.Proofs.YtpjmkcgofmfdaaaDoor
