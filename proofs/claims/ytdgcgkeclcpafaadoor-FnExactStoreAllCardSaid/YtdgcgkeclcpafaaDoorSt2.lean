/-
  The contracts of StoreAt, of the model and of the program. Condition: the rack reads as lists of things that are stored, whose numbers fit their kinds, not more than 1048576; the sentinel errors lie as the row lists them (the program's).
-/
import Derived.Test.YtdgcgkeclcpafaaDoorSt1
import Derived.Test.YtdgcgkeclcpafaaDoorAh
import Derived.Test.YtdgcgkeclcpafaaDoorFn
namespace Go.Proofs.YtdgcgkeclcpafaaDoor
open Go.ChangeShapes Go.WideShapes Go.ChangeAt Go.RowKit Go.Deep

/-- The code of StoreAt; the rack that it answers. -/
def stC (xss : List (List Wnt)) (l : Int) (x : Wnt) : Int := if (rkOk xss && sV x) = true then (if inB l xss.length = true then (if (lnAt xss l).length = 6 then 3 else 0) else 2) else 1
def stL (xss : List (List Wnt)) (l : Int) (x : Wnt) : List (List Wnt) := if stC xss l x = 0 then xss.set l.toNat (lnAt xss l ++ [x]) else []
theorem stL_no {xss : List (List Wnt)} {l : Int} {x : Wnt} (h : stC xss l x ≠ 0) : stL xss l x = [] := by rw [stL, if_neg h]
theorem stL_yes {xss : List (List Wnt)} {k : Nat} {x : Wnt} (h : stC xss k x = 0) : stL xss k x = xss.set k (lnAt xss k ++ [x]) := by rw [stL, if_pos h]; rfl
theorem rdN_nil {T : Type} (w : World) (B : Nat) (cells : T → List Value) (A : Option Addr) : RdN w B cells A ([] : List (List T)) := ⟨[], rfl, fun h => absurd h (by simp), fun i h xs h1 => by simp at h1⟩
theorem wcells_range {w : World} {B : Nat} {t : TypeId} {k1 y1 n1 : Int} (h : Blk w B t #[.int .u8 k1, .int .i16 y1, .int .i16 n1]) : w.rangeAt B 0 (wcells ((k1, y1), n1)) := fun j v hv => by
  rw [Nat.zero_add, h.cell]; simpa [wcells] using hv

/-- What is stored, checked as a list of one. -/
theorem checkStored1_any (x : Wnt) (B c : Nat) (ad : Nat → Addr) (w : World) (hB : B < w.heap.size) (hr : w.rangeAt B 0 (wcells x)) (hE : I5 w ad) :
    Calls Tryd.prog 45 #[.slice (some ⟨B, 0, none⟩) 1 c] w fun e w' => e = .returned (erV ad 5 (sV x)) ∧ Below w.heap.size w w' := by
  have hrd : Rd w w.heap.size wcells (some ⟨B, 0, none⟩) [x] := fun _ => ⟨B, 0, rfl, hB, by simpa using hr⟩
  have HR := Lib.hid hrd
  have HE := Lib.hid hE
  clear hr hE hrd
  go_enter Tryd.func45, Tryd.ntmps45
  go_wp2_with fail
  refine (checkEachS_any [x] _ c ad w (by simp) HR.out HE.out).mono ?_
  rintro e w1 ⟨rfl, hb⟩
  have HB1 := Lib.hid hb
  clear hb
  obtain ⟨v, hv⟩ : ∃ v, erV ad 5 ([x].all sV) = v := ⟨_, rfl⟩
  have HV := Lib.hid hv
  rw [hv]
  clear hv
  go_wp2
  go_ret
  exact ⟨by (rw [← HV.out]; simp), HB1.out⟩
theorem three_cells' (W : World) (t : TypeId) (k y n : Int) : (W.alloc (.cells #[.int .u8 k, .int .i16 y, .int .i16 n] t)).rangeAt W.heap.size 0 (wcells ((k, y), n)) := fun j v hv => by
  rw [Nat.zero_add, (Blk.new W t #[.int .u8 k, .int .i16 y, .int .i16 n]).cell]; simpa [wcells] using hv

end Go.Proofs.YtdgcgkeclcpafaaDoor
