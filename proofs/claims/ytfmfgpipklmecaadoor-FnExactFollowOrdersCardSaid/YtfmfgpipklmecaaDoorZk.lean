/-
  Pairs of numbers as keys of maps: what they read as. No condition but that the numbers fit their kind.
-/
import Derived.Test.YtfmfgpipklmecaaDoorMe
import Derived.WalkArith
import Derived.Test.YtfmfgpipklmecaaDoorTm
import Derived.Test.YtfmfgpipklmecaaDoorZm
namespace Go.Proofs.YtfmfgpipklmecaaDoor
open Go.ChangeShapes Go.WideShapes Go.ChangeAt Go.RowKit Go.Deep
open Go.WideMaps (KeyLaw)



def pqL (p : Pq) : List Lit := [.int .i64 p.1, .int .i64 p.2]

def kP (p : Pq) : Lit := .string (keyBytes (pqL p))

section
variable {P : Program}
theorem klits_pair {t e : TypeId} {d : Nat} (ht : P.underlying t = some (.array 2 e)) (hT : P.cellsOf t = 2) (he : P.underlying e = some (.int .i64)) (hC : P.cellsOf e = 1) (p : Pq) (hp : ok2 p) :
    P.keyLits (d + 2) t (pqc p) = some (pqL p) := by
  have w0 : (Lit.int .i64 p.1).wf = true := WalkArith.wf_i64 ⟨by have := hp.1; omega, by have := hp.1; omega⟩
  have w1 : (Lit.int .i64 p.2).wf = true := WalkArith.wf_i64 ⟨by have := hp.2; omega, by have := hp.2; omega⟩
  have hr : List.range 2 = [0, 1] := rfl
  simp [Program.keyLits, ht, he, hT, hC, hr, pqc, pqL, w0, w1]
end

theorem Tryd.tsizeP : ∃ d, Tryd.prog.types.size + 1 = d + 2 := ⟨Tryd.prog.types.size - 1, by have : 1 ≤ Tryd.prog.types.size := Nat.le_of_ble_eq_true (by kernel_rfl); omega⟩
theorem Tryd.ktP : Tryd.prog.keyType 68 = true := by kernel_rfl
theorem Tryd.lawP : KeyLaw Tryd.prog 68 := deep_law_laid Tryd.laidOut (m := 3) (by decide) (of_decide_eq_true (by kernel_rfl)) (by kernel_rfl) (by rw [Tryd.underlying68])
theorem Tryd.cellsP : Tryd.prog.cellsOf 68 = 2 := by kernel_rfl
theorem keyP (p : Pq) (hp : ok2 p) : keyOf Tryd.prog 68 (.agg #[.int .i64 p.1, .int .i64 p.2]) = some (kP p) := by
  unfold keyOf
  rw [Tryd.underlying68]
  have hf : Value.formed Tryd.prog 68 (.agg #[.int .i64 p.1, .int .i64 p.2]) = true := by
    unfold Value.formed
    rw [Tryd.underlying68]
    simp [Tryd.cellsP]
  simp only [Tryd.ktP, hf, Bool.and_self, if_true]
  obtain ⟨d, hd⟩ := Tryd.tsizeP
  have := klits_pair (P := Tryd.prog) (d := d) Tryd.underlying68 Tryd.cellsP Tryd.underlying2 (by kernel_rfl) p hp
  rw [hd]
  show ((Tryd.prog.keyLits (d + 2) 68 (pqc p)).map _) = _
  rw [this]; rfl
theorem kP_inj {a b : Pq} (ha : ok2 a) (hb : ok2 b) (h : kP a = kP b) : a = b := by
  have := Tryd.lawP.inj (keyP a ha) (by rw [h]; exact keyP b hb)
  simp only [Value.agg.injEq] at this
  have h2 : [Value.int .i64 a.1, Value.int .i64 a.2] = [Value.int .i64 b.1, Value.int .i64 b.2] := by simpa using this
  simp only [List.cons.injEq, Value.int.injEq, true_and, and_true] at h2
  exact Prod.ext h2.1 h2.2
theorem kP_is (p : Pq) : WideAt.IsKeyLit (kP p) := trivial
end Go.Proofs.YtfmfgpipklmecaaDoor
