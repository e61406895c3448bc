/-
  RowOn: the contracts, of the model and of the program. Condition: the row and the walkers read as told; the sentinel errors lie as the row lists them (the program's).
-/
import Derived.Test.YtcalooahafgfbaaDoorYr2
namespace Go.Proofs.YtcalooahafgfbaaDoor
open Go.ChangeShapes Go.WideShapes Go.ChangeAt Go.RowKit Go.Deep

def rwO (r : List Int) (l : List Wal) : Option Nat := firstO [chk 5 (yOk r), chk 5 (vsOk r.length l)]
theorem rwO_lt {r : List Int} {l : List Wal} : ∀ i, rwO r l = some i → i < 7 := by
  refine firstO_lt ?_
  simp only [List.mem_cons, List.not_mem_nil, or_false]
  rintro o (rfl | rfl) <;> exact chk_lt (by omega)
def roO (r : List Int) (l : List Wal) (d : Int) : Option Nat := firstO [rwO r l, chk 0 (inS d)]
theorem roO_lt {r : List Int} {l : List Wal} {d : Int} : ∀ i, roO r l d = some i → i < 7 := by
  refine firstO_lt ?_
  simp only [List.mem_cons, List.not_mem_nil, or_false]
  rintro o (rfl | rfl)
  · exact rwO_lt
  · exact chk_lt (by omega)
def roC (r : List Int) (l : List Wal) (d : Int) : Int := cdO (roO r l d)
def roL (r : List Int) (l : List Wal) (d : Int) : List Int := if roC r l d = 0 then tnA r.length l (fun x => unD x d) r l.length else []
theorem roL_len (r : List Int) (l : List Wal) (d : Int) : (roL r l d).length ≤ r.length := by
  unfold roL; split
  · rw [tnA_len]; exact Nat.le_refl _
  · simp
theorem ro_bad {r : List Int} {l : List Wal} {d : Int} {i : Nat} (h : roO r l d = some i) : roC r l d = cdN i ∧ roL r l d = [] := by
  have h1 : roC r l d = cdN i := by rw [roC, h]; rfl
  exact ⟨h1, by rw [roL, if_neg (by rw [h1]; exact cdN_ne)]⟩
theorem ro_ok {r : List Int} {l : List Wal} {d : Int} (h : roO r l d = none) : roC r l d = 0 ∧ roL r l d = tnA r.length l (fun x => unD x d) r l.length ∧ yOk r = true ∧ vsOk r.length l = true ∧ inS d = true := by
  have h1 : roC r l d = 0 := by rw [roC, h]; rfl
  have hy : yOk r = true := by
    cases hy : yOk r
    · rw [roO, rwO, hy] at h; cases h
    · rfl
  have hv : vsOk r.length l = true := by
    cases hv : vsOk r.length l
    · rw [roO, rwO, hy, hv] at h; cases h
    · rfl
  have hd : inS d = true := by
    cases hd : inS d
    · rw [roO, rwO, hy, hv, hd] at h; cases h
    · rfl
  exact ⟨h1, by rw [roL, if_pos h1], hy, hv, hd⟩
theorem ro_code (r : List Int) (l : List Wal) (d : Int) : (if yOk r = true then akV r.length l (inS d) else 1) = roC r l d := by
  cases hy : yOk r
  · rw [if_neg (by decide), roC, roO, rwO, hy]; rfl
  rw [if_pos rfl]
  cases hv : vsOk r.length l
  · rw [show akV r.length l (inS d) = 1 from by simp [akV, hv], roC, roO, rwO, hy, hv]; rfl
  cases hd : inS d
  · rw [show akV r.length l false = 2 from by simp [akV, hv], roC, roO, rwO, hy, hv, hd]; rfl
  · rw [show akV r.length l true = 0 from by simp [akV, hv], roC, roO, rwO, hy, hv, hd]; rfl
theorem unD_m1 {x : Wal} (hf : 0 ≤ x.fi) : unD x (0 - 1) = 0 := by rw [unD, if_pos (by omega)]
theorem tnA_congr {n : Nat} {l : List Wal} {m m' : Wal → Int} {r : List Int} (h : ∀ x ∈ l, m x = m' x) : ∀ k, k ≤ l.length → tnA n l m r k = tnA n l m' r k
  | 0, _ => rfl
  | k + 1, hk => by
    have hx : l[k]? = some l[k] := List.getElem?_eq_getElem (by omega)
    rw [tnA_succ hx, tnA_succ hx, tnA_congr h k (by omega), h _ (List.getElem_mem _)]
theorem nil_ownR (w : World) (b : Nat) : w.ownsRow b 5 1 (.slice none 0 0) ([] : List Int).length (([] : List Int).flatMap ycells) := ⟨rfl, .inl ⟨rfl, rfl⟩⟩
theorem empty_ownR (w : World) (b : Nat) (hb : b ≤ w.heap.size) : (w.alloc (.cells #[] 5)).ownsRow b 5 1 (.slice (some ⟨w.heap.size, 0, none⟩) 0 0) ([] : List Int).length (([] : List Int).flatMap ycells) :=
  ⟨rfl, .inr ⟨w.heap.size, 0, #[], rfl, hb, heap_alloc_new w _, Nat.le_refl _, by unfold maxLen; omega, by simp, by simp⟩⟩

end Go.Proofs.YtcalooahafgfbaaDoor
