/-
  PartOfLedger: the contracts, of the model and of the program. Condition: numbers fit their kinds; the sentinel errors lie as the row lists them (the program's).
-/
import Derived.Test.YtjgafdfffmfhhabDoorIx
namespace Go.Proofs.YtjgafdfffmfhhabDoor
open Go.ChangeShapes Go.WideShapes Go.ChangeAt Go.RowKit Go.Deep

theorem rd_int1 (w : World) (q : Int) (t : TypeId) : Rd (w.alloc (.cells #[.int .i64 q] t)) (w.alloc (.cells #[.int .i64 q] t)).heap.size icells (some ⟨w.heap.size, 0, none⟩) [q] := fun _ => ⟨w.heap.size, 0, rfl, by simp, fun j v hv => by
  rw [Nat.zero_add, (Blk.new w t #[.int .i64 q]).cell]; simpa [icells] using hv⟩
theorem rd_int2 (w : World) (a b : Int) (t : TypeId) : Rd (w.alloc (.cells #[.int .i64 a, .int .i64 b] t)) (w.alloc (.cells #[.int .i64 a, .int .i64 b] t)).heap.size icells (some ⟨w.heap.size, 0, none⟩) [a, b] := fun _ => ⟨w.heap.size, 0, rfl, by simp, fun j v hv => by
  rw [Nat.zero_add, (Blk.new w t #[.int .i64 a, .int .i64 b]).cell]; simpa [icells] using hv⟩
theorem cell_ent_new (W : World) (a b c d e : Int) (t : TypeId) : ∀ (j : Nat) (y : Value), [Value.int .i16 a, .int .i8 b, .int .i8 c, .int .u8 d, .int .i16 e][j]? = some y → (W.alloc (.cells #[.int .i16 a, .int .i8 b, .int .i8 c, .int .u8 d, .int .i16 e] t)).cell? ((⟨W.heap.size, 0, none⟩ : Addr).add j) = some y := by
  intro j y h
  have := (Blk.new W t #[.int .i16 a, .int .i8 b, .int .i8 c, .int .u8 d, .int .i16 e]).cell j
  have e2 : (⟨W.heap.size, 0, none⟩ : Addr).add j = ⟨W.heap.size, j, none⟩ := by cases j <;> simp [Addr.add]
  rw [e2]
  rw [this]; simpa using h
theorem ent_one (a b c d e : Int) : ∀ v ∈ [Value.int .i16 a, .int .i8 b, .int .i8 c, .int .u8 d, .int .i16 e], v.oneCell' = true := by
  intro v hv
  simp only [List.mem_cons, List.not_mem_nil, or_false] at hv
  rcases hv with rfl | rfl | rfl | rfl | rfl <;> rfl
theorem nil_ownE (w : World) (b : Nat) : w.ownsRow b 71 5 (.slice none 0 0) ([] : List Ent).length (([] : List Ent).flatMap ecells) := ⟨rfl, .inl ⟨rfl, rfl⟩⟩
theorem empty_ownE (w : World) (b : Nat) (hb : b ≤ w.heap.size) : (w.alloc (.cells #[] 71)).ownsRow b 71 5 (.slice (some ⟨w.heap.size, 0, none⟩) 0 0) ([] : List Ent).length (([] : List Ent).flatMap ecells) :=
  ⟨rfl, .inr ⟨w.heap.size, 0, #[], rfl, hb, heap_alloc_new w _, Nat.le_refl _, by unfold maxLen; omega, by simp, by simp⟩⟩

def prT (l : List Ent) (q : Int) (k : Nat) : List Ent := (l.take k).filter fun e => decide (e.fr = q) || decide (e.to = q)
theorem prT_len (l : List Ent) (q : Int) (k : Nat) : (prT l q k).length ≤ k := Nat.le_trans (List.length_filter_le _ _) (by rw [List.length_take]; omega)
theorem prT_yes {l : List Ent} {q : Int} {k : Nat} {x : Ent} (h : l[k]? = some x) (hx : (decide (x.fr = q) || decide (x.to = q)) = true) : prT l q (k + 1) = prT l q k ++ [x] := by
  obtain ⟨hlt, he⟩ := List.getElem?_eq_some_iff.1 h
  rw [prT, List.take_succ_eq_append_getElem hlt, he, List.filter_append, prT]; simp [hx]
theorem prT_no {l : List Ent} {q : Int} {k : Nat} {x : Ent} (h : l[k]? = some x) (hx : (decide (x.fr = q) || decide (x.to = q)) = false) : prT l q (k + 1) = prT l q k := by
  obtain ⟨hlt, he⟩ := List.getElem?_eq_some_iff.1 h
  rw [prT, List.take_succ_eq_append_getElem hlt, he, List.filter_append, prT]; simp [hx]
def plO (n : Int) (l : List Ent) (q : Int) : Option Nat := firstO [chk 5 (leOk n l), chk 0 (ptOk n [q])]
theorem plO_lt {n : Int} {l : List Ent} {q : Int} : ∀ i, plO n l q = some i → i < 7 := by
  refine firstO_lt ?_
  simp only [List.mem_cons, List.not_mem_nil, or_false]
  rintro o (rfl | rfl) <;> exact chk_lt (by omega)
def plC (n : Int) (l : List Ent) (q : Int) : Int := cdO (plO n l q)
def plL (n : Int) (l : List Ent) (q : Int) : List Ent := if plC n l q = 0 then prT l q l.length else []
theorem pl_bad {n : Int} {l : List Ent} {q : Int} {i : Nat} (h : plO n l q = some i) : plC n l q = cdN i ∧ plL n l q = [] := by
  have h1 : plC n l q = cdN i := by rw [plC, h]; rfl
  exact ⟨h1, by rw [plL, if_neg (by rw [h1]; exact cdN_ne)]⟩
theorem pl_ok {n : Int} {l : List Ent} {q : Int} (h : plO n l q = none) : plC n l q = 0 ∧ plL n l q = prT l q l.length ∧ leOk n l = true := by
  have h1 : plC n l q = 0 := by rw [plC, h]; rfl
  refine ⟨h1, by rw [plL, if_pos h1], ?_⟩
  cases hl : leOk n l
  · rw [plO, hl] at h; cases h
  · rfl
theorem plL_len (n : Int) (l : List Ent) (q : Int) : (plL n l q).length ≤ 80 := by
  cases h : plO n l q with
  | none =>
    obtain ⟨-, h2, h3⟩ := pl_ok h
    rw [h2]; have := prT_len l q l.length; have := (leOk_out h3).2.1; omega
  | some i => rw [(pl_bad h).2]; simp

end Go.Proofs.YtjgafdfffmfhhabDoor
