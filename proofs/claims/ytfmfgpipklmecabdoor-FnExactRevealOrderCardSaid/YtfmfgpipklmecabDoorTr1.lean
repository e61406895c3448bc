/-
  Ranks: the model's contracts, of l07Ranks and l07Sums, RanksOf and RankSums. Condition: valid marks for the inner ones.
-/
import Derived.Test.YtfmfgpipklmecabDoorTv
import Derived.Test.YtfmfgpipklmecabDoorNq
namespace Go.Proofs.YtfmfgpipklmecabDoor
open Go.ChangeShapes Go.WideShapes Go.ChangeAt Go.RowKit Go.Deep

theorem rkA_len (n : Int) (m : List (List Int)) : (rkA n m).length ≤ 1048576 := by
  unfold rkA
  split
  · have h : mkOk n m = true := by assumption
    have := (mkOk_iff.1 h).2.1
    rw [rkLs_len (Nat.le_refl _)]; omega
  · simp
theorem rkLs_mem {n : Int} {m : List (List Int)} (h : mkOk n m = true) {k : Nat} {ys : List Int} (hy : ys ∈ rkLs m k) : ys.length ≤ 8 := by
  obtain ⟨h1, h2, h3⟩ := mkOk_iff.1 h
  obtain ⟨xs, hxs, rfl⟩ := List.mem_map.1 hy
  have := (mkRow_iff.1 (h3 xs (List.mem_of_mem_take hxs))).1
  rw [rkL_len]; omega
theorem rkA_each (n : Int) (m : List (List Int)) : ∀ ys ∈ rkA n m, ys.length ≤ 1048576 := by
  unfold rkA
  split
  · exact fun ys hy => Nat.le_trans (rkLs_mem (by assumption) hy) (by omega)
  · simp
theorem sum_bnd {T : Type} : ∀ (xss : List (List T)) (k m : Nat), xss.length ≤ k → (∀ xs ∈ xss, xs.length ≤ m) → sumL xss ≤ k * m
  | [], _, _, _, _ => by simp [sumL]
  | xs :: xss, 0, _, h, _ => by simp at h
  | xs :: xss, k + 1, m, hk, h => by
    have h1 := sum_bnd xss k m (by simpa using hk) (fun ys hy => h ys (List.mem_cons_of_mem _ hy))
    have h2 := h xs (List.mem_cons_self ..)
    unfold sumL at h1 ⊢
    simp only [List.map_cons, List.sum_cons, Nat.succ_mul]
    omega
theorem icells_one (h : Int) : (icells h).toArray.all (·.oneCell') = true := by simp [icells, Value.oneCell']
theorem empty_ownI (w : World) (b : Nat) (hb : b ≤ w.heap.size) : (w.alloc (.cells #[] 2)).ownsRow b 2 1 (.slice (some ⟨w.heap.size, 0, none⟩) 0 0) 0 (([] : List Int).flatMap icells) :=
  ⟨rfl, .inr ⟨w.heap.size, 0, #[], rfl, hb, heap_alloc_new w _, Nat.le_refl _, by unfold maxLen; omega, by simp, by simp⟩⟩
theorem empty_ownH (w : World) (b : Nat) (hb : b ≤ w.heap.size) : OwnN (w.alloc (.cells #[] 24)) b 24 2 1 icells (some ⟨w.heap.size, 0, none⟩) 0 [] ([] : List (List Int)) :=
  ⟨⟨rfl, .inr ⟨w.heap.size, 0, #[], rfl, hb, heap_alloc_new w _, Nat.le_refl _, by unfold maxLen; omega, by simp, by simp⟩⟩, rfl, fun i h xs hi => by simp at hi, fun i j h h' _ hi => by simp at hi, fun i h hi => by simp at hi⟩

end Go.Proofs.YtfmfgpipklmecabDoor
