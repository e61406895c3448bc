/-
  Pairs of orders counted from both sides; where a sample stands; mathematics, and a list turned round. No condition.
-/
import Derived.Test.YtfmfgpipklmecabDoorZg
import Derived.Deep.LoopGhost
import Derived.Sort.WalkB12
import Derived.Lib.SlicesMore
namespace Go.Proofs.YtfmfgpipklmecabDoor
open Go.ChangeShapes Go.WideShapes Go.ChangeAt Go.RowKit Go.Deep

theorem suP_cons (g : Pq → Int) (q : Pq) (qs : List Pq) : suP g (q :: qs) = g q + suP g qs := by simp [suP]
theorem cntP_cons (q : Pq) (Q : List Pq) (p : Pq) : cntP (q :: Q) p = (if q = p then 1 else 0) + cntP Q p := by
  unfold cntP
  by_cases h : q = p
  · simp [h]; omega
  · simp [h]
theorem suP_add (g h : Pq → Int) : ∀ qs, suP (fun p => g p + h p) qs = suP g qs + suP h qs
  | [] => by simp [suP]
  | q :: qs => by rw [suP_cons, suP_cons, suP_cons, suP_add g h qs]; omega
theorem suP_nil0 : ∀ P : List Pq, suP (fun _ => 0) P = 0
  | [] => rfl
  | p :: P => by rw [suP_cons, suP_nil0 P]; rfl
theorem suP_one (q : Pq) : ∀ P, suP (fun p => if q = p then 1 else 0) P = ((cntP P q : Nat) : Int)
  | [] => rfl
  | p :: P => by
    rw [suP_cons, suP_one q P, cntP_cons]
    by_cases h : q = p
    · rw [if_pos h, if_pos h.symm]; omega
    · rw [if_neg h, if_neg (fun e => h e.symm)]; omega
theorem suP_swap : ∀ (Q P : List Pq), suP (fun p => ((cntP P p : Nat) : Int)) Q = suP (fun p => ((cntP Q p : Nat) : Int)) P
  | [], P => by
    have : suP (fun p => ((cntP [] p : Nat) : Int)) P = 0 := suP_nil0 P
    rw [this]; rfl
  | q :: Q, P => by
    rw [suP_cons, suP_swap Q P, ← suP_one q P, ← suP_add]
    refine suP_congr fun p _ => ?_
    rw [cntP_cons]
    by_cases h : q = p
    · rw [if_pos h, if_pos h]; omega
    · rw [if_neg h, if_neg h]; omega

theorem nd_inj {xs : List Int} (hn : xs.Nodup) {i j : Nat} {x : Int} (hi : xs[i]? = some x) (hj : xs[j]? = some x) : i = j :=
  (List.getElem?_inj (List.getElem?_eq_some_iff.1 hi).1 hn).1 (hi.trans hj.symm)
theorem cntP_opK {xs : List Int} (hn : xs.Nodup) {i i0 k0 : Nat} {x y : Int} (hi : i < xs.length) (hx : xs[i0]? = some x) (hy : xs[k0]? = some y) : ∀ K, K ≤ xs.length → cntP (opK xs i K) (x, y) = if i = i0 ∧ i < k0 ∧ k0 < K then 1 else 0
  | 0, _ => by simp [opK, cntP]
  | K + 1, h => by
    rw [opK, cntP_app, cntP_opK hn hi hx hy K (by omega)]
    by_cases hiK : i < K
    · rw [if_pos hiK]
      have hK : K < xs.length := by omega
      have e : cntP [(xs.getD i 0, xs.getD K 0)] (x, y) = if i = i0 ∧ K = k0 then 1 else 0 := by
        have ha : xs[i]? = some xs[i] := List.getElem?_eq_getElem hi
        have hb : xs[K]? = some xs[K] := List.getElem?_eq_getElem hK
        rw [List.getD_eq_getElem?_getD, List.getD_eq_getElem?_getD, ha, hb, Option.getD_some, Option.getD_some, cntP_cons, cntP_nil]
        by_cases h2 : i = i0 ∧ K = k0
        · obtain ⟨rfl, rfl⟩ := h2
          rw [ha] at hx
          rw [hb] at hy
          obtain rfl := Option.some.inj hx
          obtain rfl := Option.some.inj hy
          simp
        · rw [if_neg h2, if_neg]
          intro e
          simp only [Prod.mk.injEq] at e
          exact h2 ⟨nd_inj hn (ha.trans (congrArg some e.1)) hx, nd_inj hn (hb.trans (congrArg some e.2)) hy⟩
      rw [e]
      by_cases h1 : i = i0 ∧ i < k0 ∧ k0 < K
      · rw [if_pos h1, if_neg (by omega), if_pos (by omega)]
      · by_cases h2 : i = i0 ∧ K = k0
        · rw [if_neg h1, if_pos h2, if_pos (by omega)]
        · rw [if_neg h1, if_neg h2, if_neg (by omega)]
    · rw [if_neg hiK, cntP_nil, Nat.add_zero]
      by_cases h1 : i = i0 ∧ i < k0 ∧ k0 < K
      · omega
      · rw [if_neg h1, if_neg (by omega)]
theorem cntP_opI {xs : List Int} (hn : xs.Nodup) {i0 k0 : Nat} {x y : Int} (hx : xs[i0]? = some x) (hy : xs[k0]? = some y) : ∀ I, I ≤ xs.length → cntP (opI xs I) (x, y) = if i0 < I ∧ i0 < k0 then 1 else 0
  | 0, _ => by simp [opI, cntP]
  | I + 1, h => by
    have hk := (List.getElem?_eq_some_iff.1 hy).1
    rw [opI, cntP_app, cntP_opI hn hx hy I (by omega), cntP_opK hn (by omega) hx hy xs.length (Nat.le_refl _)]
    by_cases h1 : i0 < I ∧ i0 < k0
    · rw [if_pos h1, if_neg (by omega), if_pos (by omega)]
    · by_cases h2 : I = i0 ∧ I < k0 ∧ k0 < xs.length
      · rw [if_neg h1, if_pos h2, if_pos (by omega)]
      · rw [if_neg h1, if_neg h2, if_neg (by omega)]
/-- Where a sample stands. -/
def wb (b : List Int) (x : Int) : Nat := b.findIdx (fun y => y == x)
theorem wb_at {b : List Int} {x : Int} (h : x ∈ b) : b[wb b x]? = some x := by
  have hl : wb b x < b.length := List.findIdx_lt_length_of_exists ⟨x, h, by simp⟩
  have := List.findIdx_getElem (w := hl)
  rw [List.getElem?_eq_getElem hl]
  congr 1
  simp only [beq_iff_eq] at this
  exact this
theorem wb_no {b : List Int} {x : Int} {j : Nat} {y : Int} (hj : j < wb b x) (hy : b[j]? = some y) : (y == x) = false := by
  obtain ⟨h1, h2⟩ := List.getElem?_eq_some_iff.1 hy
  have := List.not_of_lt_findIdx hj
  rw [h2] at this
  simpa using this
theorem bef_rev {b : List Int} (hn : b.Nodup) {x y : Int} (hx : x ∈ b) (hy : y ∈ b) : cntP (opI b.reverse b.reverse.length) (x, y) = if wb b y < wb b x then 1 else 0 := by
  have h1 := wb_at hx
  have h2 := wb_at hy
  have l1 := (List.getElem?_eq_some_iff.1 h1).1
  have l2 := (List.getElem?_eq_some_iff.1 h2).1
  have e1 : b.reverse[b.length - 1 - wb b x]? = some x := by
    rw [List.getElem?_reverse (by omega), show b.length - 1 - (b.length - 1 - wb b x) = wb b x from by omega]; exact h1
  have e2 : b.reverse[b.length - 1 - wb b y]? = some y := by
    rw [List.getElem?_reverse (by omega), show b.length - 1 - (b.length - 1 - wb b y) = wb b y from by omega]; exact h2
  rw [cntP_opI (by rw [List.Nodup, List.pairwise_reverse]; exact List.Pairwise.imp (fun h e => h e.symm) hn) e1 e2 _ (Nat.le_refl _), List.length_reverse]
  by_cases h : wb b y < wb b x
  · rw [if_pos h, if_pos (by omega)]
  · rw [if_neg h, if_neg (by omega)]
/-- An order holds each sample. -/
theorem orB_mem {n : Int} {xs : List Int} (h : orB n xs = true) {x : Int} (h0 : 0 ≤ x) (h1 : x < n) : x ∈ xs := by
  have hl := (orB_iff.1 h).1
  have hp : (xs.mergeSort (fun a b => decide (a ≤ b))).Perm xs := List.mergeSort_perm _ _
  have hs : srt (xs.mergeSort (fun a b => decide (a ≤ b))) := fun p q x y hpq hx hy => by
    have hw := List.pairwise_mergeSort (le := fun a b : Int => decide (a ≤ b)) (fun a b c => by simp; omega) (fun a b => by simp; omega) xs
    obtain ⟨p1, rfl⟩ := List.getElem?_eq_some_iff.1 hx
    obtain ⟨q1, rfl⟩ := List.getElem?_eq_some_iff.1 hy
    have := (List.pairwise_iff_getElem.1 hw) p q p1 q1 hpq
    simpa using this
  have := srt_iota hp hs
  rw [show (xs.length : Int) = n from hl, h, decide_eq_true_eq] at this
  refine hp.mem_iff.1 ?_
  rw [this, iota_mem]
  have := hp.length_eq
  omega
/-- How many pairs are the other way round. -/
def dcS (a b : List Int) : Int := suP (fun p => if wb b p.2 < wb b p.1 then 1 else 0) (opI a a.length)
theorem dcS_eq {n : Int} {a b : List Int} (ha : orB n a = true) (hb : orB n b = true) : suP (fun p => ((cntP (opI a a.length) p : Nat) : Int)) (opI b.reverse b.reverse.length) = dcS a b := by
  rw [suP_swap]
  refine suP_congr fun p hp => ?_
  obtain ⟨m1, m2⟩ := opI_mem (Nat.le_refl _) hp
  obtain ⟨-, hab, -⟩ := orB_iff.1 ha
  obtain ⟨p1, p2⟩ := p
  have b1 := hab p1 m1
  have b2 := hab p2 m2
  rw [bef_rev (orB_iff.1 hb).2.2 (orB_mem hb b1.1 (by omega)) (orB_mem hb b2.1 (by omega))]
  split <;> rfl
end Go.Proofs.YtfmfgpipklmecabDoor
