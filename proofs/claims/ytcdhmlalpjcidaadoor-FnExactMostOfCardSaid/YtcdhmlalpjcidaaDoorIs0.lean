/-
  Insertion that keeps the order of equals: what it makes of a list; mathematics. No condition.
-/
import Derived.Test.YtcdhmlalpjcidaaDoorFlat
namespace Go.Proofs.YtcdhmlalpjcidaaDoor
open Go.ChangeShapes Go.WideShapes Go.ChangeAt Go.RowKit Go.Deep

/-- Puts x behind all that it does not come ahead of, from the end on. -/
def insL {α : Type} (lt : α → α → Bool) (S : List α) (x : α) : List α := (S.reverse.dropWhile (lt x)).reverse ++ x :: (S.reverse.takeWhile (lt x)).reverse
def isL {α : Type} (lt : α → α → Bool) (X : List α) : List α := X.foldl (insL lt) []
theorem rev_parts {α : Type} (p : α → Bool) (S : List α) : (S.reverse.dropWhile p).reverse ++ (S.reverse.takeWhile p).reverse = S := by
  rw [← List.reverse_append, List.takeWhile_append_dropWhile, List.reverse_reverse]
theorem insL_perm {α : Type} (lt : α → α → Bool) (S : List α) (x : α) : (insL lt S x).Perm (x :: S) := by
  unfold insL
  refine List.perm_middle.trans ?_
  rw [rev_parts]
theorem insL_len {α : Type} (lt : α → α → Bool) (S : List α) (x : α) : (insL lt S x).length = S.length + 1 := by rw [(insL_perm lt S x).length_eq, List.length_cons]
theorem isL_foldl {α : Type} (lt : α → α → Bool) : ∀ (X S : List α), (X.foldl (insL lt) S).Perm (X ++ S)
  | [], S => List.Perm.refl _
  | x :: X, S => by
    rw [List.foldl_cons]
    refine (isL_foldl lt X (insL lt S x)).trans ?_
    refine (List.Perm.append_left X (insL_perm lt S x)).trans ?_
    exact List.perm_middle
theorem isL_perm {α : Type} (lt : α → α → Bool) (X : List α) : (isL lt X).Perm X := by
  have := isL_foldl lt X []
  rwa [List.append_nil] at this
theorem isL_len {α : Type} (lt : α → α → Bool) (X : List α) : (isL lt X).length = X.length := (isL_perm lt X).length_eq
theorem isL_snoc {α : Type} (lt : α → α → Bool) (X : List α) (x : α) : isL lt (X ++ [x]) = insL lt (isL lt X) x := by simp [isL, List.foldl_append]
theorem isL_take {α : Type} (lt : α → α → Bool) (X : List α) {k : Nat} {x : α} (hx : X[k]? = some x) : isL lt (X.take (k + 1)) = insL lt (isL lt (X.take k)) x := by
  rw [← isL_snoc]
  congr 1
  rw [List.take_add_one, hx]; rfl
/-- Where x comes to stand. -/
theorem insL_at {α : Type} (lt : α → α → Bool) (S : List α) (x : α) {j : Nat} (hj : j ≤ S.length) (h1 : ∀ y ∈ S.drop j, lt x y = true) (h2 : j = 0 ∨ ∀ y, S[j - 1]? = some y → lt x y = false) : insL lt S x = S.take j ++ x :: S.drop j := by
  have e : S.reverse = (S.drop j).reverse ++ (S.take j).reverse := by rw [← List.reverse_append, List.take_append_drop]
  have h3 : S.reverse.takeWhile (lt x) = (S.drop j).reverse ++ (S.take j).reverse.takeWhile (lt x) := by
    rw [e, List.takeWhile_append_of_pos (fun y hy => h1 y (List.mem_reverse.1 hy))]
  have h4 : S.reverse.dropWhile (lt x) = (S.take j).reverse.dropWhile (lt x) := by
    rw [e, List.dropWhile_append_of_pos (fun y hy => h1 y (List.mem_reverse.1 hy))]
  have h5 : (S.take j).reverse.takeWhile (lt x) = [] := by
    rcases h2 with rfl | h2
    · simp
    · cases j with
      | zero => simp
      | succ m =>
        obtain ⟨y, hy⟩ : ∃ y, S[m]? = some y := ⟨_, List.getElem?_eq_getElem (by omega)⟩
        rw [List.take_add_one, hy]
        simp [h2 y hy]
  have h6 : (S.take j).reverse.dropWhile (lt x) = (S.take j).reverse := by
    have := List.takeWhile_append_dropWhile (p := lt x) (l := (S.take j).reverse)
    rw [h5, List.nil_append] at this
    exact this
  unfold insL
  rw [h4, h6, h3, h5, List.append_nil, List.reverse_reverse, List.reverse_reverse]

/-- All up to k are in order. -/
def isO {α : Type} (lt : α → α → Bool) (X Z : List α) (k : Nat) : Prop := Z = isL lt (X.take k) ++ X.drop k
theorem isO.start {α : Type} (lt : α → α → Bool) (X : List α) : isO lt X X 1 := by
  cases X with
  | nil => simp [isO, isL]
  | cons x X => simp [isO, isL, insL]
theorem isO.len {α : Type} {lt : α → α → Bool} {X Z : List α} {k : Nat} (h : isO lt X Z k) : Z.length = X.length := by
  rw [h, List.length_append, isL_len, ← List.length_append, List.take_append_drop]
theorem isO.all {α : Type} {lt : α → α → Bool} {X Z : List α} {k : Nat} (h : isO lt X Z k) (hk : X.length ≤ k) : Z = isL lt X := by
  rw [h, List.take_of_length_le hk, List.drop_of_length_le hk, List.append_nil]
/-- x is on its way to the front, at j. -/
structure isI {α : Type} (lt : α → α → Bool) (X Z : List α) (x : α) (k j : Nat) : Prop where
  lt_ : k < X.length
  le_ : j ≤ k
  at_ : X[k]? = some x
  is_ : Z = (isL lt (X.take k)).take j ++ x :: (isL lt (X.take k)).drop j ++ X.drop (k + 1)
  up_ : ∀ y ∈ (isL lt (X.take k)).drop j, lt x y = true
theorem isS_len {α : Type} (lt : α → α → Bool) {X : List α} {k : Nat} (h : k < X.length) : (isL lt (X.take k)).length = k := by rw [isL_len, List.length_take]; omega
theorem isO.begin {α : Type} {lt : α → α → Bool} {X Z : List α} {k : Nat} (h : isO lt X Z k) {x : α} (hx : X[k]? = some x) : isI lt X Z x k k where
  lt_ := (List.getElem?_eq_some_iff.1 hx).1
  le_ := Nat.le_refl _
  at_ := hx
  is_ := by
    obtain ⟨hk, rfl⟩ := List.getElem?_eq_some_iff.1 hx
    rw [h, List.take_of_length_le (Nat.le_of_eq (isS_len lt hk)), List.drop_of_length_le (Nat.le_of_eq (isS_len lt hk)), List.append_assoc, List.singleton_append, List.drop_eq_getElem_cons hk]
  up_ := fun y hy => by
    rw [List.drop_of_length_le (Nat.le_of_eq (isS_len lt (List.getElem?_eq_some_iff.1 hx).1))] at hy
    simp at hy
theorem isI.len {α : Type} {lt : α → α → Bool} {X Z : List α} {x : α} {k j : Nat} (h : isI lt X Z x k j) : Z.length = X.length := by
  have h1 := isS_len lt h.lt_
  have h2 := h.lt_
  have h3 := h.le_
  rw [h.is_]
  simp only [List.length_append, List.length_take, List.length_cons, List.length_drop, h1]
  omega
theorem isI.now {α : Type} {lt : α → α → Bool} {X Z : List α} {x : α} {k j : Nat} (h : isI lt X Z x k j) : Z[j]? = some x := by
  have h1 := isS_len lt h.lt_
  have h3 := h.le_
  rw [h.is_, List.append_assoc, List.getElem?_append_right (by rw [List.length_take]; omega), List.length_take, h1, Nat.min_eq_left h3, Nat.sub_self]
  rfl
theorem isI.ahead {α : Type} {lt : α → α → Bool} {X Z : List α} {x : α} {k j : Nat} (h : isI lt X Z x k j) (hj : 0 < j) : Z[j - 1]? = (isL lt (X.take k))[j - 1]? := by
  have h1 := isS_len lt h.lt_
  have h3 := h.le_
  rw [h.is_, List.append_assoc, List.getElem?_append_left (by rw [List.length_take]; omega), List.getElem?_take, if_pos (by omega)]
theorem isI.mem {α : Type} {lt : α → α → Bool} {X Z : List α} {x : α} {k j : Nat} (h : isI lt X Z x k j) {p : Nat} {a : α} (ha : Z[p]? = some a) : a ∈ X := by
  have hS : ∀ y ∈ isL lt (X.take k), y ∈ X := fun y hy => List.mem_of_mem_take ((isL_perm lt (X.take k)).mem_iff.1 hy)
  have hm := List.mem_of_getElem? ha
  rw [h.is_, List.append_assoc, List.mem_append, List.cons_append, List.mem_cons, List.mem_append] at hm
  rcases hm with hm | rfl | hm | hm
  · exact hS a (List.mem_of_mem_take hm)
  · exact List.mem_of_getElem? h.at_
  · exact hS a (List.mem_of_mem_drop hm)
  · exact List.mem_of_mem_drop hm
theorem isI.swap {α : Type} {lt : α → α → Bool} {X Z : List α} {x a : α} {k m : Nat} (h : isI lt X Z x k (m + 1)) (ha : Z[m]? = some a) (hl : lt x a = true) : isI lt X ((Z.set (m + 1) a).set m x) x k m := by
  have h1 := isS_len lt h.lt_
  have h3 := h.le_
  have h4 : (isL lt (X.take k))[m]? = some a := by rw [← ha]; exact (h.ahead (by omega)).symm
  have hml : m < (isL lt (X.take k)).length := by omega
  have ed : (isL lt (X.take k)).drop m = a :: (isL lt (X.take k)).drop (m + 1) := by
    rw [List.drop_eq_getElem_cons hml]
    congr 1
    rw [List.getElem?_eq_getElem hml] at h4
    exact Option.some.inj h4
  have et : (isL lt (X.take k)).take (m + 1) = (isL lt (X.take k)).take m ++ [a] := by rw [List.take_add_one, h4]; rfl
  have lt' : ((isL lt (X.take k)).take m).length = m := by rw [List.length_take]; omega
  refine ⟨h.lt_, by omega, h.at_, ?_, fun y hy => ?_⟩
  · rw [h.is_, et, ed]
    generalize (isL lt (X.take k)).take m = T at lt'
    subst lt'
    simp [List.set_append]
  · rw [ed] at hy
    rcases List.mem_cons.1 hy with rfl | hy
    · exact hl
    · exact h.up_ y hy
theorem isI.done {α : Type} {lt : α → α → Bool} {X Z : List α} {x : α} {k j : Nat} (h : isI lt X Z x k j) (hd : j = 0 ∨ ∀ a, Z[j - 1]? = some a → lt x a = false) : isO lt X Z (k + 1) := by
  have h1 := isS_len lt h.lt_
  have h3 := h.le_
  unfold isO
  rw [isL_take lt X h.at_, insL_at lt _ x (j := j) (by omega) h.up_ ?_]
  · exact h.is_
  · rcases hd with rfl | hd
    · exact .inl rfl
    · by_cases e : j = 0
      · exact .inl e
      · exact .inr fun y hy => hd y (by rw [h.ahead (by omega)]; exact hy)
theorem tw_mem {α : Type} {p : α → Bool} : ∀ {l : List α} {x : α}, x ∈ l.takeWhile p → p x = true
  | [], x, h => by simp at h
  | y :: l, x, h => by
    rw [List.takeWhile_cons] at h
    split at h
    · rcases List.mem_cons.1 h with rfl | h
      · assumption
      · exact tw_mem h
    · simp at h
/-- What insertion makes is in order. -/
theorem insL_srt {α : Type} {lt : α → α → Bool} (hA : ∀ a b, lt a b = true → lt b a = false) (hT : ∀ a b c, lt b a = false → lt c b = false → lt c a = false) {S : List α} (hS : S.Pairwise fun a b => lt b a = false) (x : α) : (insL lt S x).Pairwise fun a b => lt b a = false := by
  have hp := rev_parts (lt x) S
  unfold insL
  generalize hD : (S.reverse.dropWhile (lt x)).reverse = D at hp
  generalize hE : (S.reverse.takeWhile (lt x)).reverse = E at hp
  have hEx : ∀ e ∈ E, lt x e = true := fun e he => by
    rw [← hE, List.mem_reverse] at he
    exact tw_mem he
  have hDl : ∀ d ∈ D, lt x d = false := by
    have hlast : ∀ d, (S.reverse.dropWhile (lt x)).head? = some d → lt x d = false := fun d hd => by
      have := List.head?_dropWhile_not (lt x) S.reverse
      rw [hd] at this
      simpa using this
    have hpw : (S.reverse.dropWhile (lt x)).Pairwise fun a b => lt a b = false := by
      refine List.Pairwise.sublist (List.dropWhile_sublist _) ?_
      rw [List.pairwise_reverse]
      exact hS
    intro d hd
    rw [← hD, List.mem_reverse] at hd
    cases hq : S.reverse.dropWhile (lt x) with
    | nil => rw [hq] at hd; simp at hd
    | cons q Q =>
      rw [hq] at hd hpw hlast
      have h1 := hlast q rfl
      rcases List.mem_cons.1 hd with rfl | hd
      · exact h1
      · exact hT d q x ((List.pairwise_cons.1 hpw).1 d hd) h1
  rw [← hp, List.pairwise_append] at hS
  rw [List.pairwise_append]
  refine ⟨hS.1, List.pairwise_cons.2 ⟨fun e he => hA _ _ (hEx e he), hS.2.1⟩, fun d hd e he => ?_⟩
  rcases List.mem_cons.1 he with rfl | he
  · exact hDl d hd
  · exact hS.2.2 d hd e he
theorem isL_srt {α : Type} {lt : α → α → Bool} (hA : ∀ a b, lt a b = true → lt b a = false) (hT : ∀ a b c, lt b a = false → lt c b = false → lt c a = false) (X : List α) : (isL lt X).Pairwise fun a b => lt b a = false := by
  suffices h : ∀ (X S : List α), S.Pairwise (fun a b => lt b a = false) → (X.foldl (insL lt) S).Pairwise fun a b => lt b a = false from h X [] List.Pairwise.nil
  intro X
  induction X with
  | nil => exact fun S h => h
  | cons x X ih => exact fun S h => ih _ (insL_srt hA hT h x)

/-- A block of rows of one's own, with room behind. -/
def OX {T : Type} (w : World) (g : Nat) (t : TypeId) (m : Nat) (cells : T → List Value) (Z : List T) (cap : Nat) : Prop := ∃ cur : Array Value, w.heap[g]? = some (.cells cur t (0, 0)) ∧ Z.length ≤ cap ∧ cap ≤ maxLen ∧ cur.size = cap * m ∧ cur.toList.take (Z.length * m) = Z.flatMap cells
theorem OX.lt {T : Type} {w : World} {g m cap : Nat} {t : TypeId} {cells : T → List Value} {Z : List T} (h : OX w g t m cells Z cap) : g < w.heap.size := by
  obtain ⟨cur, hg, -⟩ := h
  exact (Array.getElem?_eq_some_iff.1 hg).1
theorem OX.below {T : Type} {w w' : World} {g m cap B : Nat} {t : TypeId} {cells : T → List Value} {Z : List T} (h : OX w g t m cells Z cap) (hb : Below B w w') (hg : g < B) : OX w' g t m cells Z cap := by
  obtain ⟨cur, h1, h2⟩ := h
  exact ⟨cur, (hb.block g hg).trans h1, h2⟩
theorem OX.keep {T : Type} {w w' : World} {g m cap : Nat} {t : TypeId} {cells : T → List Value} {Z : List T} (h : OX w g t m cells Z cap) (hb : Below w.heap.size w w') : OX w' g t m cells Z cap := h.below hb h.lt
theorem OX.cell {T : Type} {w : World} {g m cap : Nat} {t : TypeId} {cells : T → List Value} {Z : List T} (hs : ∀ b, (cells b).length = m) (h : OX w g t m cells Z cap) {k f : Nat} {x : T} {v : Value} (hk : Z[k]? = some x) (hv : (cells x)[f]? = some v) : w.cell? ⟨g, k * m + f, none⟩ = some v := by
  have hf : f < m := by rw [← hs x]; exact (List.getElem?_eq_some_iff.1 hv).1
  have hu : (Z.flatMap cells)[k * m + f]? = some v := by rw [rows_get hs Z hk f hf]; exact hv
  obtain ⟨cur, hg, -, -, -, ht⟩ := h
  rw [cell_of_row w g (k * m + f) cur _ (0, 0) hg]
  rw [← ht, List.getElem?_take] at hu
  split at hu
  · simpa using hu
  · cases hu
theorem OX.range {T : Type} {w : World} {g m cap : Nat} {t : TypeId} {cells : T → List Value} {Z : List T} (hs : ∀ b, (cells b).length = m) (h : OX w g t m cells Z cap) {k : Nat} {x : T} (hk : Z[k]? = some x) : w.rangeAt g (k * m) (cells x) := fun _ _ hv => h.cell hs hk hv
theorem OX.frozen {T : Type} {w : World} {g m cap : Nat} {t : TypeId} {cells : T → List Value} {Z : List T} (h : OX w g t m cells Z cap) (j : Nat) : w.frozen? ⟨g, j, none⟩ = false := by
  obtain ⟨cur, hg, -⟩ := h
  simp [World.frozen?, hg]
theorem OX.there {T : Type} {w : World} {g m cap : Nat} {t : TypeId} {cells : T → List Value} {Z : List T} (h : OX w g t m cells Z cap) {k : Nat} (hk : k < Z.length) : w.there g (k * m) m := by
  obtain ⟨cur, hg, h2, h3, h4, h5⟩ := h
  intro j hj
  have hB : Blk w g t cur := hg
  refine hB.there (o := k * m) (n := m) ?_ j hj
  rw [h4]
  calc k * m + m = (k + 1) * m := by rw [Nat.add_mul, Nat.one_mul]
    _ ≤ cap * m := Nat.mul_le_mul_right m (by omega)
theorem OX.set {T : Type} {w : World} {g m cap : Nat} {t : TypeId} {cells : T → List Value} {Z : List T} (hs : ∀ b, (cells b).length = m) (h : OX w g t m cells Z cap) {k : Nat} (hk : k < Z.length) (x : T) : OX (w.setCells g (k * m) (cells x)) g t m cells (Z.set k x) cap := by
  obtain ⟨cur, hg, h2, h3, h4, h5⟩ := h
  have hB : Blk w g t cur.toList.toArray := hg
  have hlen : (k + 1) * m ≤ Z.length * m := Nat.mul_le_mul_right m (by omega)
  have hlen2 : Z.length * m ≤ cap * m := Nat.mul_le_mul_right m h2
  have e1 : (k + 1) * m = k * m + m := by rw [Nat.add_mul, Nat.one_mul]
  have hz : cur.toList.length = cap * m := by simp [h4]
  have := hB.setCells (k * m) (cells x) (by rw [hs, hz]; omega)
  refine ⟨_, this, by rw [List.length_set]; exact h2, h3, ?_, ?_⟩
  · simp only [List.size_toArray, List.length_append, List.length_take, List.length_drop, hs, hz]
    omega
  · have h6 := rows_splice hs Z k x hk
    rw [List.length_set]
    show (cur.toList.take (k * m) ++ cells x ++ cur.toList.drop (k * m + (cells x).length)).take (Z.length * m) = _
    rw [← h6, ← h5, hs]
    generalize hN : Z.length * m = N at *
    have hx : (cells x).length = m := hs x
    rw [List.take_append, List.length_append, List.length_take, hz, hx, Nat.min_eq_left (by omega)]
    rw [List.take_of_length_le (by rw [List.length_append, List.length_take, hz, hx]; omega)]
    rw [List.take_take, Nat.min_eq_left (by omega), List.drop_take]
theorem OX.own {T : Type} {w : World} {g m cap base : Nat} {t : TypeId} {cells : T → List Value} {Z : List T} (hs : ∀ b, (cells b).length = m) (h : OX w g t m cells Z cap) (hb : base ≤ g) : w.ownsRow base t m (.slice (some ⟨g, 0, none⟩) Z.length cap) Z.length (Z.flatMap cells) := by
  obtain ⟨cur, hg, h2, h3, h4, h5⟩ := h
  exact ⟨by rw [rows_length hs], .inr ⟨g, cap, cur, rfl, hb, hg, h2, h3, h4, h5⟩⟩
theorem OX.of {T : Type} {w : World} {base m : Nat} {t : TypeId} {cells : T → List Value} {v : Value} {Z : List T} (h : w.ownsRow base t m v Z.length (Z.flatMap cells)) : (v = .slice none 0 0 ∧ Z = []) ∨ ∃ g cap, v = .slice (some ⟨g, 0, none⟩) Z.length cap ∧ base ≤ g ∧ OX w g t m cells Z cap := by
  obtain ⟨-, ⟨rfl, h0⟩ | ⟨g, cap, cur, rfl, hb, hg, h2, h3, h4, h5⟩⟩ := h
  · exact .inl ⟨rfl, List.eq_nil_of_length_eq_zero h0⟩
  · exact .inr ⟨g, cap, rfl, hb, cur, hg, h2, h3, h4, h5⟩
end Go.Proofs.YtcdhmlalpjcidaaDoor
