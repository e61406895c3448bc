/-
  SplitOrder: orders cut into parts (mathematics). No program.
-/
import Derived.Test.YtcdhmlalpjcidaaDoorOd
namespace Go.Proofs.YtcdhmlalpjcidaaDoor
open Go.ChangeShapes Go.WideShapes Go.ChangeAt Go.RowKit Go.Deep

/-- The first bottles of an order, and the rest. -/
def cutW : Int → List Wnt → List Wnt × List Wnt
  | _, [] => ([], [])
  | m, w :: r => if w.2 ≤ m then (w :: (cutW (m - w.2) r).1, (cutW (m - w.2) r).2) else ((if 0 < m then [(w.1, m)] else []), (w.1, w.2 - m) :: r)
def okN (l : List Wnt) : Prop := ∀ w ∈ l, 1 ≤ w.2 ∧ w.2 ≤ 144
def sumN (l : List Wnt) : Nat := (l.map fun w => w.2.toNat).sum
theorem okN.tail {w : Wnt} {l : List Wnt} (h : okN (w :: l)) : okN l := fun x hx => h x (by simp [hx])
theorem okN.head {w : Wnt} {l : List Wnt} (h : okN (w :: l)) : 1 ≤ w.2 ∧ w.2 ≤ 144 := h w (by simp)
theorem cutW_fit {m : Int} {w : Wnt} {r : List Wnt} (h : w.2 ≤ m) : cutW m (w :: r) = (w :: (cutW (m - w.2) r).1, (cutW (m - w.2) r).2) := by rw [cutW, if_pos h]
theorem cutW_over {m : Int} {w : Wnt} {r : List Wnt} (h : ¬ w.2 ≤ m) : cutW m (w :: r) = ((if 0 < m then [(w.1, m)] else []), (w.1, w.2 - m) :: r) := by rw [cutW, if_neg h]
theorem cutW_zero {r : List Wnt} (h : okN r) : cutW 0 r = ([], r) := by
  cases r with
  | nil => rfl
  | cons w r => rw [cutW_over (by have := h.head; omega)]; simp
theorem cutW_ok : ∀ (r : List Wnt) (m : Int), 0 ≤ m → okN r → okN (cutW m r).2
  | [], _, _, h => h
  | w :: r, m, hm, h => by
    by_cases hw : w.2 ≤ m
    · rw [cutW_fit hw]; exact cutW_ok r (m - w.2) (by omega) h.tail
    · rw [cutW_over hw]
      intro x hx
      have hh := h.head
      simp only [List.mem_cons] at hx
      rcases hx with rfl | hx
      · exact ⟨by show 1 ≤ w.2 - m; omega, by show w.2 - m ≤ 144; omega⟩
      · exact h.tail x hx
theorem cutW_sum : ∀ (r : List Wnt) (m : Int), 0 ≤ m → okN r → sumN (cutW m r).1 + sumN (cutW m r).2 = sumN r
  | [], _, _, _ => rfl
  | w :: r, m, hm, h => by
    by_cases hw : w.2 ≤ m
    · rw [cutW_fit hw]
      have := cutW_sum r (m - w.2) (by omega) h.tail
      simp only [sumN, List.map_cons, List.sum_cons] at this ⊢
      omega
    · rw [cutW_over hw]
      have := h.head
      by_cases h0 : 0 < m
      · simp only [if_pos h0, sumN, List.map_cons, List.sum_cons, List.map_nil, List.sum_nil]; omega
      · simp only [if_neg h0, sumN, List.map_cons, List.sum_cons, List.map_nil, List.sum_nil]; omega
theorem cutW_ne {r : List Wnt} {m : Int} (hm : 1 ≤ m) (h : okN r) (h0 : r ≠ []) : (cutW m r).1 ≠ [] ∧ 1 ≤ sumN (cutW m r).1 := by
  cases r with
  | nil => exact absurd rfl h0
  | cons w r =>
    have hh := h.head
    by_cases hw : w.2 ≤ m
    · rw [cutW_fit hw]
      exact ⟨by simp, by simp only [sumN, List.map_cons, List.sum_cons]; omega⟩
    · rw [cutW_over hw, if_pos (by omega)]
      exact ⟨by simp, by simp only [sumN, List.map_cons, List.sum_cons, List.map_nil, List.sum_nil]; omega⟩
theorem cutW_len : ∀ (r : List Wnt) (m : Int), (cutW m r).1.length ≤ r.length ∧ (cutW m r).2.length ≤ r.length
  | [], _ => by simp [cutW]
  | w :: r, m => by
    by_cases hw : w.2 ≤ m
    · rw [cutW_fit hw]
      have := cutW_len r (m - w.2)
      simp only [List.length_cons]; omega
    · rw [cutW_over hw]
      by_cases h0 : 0 < m
      · simp [h0]
      · simp [h0]
theorem sumN_zero {r : List Wnt} (h : okN r) (h0 : sumN r = 0) : r = [] := by
  cases r with
  | nil => rfl
  | cons w r =>
    have := h.head
    simp only [sumN, List.map_cons, List.sum_cons] at h0
    omega
def splF (m : Int) : Nat → List Wnt → List (List Wnt)
  | 0, _ => []
  | f + 1, r => if r = [] then [] else (cutW m r).1 :: splF m f (cutW m r).2
theorem splF_more {m : Int} (hm : 1 ≤ m) : ∀ (f g : Nat) (r : List Wnt), okN r → sumN r ≤ f → sumN r ≤ g → splF m f r = splF m g r
  | 0, g, r, h, hf, _ => by
    obtain rfl := sumN_zero h (by omega)
    cases g <;> simp [splF]
  | f + 1, 0, r, h, _, hg => by
    obtain rfl := sumN_zero h (by omega)
    simp [splF]
  | f + 1, g + 1, r, h, hf, hg => by
    by_cases h0 : r = []
    · simp [splF, h0]
    · simp only [splF, if_neg h0]
      have h1 := cutW_sum r m (by omega) h
      have h2 := (cutW_ne hm h h0).2
      rw [splF_more hm f g (cutW m r).2 (cutW_ok r m (by omega) h) (by omega) (by omega)]
/-- The parts of an order. -/
def spl (m : Int) (r : List Wnt) : List (List Wnt) := splF m (sumN r) r
theorem spl_nil (m : Int) : spl m [] = [] := rfl
theorem spl_cons {m : Int} (hm : 1 ≤ m) {r : List Wnt} (h : okN r) (h0 : r ≠ []) : spl m r = (cutW m r).1 :: spl m (cutW m r).2 := by
  have h1 := cutW_sum r m (by omega) h
  have h2 := (cutW_ne hm h h0).2
  obtain ⟨f, hf⟩ : ∃ f, sumN r = f + 1 := ⟨sumN r - 1, by omega⟩
  rw [spl, hf, splF, if_neg h0, splF_more hm f _ _ (cutW_ok r m (by omega) h) (by omega) (Nat.le_refl _)]
  rfl
theorem splF_len (m : Int) : ∀ (f : Nat) (r : List Wnt), (splF m f r).length ≤ f ∧ ∀ p ∈ splF m f r, p.length ≤ r.length
  | 0, _ => by simp [splF]
  | f + 1, r => by
    by_cases h0 : r = []
    · simp [splF, h0]
    · simp only [splF, if_neg h0]
      have h1 := splF_len m f (cutW m r).2
      have h2 := cutW_len r m
      refine ⟨by simp only [List.length_cons]; omega, fun p hp => ?_⟩
      simp only [List.mem_cons] at hp
      rcases hp with rfl | hp
      · exact h2.1
      · exact Nat.le_trans (h1.2 p hp) h2.2
theorem sumN_le {r : List Wnt} (h : okN r) : sumN r ≤ 144 * r.length := by
  induction r with
  | nil => simp [sumN]
  | cons w r ih =>
    have h1 := ih h.tail
    have h2 := h.head
    simp only [sumN, List.map_cons, List.sum_cons, List.length_cons] at h1 ⊢
    omega
/-- What is still to come, where now has been begun and there is room for so many. -/
def fin (m : Int) (now : List Wnt) (room : Int) (rem : List Wnt) : List (List Wnt) := if now ++ (cutW room rem).1 = [] then [] else (now ++ (cutW room rem).1) :: spl m (cutW room rem).2
theorem fin_start {m : Int} (hm : 1 ≤ m) {r : List Wnt} (h : okN r) : fin m [] m r = spl m r := by
  by_cases h0 : r = []
  · subst h0; simp [fin, cutW, spl_nil]
  · have := (cutW_ne hm h h0).1
    rw [spl_cons hm h h0, fin, List.nil_append, if_neg this]
theorem fin_less (m : Int) (now : List Wnt) {room left : Int} (b : Bot) (rs : List Wnt) (hl : left ≤ room) : fin m now room ((b, left) :: rs) = fin m (now ++ [(b, left)]) (room - left) rs := by
  rw [fin, fin, cutW_fit (w := (b, left)) hl]; simp
theorem fin_full {m : Int} (hm : 1 ≤ m) {now : List Wnt} (h0 : now ≠ []) {rs : List Wnt} (h : okN rs) : fin m now 0 rs = now :: fin m [] m rs := by
  rw [fin, cutW_zero h, fin_start hm h]; simp [h0]
theorem fin_over {m : Int} (hm : 1 ≤ m) (now : List Wnt) {room left : Int} (b : Bot) {rs : List Wnt} (hr : 1 ≤ room) (hl : room < left) (h2 : left ≤ 144) (h : okN rs) : fin m now room ((b, left) :: rs) = (now ++ [(b, room)]) :: fin m [] m ((b, left - room) :: rs) := by
  have hk : okN ((b, left - room) :: rs) := fun x hx => by
    simp only [List.mem_cons] at hx
    rcases hx with rfl | hx
    · exact ⟨by show 1 ≤ left - room; omega, by show left - room ≤ 144; omega⟩
    · exact h x hx
  rw [fin_start hm hk, fin, cutW_over (w := (b, left)) (by show ¬ left ≤ room; omega)]
  have h0 : 0 < room := by omega
  simp [h0]
theorem fin_end (m : Int) (now : List Wnt) (room : Int) : fin m now room [] = if now = [] then [] else [now] := by
  simp [fin, cutW, spl_nil]
/-- What is left of an order: of the want at hand so many, and all behind it. -/
def remW (ord : List Wnt) (i : Nat) (left : Int) : List Wnt := (match ord[i]? with | some w => if 0 < left then [(w.1, left)] else [] | none => []) ++ ord.drop (i + 1)
theorem remW_new {ord : List Wnt} (h : okN ord) {i : Nat} {w : Wnt} (hi : ord[i]? = some w) : remW ord i w.2 = ord.drop i := by
  obtain ⟨h1, h2⟩ := List.getElem?_eq_some_iff.1 hi
  have hw := h w (List.mem_of_getElem? hi)
  rw [remW, hi]
  simp only [if_pos (show 0 < w.2 by omega)]
  rw [List.drop_eq_getElem_cons h1, h2]
  rfl
theorem remW_some {ord : List Wnt} {i : Nat} {w : Wnt} {left : Int} (hi : ord[i]? = some w) (hl : 0 < left) : remW ord i left = (w.1, left) :: ord.drop (i + 1) := by
  rw [remW, hi]; simp [hl]
theorem remW_none {ord : List Wnt} {i : Nat} {w : Wnt} (hi : ord[i]? = some w) : remW ord i 0 = ord.drop (i + 1) := by
  rw [remW, hi]; simp
theorem okN_drop {ord : List Wnt} (h : okN ord) (i : Nat) : okN (ord.drop i) := fun w hw => h w (List.mem_of_mem_drop hw)
theorem stepA1 {m : Int} {ord now : List Wnt} {outs : List (List Wnt)} {room left : Int} {i : Nat} {b : Bot} {q : Int} (hi : ord[i]? = some (b, q)) (h0 : 0 < left) (hl : left ≤ room) (hf : outs ++ fin m now room (remW ord i left) = spl m ord) : outs ++ fin m (now ++ [(b, left)]) (room - left) (remW ord i 0) = spl m ord := by
  rw [remW_none hi, ← hf, remW_some hi h0, fin_less m now b _ hl]
theorem stepA2 {m : Int} (hm : 1 ≤ m) {ord now : List Wnt} (ho : okN ord) {outs : List (List Wnt)} {left : Int} {i : Nat} {b : Bot} {q : Int} (hi : ord[i]? = some (b, q)) (h0 : 0 < left) (hf : outs ++ fin m now left (remW ord i left) = spl m ord) : (outs ++ [now ++ [(b, left)]]) ++ fin m [] m (remW ord i 0) = spl m ord := by
  have h1 := stepA1 hi h0 (Int.le_refl _) hf
  rw [Int.sub_self, remW_none hi, fin_full hm (by simp) (okN_drop ho _)] at h1
  rw [remW_none hi, ← h1]; simp
theorem stepB {m : Int} (hm : 1 ≤ m) {ord now : List Wnt} (ho : okN ord) {outs : List (List Wnt)} {room left : Int} {i : Nat} {b : Bot} {q : Int} (hi : ord[i]? = some (b, q)) (hr : 1 ≤ room) (hl : room < left) (h2 : left ≤ 144) (hf : outs ++ fin m now room (remW ord i left) = spl m ord) : (outs ++ [now ++ [(b, room)]]) ++ fin m [] m (remW ord i (left - room)) = spl m ord := by
  rw [remW_some hi (by omega), fin_over hm now b hr hl h2 (okN_drop ho _)] at hf
  rw [remW_some hi (by omega), ← hf]; simp
/-- What has been put aside is not more than all parts. -/
theorem fin_bound {m : Int} {ord now rem : List Wnt} {out : List (List Wnt)} {room : Int} (h : okN ord) (hf : out ++ fin m now room rem = spl m ord) : out.length ≤ 144 * ord.length ∧ now.length ≤ ord.length := by
  have h1 := splF_len m (sumN ord) ord
  have h2 := sumN_le h
  have h3 : (spl m ord).length ≤ sumN ord := h1.1
  rw [← hf, List.length_append] at h3
  refine ⟨by omega, ?_⟩
  by_cases h0 : now ++ (cutW room rem).1 = []
  · have := (List.append_eq_nil_iff.1 h0).1
    simp [this]
  · have h4 : now ++ (cutW room rem).1 ∈ spl m ord := by rw [← hf, fin, if_neg h0]; simp
    have h5 := h1.2 _ h4
    rw [List.length_append] at h5
    omega
/-- What SplitOrder comes to. -/
def soC (ord : List Wnt) (m : Int) : Int := if ordOk ord = true then (if 1 ≤ m ∧ m ≤ 144 then 0 else 2) else 1
def soL (ord : List Wnt) (m : Int) : List (List Wnt) := if ordOk ord = true ∧ 1 ≤ m ∧ m ≤ 144 then spl m ord else []
theorem so_bad {ord : List Wnt} (m : Int) (h : ordOk ord = false) : soL ord m = [] ∧ soC ord m = 1 := by simp [soL, soC, h]
theorem so_far {ord : List Wnt} {m : Int} (h : ordOk ord = true) (h2 : ¬ (1 ≤ m ∧ m ≤ 144)) : soL ord m = [] ∧ soC ord m = 2 := ⟨by rw [soL, if_neg (fun x => h2 x.2)], by rw [soC, if_pos h, if_neg h2]⟩
theorem so_ok {ord : List Wnt} {m : Int} (h : ordOk ord = true) (h2 : 1 ≤ m ∧ m ≤ 144) : soL ord m = spl m ord ∧ soC ord m = 0 := ⟨by rw [soL, if_pos ⟨h, h2⟩], by rw [soC, if_pos h, if_pos h2]⟩
theorem ordOk_N {ord : List Wnt} (h : ordOk ord = true) : okN ord := by
  intro x hx
  simp only [ordOk, Bool.and_eq_true, List.all_eq_true, List.mem_range] at h
  obtain ⟨k, hk⟩ := List.mem_iff_getElem?.1 hx
  have h1 := h.1 k (List.getElem?_eq_some_iff.1 hk).1
  simp only [okAt, hk, Bool.and_eq_true] at h1
  have h2 := h1.1
  simp only [vW, Bool.and_eq_true, decide_eq_true_eq] at h2
  exact h2.2
theorem ordOk_L {ord : List Wnt} (h : ordOk ord = true) : ord.length ≤ 8 := by
  simp only [ordOk, Bool.and_eq_true, decide_eq_true_eq] at h
  exact h.2
theorem soL_len (ord : List Wnt) (m : Int) : (soL ord m).length ≤ 1152 := by
  unfold soL
  split
  · rename_i h
    have h1 := (splF_len m (sumN ord) ord).1
    have h2 := sumN_le (ordOk_N h.1)
    have h3 := ordOk_L h.1
    have : (spl m ord).length ≤ sumN ord := h1
    omega
  · simp
theorem soL_each (ord : List Wnt) (m : Int) : ∀ p ∈ soL ord m, p.length ≤ 8 := by
  unfold soL
  split
  · rename_i h
    intro p hp
    have h1 := (splF_len m (sumN ord) ord).2 p hp
    have h3 := ordOk_L h.1
    omega
  · simp
end Go.Proofs.YtcdhmlalpjcidaaDoor
