/-
  FnExactSameStack: for every two lists of crates the law returns true, and its arguments read as before. No condition.
-/
import Derived.Test.YtmonflmgnaamdaaRows
import Derived.Test.YtmonflmgnaamdaaFrame
import Derived.Test.YtmonflmgnaamdaaKb
import Derived.Test.YtmonflmgnaamdaaEq
import Derived.Deep.RegionHeld3
import Derived.WalkSmall
namespace Go.Proofs.Ytmonflmgnaamdaa
open Go.ChangeShapes Go.WideShapes Go.ChangeAt Go.RowKit Go.Deep

theorem equalIn_crt (x y : Crt) (w : World) : (Op.equalIn 10000 42 (.agg (kcells x).toArray) (.agg (kcells y).toArray)).run Try.prog w = .ok (decide (x = y)) w := by
  have := equalIn_crate x.1 y.1 x.2.1 y.2.1 w
  have he : decide (x = y) = decide (x.1 = y.1) := by rw [Bool.eq_iff_iff]; simp [Subtype.ext_iff]
  rw [he]; exact this
def SameTo {T : Type} (xs ys : List T) (k : Nat) : Prop := ∀ j, j < k → xs[j]? = ys[j]?
theorem SameTo.step {T : Type} {xs ys : List T} {k : Nat} (h : SameTo xs ys k) {x : T} (hx : xs[k]? = some x) (hy : ys[k]? = some x) : SameTo xs ys (k + 1) := by
  intro j hj
  by_cases e : j = k
  · subst e; rw [hx, hy]
  · exact h j (by omega)
theorem SameTo.all {T : Type} {xs ys : List T} (h : SameTo xs ys xs.length) (hl : xs.length = ys.length) : xs = ys := by
  apply List.ext_getElem?
  intro j
  by_cases hj : j < xs.length
  · exact h j hj
  · rw [List.getElem?_eq_none (by omega), List.getElem?_eq_none (by omega)]
theorem same_no {T : Type} {xs ys : List T} {k : Nat} {x y : T} (hx : xs[k]? = some x) (hy : ys[k]? = some y) (hne : x ≠ y) : xs ≠ ys := fun e => by
  subst e; rw [hx] at hy; exact hne (Option.some.inj hy)

set_option maxRecDepth 100000 in
set_option maxHeartbeats 2000000 in
theorem specSameStack_any (xs ys : List Crt) (A B : Option Addr) (c d : Nat) (w : World) (hl : xs.length ≤ 1048576) (hl' : ys.length ≤ 1048576) (hA : Rd w w.heap.size kcells A xs) (hB : Rd w w.heap.size kcells B ys) :
    Calls Try.prog 12 #[.slice A xs.length c, .slice B ys.length d] w fun e w' => e = .returned (.bool (decide (xs = ys))) ∧ Below w.heap.size w w' := by
  have HA := Lib.hid hA
  have HB := Lib.hid hB
  clear hA hB
  by_cases hne : xs.length = ys.length
  rotate_left
  · have h1 : ((xs.length : Int) == (ys.length : Int)) = false := by simp; omega
    have h2 : xs ≠ ys := fun e => hne (by rw [e])
    have h3 : ¬ ((xs.length : Int) = (ys.length : Int)) := by omega
    go_enter Try.func12, Try.ntmps12
    go_wp2
    go_ret
    exact ⟨ret_bool (by simp [h2]), Below.refl _ _⟩
  have hni : (xs.length : Int) = (ys.length : Int) := by omega
  go_enter Try.func12, Try.ntmps12
  go_wp2_with fail
  go_loopw [5] (fun i wr => ∃ (k : Nat), k ≤ xs.length ∧ i = .int .i64 k ∧ SameTo xs ys k ∧ Below w.heap.size w wr)
    (fun i _ => xs.length - (intOf i).toNat)
  case atStart => exact ⟨0, by omega, rfl, fun j h => by omega, Below.refl _ _⟩
  case round =>
    obtain ⟨k, hk, rfl, hT⟩ := hrel
    have HT := Lib.hid hT
    clear hT
    by_cases hlt : k < xs.length
    · obtain ⟨x, hx⟩ : ∃ x, xs[k]? = some x := ⟨_, List.getElem?_eq_getElem hlt⟩
      obtain ⟨y, hy⟩ : ∃ x, ys[k]? = some x := ⟨_, List.getElem?_eq_getElem (by omega)⟩
      obtain ⟨b, o, rfl, hbl, hrow⟩ := (HA.out.below (Nat.le_refl _) HT.out.2).at_ kcells_length hx
      obtain ⟨b', o', rfl, hbl', hrow'⟩ := (HB.out.below (Nat.le_refl _) HT.out.2).at_ kcells_length hy
      have HX := Lib.hid hx
      have HY := Lib.hid hy
      clear hx hy
      have hk0 : (0 : Int) ≤ (k : Int) := Int.natCast_nonneg _
      have hk8 : (k : Int) < xs.length := by omega
      have hk9 : (k : Int) < ys.length := by omega
      have hu := Try.underlying42
      have hi1 : (Try.prog.info? 42).map (·.size) = some (kcells x).length := size_k Try.sizeCr x
      have hi2 : (Try.prog.info? 42).map (·.size) = some (kcells y).length := size_k Try.sizeCr y
      by_cases hxy : x = y
      · subst hxy
        have hE : ∀ w, (Op.equalIn 10000 42 (.agg (kcells x).toArray) (.agg (kcells x).toArray)).run Try.prog w = .ok true w := fun w => by rw [equalIn_crt]; simp
        go_wp2_with fail
        refine wp_region_held_drew (S := fun w' => w'.rangeAt b (o + k * 24) (kcells x) ∧ w'.rangeAt b' (o' + k * 24) (kcells x)) (by kernel_rfl) ⟨(World.rangeAt_drew _ _ _ _).2 hrow, (World.rangeAt_drew _ _ _ _).2 hrow'⟩ (fun hHeld => ?_)
        refine wpAnyH_take (i := 0) (v := .slice (some ⟨b, o, none⟩) xs.length c) rfl (by kernel_rfl) (by kernel_rfl) (by kernel_rfl) (fun _ _ _ h => h) (Or.inl ⟨by rfl, fun w _ => by go_simp⟩) (by assumption) ?_
        try simp only [Act.put, List.getElem_toArray, List.getElem_cons_zero, List.getElem_cons_succ, List.setIfInBounds_toArray, List.set_cons_zero, List.set_cons_succ]
        refine wpAnyH_take (i := 1) (v := .int .i64 k) rfl (by kernel_rfl) (by kernel_rfl) (by kernel_rfl) (fun _ _ _ h => h) (Or.inl ⟨by rfl, fun w _ => by go_simp⟩) (by assumption) ?_
        try simp only [Act.put, List.getElem_toArray, List.getElem_cons_zero, List.getElem_cons_succ, List.setIfInBounds_toArray, List.set_cons_zero, List.set_cons_succ]
        refine wpAnyH_take (i := 2) (v := .pointer (some ⟨b, o + k * 24, none⟩)) rfl (by kernel_rfl) (by kernel_rfl) (by kernel_rfl) (fun _ _ _ h => h) (Or.inl ⟨by rfl, fun w _ => by go_simp⟩) (by assumption) ?_
        try simp only [Act.put, List.getElem_toArray, List.getElem_cons_zero, List.getElem_cons_succ, List.setIfInBounds_toArray, List.set_cons_zero, List.set_cons_succ]
        refine' wpAnyH_take (i := 3) (v := _) rfl (by kernel_rfl) (by kernel_rfl) (by kernel_rfl) (fun _ _ _ h => h) (yieldsIf_load_mid (by rfl) 42 (.tmp 19) rfl b (o + k * 24) rfl (kcells x) _ (fun w h => h.1) hu rfl hi1) (by assumption) ?_
        try simp only [Act.put, List.getElem_toArray, List.getElem_cons_zero, List.getElem_cons_succ, List.setIfInBounds_toArray, List.set_cons_zero, List.set_cons_succ]
        refine wpAnyH_take (i := 4) (v := (.slice (some ⟨b', o', none⟩) ys.length d)) rfl (by kernel_rfl) (by kernel_rfl) (by kernel_rfl) (fun _ _ _ h => h) (Or.inl ⟨by rfl, fun w _ => by go_simp⟩) (by assumption) ?_
        try simp only [Act.put, List.getElem_toArray, List.getElem_cons_zero, List.getElem_cons_succ, List.setIfInBounds_toArray, List.set_cons_zero, List.set_cons_succ]
        refine wpAnyH_take (i := 5) (v := .int .i64 k) rfl (by kernel_rfl) (by kernel_rfl) (by kernel_rfl) (fun _ _ _ h => h) (Or.inl ⟨by rfl, fun w _ => by go_simp⟩) (by assumption) ?_
        try simp only [Act.put, List.getElem_toArray, List.getElem_cons_zero, List.getElem_cons_succ, List.setIfInBounds_toArray, List.set_cons_zero, List.set_cons_succ]
        refine wpAnyH_take (i := 6) (v := (.pointer (some ⟨b', o' + k * 24, none⟩))) rfl (by kernel_rfl) (by kernel_rfl) (by kernel_rfl) (fun _ _ _ h => h) (Or.inl ⟨by rfl, fun w _ => by go_simp⟩) (by assumption) ?_
        try simp only [Act.put, List.getElem_toArray, List.getElem_cons_zero, List.getElem_cons_succ, List.setIfInBounds_toArray, List.set_cons_zero, List.set_cons_succ]
        refine' wpAnyH_take (i := 7) (v := _) rfl (by kernel_rfl) (by kernel_rfl) (by kernel_rfl) (fun _ _ _ h => h) (yieldsIf_load_mid (by rfl) 42 (.tmp 23) rfl b' (o' + k * 24) rfl (kcells x) _ (fun w h => h.2) hu rfl hi1) (by assumption) ?_
        try simp only [Act.put, List.getElem_toArray, List.getElem_cons_zero, List.getElem_cons_succ, List.setIfInBounds_toArray, List.set_cons_zero, List.set_cons_succ]
        refine wpAnyH_take (i := 8) (v := .bool false) rfl (by kernel_rfl) (by kernel_rfl) (by kernel_rfl) (fun _ _ _ h => h) (Or.inl ⟨by rfl, fun w _ => by go_simp⟩) (by assumption) ?_
        try simp only [Act.put, List.getElem_toArray, List.getElem_cons_zero, List.getElem_cons_succ, List.setIfInBounds_toArray, List.set_cons_zero, List.set_cons_succ]
        refine wpAnyH_done (by kernel_rfl) ?_ _
        clear hHeld hrow hrow' hE hu hi1 hi2
        go_wp2
        go_roundw
        case rel => exact ⟨k + 1, by omega, by go_num, HT.out.1.step HX.out HY.out, HT.out.2.drew⟩
        case measure => simp [intOf]; omega
      · have hE : ∀ w, (Op.equalIn 10000 42 (.agg (kcells x).toArray) (.agg (kcells y).toArray)).run Try.prog w = .ok false w := fun w => by rw [equalIn_crt]; simp [hxy]
        go_wp2_with fail
        refine wp_region_held_drew (S := fun w' => w'.rangeAt b (o + k * 24) (kcells x) ∧ w'.rangeAt b' (o' + k * 24) (kcells y)) (by kernel_rfl) ⟨(World.rangeAt_drew _ _ _ _).2 hrow, (World.rangeAt_drew _ _ _ _).2 hrow'⟩ (fun hHeld => ?_)
        refine wpAnyH_take (i := 0) (v := .slice (some ⟨b, o, none⟩) xs.length c) rfl (by kernel_rfl) (by kernel_rfl) (by kernel_rfl) (fun _ _ _ h => h) (Or.inl ⟨by rfl, fun w _ => by go_simp⟩) (by assumption) ?_
        try simp only [Act.put, List.getElem_toArray, List.getElem_cons_zero, List.getElem_cons_succ, List.setIfInBounds_toArray, List.set_cons_zero, List.set_cons_succ]
        refine wpAnyH_take (i := 1) (v := .int .i64 k) rfl (by kernel_rfl) (by kernel_rfl) (by kernel_rfl) (fun _ _ _ h => h) (Or.inl ⟨by rfl, fun w _ => by go_simp⟩) (by assumption) ?_
        try simp only [Act.put, List.getElem_toArray, List.getElem_cons_zero, List.getElem_cons_succ, List.setIfInBounds_toArray, List.set_cons_zero, List.set_cons_succ]
        refine wpAnyH_take (i := 2) (v := .pointer (some ⟨b, o + k * 24, none⟩)) rfl (by kernel_rfl) (by kernel_rfl) (by kernel_rfl) (fun _ _ _ h => h) (Or.inl ⟨by rfl, fun w _ => by go_simp⟩) (by assumption) ?_
        try simp only [Act.put, List.getElem_toArray, List.getElem_cons_zero, List.getElem_cons_succ, List.setIfInBounds_toArray, List.set_cons_zero, List.set_cons_succ]
        refine' wpAnyH_take (i := 3) (v := _) rfl (by kernel_rfl) (by kernel_rfl) (by kernel_rfl) (fun _ _ _ h => h) (yieldsIf_load_mid (by rfl) 42 (.tmp 19) rfl b (o + k * 24) rfl (kcells x) _ (fun w h => h.1) hu rfl hi1) (by assumption) ?_
        try simp only [Act.put, List.getElem_toArray, List.getElem_cons_zero, List.getElem_cons_succ, List.setIfInBounds_toArray, List.set_cons_zero, List.set_cons_succ]
        refine wpAnyH_take (i := 4) (v := (.slice (some ⟨b', o', none⟩) ys.length d)) rfl (by kernel_rfl) (by kernel_rfl) (by kernel_rfl) (fun _ _ _ h => h) (Or.inl ⟨by rfl, fun w _ => by go_simp⟩) (by assumption) ?_
        try simp only [Act.put, List.getElem_toArray, List.getElem_cons_zero, List.getElem_cons_succ, List.setIfInBounds_toArray, List.set_cons_zero, List.set_cons_succ]
        refine wpAnyH_take (i := 5) (v := .int .i64 k) rfl (by kernel_rfl) (by kernel_rfl) (by kernel_rfl) (fun _ _ _ h => h) (Or.inl ⟨by rfl, fun w _ => by go_simp⟩) (by assumption) ?_
        try simp only [Act.put, List.getElem_toArray, List.getElem_cons_zero, List.getElem_cons_succ, List.setIfInBounds_toArray, List.set_cons_zero, List.set_cons_succ]
        refine wpAnyH_take (i := 6) (v := (.pointer (some ⟨b', o' + k * 24, none⟩))) rfl (by kernel_rfl) (by kernel_rfl) (by kernel_rfl) (fun _ _ _ h => h) (Or.inl ⟨by rfl, fun w _ => by go_simp⟩) (by assumption) ?_
        try simp only [Act.put, List.getElem_toArray, List.getElem_cons_zero, List.getElem_cons_succ, List.setIfInBounds_toArray, List.set_cons_zero, List.set_cons_succ]
        refine' wpAnyH_take (i := 7) (v := _) rfl (by kernel_rfl) (by kernel_rfl) (by kernel_rfl) (fun _ _ _ h => h) (yieldsIf_load_mid (by rfl) 42 (.tmp 23) rfl b' (o' + k * 24) rfl (kcells y) _ (fun w h => h.2) hu rfl hi2) (by assumption) ?_
        try simp only [Act.put, List.getElem_toArray, List.getElem_cons_zero, List.getElem_cons_succ, List.setIfInBounds_toArray, List.set_cons_zero, List.set_cons_succ]
        refine wpAnyH_take (i := 8) (v := .bool true) rfl (by kernel_rfl) (by kernel_rfl) (by kernel_rfl) (fun _ _ _ h => h) (Or.inl ⟨by rfl, fun w _ => by go_simp⟩) (by assumption) ?_
        try simp only [Act.put, List.getElem_toArray, List.getElem_cons_zero, List.getElem_cons_succ, List.setIfInBounds_toArray, List.set_cons_zero, List.set_cons_succ]
        refine wpAnyH_done (by kernel_rfl) ?_ _
        clear hHeld hrow hrow' hE hu hi1 hi2
        go_wp2
        go_ret
        exact ⟨ret_bool (by simp; exact same_no HX.out HY.out hxy), HT.out.2.drew⟩
    · obtain rfl : k = xs.length := by omega
      go_wp2
      go_ret
      exact ⟨ret_bool (by simp [HT.out.1.all hne]), HT.out.2⟩

set_option maxRecDepth 100000 in
set_option maxHeartbeats 2000000 in
theorem slicesEqualK_any (xs ys : List Crt) (A B : Option Addr) (c d : Nat) (w : World) (hl : xs.length ≤ 1048576) (hl' : ys.length ≤ 1048576) (hA : Rd w w.heap.size kcells A xs) (hB : Rd w w.heap.size kcells B ys) :
    Calls Try.prog 25 #[.slice A xs.length c, .slice B ys.length d] w fun e w' => e = .returned (.bool (decide (xs = ys))) ∧ Below w.heap.size w w' := by
  have HA := Lib.hid hA
  have HB := Lib.hid hB
  clear hA hB
  by_cases hne : xs.length = ys.length
  rotate_left
  · have h1 : ((xs.length : Int) == (ys.length : Int)) = false := by simp; omega
    have h2 : xs ≠ ys := fun e => hne (by rw [e])
    have h3 : ¬ ((xs.length : Int) = (ys.length : Int)) := by omega
    go_enter Try.func25, Try.ntmps25
    go_wp2
    go_ret
    exact ⟨ret_bool (by simp [h2]), Below.refl _ _⟩
  have hni : (xs.length : Int) = (ys.length : Int) := by omega
  go_enter Try.func25, Try.ntmps25
  go_wp2_with fail
  go_loopw [13] (fun i wr => ∃ (k : Nat), k ≤ xs.length ∧ i = .int .i64 k ∧ SameTo xs ys k ∧ Below w.heap.size w wr)
    (fun i _ => xs.length - (intOf i).toNat)
  case atStart => exact ⟨0, by omega, rfl, fun j h => by omega, Below.refl _ _⟩
  case round =>
    obtain ⟨k, hk, rfl, hT⟩ := hrel
    have HT := Lib.hid hT
    clear hT
    by_cases hlt : k < xs.length
    · obtain ⟨x, hx⟩ : ∃ x, xs[k]? = some x := ⟨_, List.getElem?_eq_getElem hlt⟩
      obtain ⟨y, hy⟩ : ∃ x, ys[k]? = some x := ⟨_, List.getElem?_eq_getElem (by omega)⟩
      obtain ⟨b, o, rfl, hbl, hrow⟩ := (HA.out.below (Nat.le_refl _) HT.out.2).at_ kcells_length hx
      obtain ⟨b', o', rfl, hbl', hrow'⟩ := (HB.out.below (Nat.le_refl _) HT.out.2).at_ kcells_length hy
      have HX := Lib.hid hx
      have HY := Lib.hid hy
      clear hx hy
      have hk0 : (0 : Int) ≤ (k : Int) := Int.natCast_nonneg _
      have hk8 : (k : Int) < xs.length := by omega
      have hk9 : (k : Int) < ys.length := by omega
      have hu := Try.underlying42
      have hi1 : (Try.prog.info? 42).map (·.size) = some (kcells x).length := size_k Try.sizeCr x
      have hi2 : (Try.prog.info? 42).map (·.size) = some (kcells y).length := size_k Try.sizeCr y
      by_cases hxy : x = y
      · subst hxy
        have hE : ∀ w, (Op.equalIn 10000 42 (.agg (kcells x).toArray) (.agg (kcells x).toArray)).run Try.prog w = .ok true w := fun w => by rw [equalIn_crt]; simp
        go_wp2_with fail
        refine wp_region_held_drew (S := fun w' => w'.rangeAt b (o + k * 24) (kcells x) ∧ w'.rangeAt b' (o' + k * 24) (kcells x)) (by kernel_rfl) ⟨(World.rangeAt_drew _ _ _ _).2 hrow, (World.rangeAt_drew _ _ _ _).2 hrow'⟩ (fun hHeld => ?_)
        refine wpAnyH_take (i := 0) (v := .slice (some ⟨b, o, none⟩) xs.length c) rfl (by kernel_rfl) (by kernel_rfl) (by kernel_rfl) (fun _ _ _ h => h) (Or.inl ⟨by rfl, fun w _ => by go_simp⟩) (by assumption) ?_
        try simp only [Act.put, List.getElem_toArray, List.getElem_cons_zero, List.getElem_cons_succ, List.setIfInBounds_toArray, List.set_cons_zero, List.set_cons_succ]
        refine wpAnyH_take (i := 1) (v := .int .i64 k) rfl (by kernel_rfl) (by kernel_rfl) (by kernel_rfl) (fun _ _ _ h => h) (Or.inl ⟨by rfl, fun w _ => by go_simp⟩) (by assumption) ?_
        try simp only [Act.put, List.getElem_toArray, List.getElem_cons_zero, List.getElem_cons_succ, List.setIfInBounds_toArray, List.set_cons_zero, List.set_cons_succ]
        refine wpAnyH_take (i := 2) (v := .pointer (some ⟨b, o + k * 24, none⟩)) rfl (by kernel_rfl) (by kernel_rfl) (by kernel_rfl) (fun _ _ _ h => h) (Or.inl ⟨by rfl, fun w _ => by go_simp⟩) (by assumption) ?_
        try simp only [Act.put, List.getElem_toArray, List.getElem_cons_zero, List.getElem_cons_succ, List.setIfInBounds_toArray, List.set_cons_zero, List.set_cons_succ]
        refine' wpAnyH_take (i := 3) (v := _) rfl (by kernel_rfl) (by kernel_rfl) (by kernel_rfl) (fun _ _ _ h => h) (yieldsIf_load_mid (by rfl) 42 (.tmp 18) rfl b (o + k * 24) rfl (kcells x) _ (fun w h => h.1) hu rfl hi1) (by assumption) ?_
        try simp only [Act.put, List.getElem_toArray, List.getElem_cons_zero, List.getElem_cons_succ, List.setIfInBounds_toArray, List.set_cons_zero, List.set_cons_succ]
        refine wpAnyH_take (i := 4) (v := (.slice (some ⟨b', o', none⟩) ys.length d)) rfl (by kernel_rfl) (by kernel_rfl) (by kernel_rfl) (fun _ _ _ h => h) (Or.inl ⟨by rfl, fun w _ => by go_simp⟩) (by assumption) ?_
        try simp only [Act.put, List.getElem_toArray, List.getElem_cons_zero, List.getElem_cons_succ, List.setIfInBounds_toArray, List.set_cons_zero, List.set_cons_succ]
        refine wpAnyH_take (i := 5) (v := .int .i64 k) rfl (by kernel_rfl) (by kernel_rfl) (by kernel_rfl) (fun _ _ _ h => h) (Or.inl ⟨by rfl, fun w _ => by go_simp⟩) (by assumption) ?_
        try simp only [Act.put, List.getElem_toArray, List.getElem_cons_zero, List.getElem_cons_succ, List.setIfInBounds_toArray, List.set_cons_zero, List.set_cons_succ]
        refine wpAnyH_take (i := 6) (v := (.pointer (some ⟨b', o' + k * 24, none⟩))) rfl (by kernel_rfl) (by kernel_rfl) (by kernel_rfl) (fun _ _ _ h => h) (Or.inl ⟨by rfl, fun w _ => by go_simp⟩) (by assumption) ?_
        try simp only [Act.put, List.getElem_toArray, List.getElem_cons_zero, List.getElem_cons_succ, List.setIfInBounds_toArray, List.set_cons_zero, List.set_cons_succ]
        refine' wpAnyH_take (i := 7) (v := _) rfl (by kernel_rfl) (by kernel_rfl) (by kernel_rfl) (fun _ _ _ h => h) (yieldsIf_load_mid (by rfl) 42 (.tmp 22) rfl b' (o' + k * 24) rfl (kcells x) _ (fun w h => h.2) hu rfl hi1) (by assumption) ?_
        try simp only [Act.put, List.getElem_toArray, List.getElem_cons_zero, List.getElem_cons_succ, List.setIfInBounds_toArray, List.set_cons_zero, List.set_cons_succ]
        refine wpAnyH_take (i := 8) (v := .bool false) rfl (by kernel_rfl) (by kernel_rfl) (by kernel_rfl) (fun _ _ _ h => h) (Or.inl ⟨by rfl, fun w _ => by go_simp⟩) (by assumption) ?_
        try simp only [Act.put, List.getElem_toArray, List.getElem_cons_zero, List.getElem_cons_succ, List.setIfInBounds_toArray, List.set_cons_zero, List.set_cons_succ]
        refine wpAnyH_done (by kernel_rfl) ?_ _
        clear hHeld hrow hrow' hE hu hi1 hi2
        go_wp2
        go_roundw
        case rel => exact ⟨k + 1, by omega, by go_num, HT.out.1.step HX.out HY.out, HT.out.2.drew⟩
        case measure => simp [intOf]; omega
      · have hE : ∀ w, (Op.equalIn 10000 42 (.agg (kcells x).toArray) (.agg (kcells y).toArray)).run Try.prog w = .ok false w := fun w => by rw [equalIn_crt]; simp [hxy]
        go_wp2_with fail
        refine wp_region_held_drew (S := fun w' => w'.rangeAt b (o + k * 24) (kcells x) ∧ w'.rangeAt b' (o' + k * 24) (kcells y)) (by kernel_rfl) ⟨(World.rangeAt_drew _ _ _ _).2 hrow, (World.rangeAt_drew _ _ _ _).2 hrow'⟩ (fun hHeld => ?_)
        refine wpAnyH_take (i := 0) (v := .slice (some ⟨b, o, none⟩) xs.length c) rfl (by kernel_rfl) (by kernel_rfl) (by kernel_rfl) (fun _ _ _ h => h) (Or.inl ⟨by rfl, fun w _ => by go_simp⟩) (by assumption) ?_
        try simp only [Act.put, List.getElem_toArray, List.getElem_cons_zero, List.getElem_cons_succ, List.setIfInBounds_toArray, List.set_cons_zero, List.set_cons_succ]
        refine wpAnyH_take (i := 1) (v := .int .i64 k) rfl (by kernel_rfl) (by kernel_rfl) (by kernel_rfl) (fun _ _ _ h => h) (Or.inl ⟨by rfl, fun w _ => by go_simp⟩) (by assumption) ?_
        try simp only [Act.put, List.getElem_toArray, List.getElem_cons_zero, List.getElem_cons_succ, List.setIfInBounds_toArray, List.set_cons_zero, List.set_cons_succ]
        refine wpAnyH_take (i := 2) (v := .pointer (some ⟨b, o + k * 24, none⟩)) rfl (by kernel_rfl) (by kernel_rfl) (by kernel_rfl) (fun _ _ _ h => h) (Or.inl ⟨by rfl, fun w _ => by go_simp⟩) (by assumption) ?_
        try simp only [Act.put, List.getElem_toArray, List.getElem_cons_zero, List.getElem_cons_succ, List.setIfInBounds_toArray, List.set_cons_zero, List.set_cons_succ]
        refine' wpAnyH_take (i := 3) (v := _) rfl (by kernel_rfl) (by kernel_rfl) (by kernel_rfl) (fun _ _ _ h => h) (yieldsIf_load_mid (by rfl) 42 (.tmp 18) rfl b (o + k * 24) rfl (kcells x) _ (fun w h => h.1) hu rfl hi1) (by assumption) ?_
        try simp only [Act.put, List.getElem_toArray, List.getElem_cons_zero, List.getElem_cons_succ, List.setIfInBounds_toArray, List.set_cons_zero, List.set_cons_succ]
        refine wpAnyH_take (i := 4) (v := (.slice (some ⟨b', o', none⟩) ys.length d)) rfl (by kernel_rfl) (by kernel_rfl) (by kernel_rfl) (fun _ _ _ h => h) (Or.inl ⟨by rfl, fun w _ => by go_simp⟩) (by assumption) ?_
        try simp only [Act.put, List.getElem_toArray, List.getElem_cons_zero, List.getElem_cons_succ, List.setIfInBounds_toArray, List.set_cons_zero, List.set_cons_succ]
        refine wpAnyH_take (i := 5) (v := .int .i64 k) rfl (by kernel_rfl) (by kernel_rfl) (by kernel_rfl) (fun _ _ _ h => h) (Or.inl ⟨by rfl, fun w _ => by go_simp⟩) (by assumption) ?_
        try simp only [Act.put, List.getElem_toArray, List.getElem_cons_zero, List.getElem_cons_succ, List.setIfInBounds_toArray, List.set_cons_zero, List.set_cons_succ]
        refine wpAnyH_take (i := 6) (v := (.pointer (some ⟨b', o' + k * 24, none⟩))) rfl (by kernel_rfl) (by kernel_rfl) (by kernel_rfl) (fun _ _ _ h => h) (Or.inl ⟨by rfl, fun w _ => by go_simp⟩) (by assumption) ?_
        try simp only [Act.put, List.getElem_toArray, List.getElem_cons_zero, List.getElem_cons_succ, List.setIfInBounds_toArray, List.set_cons_zero, List.set_cons_succ]
        refine' wpAnyH_take (i := 7) (v := _) rfl (by kernel_rfl) (by kernel_rfl) (by kernel_rfl) (fun _ _ _ h => h) (yieldsIf_load_mid (by rfl) 42 (.tmp 22) rfl b' (o' + k * 24) rfl (kcells y) _ (fun w h => h.2) hu rfl hi2) (by assumption) ?_
        try simp only [Act.put, List.getElem_toArray, List.getElem_cons_zero, List.getElem_cons_succ, List.setIfInBounds_toArray, List.set_cons_zero, List.set_cons_succ]
        refine wpAnyH_take (i := 8) (v := .bool true) rfl (by kernel_rfl) (by kernel_rfl) (by kernel_rfl) (fun _ _ _ h => h) (Or.inl ⟨by rfl, fun w _ => by go_simp⟩) (by assumption) ?_
        try simp only [Act.put, List.getElem_toArray, List.getElem_cons_zero, List.getElem_cons_succ, List.setIfInBounds_toArray, List.set_cons_zero, List.set_cons_succ]
        refine wpAnyH_done (by kernel_rfl) ?_ _
        clear hHeld hrow hrow' hE hu hi1 hi2
        go_wp2
        go_ret
        exact ⟨ret_bool (by simp; exact same_no HX.out HY.out hxy), HT.out.2.drew⟩
    · obtain rfl : k = xs.length := by omega
      go_wp2
      go_ret
      exact ⟨ret_bool (by simp [HT.out.1.all hne]), HT.out.2⟩

theorem sameStack_any (xs ys : List Crt) (A B : Option Addr) (c d : Nat) (w : World) (hl : xs.length ≤ 1048576) (hl' : ys.length ≤ 1048576) (hA : Rd w w.heap.size kcells A xs) (hB : Rd w w.heap.size kcells B ys) :
    Calls Try.prog 13 #[.slice A xs.length c, .slice B ys.length d] w fun e w' => e = .returned (.bool (decide (xs = ys))) ∧ Below w.heap.size w w' := by
  have HA := Lib.hid hA
  have HB := Lib.hid hB
  clear hA hB
  go_enter Try.func13, Try.ntmps13
  go_wp2_with fail
  refine (slicesEqualK_any xs ys A B c d w hl hl' HA.out HB.out).mono ?_
  rintro e w1 ⟨rfl, hb⟩
  have HB1 := Lib.hid hb
  clear hb
  go_wp2
  go_ret
  exact ⟨rfl, HB1.out⟩

set_option maxRecDepth 100000 in
set_option maxHeartbeats 2000000 in
theorem ssLaw_any (xs ys : List Crt) (A B : Option Addr) (c d : Nat) (w : World) (hl : xs.length ≤ 9223372036854775807) (hl' : ys.length ≤ 9223372036854775807) (hA : Rd w w.heap.size kcells A xs) (hB : Rd w w.heap.size kcells B ys) :
    Calls Try.prog 4 #[.slice A xs.length c, .slice B ys.length d] w (Good w) := by
  have HA := Lib.hid hA
  have HB := Lib.hid hB
  clear hA hB
  go_enter Try.func4, Try.ntmps4
  go_wp2_with fail
  refine (szCrateS_any A xs.length c 1048576 hl ⟨by omega, by omega⟩ _).mono ?_
  rintro e w' ⟨rfl, rfl⟩
  by_cases hn : (1048576 : Int) < xs.length
  · rw [if_pos hn]
    go_wp2
    go_ret
    exact ⟨rfl, Below.refl _ _⟩
  rw [if_neg hn]
  have hn0 : (0 : Int) ≤ 1048576 - xs.length := by omega
  have hl2 : xs.length ≤ 1048576 := by omega
  go_wp2_with fail
  refine (szCrateS_any B ys.length d (1048576 - xs.length) hl' ⟨by omega, by omega⟩ _).mono ?_
  rintro e w' ⟨rfl, rfl⟩
  by_cases hm : (1048576 : Int) - xs.length < ys.length
  · rw [if_pos hm]
    go_wp2
    go_ret
    exact ⟨rfl, Below.refl _ _⟩
  rw [if_neg hm]
  have hm0 : (0 : Int) ≤ 1048576 - xs.length - ys.length := by omega
  have hl2' : ys.length ≤ 1048576 := by omega
  clear hn hm
  have HB0 : Hid (Below w.heap.size w w) := Below.refl _ _
  go_wp2_with fail
  refine (toCrateS_any xs A c _ (by omega) (HA.out.keep HB0.out)).mono ?_
  rintro e w1 ⟨rfl, hR, hb⟩
  have HB1 : Hid (Below w.heap.size w w1) := HB0.out.trans (hb.mono HB0.out.size)
  have HR1_1 : Hid (Rs w1 w.heap.size 42 kcells xs) := hR
  clear hR hb
  go_wp2_with fail
  refine (toCrateS_any ys B d _ (by omega) (HB.out.keep HB1.out)).mono ?_
  rintro e w2 ⟨rfl, hR, hb⟩
  have HB2 : Hid (Below w.heap.size w w2) := HB1.out.trans (hb.mono HB1.out.size)
  have HR1_2 : Hid (Rs w2 w.heap.size 42 kcells xs) := Blk.keep HR1_1.out hb
  have HR2_2 : Hid (Rs w2 w1.heap.size 42 kcells ys) := hR
  clear hR hb
  go_wp2_with fail
  refine (specSameStack_any xs ys _ _ _ _ _ (by omega) (by omega) (HR1_2.out.rd HR1_2.out.lt) (HR2_2.out.rd HR2_2.out.lt)).mono ?_
  rintro e w3 ⟨rfl, hb⟩
  have HB3 : Hid (Below w.heap.size w w3) := HB2.out.trans (hb.mono HB2.out.size)
  clear hb
  go_wp2_with fail
  refine (toCrateS_any xs A c _ (by omega) (HA.out.keep HB3.out)).mono ?_
  rintro e w4 ⟨rfl, hR, hb⟩
  have HB4 : Hid (Below w.heap.size w w4) := HB3.out.trans (hb.mono HB3.out.size)
  have HR4_4 : Hid (Rs w4 w3.heap.size 42 kcells xs) := hR
  clear hR hb
  go_wp2_with fail
  refine (toCrateS_any ys B d _ (by omega) (HB.out.keep HB4.out)).mono ?_
  rintro e w5 ⟨rfl, hR, hb⟩
  have HB5 : Hid (Below w.heap.size w w5) := HB4.out.trans (hb.mono HB4.out.size)
  have HR4_5 : Hid (Rs w5 w3.heap.size 42 kcells xs) := Blk.keep HR4_4.out hb
  have HR5_5 : Hid (Rs w5 w4.heap.size 42 kcells ys) := hR
  clear hR hb
  go_wp2_with fail
  refine (sameStack_any xs ys _ _ _ _ _ (by omega) (by omega) (HR4_5.out.rd HR4_5.out.lt) (HR5_5.out.rd HR5_5.out.lt)).mono ?_
  rintro e w6 ⟨rfl, hb⟩
  have HB6 : Hid (Below w.heap.size w w6) := HB5.out.trans (hb.mono HB5.out.size)
  have HR4_6 : Hid (Rs w6 w3.heap.size 42 kcells xs) := Blk.keep HR4_5.out hb
  have HR5_6 : Hid (Rs w6 w4.heap.size 42 kcells ys) := Blk.keep HR5_5.out hb
  clear hb
  obtain ⟨v, hv⟩ : ∃ v, decide (xs = ys) = v := ⟨_, rfl⟩
  rw [hv]
  clear hv
  cases v
  all_goals
    go_wp2_with fail
    refine (toCrateS_any xs A c _ (by omega) (HA.out.keep HB6.out)).mono ?_
    rintro e w7 ⟨rfl, hR, hb⟩
    have HB7 : Hid (Below w.heap.size w w7) := HB6.out.trans (hb.mono HB6.out.size)
    have HR4_7 : Hid (Rs w7 w3.heap.size 42 kcells xs) := Blk.keep HR4_6.out hb
    have HR5_7 : Hid (Rs w7 w4.heap.size 42 kcells ys) := Blk.keep HR5_6.out hb
    have HR7_7 : Hid (Rs w7 w6.heap.size 42 kcells xs) := hR
    clear hR hb
    go_wp2_with fail
    refine (eqCrateS_same xs _ _ _ _ _ (by omega) (HR4_7.out.rd HR4_7.out.lt) (HR7_7.out.rd HR7_7.out.lt)).mono ?_
    rintro e w8 ⟨rfl, hb⟩
    have HB8 : Hid (Below w.heap.size w w8) := HB7.out.trans (hb.mono HB7.out.size)
    have HR5_8 : Hid (Rs w8 w4.heap.size 42 kcells ys) := Blk.keep HR5_7.out hb
    clear hb
    go_wp2_with fail
    refine (toCrateS_any ys B d _ (by omega) (HB.out.keep HB8.out)).mono ?_
    rintro e w9 ⟨rfl, hR, hb⟩
    have HB9 : Hid (Below w.heap.size w w9) := HB8.out.trans (hb.mono HB8.out.size)
    have HR5_9 : Hid (Rs w9 w4.heap.size 42 kcells ys) := Blk.keep HR5_8.out hb
    have HR9_9 : Hid (Rs w9 w8.heap.size 42 kcells ys) := hR
    clear hR hb
    go_wp2_with fail
    refine (eqCrateS_same ys _ _ _ _ _ (by omega) (HR5_9.out.rd HR5_9.out.lt) (HR9_9.out.rd HR9_9.out.lt)).mono ?_
    rintro e w10 ⟨rfl, hb⟩
    have HB10 : Hid (Below w.heap.size w w10) := HB9.out.trans (hb.mono HB9.out.size)
    clear hb
    go_wp2
    go_ret
    exact ⟨rfl, HB10.out⟩

set_option maxRecDepth 100000 in
theorem fnExactSameStack_lifted (os : Os) (started : os.Started) (H : Type) (enc : TypeId × Value → H) :
    ReturnsInHanded {} Try.checked os 4 .any (Rows.fnExactSameStackSpec.pre6 enc Try.prog Try.f4 Rows.fnExactSameStackRow.domain false) (Rows.fnExactSameStackSpec.post enc Try.prog Try.f4 false true false false) := by
  refine law_lift (C := Try.checked) 2 Try.own started (by kernel_rfl) Try.func4
    (ChangeSpec.witness6 (enc := enc) (C := Try.checked) false ⟨#[], #[.slice none 0 0, .slice none 0 0], []⟩ 8 (by kernel_rfl) (by kernel_rfl) (by kernel_rfl) (by kernel_rfl))
    Try.laidOut rfl (by kernel_rfl) Try.underlying4 (by kernel_rfl) (by kernel_rfl) (fun ds h => by match ds, h with | [d1, d2], _ => rfl) ?_
  intro W base args ds p hval hA
  rw [Try.params4] at hA hval
  obtain ⟨v0, v1, d0, d1, r0, r1, rfl, rfl, rfl, h0, h1⟩ := trodAll_two hA
  obtain ⟨A0, n0, c0, rfl⟩ := okWide_slice Try.underlying22 (hval 0 22 v0 rfl rfl)
  obtain ⟨A0, c0, xs0, he0, _, hcm0, _, hR0⟩ := open_rows kcells (fun _ => True) Try.underlying22 Try.flatCL Try.cellsCL (by decide) kcells_length kcells_of rfl h0
  cases he0
  unfold maxLen at hcm0
  obtain ⟨A1, n1, c1, rfl⟩ := okWide_slice Try.underlying22 (hval 1 22 v1 rfl rfl)
  obtain ⟨A1, c1, xs1, he1, _, hcm1, _, hR1⟩ := open_rows kcells (fun _ => True) Try.underlying22 Try.flatCL Try.cellsCL (by decide) kcells_length kcells_of rfl h1
  cases he1
  unfold maxLen at hcm1
  exact ssLaw_any xs0 xs1 A0 A1 c0 c1 W (by omega) (by omega) hR0 hR1

theorem fnExactSameStack_holds : Rows.FnExactSameStackSaid :=
  OpenClaim.holds_of_wide 4 Try.f4 rfl rfl rfl rfl rfl rfl rfl ⟨rfl, rfl, rfl, rfl, rfl⟩ rfl rfl rfl rfl rfl (by kernel_rfl) Try.func4 (by kernel_rfl)
    (of_decide_eq_true (by kernel_rfl)) (by unfold Func.isWrapper; rw [if_neg (of_decide_eq_false (by kernel_rfl))]; exact ⟨rfl, rfl⟩)
    (fun os started H enc _ => fnExactSameStack_lifted os started H enc)
#print axioms fnExactSameStack_holds
end Go.Proofs.Ytmonflmgnaamdaa
