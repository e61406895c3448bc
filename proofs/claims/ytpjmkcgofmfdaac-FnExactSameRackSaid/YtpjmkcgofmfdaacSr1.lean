/-
  The contracts of SameRack, of the model and of the program. Condition: the racks read as lists of things that are stored.
-/
import Derived.Test.YtpjmkcgofmfdaacRk
import Derived.Deep.RegionHeld3
import Derived.WalkSmall
namespace Go.Proofs.Ytpjmkcgofmfdaac
open Go.ChangeShapes Go.WideShapes Go.ChangeAt Go.RowKit Go.Deep

theorem rowW {w : World} {b o : Nat} {k y n : Int} (h : w.rangeAt b o (wcells ((k, y), n))) : w.cell? ⟨b, o, none⟩ = some (.int .u8 k) ∧ w.cell? ⟨b, o + 1, none⟩ = some (.int .i16 y) ∧ w.cell? ⟨b, o + 2, none⟩ = some (.int .i16 n) :=
  ⟨h 0 _ rfl, h 1 _ rfl, h 2 _ rfl⟩
def SameTo {T : Type} (xs ys : List T) (k : Nat) : Prop := ∀ j, j < k → xs[j]? = ys[j]?
theorem SameTo.step {T : Type} {xs ys : List T} {k : Nat} (h : SameTo xs ys k) {x : T} (hx : xs[k]? = some x) (hy : ys[k]? = some x) : SameTo xs ys (k + 1) := by
  intro j hj
  by_cases e : j = k
  · subst e; rw [hx, hy]
  · exact h j (by omega)
theorem SameTo.all {T : Type} {xs ys : List T} (h : SameTo xs ys xs.length) (hl : xs.length = ys.length) : xs = ys := by
  apply List.ext_getElem?
  intro j
  by_cases hj : j < xs.length
  · exact h j hj
  · rw [List.getElem?_eq_none (by omega), List.getElem?_eq_none (by omega)]
theorem same_no {T : Type} {xs ys : List T} {k : Nat} {x y : T} (hx : xs[k]? = some x) (hy : ys[k]? = some y) (hne : x ≠ y) : xs ≠ ys := fun e => by
  subst e; rw [hx] at hy; exact hne (Option.some.inj hy)

set_option maxRecDepth 100000 in
set_option maxHeartbeats 2000000 in
theorem slicesEqualT_any (xs ys : List Wnt) (A B : Option Addr) (c d : Nat) (w : World) (hl : xs.length ≤ 1048576) (hl' : ys.length ≤ 1048576) (hA : Rd w w.heap.size wcells A xs) (hB : Rd w w.heap.size wcells B ys) :
    Calls Try.prog 12 #[.slice A xs.length c, .slice B ys.length d] w fun e w' => e = .returned (.bool (decide (xs = ys))) ∧ Below w.heap.size w w' := by
  have HA := Lib.hid hA
  have HB := Lib.hid hB
  clear hA hB
  by_cases hne : xs.length = ys.length
  rotate_left
  · have h1 : ((xs.length : Int) == (ys.length : Int)) = false := by simp; omega
    have h2 : xs ≠ ys := fun e => hne (by rw [e])
    have h3 : ¬ ((xs.length : Int) = (ys.length : Int)) := by omega
    go_enter Try.func12, Try.ntmps12
    go_wp2
    go_ret
    exact ⟨ret_bool (by simp [h2]), Below.refl _ _⟩
  have hni : (xs.length : Int) = (ys.length : Int) := by omega
  go_enter Try.func12, Try.ntmps12
  go_wp2_with fail
  go_loopw [13] (fun i wr => ∃ (k : Nat), k ≤ xs.length ∧ i = .int .i64 k ∧ SameTo xs ys k ∧ Below w.heap.size w wr)
    (fun i _ => xs.length - (intOf i).toNat)
  case atStart => exact ⟨0, by omega, rfl, fun j h => by omega, Below.refl _ _⟩
  case round =>
    obtain ⟨k, hk, rfl, hT⟩ := hrel
    have HT := Lib.hid hT
    clear hT
    by_cases hlt : k < xs.length
    · obtain ⟨⟨⟨k1, y1⟩, n1⟩, hx⟩ : ∃ x, xs[k]? = some x := ⟨_, List.getElem?_eq_getElem hlt⟩
      obtain ⟨⟨⟨k2, y2⟩, n2⟩, hy⟩ : ∃ x, ys[k]? = some x := ⟨_, List.getElem?_eq_getElem (by omega)⟩
      obtain ⟨b, o, rfl, hbl, hrow⟩ := (HA.out.below (Nat.le_refl _) HT.out.2).at_ wcells_length hx
      obtain ⟨b', o', rfl, hbl', hrow'⟩ := (HB.out.below (Nat.le_refl _) HT.out.2).at_ wcells_length hy
      obtain ⟨e1, e2, e3⟩ := rowW hrow
      obtain ⟨f1, f2, f3⟩ := rowW hrow'
      have HX := Lib.hid hx
      have HY := Lib.hid hy
      clear hx hy hrow hrow'
      have hk0 : (0 : Int) ≤ (k : Int) := Int.natCast_nonneg _
      have hk8 : (k : Int) < xs.length := by omega
      have hk9 : (k : Int) < ys.length := by omega
      by_cases h1 : k1 = k2
      · by_cases h2 : y1 = y2
        · by_cases h3 : n1 = n2
          · subst h1; subst h2; subst h3
            go_wp2_with fail
            go_region_held3 (fun w' => w'.cell? ⟨b, o + k * 3, none⟩ = some (.int .u8 k1) ∧ w'.cell? ⟨b, o + k * 3 + 1, none⟩ = some (.int .i16 y1) ∧ w'.cell? ⟨b, o + k * 3 + 2, none⟩ = some (.int .i16 n1) ∧ w'.cell? ⟨b', o' + k * 3, none⟩ = some (.int .u8 k1) ∧ w'.cell? ⟨b', o' + k * 3 + 1, none⟩ = some (.int .i16 y1) ∧ w'.cell? ⟨b', o' + k * 3 + 2, none⟩ = some (.int .i16 n1)) (go_keep) (fail)
            go_wp2
            go_roundw
            case rel => exact ⟨k + 1, by omega, by go_num, HT.out.1.step HX.out HY.out, HT.out.2.drew⟩
            case measure => simp [intOf]; omega
          · subst h1; subst h2
            have g3 : (n1 == n2) = false := by simpa using h3
            go_wp2_with fail
            go_region_held3 (fun w' => w'.cell? ⟨b, o + k * 3, none⟩ = some (.int .u8 k1) ∧ w'.cell? ⟨b, o + k * 3 + 1, none⟩ = some (.int .i16 y1) ∧ w'.cell? ⟨b, o + k * 3 + 2, none⟩ = some (.int .i16 n1) ∧ w'.cell? ⟨b', o' + k * 3, none⟩ = some (.int .u8 k1) ∧ w'.cell? ⟨b', o' + k * 3 + 1, none⟩ = some (.int .i16 y1) ∧ w'.cell? ⟨b', o' + k * 3 + 2, none⟩ = some (.int .i16 n2)) (go_keep) (fail)
            go_wp2
            go_ret
            exact ⟨ret_bool (by simp; exact same_no HX.out HY.out (by simp [*])), HT.out.2.drew⟩
        · subst h1
          have g2 : (y1 == y2) = false := by simpa using h2
          go_wp2_with fail
          go_region_held3 (fun w' => w'.cell? ⟨b, o + k * 3, none⟩ = some (.int .u8 k1) ∧ w'.cell? ⟨b, o + k * 3 + 1, none⟩ = some (.int .i16 y1) ∧ w'.cell? ⟨b, o + k * 3 + 2, none⟩ = some (.int .i16 n1) ∧ w'.cell? ⟨b', o' + k * 3, none⟩ = some (.int .u8 k1) ∧ w'.cell? ⟨b', o' + k * 3 + 1, none⟩ = some (.int .i16 y2) ∧ w'.cell? ⟨b', o' + k * 3 + 2, none⟩ = some (.int .i16 n2)) (go_keep) (fail)
          go_wp2
          go_ret
          exact ⟨ret_bool (by simp; exact same_no HX.out HY.out (by simp [*])), HT.out.2.drew⟩
      · have g1 : (k1 == k2) = false := by simpa using h1
        go_wp2_with fail
        go_region_held3 (fun w' => w'.cell? ⟨b, o + k * 3, none⟩ = some (.int .u8 k1) ∧ w'.cell? ⟨b, o + k * 3 + 1, none⟩ = some (.int .i16 y1) ∧ w'.cell? ⟨b, o + k * 3 + 2, none⟩ = some (.int .i16 n1) ∧ w'.cell? ⟨b', o' + k * 3, none⟩ = some (.int .u8 k2) ∧ w'.cell? ⟨b', o' + k * 3 + 1, none⟩ = some (.int .i16 y2) ∧ w'.cell? ⟨b', o' + k * 3 + 2, none⟩ = some (.int .i16 n2)) (go_keep) (fail)
        go_wp2
        go_ret
        exact ⟨ret_bool (by simp; exact same_no HX.out HY.out (by simp [*])), HT.out.2.drew⟩
    · obtain rfl : k = xs.length := by omega
      go_wp2
      go_ret
      exact ⟨ret_bool (by simp [HT.out.1.all hne]), HT.out.2⟩

set_option maxRecDepth 100000 in
set_option maxHeartbeats 2000000 in
theorem equalFuncT_any (xss yss : List (List Wnt)) (A B : Option Addr) (c d : Nat) (w : World) (hl : xss.length ≤ 1048576) (hl' : yss.length ≤ 1048576) (hx : ∀ xs ∈ xss, xs.length ≤ 1048576) (hy : ∀ ys ∈ yss, ys.length ≤ 1048576) (hA : RdN w w.heap.size wcells A xss) (hB : RdN w w.heap.size wcells B yss) :
    Calls Try.prog 11 #[.slice A xss.length c, .slice B yss.length d, .func (.func 12) #[] #[]] w fun e w' => e = .returned (.bool (decide (xss = yss))) ∧ Below w.heap.size w w' := by
  have HA := Lib.hid hA
  have HB := Lib.hid hB
  have HX := Lib.hid hx
  have HY := Lib.hid hy
  clear hA hB hx hy
  by_cases hne : xss.length = yss.length
  rotate_left
  · have h1 : ((xss.length : Int) == (yss.length : Int)) = false := by simp; omega
    have h2 : xss ≠ yss := fun e => hne (by rw [e])
    have h3 : ¬ ((xss.length : Int) = (yss.length : Int)) := by omega
    go_enter Try.func11, Try.ntmps11
    go_wp2
    go_ret
    exact ⟨ret_bool (by simp [h2]), Below.refl _ _⟩
  have hni : ((xss.length : Int) != (yss.length : Int)) = false := by simp; omega
  have HN := Lib.hid hne
  clear hne
  go_enter Try.func11, Try.ntmps11
  go_wp2_with fail
  go_loopw [17] (fun i wr => ∃ (k : Nat), k ≤ xss.length ∧ i = .int .i64 k ∧ SameTo xss yss k ∧ Below w.heap.size w wr)
    (fun i _ => xss.length - (intOf i).toNat)
  case atStart => exact ⟨0, by omega, rfl, fun j h => by omega, Below.refl _ _⟩
  case round =>
    obtain ⟨k, hk, rfl, hT⟩ := hrel
    have HT := Lib.hid hT
    clear hT
    by_cases hlt : k < xss.length
    · obtain ⟨xs, hxs⟩ : ∃ x, xss[k]? = some x := ⟨_, List.getElem?_eq_getElem hlt⟩
      obtain ⟨ys, hys⟩ : ∃ x, yss[k]? = some x := ⟨_, List.getElem?_eq_getElem (by have := HN.out; omega)⟩
      have hxl := HX.out xs (List.mem_of_getElem? hxs)
      have hyl := HY.out ys (List.mem_of_getElem? hys)
      obtain ⟨b, o, a, c1, rfl, hbl, e1, r1⟩ := (HA.out.keep HT.out.2).at_ hxs
      obtain ⟨b', o', a', c2, rfl, hbl', e2, r2⟩ := (HB.out.keep HT.out.2).at_ hys
      have HXs := Lib.hid hxs
      have HYs := Lib.hid hys
      have R1 := Lib.hid r1
      have R2 := Lib.hid r2
      clear hxs hys r1 r2
      have hk0 : (0 : Int) ≤ (k : Int) := Int.natCast_nonneg _
      have hk8 : (k : Int) < xss.length := by omega
      have hk9 : (k : Int) < yss.length := by have := HN.out; omega
      go_wp2_with fail
      refine (slicesEqualT_any xs ys a a' c1 c2 _ hxl hyl R1.out R2.out).mono ?_
      rintro e w2 ⟨rfl, hb⟩
      have HB2 : Hid (Below w.heap.size w w2) := HT.out.2.trans (hb.mono HT.out.2.size)
      clear hb
      by_cases he : xs = ys
      · subst he
        have ed : decide (xs = xs) = true := by simp
        rw [ed]
        clear ed
        go_wp2
        go_roundw
        case rel => exact ⟨k + 1, by omega, by go_num, HT.out.1.step HXs.out HYs.out, HB2.out⟩
        case measure => simp [intOf]; omega
      · have ed : decide (xs = ys) = false := decide_eq_false he
        rw [ed]
        have HE := Lib.hid he
        clear ed he
        go_wp2
        go_ret
        exact ⟨ret_bool (decide_eq_false (same_no HXs.out HYs.out HE.out)).symm, HB2.out⟩
    · obtain rfl : k = xss.length := by omega
      go_wp2
      go_ret
      exact ⟨ret_bool (by simp [HT.out.1.all HN.out]), HT.out.2⟩
theorem sameRack_any (xss yss : List (List Wnt)) (A B : Option Addr) (c d : Nat) (w : World) (hl : xss.length ≤ 1048576) (hl' : yss.length ≤ 1048576) (hx : ∀ xs ∈ xss, xs.length ≤ 1048576) (hy : ∀ ys ∈ yss, ys.length ≤ 1048576) (hA : RdN w w.heap.size wcells A xss) (hB : RdN w w.heap.size wcells B yss) :
    Calls Try.prog 7 #[.slice A xss.length c, .slice B yss.length d] w fun e w' => e = .returned (.bool (decide (xss = yss))) ∧ Below w.heap.size w w' := by
  have HA := Lib.hid hA
  have HB := Lib.hid hB
  have HX := Lib.hid hx
  have HY := Lib.hid hy
  clear hA hB hx hy
  go_enter Try.func7, Try.ntmps7
  go_wp2_with fail
  refine (equalFuncT_any xss yss A B c d w hl hl' HX.out HY.out HA.out HB.out).mono ?_
  rintro e w1 ⟨rfl, hb⟩
  have HB1 := Lib.hid hb
  clear hb
  go_wp2
  go_ret
  exact ⟨rfl, HB1.out⟩

set_option maxRecDepth 100000 in
set_option maxHeartbeats 4000000 in
theorem specSameRack_any (xss yss : List (List Wnt)) (A B : Option Addr) (c d : Nat) (w : World) (hl : xss.length ≤ 1048576) (hl' : yss.length ≤ 1048576) (hx : ∀ xs ∈ xss, xs.length ≤ 1048576) (hy : ∀ ys ∈ yss, ys.length ≤ 1048576) (hA : RdN w w.heap.size wcells A xss) (hB : RdN w w.heap.size wcells B yss) :
    Calls Try.prog 5 #[.slice A xss.length c, .slice B yss.length d] w fun e w' => e = .returned (.bool (decide (xss = yss))) ∧ Below w.heap.size w w' := by
  have HA := Lib.hid hA
  have HB := Lib.hid hB
  have HX := Lib.hid hx
  have HY := Lib.hid hy
  clear hA hB hx hy
  by_cases hne : xss.length = yss.length
  rotate_left
  · have h1 : ((xss.length : Int) == (yss.length : Int)) = false := by simp; omega
    have h2 : xss ≠ yss := fun e => hne (by rw [e])
    have h3 : ¬ ((xss.length : Int) = (yss.length : Int)) := by omega
    go_enter Try.func5, Try.ntmps5
    go_wp2
    go_ret
    exact ⟨ret_bool (by simp [h2]), Below.refl _ _⟩
  have hni : ((xss.length : Int) != (yss.length : Int)) = false := by simp; omega
  have HN := Lib.hid hne
  clear hne
  go_enter Try.func5, Try.ntmps5
  go_wp2_with fail
  go_loopw [5] (fun i wr => ∃ (k : Nat), k ≤ xss.length ∧ i = .int .i64 k ∧ SameTo xss yss k ∧ Below w.heap.size w wr)
    (fun i _ => xss.length - (intOf i).toNat)
  case atStart => exact ⟨0, by omega, rfl, fun j h => by omega, Below.refl _ _⟩
  case round =>
    obtain ⟨k, hk, rfl, hT⟩ := hrel
    have HT := Lib.hid hT
    clear hT
    by_cases hlt : k < xss.length
    · obtain ⟨xs, hxs⟩ : ∃ x, xss[k]? = some x := ⟨_, List.getElem?_eq_getElem hlt⟩
      obtain ⟨ys, hys⟩ : ∃ x, yss[k]? = some x := ⟨_, List.getElem?_eq_getElem (by have := HN.out; omega)⟩
      have hxl := HX.out xs (List.mem_of_getElem? hxs)
      have hyl := HY.out ys (List.mem_of_getElem? hys)
      obtain ⟨b, o, a, c1, rfl, hbl, e1, r1⟩ := (HA.out.keep HT.out.2).at_ hxs
      obtain ⟨b', o', a', c2, rfl, hbl', e2, r2⟩ := (HB.out.keep HT.out.2).at_ hys
      have HXs := Lib.hid hxs
      have HYs := Lib.hid hys
      have R1 := Lib.hid r1
      have R2 := Lib.hid r2
      clear hxs hys r1 r2
      have hk0 : (0 : Int) ≤ (k : Int) := Int.natCast_nonneg _
      have hk8 : (k : Int) < xss.length := by omega
      have hk9 : (k : Int) < yss.length := by have := HN.out; omega
      by_cases hle : xs.length = ys.length
      rotate_left
      · have g0 : ((xs.length : Int) == (ys.length : Int)) = false := by simp; omega
        have g1 : ¬ ((xs.length : Int) = (ys.length : Int)) := by omega
        have HL := Lib.hid hle
        clear hle
        go_wp2_with fail
        go_region_held3 (fun w' => w'.cell? ⟨b, o + k, none⟩ = some (.slice a xs.length c1) ∧ w'.cell? ⟨b', o' + k, none⟩ = some (.slice a' ys.length c2)) (go_keep) (fail)
        go_wp2
        go_ret
        exact ⟨ret_bool (decide_eq_false (same_no HXs.out HYs.out (fun e => HL.out (by rw [e])))).symm, HT.out.2.drew⟩
      have hli : ((xs.length : Int) != (ys.length : Int)) = false := by simp; omega
      have HLE := Lib.hid hle
      clear hle
      obtain ⟨wo, rfl⟩ : ∃ wo, wo = wr := ⟨_, rfl⟩
      have HT0 : Hid (Below w.heap.size w wo) := HT.out.2
      have HS0 : Hid (SameTo xss yss k) := HT.out.1
      have E1 := Lib.hid e1
      have E2 := Lib.hid e2
      have HBl := Lib.hid hbl
      have HBl' := Lib.hid hbl'
      go_wp2_with fail
      go_region_held3 (fun w' => w'.cell? ⟨b, o + k, none⟩ = some (.slice a xs.length c1) ∧ w'.cell? ⟨b', o' + k, none⟩ = some (.slice a' ys.length c2)) (go_keep) (fail)
      go_wp2_with fail
      clear e1 e2 HT hbl hbl'
      go_loopw [6] (fun i wr => ∃ (m : Nat), m ≤ xs.length ∧ i = .int .i64 m ∧ SameTo xs ys m ∧ Below wo.heap.size wo wr)
        (fun i _ => xs.length - (intOf i).toNat)
      case atStart => exact ⟨0, by omega, rfl, fun j h => by omega, (Below.refl _ _).drew⟩
      case round =>
        obtain ⟨m, hm, rfl, hT1⟩ := hrel
        have HT1 : Hid (Below w.heap.size w wr) := HT0.out.trans (hT1.2.mono HT0.out.size)
        have HTo : Hid (Below wo.heap.size wo wr) := hT1.2
        have HS1 : Hid (SameTo xs ys m) := hT1.1
        clear hT1
        have e1 := (HTo.out.cell (p := ⟨b, o + k, none⟩) HBl.out).trans E1.out
        have e2 := (HTo.out.cell (p := ⟨b', o' + k, none⟩) HBl'.out).trans E2.out
        by_cases hlt2 : m < xs.length
        · obtain ⟨⟨⟨k1, y1⟩, n1⟩, hx⟩ : ∃ x, xs[m]? = some x := ⟨_, List.getElem?_eq_getElem hlt2⟩
          obtain ⟨⟨⟨k2, y2⟩, n2⟩, hy⟩ : ∃ x, ys[m]? = some x := ⟨_, List.getElem?_eq_getElem (by have := HLE.out; omega)⟩
          obtain ⟨g, p, rfl, hg, hrow⟩ := (R1.out.keep HTo.out).at_ wcells_length hx
          obtain ⟨g', p', rfl, hg', hrow'⟩ := (R2.out.keep HTo.out).at_ wcells_length hy
          obtain ⟨d1, d2, d3⟩ := rowW hrow
          obtain ⟨f1, f2, f3⟩ := rowW hrow'
          have HX1 := Lib.hid hx
          have HY1 := Lib.hid hy
          clear hx hy hrow hrow'
          have hm0 : (0 : Int) ≤ (m : Int) := Int.natCast_nonneg _
          have hm8 : (m : Int) < xs.length := by omega
          have hm9 : (m : Int) < ys.length := by have := HLE.out; omega
          by_cases h1 : k1 = k2
          · by_cases h2 : y1 = y2
            · by_cases h3 : n1 = n2
              · subst h1; subst h2; subst h3
                go_wp2_with fail
                go_region_held3 (fun w' => w'.cell? ⟨b, o + k, none⟩ = some (.slice (some ⟨g, p, none⟩) xs.length c1) ∧ w'.cell? ⟨b', o' + k, none⟩ = some (.slice (some ⟨g', p', none⟩) ys.length c2) ∧ w'.cell? ⟨g, p + m * 3, none⟩ = some (.int .u8 k1) ∧ w'.cell? ⟨g, p + m * 3 + 1, none⟩ = some (.int .i16 y1) ∧ w'.cell? ⟨g, p + m * 3 + 2, none⟩ = some (.int .i16 n1) ∧ w'.cell? ⟨g', p' + m * 3, none⟩ = some (.int .u8 k1) ∧ w'.cell? ⟨g', p' + m * 3 + 1, none⟩ = some (.int .i16 y1) ∧ w'.cell? ⟨g', p' + m * 3 + 2, none⟩ = some (.int .i16 n1)) (go_keep) (fail)
                go_wp2
                go_roundw
                case rel => exact ⟨m + 1, by omega, by go_num, HS1.out.step HX1.out HY1.out, HTo.out.drew⟩
                case measure => simp [intOf]; omega
              · subst h1; subst h2
                have g3 : (n1 == n2) = false := by simpa using h3
                go_wp2_with fail
                go_region_held3 (fun w' => w'.cell? ⟨b, o + k, none⟩ = some (.slice (some ⟨g, p, none⟩) xs.length c1) ∧ w'.cell? ⟨b', o' + k, none⟩ = some (.slice (some ⟨g', p', none⟩) ys.length c2) ∧ w'.cell? ⟨g, p + m * 3, none⟩ = some (.int .u8 k1) ∧ w'.cell? ⟨g, p + m * 3 + 1, none⟩ = some (.int .i16 y1) ∧ w'.cell? ⟨g, p + m * 3 + 2, none⟩ = some (.int .i16 n1) ∧ w'.cell? ⟨g', p' + m * 3, none⟩ = some (.int .u8 k1) ∧ w'.cell? ⟨g', p' + m * 3 + 1, none⟩ = some (.int .i16 y1) ∧ w'.cell? ⟨g', p' + m * 3 + 2, none⟩ = some (.int .i16 n2)) (go_keep) (fail)
                go_wp2
                go_ret
                exact ⟨ret_bool (decide_eq_false (same_no HXs.out HYs.out (same_no HX1.out HY1.out (by simp [*])))).symm, HT1.out.drew⟩
            · subst h1
              have g2 : (y1 == y2) = false := by simpa using h2
              go_wp2_with fail
              go_region_held3 (fun w' => w'.cell? ⟨b, o + k, none⟩ = some (.slice (some ⟨g, p, none⟩) xs.length c1) ∧ w'.cell? ⟨b', o' + k, none⟩ = some (.slice (some ⟨g', p', none⟩) ys.length c2) ∧ w'.cell? ⟨g, p + m * 3, none⟩ = some (.int .u8 k1) ∧ w'.cell? ⟨g, p + m * 3 + 1, none⟩ = some (.int .i16 y1) ∧ w'.cell? ⟨g, p + m * 3 + 2, none⟩ = some (.int .i16 n1) ∧ w'.cell? ⟨g', p' + m * 3, none⟩ = some (.int .u8 k1) ∧ w'.cell? ⟨g', p' + m * 3 + 1, none⟩ = some (.int .i16 y2) ∧ w'.cell? ⟨g', p' + m * 3 + 2, none⟩ = some (.int .i16 n2)) (go_keep) (fail)
              go_wp2
              go_ret
              exact ⟨ret_bool (decide_eq_false (same_no HXs.out HYs.out (same_no HX1.out HY1.out (by simp [*])))).symm, HT1.out.drew⟩
          · have g1 : (k1 == k2) = false := by simpa using h1
            go_wp2_with fail
            go_region_held3 (fun w' => w'.cell? ⟨b, o + k, none⟩ = some (.slice (some ⟨g, p, none⟩) xs.length c1) ∧ w'.cell? ⟨b', o' + k, none⟩ = some (.slice (some ⟨g', p', none⟩) ys.length c2) ∧ w'.cell? ⟨g, p + m * 3, none⟩ = some (.int .u8 k1) ∧ w'.cell? ⟨g, p + m * 3 + 1, none⟩ = some (.int .i16 y1) ∧ w'.cell? ⟨g, p + m * 3 + 2, none⟩ = some (.int .i16 n1) ∧ w'.cell? ⟨g', p' + m * 3, none⟩ = some (.int .u8 k2) ∧ w'.cell? ⟨g', p' + m * 3 + 1, none⟩ = some (.int .i16 y2) ∧ w'.cell? ⟨g', p' + m * 3 + 2, none⟩ = some (.int .i16 n2)) (go_keep) (fail)
            go_wp2
            go_ret
            exact ⟨ret_bool (decide_eq_false (same_no HXs.out HYs.out (same_no HX1.out HY1.out (by simp [*])))).symm, HT1.out.drew⟩
        · obtain rfl : m = xs.length := by omega
          have he : xs = ys := HS1.out.all HLE.out
          subst he
          go_wp2
          go_roundw
          case rel => exact ⟨k + 1, by omega, by go_num, HS0.out.step HXs.out HYs.out, HT1.out⟩
          case measure => simp [intOf]; omega
    · obtain rfl : k = xss.length := by omega
      go_wp2
      go_ret
      exact ⟨ret_bool (by simp [HT.out.1.all HN.out]), HT.out.2⟩
end Go.Proofs.Ytpjmkcgofmfdaac
