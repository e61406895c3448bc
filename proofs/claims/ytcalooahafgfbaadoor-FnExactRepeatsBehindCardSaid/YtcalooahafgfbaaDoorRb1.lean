/-
  When rows are as they were: the model's contract, and the rows that are upright. Condition: the walkers read, their numbers fit their kinds, not more than 1048576.
-/
import Derived.Test.YtcalooahafgfbaaDoorRb0
import Derived.Test.YtcalooahafgfbaaDoorYg
import Derived.Test.YtcalooahafgfbaaDoorYr1
namespace Go.Proofs.YtcalooahafgfbaaDoor
open Go.ChangeShapes Go.WideShapes Go.ChangeAt Go.RowKit Go.Deep

def upB (r : List Int) : Bool := r.all (fun a => decide (a = 0))
theorem upB_no {r : List Int} {k : Nat} {a : Int} (h : r[k]? = some a) (ha : ¬ a = 0) : upB r = false := by
  rw [upB, List.all_eq_false]
  exact ⟨a, List.mem_of_getElem? h, by simp [ha]⟩
theorem upB_yes {r : List Int} (h : ∀ j a, j < r.length → r[j]? = some a → a = 0) : upB r = true := by
  rw [upB, List.all_eq_true]
  intro x hx
  obtain ⟨j, hj, rfl⟩ := List.mem_iff_getElem.1 hx
  simp [h j _ hj (List.getElem?_eq_getElem hj)]
theorem l05Upright_any (r : List Int) (A : Option Addr) (c : Nat) (w : World) (hl : r.length ≤ 1048576) (hr : Rd w w.heap.size ycells A r) :
    Calls Tryd.prog 11 #[.slice A r.length c] w fun e w' => e = .returned (.bool (upB r)) ∧ w = w' := by
  have HR := Lib.hid hr
  clear hr
  go_enter Tryd.func11, Tryd.ntmps11
  go_wp2_with fail
  go_loopw [3] (fun i wr => ∃ (k : Nat), k ≤ r.length ∧ i = .int .i64 k ∧ (∀ j a, j < k → r[j]? = some a → a = 0) ∧ w = wr) (fun i _ => r.length - (intOf i).toNat)
  case atStart => exact ⟨0, by omega, rfl, fun j x h => absurd h (Nat.not_lt_zero _), rfl⟩
  case round =>
    obtain ⟨k, hk, rfl, hT, rfl⟩ := hrel
    have HT := Lib.hid hT
    clear hT
    by_cases hlt : k < r.length
    · obtain ⟨x, hx⟩ : ∃ x, r[k]? = some x := ⟨_, List.getElem?_eq_getElem hlt⟩
      obtain ⟨b, o, rfl, hbl, hrow⟩ := HR.out.at_ ycells_length hx
      have g0 : w.cell? ⟨b, o + k, none⟩ = some (.int .u8 x) := rowY hrow
      have HX := Lib.hid hx
      have hk0 : (0 : Int) ≤ (k : Int) := Int.natCast_nonneg _
      have hk8 : (k : Int) < r.length := by omega
      clear hx hrow
      by_cases hz : x = 0
      · have hb0 : (x == 0) = true := by simp [hz]
        have HZ := Lib.hid hz
        go_wp2
        go_roundw
        case rel => exact ⟨k + 1, by omega, by go_num, fun j y h1 h2 => by
          by_cases e : j = k
          · subst e; rw [HX.out] at h2; obtain rfl := Option.some.inj h2; exact HZ.out
          · exact HT.out j y (by omega) h2, by first | rfl | trivial⟩
        case measure => simp [intOf]; omega
      · have hb0 : (x == 0) = false := by simpa using hz
        have E := Lib.hid (upB_no HX.out hz)
        go_wp2
        go_ret
        exact ⟨by rw [E.out]; rfl, rfl⟩
    · obtain rfl : k = r.length := by omega
      have E := Lib.hid (upB_yes HT.out)
      go_wp2
      go_ret
      exact ⟨by rw [E.out]; rfl, rfl⟩
theorem max2u (P : Program) (a b : Int) (ha : 0 ≤ a ∧ a ≤ 7) (hb : 0 ≤ b ∧ b ≤ 7) : ∃ M, (∀ ts t w, (Builtin.max_ ts t #[.int .u8 a, .int .u8 b]).run P w = .ok (.int .u8 M) w) ∧ (0 ≤ M ∧ M ≤ 7) ∧ (M = 0 ↔ a = 0 ∧ b = 0) := by
  refine ⟨_, fun ts t w => by simp [Builtin.max_, Builtin.max2]; rfl, ?_⟩
  split <;> omega
set_option maxHeartbeats 1000000 in
theorem maxRowU_any (r : List Int) (h0 : 0 < r.length) (h7 : ∀ a ∈ r, 0 ≤ a ∧ a ≤ 7) (A : Option Addr) (c : Nat) (w : World) (hl : r.length ≤ 1048576) (hr : Rd w w.heap.size ycells A r) :
    Calls Tryd.prog 33 #[.slice A r.length c] w fun e w' => ∃ M : Int, e = .returned (.int .u8 M) ∧ (M = 0 ↔ upB r = true) ∧ w = w' := by
  have HR := Lib.hid hr
  have H7 := Lib.hid h7
  clear hr h7
  obtain ⟨x0, hx0⟩ : ∃ x, r[0]? = some x := ⟨_, List.getElem?_eq_getElem h0⟩
  obtain ⟨b, o, rfl, hbl, hrow⟩ := HR.out.at_ ycells_length hx0
  have g0 : w.cell? ⟨b, o, none⟩ = some (.int .u8 x0) := by simpa using rowY hrow
  have hn1 : ¬ (r.length : Int) < 1 := by omega
  have hn0 : (0 : Int) < r.length := by omega
  have hM1 : x0 = 0 ↔ ∀ j a, j < 1 → r[j]? = some a → a = 0 := by
    refine ⟨fun e j a h1 h2 => ?_, fun h => h 0 x0 (by omega) hx0⟩
    obtain rfl : j = 0 := by omega
    rw [hx0] at h2
    obtain rfl := Option.some.inj h2
    exact e
  have hM0 := Lib.hid (And.intro (H7.out x0 (List.mem_of_getElem? hx0)) hM1)
  clear hM1
  clear hx0 hrow
  go_enter Tryd.func33, Tryd.ntmps33
  go_wp2_with fail
  go_loopw [3, 4] (fun mv i wr => ∃ (k : Nat) (M : Int), 1 ≤ k ∧ k ≤ r.length ∧ i = .int .i64 k ∧ mv = .int .u8 M ∧ ((0 ≤ M ∧ M ≤ 7) ∧ (M = 0 ↔ ∀ j a, j < k → r[j]? = some a → a = 0)) ∧ w = wr) (fun _ i _ => r.length - (intOf i).toNat)
  case atStart => exact ⟨1, x0, by omega, by omega, rfl, rfl, hM0.out, rfl⟩
  case round =>
    obtain ⟨k, M, hk1, hk, rfl, rfl, hM, rfl⟩ := hrel
    have HM := Lib.hid hM
    clear hM
    by_cases hlt : k < r.length
    · obtain ⟨x, hx⟩ : ∃ x, r[k]? = some x := ⟨_, List.getElem?_eq_getElem hlt⟩
      obtain ⟨b9, o9, e9, hb9, hrow⟩ := HR.out.at_ ycells_length hx
      obtain ⟨rfl, rfl⟩ : b = b9 ∧ o = o9 := by simpa using e9
      have g1 : w.cell? ⟨b, o + k, none⟩ = some (.int .u8 x) := rowY hrow
      obtain ⟨M2, hrun, hM2, hM3⟩ := max2u Tryd.prog M x HM.out.1 (H7.out x (List.mem_of_getElem? hx))
      have HX := Lib.hid hx
      have HM2 := Lib.hid (And.intro hM2 hM3)
      have hk0 : (0 : Int) ≤ (k : Int) := Int.natCast_nonneg _
      have hk8 : (k : Int) < r.length := by omega
      clear hx hrow hM2 hM3 hM0
      go_wp2
      go_roundw
      case rel => exact ⟨k + 1, M2, by omega, by omega, by go_num, rfl, ⟨HM2.out.1, ⟨fun e j a h1 h2 => by
        obtain ⟨e1, e2⟩ := HM2.out.2.1 e
        by_cases e : j = k
        · subst e; rw [HX.out] at h2; obtain rfl := Option.some.inj h2; exact e2
        · exact HM.out.2.1 e1 j a (by omega) h2, fun h => HM2.out.2.2 ⟨HM.out.2.2 (fun j a h1 h2 => h j a (by omega) h2), h k x (by omega) HX.out⟩⟩⟩, by first | rfl | trivial⟩
      case measure => simp [intOf]; omega
    · obtain rfl : k = r.length := by omega
      have hMu : M = 0 ↔ upB r = true := by
        rw [HM.out.2]
        refine ⟨fun h => upB_yes h, fun h j a h1 h2 => ?_⟩
        rw [upB, List.all_eq_true] at h
        simpa using h a (List.mem_of_getElem? h2)
      have HMu := Lib.hid hMu
      clear hMu
      go_wp2
      go_ret
      exact ⟨M, rfl, HMu.out, rfl⟩
theorem isUpright_any (r : List Int) (h0 : 0 < r.length) (h7 : ∀ a ∈ r, 0 ≤ a ∧ a ≤ 7) (A : Option Addr) (c : Nat) (w : World) (hl : r.length ≤ 1048576) (hr : Rd w w.heap.size ycells A r) :
    Calls Tryd.prog 24 #[.slice A r.length c] w fun e w' => e = .returned (.bool (upB r)) ∧ w = w' := by
  have HM := Lib.hid (maxRowU_any r h0 h7 A c w hl hr)
  clear hr h7
  go_enter Tryd.func24, Tryd.ntmps24
  go_wp2_with fail
  refine HM.out.mono ?_
  rintro e w1 ⟨M, rfl, hM, rfl⟩
  by_cases hz : M = 0
  · have E : Hid (upB r = true) := hM.1 hz
    have hb0 : (M == 0) = true := by simp [hz]
    clear hM
    go_wp2
    go_ret
    exact ⟨by (rw [E.out]; first | done | simp [hz] | rfl), rfl⟩
  · have E : Hid (upB r = false) := by show _ = _; cases h : upB r with
      | false => rfl
      | true => exact absurd (hM.2 h) hz
    have hb0 : (M == 0) = false := by simpa using hz
    clear hM
    go_wp2
    go_ret
    exact ⟨by (rw [E.out]; first | done | simp [hz] | rfl), rfl⟩
theorem own_setYb {w : World} {b g o c : Nat} {te : TypeId} {xs : List Int} (h : w.ownsRow b te 1 (.slice (some ⟨g, o, none⟩) xs.length c) xs.length (xs.flatMap ycells)) (k : Nat) (x : Int) : o = 0 ∧ (w.setCell ⟨g, k, none⟩ (.int .u8 x)).ownsRow b te 1 (.slice (some ⟨g, 0, none⟩) (xs.set k x).length c) (xs.set k x).length ((xs.set k x).flatMap ycells) := by
  rcases h.2 with ⟨h0, -⟩ | ⟨g', cap, cur, hv, hb, hg, hn, hc, hz, ht⟩
  · cases h0
  · simp only [Value.slice.injEq, Option.some.injEq, Addr.mk.injEq, and_true, true_and] at hv
    obtain ⟨⟨rfl, rfl⟩, rfl⟩ := hv
    have hK : Blk w g te cur := hg
    have hf : ∀ l : List Int, l.flatMap ycells = l.map (fun v => Value.int .u8 v) := fun l => by
      induction l with
      | nil => rfl
      | cons y ys ih => simp [List.flatMap_cons, ycells, ih]
    rw [List.length_set]
    refine ⟨rfl, by rw [hf, List.length_map, List.length_set]; simp, .inr ⟨g, c, _, rfl, hb, hK.set_ k _, hn, hc, by simpa using hz, ?_⟩⟩
    rw [Array.toList_setIfInBounds, List.take_set, ht, hf, hf, List.map_set]
theorem own_frozenYb {w : World} {b size n c : Nat} {e : TypeId} {g0 : Nat} {xs : List Value} (h : w.ownsRow b e size (.slice (some ⟨g0, 0, none⟩) n c) n xs) (k : Nat) : w.frozen? ⟨g0, k, none⟩ = false := by
  rcases h.2 with ⟨e, -⟩ | ⟨g, cap, cur, hv, hb, hg', -⟩
  · cases e
  · have e0 := (Value.slice.inj hv).1
    simp only [Option.some.injEq, Addr.mk.injEq, and_true] at e0
    subst e0
    exact Blk.frozen (show Blk w g0 _ cur from hg') k
theorem ownY_at {w : World} {b g c : Nat} {xs : List Int} (h : w.ownsRow b 5 1 (.slice (some ⟨g, 0, none⟩) xs.length c) xs.length (xs.flatMap ycells)) {k : Nat} {x : Int} (hk : xs[k]? = some x) : w.cell? ⟨g, k, none⟩ = some (.int .u8 x) := by
  obtain ⟨b0, o0, e0, -, hrow⟩ := (own_rd2 ycells_length h).at_ ycells_length hk
  obtain ⟨rfl, rfl⟩ : g = b0 ∧ 0 = o0 := by simpa using e0
  simpa using rowY hrow

end Go.Proofs.YtcalooahafgfbaaDoor
