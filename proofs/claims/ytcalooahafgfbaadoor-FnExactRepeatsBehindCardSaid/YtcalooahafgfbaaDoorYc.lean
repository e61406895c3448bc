/-
  The program's eighths; slices.Clone at rows. Condition: a number that is not great, a row of at most 1048576 numbers.
-/
import Derived.Test.YtcalooahafgfbaaDoorYr
import Derived.Test.YtcalooahafgfbaaDoorNp
import Derived.Test.YtcalooahafgfbaaDoorAs
import Derived.ScopeJumps
import Derived.WalkMore
namespace Go.Proofs.YtcalooahafgfbaaDoor
open Go.ChangeShapes Go.WideShapes Go.ChangeAt Go.RowKit Go.Deep

theorem ycells_one (x : Int) : (ycells x).toArray.all (·.oneCell') = true := by simp [ycells, Value.oneCell']
theorem empty_own (w : World) (t : TypeId) (size : Nat) : (w.alloc (.cells #[] t)).ownsRow w.heap.size t size (.slice (some ⟨w.heap.size, 0, none⟩) 0 0) 0 [] :=
  ⟨by simp, .inr ⟨w.heap.size, 0, #[], rfl, Nat.le_refl _, heap_alloc_new w _, Nat.le_refl _, by unfold maxLen; omega, by simp, by simp⟩⟩
set_option maxHeartbeats 1000000 in
theorem eighths_any (t : Int) (h : -1000000000000 ≤ t ∧ t ≤ 1000000000000) (w : World) :
    Calls Tryd.prog 42 #[.int .i64 t] w fun e w' => e = .returned (.int .u8 (t % 8)) ∧ w = w' := by
  obtain ⟨h0, h1⟩ := h
  obtain ⟨r, hr⟩ : ∃ r, Int.tmod t 8 = r := ⟨_, rfl⟩
  have hrr : r = if 0 ≤ t then t % 8 else -((-t) % 8) := by
    rw [← hr]
    split
    · rw [Int.tmod_eq_emod_of_nonneg (by assumption)]
    · have := Int.neg_tmod (-t) 8
      rw [Int.neg_neg] at this
      rw [this, Int.tmod_eq_emod_of_nonneg (by omega)]
  have hrb : -8 < r ∧ r < 8 ∧ (r < 0 → t % 8 = r + 8) ∧ (0 ≤ r → t % 8 = r) := by
    split at hrr <;> omega
  clear hrr
  obtain ⟨hb0, hb1, hb2, hb3⟩ := hrb
  have w1 : IntKind.i64.wrap r = r := IntWalk.i64_in _ ⟨by omega, by omega⟩
  have w2 : wrap64 r = r := IntWalk.wrap64_in _ ⟨by omega, by omega⟩
  go_enter Tryd.func42, Tryd.ntmps42
  go_wp2
  refine wp_scope_jumps 0 (fun a' w' => w = w' ∧ ∃ (v : Int) (u4 u5 u6 u7 u8 u9 u10 u11 : Value), a' = { tmps := #[.int .i64 t, undef, .int .u8 0, .int .i64 v, u4, u5, u6, u7, u8, u9, u10, u11], defers := [] } ∧ 0 ≤ v ∧ v < 8 ∧ t % 8 = v) (fun _ _ => 0) rfl ?_ ?_
  · by_cases hneg : r < 0
    · have e1 : t % 8 = r + 8 := hb2 hneg
      have w3 : IntKind.i64.wrap (r + 8) = r + 8 := IntWalk.i64_in _ ⟨by omega, by omega⟩
      have w4 : wrap64 (r + 8) = r + 8 := IntWalk.wrap64_in _ ⟨by omega, by omega⟩
      have H := Lib.hid e1
      clear e1 hb2 hb3
      go_wp2
      go_step3
      go_wp2
      go_step3
      exact ⟨rfl, rfl, r + 8, _, _, _, _, _, _, _, _, rfl, by omega, by omega, H.out⟩
    · have b0 : 0 ≤ r := by omega
      have e1 : t % 8 = r := hb3 b0
      have w5 : IntKind.u8.wrap r = r := IntWalk.u8_in _ ⟨by omega, by omega⟩
      have H := Lib.hid e1
      clear e1 hb2 hb3
      go_wp2
      go_step3
      go_wp2
      simp only [Exit.jump]
      go_ret
      exact ⟨by (rw [H.out]; first | done | rfl), rfl⟩
  · rintro a' w' ⟨rfl, v, u4, u5, u6, u7, u8, u9, u10, u11, rfl, b0, b1, hv⟩
    have w5 : IntKind.u8.wrap v = v := IntWalk.u8_in _ ⟨by omega, by omega⟩
    have H := Lib.hid hv
    clear hv hb2 hb3
    go_wp2
    simp only [Exit.jump]
    go_ret
    exact ⟨by (rw [H.out]; first | done | rfl), rfl⟩

/-- A row of one's own, at one place: what lies there, and what a store there leaves. -/
theorem own_cellY {w : World} {b : Nat} {A : Option Addr} {c : Nat} {xs : List Int} (h : w.ownsRow b 5 1 (.slice A xs.length c) xs.length (xs.flatMap ycells)) {k : Nat} {x : Int} (hk : xs[k]? = some x) :
    ∃ g, A = some ⟨g, 0, none⟩ ∧ b ≤ g ∧ g < w.heap.size ∧ w.cell? ⟨g, k, none⟩ = some (.int .u8 x) ∧ w.frozen? ⟨g, k, none⟩ = false ∧
      ∀ y : Int, (w.setCell ⟨g, k, none⟩ (.int .u8 y)).ownsRow b 5 1 (.slice A (xs.set k y).length c) (xs.set k y).length ((xs.set k y).flatMap ycells) := by
  have hkl := (List.getElem?_eq_some_iff.1 hk).1
  have hr := own_rd ycells_length h
  obtain ⟨A', c', e, -, hrd⟩ := hr
  obtain ⟨rfl, -⟩ : A = A' ∧ c = c' := by simpa using e
  rcases h.2 with ⟨-, h0⟩ | ⟨g, cap, cur, hv, hbg, hg, hnc, hcap, hsz, htk⟩
  · omega
  obtain ⟨rfl, rfl⟩ : A = some ⟨g, 0, none⟩ ∧ c = cap := by simpa using hv
  obtain ⟨b', o', e2, hb2, hrow⟩ := hrd.at_ ycells_length hk
  cases e2
  have hcell := rowY hrow
  rw [Nat.zero_add] at hcell
  have hB : Blk w g 5 cur := hg
  refine ⟨g, rfl, hbg, hB.lt, hcell, hB.frozen k, fun y => ⟨by rw [rows_length ycells_length], .inr ⟨g, c, cur.setIfInBounds k (.int .u8 y), by simp, hbg, hB.set_ k _, by simpa using hnc, hcap, by simpa using hsz, ?_⟩⟩⟩
  have hset := rows_splice ycells_length xs k y hkl
  rw [← hset]
  simp only [Nat.mul_one, List.length_set] at htk ⊢
  have hcl : xs.length ≤ cur.toList.length := by simp; omega
  rw [← htk]
  simp only [Array.toList_setIfInBounds]
  rw [List.take_set]
  have : ∀ (l : List Value) (i : Nat) (v : Value), i < l.length → l.set i v = l.take i ++ [v] ++ l.drop (i + 1) := by
    intro l i v hi
    rw [List.set_eq_take_append_cons_drop, if_pos hi]; simp
  rw [this _ _ _ (by rw [List.length_take]; omega)]
  simp [ycells]
end Go.Proofs.YtcalooahafgfbaaDoor
