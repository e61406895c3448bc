/-
  The program's eighths; slices.Clone at rows. Condition: a number that is not great, a row of at most 1048576 numbers.
-/
import Derived.Test.YtlfamfdgphhbcabDoorYr
import Derived.Test.YtlfamfdgphhbcabDoorNp
import Derived.Test.YtlfamfdgphhbcabDoorAs
import Derived.ScopeJumps
import Derived.WalkMore
namespace Go.Proofs.YtlfamfdgphhbcabDoor
open Go.ChangeShapes Go.WideShapes Go.ChangeAt Go.RowKit Go.Deep

theorem ycells_one (x : Int) : (ycells x).toArray.all (·.oneCell') = true := by simp [ycells, Value.oneCell']
theorem empty_own (w : World) (t : TypeId) (size : Nat) : (w.alloc (.cells #[] t)).ownsRow w.heap.size t size (.slice (some ⟨w.heap.size, 0, none⟩) 0 0) 0 [] :=
  ⟨by simp, .inr ⟨w.heap.size, 0, #[], rfl, Nat.le_refl _, heap_alloc_new w _, Nat.le_refl _, by unfold maxLen; omega, by simp, by simp⟩⟩
set_option maxHeartbeats 1000000 in
theorem eighths_any (t : Int) (h : -1000000000000 ≤ t ∧ t ≤ 1000000000000) (w : World) :
    Calls Tryd.prog 104 #[.int .i64 t] w fun e w' => e = .returned (.int .u8 (t % 8)) ∧ w = w' := by
  obtain ⟨h0, h1⟩ := h
  obtain ⟨r, hr⟩ : ∃ r, Int.tmod t 8 = r := ⟨_, rfl⟩
  have hrr : r = if 0 ≤ t then t % 8 else -((-t) % 8) := by
    rw [← hr]
    split
    · rw [Int.tmod_eq_emod_of_nonneg (by assumption)]
    · have := Int.neg_tmod (-t) 8
      rw [Int.neg_neg] at this
      rw [this, Int.tmod_eq_emod_of_nonneg (by omega)]
  have hrb : -8 < r ∧ r < 8 ∧ (r < 0 → t % 8 = r + 8) ∧ (0 ≤ r → t % 8 = r) := by
    split at hrr <;> omega
  clear hrr
  obtain ⟨hb0, hb1, hb2, hb3⟩ := hrb
  have w1 : IntKind.i64.wrap r = r := IntWalk.i64_in _ ⟨by omega, by omega⟩
  have w2 : wrap64 r = r := IntWalk.wrap64_in _ ⟨by omega, by omega⟩
  go_enter Tryd.func104, Tryd.ntmps104
  go_wp2
  refine wp_scope_jumps 0 (fun a' w' => w = w' ∧ ∃ (v : Int) (u4 u5 u6 u7 u8 u9 u10 u11 : Value), a' = { tmps := #[.int .i64 t, undef, .int .u8 0, .int .i64 v, u4, u5, u6, u7, u8, u9, u10, u11], defers := [] } ∧ 0 ≤ v ∧ v < 8 ∧ t % 8 = v) (fun _ _ => 0) rfl ?_ ?_
  · by_cases hneg : r < 0
    · have e1 : t % 8 = r + 8 := hb2 hneg
      have w3 : IntKind.i64.wrap (r + 8) = r + 8 := IntWalk.i64_in _ ⟨by omega, by omega⟩
      have w4 : wrap64 (r + 8) = r + 8 := IntWalk.wrap64_in _ ⟨by omega, by omega⟩
      have H := Lib.hid e1
      clear e1 hb2 hb3
      go_wp2
      go_step3
      go_wp2
      go_step3
      exact ⟨rfl, rfl, r + 8, _, _, _, _, _, _, _, _, rfl, by omega, by omega, H.out⟩
    · have b0 : 0 ≤ r := by omega
      have e1 : t % 8 = r := hb3 b0
      have w5 : IntKind.u8.wrap r = r := IntWalk.u8_in _ ⟨by omega, by omega⟩
      have H := Lib.hid e1
      clear e1 hb2 hb3
      go_wp2
      go_step3
      go_wp2
      simp only [Exit.jump]
      go_ret
      exact ⟨by (rw [H.out]; first | done | rfl), rfl⟩
  · rintro a' w' ⟨rfl, v, u4, u5, u6, u7, u8, u9, u10, u11, rfl, b0, b1, hv⟩
    have w5 : IntKind.u8.wrap v = v := IntWalk.u8_in _ ⟨by omega, by omega⟩
    have H := Lib.hid hv
    clear hv hb2 hb3
    go_wp2
    simp only [Exit.jump]
    go_ret
    exact ⟨by (rw [H.out]; first | done | rfl), rfl⟩

set_option maxRecDepth 100000 in
set_option maxHeartbeats 1000000 in
theorem cloneY_any (xs : List Int) (A : Option Addr) (c : Nat) (w : World) (hl : xs.length ≤ 1048576) (hr : Rd w w.heap.size ycells A xs) :
    Calls Tryd.prog 81 #[.slice A xs.length c] w fun e w' => ∃ A' c', e = .returned (.slice A' xs.length c') ∧ w'.ownsRow w.heap.size 5 1 (.slice A' xs.length c') xs.length (xs.flatMap ycells) ∧ Below w.heap.size w w' := by
  obtain ⟨i0, hi, hz0, hz1, hz2⟩ := info_parts Tryd.infoY
  have HI := Lib.hid hi
  have HZ0 := Lib.hid hz0
  have HZ1 := Lib.hid hz1
  have HZ2 := Lib.hid hz2
  clear hi hz0 hz1 hz2
  have HR := Lib.hid hr
  cases A with
  | none =>
    have hx : xs = [] := by
      rcases Nat.eq_zero_or_pos xs.length with h | h
      · exact List.eq_nil_of_length_eq_zero h
      · obtain ⟨b, o, e, -⟩ := hr h; cases e
    subst hx
    clear hr
    have hnil : ∀ w : World, (binOp .eql 37 (.slice none 0 c) (.slice none 0 0)).run Tryd.prog w = .ok (.bool true) w := fun w => Lib.run_eql_slice_nil (P := Tryd.prog) w 37 5 none 0 c 0 0 Tryd.underlying37
    show Calls Tryd.prog 81 #[.slice none 0 c] w _
    go_enter Tryd.func81, Tryd.ntmps81
    go_wp2
    go_ret
    exact ⟨none, 0, rfl, ⟨rfl, .inl ⟨rfl, rfl⟩⟩, Below.refl _ _⟩
  | some a =>
    clear hr
    have hnil : ∀ w : World, (binOp .eql 37 (.slice (some a) xs.length c) (.slice none 0 0)).run Tryd.prog w = .ok (.bool false) w := fun w => Lib.run_eql_slice_nil (P := Tryd.prog) w 37 5 (some a) xs.length c 0 0 Tryd.underlying37
    go_enter Tryd.func81, Tryd.ntmps81
    go_wp2_with (at_builtin; refine wpList_append_any _ rfl (.tmp 5) (.tmp 6) 37 37 rfl w.heap.size 5 i0 (.int .u8 0) 1 1 Tryd.underlying37 HI.out HZ0.out HZ1.out HZ2.out rfl (by decide) _ 0 [] rfl ?own _ xs.length (xs.flatMap ycells) rfl ?src ?c3 ?c4 ?c5 ?_)
    case own => exact empty_own w _ 1
    case src => exact src_of_rd _ Tryd.underlying37 ycells_length ycells_one (HR.out.keep ((Below.refl _ w).alloc (Nat.le_refl _) _))
    case c3 => unfold maxLen; omega
    case c4 => omega
    case c5 => simp
    intro v' w2 hown hg _
    have hB : Below w.heap.size w w2 := ((Below.refl _ w).alloc (Nat.le_refl _) _).grown hg (by simp) (fun k e => by
      have e2 : w.heap.size = k := by simpa [Value.ownBlock] using e
      omega)
    have hown2 : w2.ownsRow w.heap.size 5 1 v' xs.length (xs.flatMap ycells) := by simpa using hown
    obtain ⟨A', c', rfl, -, -⟩ := own_rd ycells_length hown2
    have HO := Lib.hid hown2
    have HB := Lib.hid hB
    clear hown hown2 hg hB hnil
    go_wp2
    go_ret
    exact ⟨A', c', rfl, HO.out, HB.out⟩

/-- A row of one's own, at one place: what lies there, and what a store there leaves. -/
theorem own_cellY {w : World} {b : Nat} {A : Option Addr} {c : Nat} {xs : List Int} (h : w.ownsRow b 5 1 (.slice A xs.length c) xs.length (xs.flatMap ycells)) {k : Nat} {x : Int} (hk : xs[k]? = some x) :
    ∃ g, A = some ⟨g, 0, none⟩ ∧ b ≤ g ∧ g < w.heap.size ∧ w.cell? ⟨g, k, none⟩ = some (.int .u8 x) ∧ w.frozen? ⟨g, k, none⟩ = false ∧
      ∀ y : Int, (w.setCell ⟨g, k, none⟩ (.int .u8 y)).ownsRow b 5 1 (.slice A (xs.set k y).length c) (xs.set k y).length ((xs.set k y).flatMap ycells) := by
  have hkl := (List.getElem?_eq_some_iff.1 hk).1
  have hr := own_rd ycells_length h
  obtain ⟨A', c', e, -, hrd⟩ := hr
  obtain ⟨rfl, -⟩ : A = A' ∧ c = c' := by simpa using e
  rcases h.2 with ⟨-, h0⟩ | ⟨g, cap, cur, hv, hbg, hg, hnc, hcap, hsz, htk⟩
  · omega
  obtain ⟨rfl, rfl⟩ : A = some ⟨g, 0, none⟩ ∧ c = cap := by simpa using hv
  obtain ⟨b', o', e2, hb2, hrow⟩ := hrd.at_ ycells_length hk
  cases e2
  have hcell := rowY hrow
  rw [Nat.zero_add] at hcell
  have hB : Blk w g 5 cur := hg
  refine ⟨g, rfl, hbg, hB.lt, hcell, hB.frozen k, fun y => ⟨by rw [rows_length ycells_length], .inr ⟨g, c, cur.setIfInBounds k (.int .u8 y), by simp, hbg, hB.set_ k _, by simpa using hnc, hcap, by simpa using hsz, ?_⟩⟩⟩
  have hset := rows_splice ycells_length xs k y hkl
  rw [← hset]
  simp only [Nat.mul_one, List.length_set] at htk ⊢
  have hcl : xs.length ≤ cur.toList.length := by simp; omega
  rw [← htk]
  simp only [Array.toList_setIfInBounds]
  rw [List.take_set]
  have : ∀ (l : List Value) (i : Nat) (v : Value), i < l.length → l.set i v = l.take i ++ [v] ++ l.drop (i + 1) := by
    intro l i v hi
    rw [List.set_eq_take_append_cons_drop, if_pos hi]; simp
  rw [this _ _ _ (by rw [List.length_take]; omega)]
  simp [ycells]
end Go.Proofs.YtlfamfdgphhbcabDoor
