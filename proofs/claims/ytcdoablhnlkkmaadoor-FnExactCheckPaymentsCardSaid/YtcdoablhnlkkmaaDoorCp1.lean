/-
  Payments that are checked: the model's contracts. Condition: the lists read, their numbers fit their kinds, not more than 1048576.
-/
import Derived.Test.YtcdoablhnlkkmaaDoorCp0
import Derived.Test.YtcdoablhnlkkmaaDoorHy
import Derived.Test.YtcdoablhnlkkmaaDoorI6
namespace Go.Proofs.YtcdoablhnlkkmaaDoor
open Go.ChangeShapes Go.WideShapes Go.ChangeAt Go.RowKit Go.Deep

theorem empty_ownC (w : World) (t : TypeId) (size : Nat) : (w.alloc (.cells #[] t)).ownsRow w.heap.size t size (.slice (some ⟨w.heap.size, 0, none⟩) 0 0) 0 [] :=
  ⟨by simp, .inr ⟨w.heap.size, 0, #[], rfl, Nat.le_refl _, heap_alloc_new w _, Nat.le_refl _, by unfold maxLen; omega, by simp, by simp⟩⟩


theorem icells_oneC (h : Int) : (icells h).toArray.all (·.oneCell') = true := by simp [icells, Value.oneCell']
set_option maxRecDepth 100000 in
set_option maxHeartbeats 1000000 in
theorem cloneI_any (xs : List Int) (A : Option Addr) (c : Nat) (w : World) (hl : xs.length ≤ 1048576) (hr : Rd w w.heap.size icells A xs) :
    Calls Tryd.prog 57 #[.slice A xs.length c] w fun e w' => ∃ A' c', e = .returned (.slice A' xs.length c') ∧ w'.ownsRow w.heap.size 2 1 (.slice A' xs.length c') xs.length (xs.flatMap icells) ∧ Below w.heap.size w w' := by
  obtain ⟨i0, hi, hz0, hz1, hz2⟩ := info_parts Tryd.info64
  have HI := Lib.hid hi
  have HZ0 := Lib.hid hz0
  have HZ1 := Lib.hid hz1
  have HZ2 := Lib.hid hz2
  clear hi hz0 hz1 hz2
  have HR := Lib.hid hr
  cases A with
  | none =>
    have hx : xs = [] := by
      rcases Nat.eq_zero_or_pos xs.length with h | h
      · exact List.eq_nil_of_length_eq_zero h
      · obtain ⟨b, o, e, -⟩ := hr h; cases e
    subst hx
    clear hr
    have hnil : ∀ w : World, (binOp .eql 22 (.slice none 0 c) (.slice none 0 0)).run Tryd.prog w = .ok (.bool true) w := fun w => Lib.run_eql_slice_nil (P := Tryd.prog) w 22 2 none 0 c 0 0 Tryd.underlying22
    show Calls Tryd.prog 57 #[.slice none 0 c] w _
    go_enter Tryd.func57, Tryd.ntmps57
    go_wp2
    go_ret
    exact ⟨none, 0, rfl, ⟨rfl, .inl ⟨rfl, rfl⟩⟩, Below.refl _ _⟩
  | some a =>
    clear hr
    have hnil : ∀ w : World, (binOp .eql 22 (.slice (some a) xs.length c) (.slice none 0 0)).run Tryd.prog w = .ok (.bool false) w := fun w => Lib.run_eql_slice_nil (P := Tryd.prog) w 22 2 (some a) xs.length c 0 0 Tryd.underlying22
    go_enter Tryd.func57, Tryd.ntmps57
    go_wp2_with (at_builtin; refine wpList_append_any _ rfl (.tmp 5) (.tmp 6) 22 22 rfl w.heap.size 2 i0 (.int .i64 0) 1 8 Tryd.underlying22 HI.out HZ0.out HZ1.out HZ2.out rfl (by decide) _ 0 [] rfl ?own _ xs.length (xs.flatMap icells) rfl ?src ?c3 ?c4 ?c5 ?_)
    case own => exact empty_ownC w _ 1
    case src => exact src_of_rd _ Tryd.underlying22 icells_length icells_oneC (HR.out.keep ((Below.refl _ w).alloc (Nat.le_refl _) _))
    case c3 => unfold maxLen; omega
    case c4 => omega
    case c5 => simp
    intro v' w2 hown hg _
    have hB : Below w.heap.size w w2 := ((Below.refl _ w).alloc (Nat.le_refl _) _).grown hg (by simp) (fun k e => by
      have e2 : w.heap.size = k := by simpa [Value.ownBlock] using e
      omega)
    have hown2 : w2.ownsRow w.heap.size 2 1 v' xs.length (xs.flatMap icells) := by simpa using hown
    obtain ⟨A', c', rfl, -, -⟩ := own_rd icells_length hown2
    have HO := Lib.hid hown2
    have HB := Lib.hid hB
    clear hown hown2 hg hB hnil
    go_wp2
    go_ret
    exact ⟨A', c', rfl, HO.out, HB.out⟩


theorem sum_take_succ {xs : List Int} {k : Nat} {x : Int} (h : xs[k]? = some x) : (xs.take (k + 1)).sum = (xs.take k).sum + x := by
  rw [List.take_add_one, h]; simp
theorem sum_take_in {xs : List Int} (hx : ∀ x ∈ xs, -1000000000 ≤ x ∧ x ≤ 1000000000) : ∀ k, k ≤ xs.length → -(1000000000 * (k : Int)) ≤ (xs.take k).sum ∧ (xs.take k).sum ≤ 1000000000 * (k : Int)
  | 0, _ => by simp
  | k + 1, hk => by
    have hx2 : xs[k]? = some xs[k] := List.getElem?_eq_getElem (by omega)
    have ih := sum_take_in hx k (by omega)
    have := hx _ (List.getElem_mem (show k < xs.length by omega))
    rw [sum_take_succ hx2]; push_cast; omega
theorem ntO_len {xs : List Int} (h : wi 1 6 xs.length = false) : ntO xs = some 5 := by rw [ntO, h]; rfl
theorem ntO_far {xs : List Int} (h : wi 1 6 xs.length = true) {x : Int} {k : Nat} (hk : xs[k]? = some x) (hx : wi (-1000000000) 1000000000 x = false) : ntO xs = some 0 := by
  have : xs.all (wi (-bil) bil) = false := by
    rw [List.all_eq_false]
    exact ⟨x, List.mem_of_getElem? hk, by rw [show bil = 1000000000 from rfl, hx]; simp⟩
  rw [ntO, if_pos h, this]; rfl
theorem ntO_all {xs : List Int} (h : wi 1 6 xs.length = true) (hx : ∀ k x, k < xs.length → xs[k]? = some x → wi (-1000000000) 1000000000 x = true) : ntO xs = if (xs.take xs.length).sum = 0 then none else some 2 := by
  have : xs.all (wi (-bil) bil) = true := by
    rw [List.all_eq_true]
    intro x hm
    obtain ⟨j, hj, rfl⟩ := List.mem_iff_getElem.1 hm
    exact hx j _ hj (List.getElem?_eq_getElem hj)
  rw [ntO, if_pos h, if_pos this, List.take_length]

set_option maxRecDepth 100000 in
set_option maxHeartbeats 4000000 in
theorem l06Nets_any (xs : List Int) (A : Option Addr) (c : Nat) (w : World) (hl : xs.length ≤ 1048576) (hr : Rd w w.heap.size icells A xs) :
    Calls Tryd.prog 31 #[.slice A xs.length c] w fun e w' => e = .returned (.int .i64 (cdO (ntO xs))) ∧ w = w' := by
  have HR := Lib.hid hr
  clear hr
  go_enter Tryd.func31, Tryd.ntmps31
  go_wp2_with fail
  refine (l00In_any _ _ _ w).mono ?_
  rintro e w1 ⟨rfl, rfl⟩
  rw [show (decide ((1 : Int) ≤ xs.length) && decide ((xs.length : Int) ≤ 6)) = wi 1 6 xs.length from rfl]
  cases h0 : wi 1 6 xs.length
  · have E := Lib.hid (ntO_len h0)
    clear h0
    go_wp2
    go_ret
    exact ⟨by rw [E.out]; rfl, rfl⟩
  have H0 := Lib.hid h0
  have h6 : xs.length ≤ 6 := by have := (wi_iff.1 h0).2; omega
  clear h0
  go_wp2_with fail
  go_loopw [3, 4] (fun sv iv wr => ∃ (k : Nat) (S : Int), k ≤ xs.length ∧ iv = .int .i64 k ∧ sv = .int .i64 S ∧ S = (xs.take k).sum ∧ (∀ j x, j < k → xs[j]? = some x → wi (-1000000000) 1000000000 x = true) ∧ (-(1000000000 * (k : Int)) ≤ S ∧ S ≤ 1000000000 * (k : Int)) ∧ w = wr) (fun _ i _ => xs.length - (intOf i).toNat)
  case atStart => exact ⟨0, 0, by omega, rfl, rfl, by simp, fun j x h => absurd h (Nat.not_lt_zero _), by simp, rfl⟩
  case round =>
    obtain ⟨k, S, hk, rfl, rfl, hS, hA, hb, rfl⟩ := hrel
    have HS := Lib.hid hS
    have HA := Lib.hid hA
    have HB := Lib.hid hb
    clear hS hA hb
    have hk0 : (0 : Int) ≤ (k : Int) := Int.natCast_nonneg _
    by_cases hlt : k < xs.length
    · have hk8 : (k : Int) < xs.length := by omega
      obtain ⟨x, hx⟩ : ∃ x, xs[k]? = some x := ⟨_, List.getElem?_eq_getElem hlt⟩
      obtain ⟨b, o, rfl, hbl, hrow⟩ := HR.out.at_ icells_length hx
      have g0 : w.cell? ⟨b, o + k, none⟩ = some (.int .i64 x) := rowI hrow
      have HX := Lib.hid hx
      clear hx hrow
      go_wp2_with fail
      refine (l00In_any x (-1000000000) 1000000000 w).mono ?_
      rintro e w1 ⟨rfl, rfl⟩
      rw [show (decide ((-1000000000 : Int) ≤ x) && decide (x ≤ 1000000000)) = wi (-1000000000) 1000000000 x from rfl]
      cases h1 : wi (-1000000000) 1000000000 x
      · have E := Lib.hid (ntO_far H0.out HX.out h1)
        clear h1
        go_wp2
        go_ret
        exact ⟨by rw [E.out]; rfl, rfl⟩
      have hx2 := wi_iff.1 h1
      have HSn : Hid (S + x = (xs.take (k + 1)).sum) := by show _ = _; rw [sum_take_succ HX.out, HS.out]
      have HBn : Hid (-(1000000000 * ((k + 1 : Nat) : Int)) ≤ S + x ∧ S + x ≤ 1000000000 * ((k + 1 : Nat) : Int)) := by have := HB.out; push_cast; constructor <;> omega
      have hz1 : IntKind.i64.wrap (S + x) = S + x := IntWalk.i64_in _ ⟨by have := HB.out; omega, by have := HB.out; omega⟩
      have hz2 : wrap64 (S + x) = S + x := IntWalk.wrap64_in _ ⟨by have := HB.out; omega, by have := HB.out; omega⟩
      have H1 := Lib.hid h1
      clear h1 hx2
      go_wp2
      go_roundw
      case rel => exact ⟨k + 1, S + x, by clear hz1 hz2; omega, by clear hz1 hz2; go_num, by first | rfl | go_num, HSn.out, fun j y h2 h3 => by
        by_cases e : j = k
        · subst e; rw [HX.out] at h3; obtain rfl := Option.some.inj h3; exact H1.out
        · exact HA.out j y (by clear hz1 hz2; omega) h3, HBn.out, by first | rfl | trivial⟩
      case measure => clear hz1 hz2; simp [intOf]; omega
    · obtain rfl : k = xs.length := by omega
      have hn := ntO_all H0.out HA.out
      rw [← HS.out] at hn
      have HN := Lib.hid hn
      clear hn hk hlt
      by_cases hz : S = 0
      · have E : Hid (ntO xs = none) := by show _ = _; rw [HN.out, if_pos hz]
        have hb0 : (S == 0) = true := by simp [hz]
        go_wp2
        go_ret
        exact ⟨by rw [E.out]; rfl, rfl⟩
      · have E : Hid (ntO xs = some 2) := by show _ = _; rw [HN.out, if_neg hz]
        have hb0 : (S == 0) = false := by simpa using hz
        go_wp2
        go_ret
        exact ⟨by rw [E.out]; rfl, rfl⟩

set_option maxRecDepth 100000 in
set_option maxHeartbeats 1000000 in
theorem l00OwnC_any (xs : List Int) (A : Option Addr) (c : Nat) (w : World) (hl : xs.length ≤ 1048576) (hr : Rd w w.heap.size icells A xs) :
    Calls Tryd.prog 32 #[.slice A xs.length c] w fun e w' => ∃ A' c', e = .returned (.slice A' xs.length c') ∧ w'.ownsRow w.heap.size 2 1 (.slice A' xs.length c') xs.length (xs.flatMap icells) ∧ Below w.heap.size w w' := by
  obtain ⟨j0, hj, hy0, hy1, hy2⟩ := info_parts Tryd.info64
  have HJ := Lib.hid hj
  have HY0 := Lib.hid hy0
  have HY1 := Lib.hid hy1
  have HY2 := Lib.hid hy2
  clear hj hy0 hy1 hy2
  have HR := Lib.hid hr
  clear hr
  go_enter Tryd.func32, Tryd.ntmps32
  go_wp2_with (at_builtin; refine wpList_append_any _ rfl (.tmp 3) (.tmp 4) 22 22 rfl w.heap.size 2 j0 (.int .i64 0) 1 8 Tryd.underlying22 HJ.out HY0.out HY1.out HY2.out rfl (by decide) _ 0 [] rfl ?own _ xs.length (xs.flatMap icells) rfl ?src ?c3 ?c4 ?c5 ?_)
  case own => exact empty_ownC w _ 1
  case src => exact src_of_rd _ Tryd.underlying22 icells_length icells_oneC (HR.out.keep ((Below.refl _ w).alloc (Nat.le_refl _) _))
  case c3 => unfold maxLen; omega
  case c4 => omega
  case c5 => simp
  intro v' w2 hown hg _
  have hB : Below w.heap.size w w2 := ((Below.refl _ w).alloc (Nat.le_refl _) _).grown hg (by simp) (fun k e => by
    have e2 : w.heap.size = k := by simpa [Value.ownBlock] using e
    omega)
  have hown2 : w2.ownsRow w.heap.size 2 1 v' xs.length (xs.flatMap icells) := by simpa using hown
  obtain ⟨A', c', rfl, -, -⟩ := own_rd icells_length hown2
  have HO := Lib.hid hown2
  have HB := Lib.hid hB
  clear hown hown2 hg hB
  go_wp2
  go_ret
  exact ⟨A', c', rfl, HO.out, HB.out⟩

end Go.Proofs.YtcdoablhnlkkmaaDoor
