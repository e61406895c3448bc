/-
  What paid asks and defers, and the checks of CheckPayments: the program's contracts. Condition: the sentinel errors lie as the row lists them.
-/
import Derived.Test.YtcdoablhnlkkmaaDoorCp3
import Derived.Test.YtcdoablhnlkkmaaDoorHw
import Derived.Test.YtcdoablhnlkkmaaDoorYa0
import Derived.Tactics
import Derived.Tactics2
import Derived.Defers
import Derived.Recover
import Derived.Laws.Pointers
namespace Go.Proofs.YtcdoablhnlkkmaaDoor
open Go.ChangeShapes Go.WideShapes Go.ChangeAt Go.RowKit Go.Deep

theorem assert_nilP (w : World) : (Instr.typeAssert .nilIface 20 102 true).run Tryd.prog w = .ok (.tuple #[.nilIface, .bool false]) w := by kernel_rfl
theorem assert_none (v : Value) (w : World) : (Instr.typeAssert (.iface 163 v) 20 102 true).run Tryd.prog w = .ok (.tuple #[.iface 163 v, .bool true]) w := by kernel_rfl

theorem meth_none (v : Value) (w : World) : (method 306 163 (.agg #[v]) "loop.example/g01353/impl.reason").run Tryd.prog w = .ok (128, .agg #[v]) w := by kernel_rfl
theorem reasonP_any (n : Int) (ad : Nat → Addr) (w : World) (c0 : w.cell? ⟨3, 0, none⟩ = some (.iface 172 (.pointer (some (ad 0))))) : Calls Tryd.prog 128 #[.agg #[.int .i8 n]] w fun e w' => e = .returned (.iface 172 (.pointer (some (ad 0)))) ∧ Below w.heap.size w w' := by
  have hg : 3 < w.heap.size := block_lt_of_cell c0
  have hne : ¬ w.heap.size = 3 := by omega
  have hne2 : ¬ 3 = w.heap.size := by omega
  go_enter Tryd.func128, Tryd.ntmps128
  go_wp2
  go_ret
  exact ⟨rfl, (by repeat (first | exact Below.refl _ _ | refine Below.drew ?_ | refine Below.alloc ?_ (by simp <;> omega) _ | refine Below.setCell ?_ (by simp <;> omega) _))⟩

set_option maxRecDepth 100000 in
theorem paid_idle (p : Addr) (w : World) :
    CallsD Tryd.prog 56 #[.pointer (some p)] .returning w fun e u' w' => e = .returned (.tuple #[]) ∧ u' = .returning ∧ w' = w := by
  refine callsD_of_wpS Tryd.func56 rfl fun c₀ cs hu => ?_
  have ht : #[Value.pointer (some p)] ++ Array.replicate (Tryd.f56.ntmps - #[Value.pointer (some p)].size) undef = #[.pointer (some p), undef, undef, undef, undef, undef, undef, undef, undef, undef, undef] := by kernel_rfl
  rw [ht]
  clear ht
  apply wpS_seq
  apply wpS_region
  simp [wpOpsS, go_sem, recoverD, hu, assert_nilP, Exit.thenS]
  refine wpS_of_wp ?_
  go_wp2_with fail
  cases c₀
  simp_all [bodyPostS, results, Tryd.results56]
set_option maxRecDepth 100000 in
theorem paid_panic (p : Addr) (n : Int) (ad : Nat → Addr) (older : List PanicEntry) (w : World) (hp : p.block < w.heap.size) (hc : w.cell? p = some .nilIface) (c0 : w.cell? ⟨3, 0, none⟩ = some (.iface 172 (.pointer (some (ad 0))))) (hz : w.frozen? p = false) :
    CallsD Tryd.prog 56 #[.pointer (some p)] (.panicking ({ v := .iface 163 (.agg #[.int .i8 n]), recovered := false } :: older)) w fun e u' w' => e = .returned (.tuple #[]) ∧ u' = .panicking ({ v := .iface 163 (.agg #[.int .i8 n]), recovered := true } :: older) ∧ ∃ w1, Below w.heap.size w w1 ∧ w' = w1.setCell p ((.iface 172 (.pointer (some (ad 0))))) := by
  refine callsD_of_wpS Tryd.func56 rfl fun c₀ cs hu => ?_
  have ht : #[Value.pointer (some p)] ++ Array.replicate (Tryd.f56.ntmps - #[Value.pointer (some p)].size) undef = #[.pointer (some p), undef, undef, undef, undef, undef, undef, undef, undef, undef, undef] := by kernel_rfl
  rw [ht]
  clear ht
  apply wpS_seq
  apply wpS_region
  simp [wpOpsS, go_sem, recoverD, hu, assert_none, Exit.thenS]
  refine wpS_of_wp ?_
  have hmd := fun v w => meth_none v w
  go_wp2_with fail
  refine (reasonP_any n ad _ c0).mono ?_
  rintro e w2 ⟨rfl, hb2⟩
  have hc2 := (hb2.cell hp).trans hc
  have hz2 := (hb2.frozen hp).trans hz
  go_wp2_with fail
  refine ⟨rfl, _, rfl, _, results_none rfl _ _ _, rfl, rfl, _, hb2, rfl⟩

set_option maxRecDepth 100000 in
set_option maxHeartbeats 4000000 in
theorem checkNets_any (xs : List Int) (A : Option Addr) (c : Nat) (ad : Nat → Addr) (w : World) (hl : xs.length ≤ 1048576) (hr : Rd w w.heap.size icells A xs) (hE : EW 7 w ad) :
    Calls Tryd.prog 36 #[.slice A xs.length c] w fun e w' => e = .returned (erO ad (ntO xs)) ∧ w = w' := by
  have HR := Lib.hid hr
  have HE := Lib.hid hE
  clear hr hE
  go_enter Tryd.func36, Tryd.ntmps36
  go_wp2_with fail
  refine (checkPerN_any xs.length c A ad w hl HE.out).mono ?_
  rintro e w1 ⟨rfl, rfl⟩
  rw [show paOk xs.length = wi 1 6 xs.length from rfl]
  cases h0 : wi 1 6 xs.length
  · have E := Lib.hid (ntO_len h0)
    rw [show erO ad (chk 5 false) = .iface 172 (.pointer (some (ad 5))) from rfl]
    clear h0
    go_wp2
    go_ret
    exact ⟨by rw [E.out]; rfl, rfl⟩
  have H0 := Lib.hid h0
  have h6 : xs.length ≤ 6 := by have := (wi_iff.1 h0).2; omega
  rw [show erO ad (chk 5 true) = .nilIface from rfl]
  clear h0
  go_wp2_with fail
  go_loopw [4, 15] (fun sv iv wr => ∃ (k : Nat) (S : Int), k ≤ xs.length ∧ iv = .int .i64 k ∧ sv = .int .i64 S ∧ S = (xs.take k).sum ∧ (∀ j x, j < k → xs[j]? = some x → wi (-1000000000) 1000000000 x = true) ∧ (-(1000000000 * (k : Int)) ≤ S ∧ S ≤ 1000000000 * (k : Int)) ∧ w = wr) (fun _ i _ => xs.length - (intOf i).toNat)
  case atStart => exact ⟨0, 0, by omega, rfl, rfl, by simp, fun j x h => absurd h (Nat.not_lt_zero _), by simp, rfl⟩
  case round =>
    obtain ⟨k, S, hk, rfl, rfl, hS, hA, hb, rfl⟩ := hrel
    have HS := Lib.hid hS
    have HA := Lib.hid hA
    have HB := Lib.hid hb
    clear hS hA hb
    have hk0 : (0 : Int) ≤ (k : Int) := Int.natCast_nonneg _
    by_cases hlt : k < xs.length
    · have hk8 : (k : Int) < xs.length := by omega
      obtain ⟨x, hx⟩ : ∃ x, xs[k]? = some x := ⟨_, List.getElem?_eq_getElem hlt⟩
      obtain ⟨b, o, rfl, hbl, hrow⟩ := HR.out.at_ icells_length hx
      have g0 : w.cell? ⟨b, o + k, none⟩ = some (.int .i64 x) := rowI hrow
      have HX := Lib.hid hx
      clear hx hrow
      go_wp2_with fail
      refine (checkWithin_any x (-1000000000) 1000000000 ad w HE.out).mono ?_
      rintro e w1 ⟨rfl, rfl⟩
      rw [show (decide ((-1000000000 : Int) ≤ x) && decide (x ≤ 1000000000)) = wi (-1000000000) 1000000000 x from rfl]
      cases h1 : wi (-1000000000) 1000000000 x
      · have E := Lib.hid (ntO_far H0.out HX.out h1)
        rw [show erO ad (chk 0 false) = .iface 172 (.pointer (some (ad 0))) from rfl]
        clear h1
        go_wp2
        go_ret
        exact ⟨by rw [E.out]; rfl, rfl⟩
      have hx2 := wi_iff.1 h1
      have HSn : Hid (S + x = (xs.take (k + 1)).sum) := by show _ = _; rw [sum_take_succ HX.out, HS.out]
      have HBn : Hid (-(1000000000 * ((k + 1 : Nat) : Int)) ≤ S + x ∧ S + x ≤ 1000000000 * ((k + 1 : Nat) : Int)) := by have := HB.out; push_cast; constructor <;> omega
      have hz1 : IntKind.i64.wrap (S + x) = S + x := IntWalk.i64_in _ ⟨by have := HB.out; omega, by have := HB.out; omega⟩
      have hz2 : wrap64 (S + x) = S + x := IntWalk.wrap64_in _ ⟨by have := HB.out; omega, by have := HB.out; omega⟩
      have H1 := Lib.hid h1
      rw [show erO ad (chk 0 true) = .nilIface from rfl]
      clear h1 hx2
      go_wp2
      go_roundw
      case rel => exact ⟨k + 1, S + x, by clear hz1 hz2; omega, by clear hz1 hz2; go_num, by first | rfl | go_num, HSn.out, fun j y h2 h3 => by
        by_cases e : j = k
        · subst e; rw [HX.out] at h3; obtain rfl := Option.some.inj h3; exact H1.out
        · exact HA.out j y (by clear hz1 hz2; omega) h3, HBn.out, by first | rfl | trivial⟩
      case measure => clear hz1 hz2; simp [intOf]; omega
    · obtain rfl : k = xs.length := by omega
      have hn := ntO_all H0.out HA.out
      rw [← HS.out] at hn
      have HN := Lib.hid hn
      clear hn hk hlt
      by_cases hz : S = 0
      · have E : Hid (ntO xs = none) := by show _ = _; rw [HN.out, if_pos hz]
        have hb0 : (S == 0) = true := by simp [hz]
        go_wp2
        go_ret
        exact ⟨by rw [E.out]; rfl, rfl⟩
      · have E : Hid (ntO xs = some 2) := by show _ = _; rw [HN.out, if_neg hz]
        have hb0 : (S == 0) = false := by simpa using hz
        have c2 : w.cell? ⟨1, 0, none⟩ = some (.iface 172 (.pointer (some (ad 2)))) := HE.out.cell 2 (by omega)
        go_wp2
        go_ret
        exact ⟨by rw [E.out]; rfl, rfl⟩

set_option maxHeartbeats 1000000 in
theorem checkManyP_any (n c : Nat) (B : Option Addr) (ad : Nat → Addr) (w : World) (hl : n ≤ 1048576) (hE : EW 7 w ad) :
    Calls Tryd.prog 37 #[.slice B n c] w fun e w' => e = .returned (erO ad (if n ≤ 80 then none else some 1)) ∧ w = w' := by
  have c1 : w.cell? ⟨2, 0, none⟩ = some (.iface 172 (.pointer (some (ad 1)))) := hE.cell 1 (by omega)
  clear hE
  go_enter Tryd.func37, Tryd.ntmps37
  by_cases h : n ≤ 80
  · have h80 : ¬ (80 : Int) < n := by omega
    rw [if_pos h]
    clear h
    go_wp2
    go_ret
    exact ⟨rfl, rfl⟩
  · have h80 : (80 : Int) < n := by omega
    rw [if_neg h]
    clear h
    go_wp2
    go_ret
    exact ⟨rfl, rfl⟩

theorem isOpen_any (n : Int) (w : World) : Calls Tryd.prog 41 #[.int .i64 n] w fun e w' => e = .returned (.bool (!decide (n = 0))) ∧ w = w' := by
  go_enter Tryd.func41, Tryd.ntmps41
  go_wp2
  go_ret
  exact ⟨by by_cases h : n = 0 <;> simp [h], rfl⟩
theorem all_noP {l : List Int} {k : Nat} {x : Int} (h : l[k]? = some x) (hx : ¬ x = 0) : l.all (fun x => decide (x = 0)) = false := by
  rw [List.all_eq_false]
  exact ⟨x, List.mem_of_getElem? h, by simp [hx]⟩
set_option maxHeartbeats 2000000 in
theorem indexOpen_any (l : List Int) (A : Option Addr) (c : Nat) (w : World) (hl : l.length ≤ 1048576) (hr : Rd w w.heap.size icells A l) :
    Calls Tryd.prog 60 #[.slice A l.length c, .func (.func 41) #[] #[]] w fun e w' => ∃ i : Int, e = .returned (.int .i64 i) ∧ (decide (i < 0)) = l.all (fun x => decide (x = 0)) ∧ -1 ≤ i ∧ i ≤ 1048576 ∧ w = w' := by
  have HR := Lib.hid hr
  clear hr
  go_enter Tryd.func60, Tryd.ntmps60
  go_wp2_with fail
  go_loopw [8] (fun i wr => ∃ (k : Nat), k ≤ l.length ∧ i = .int .i64 k ∧ (∀ j x, j < k → l[j]? = some x → x = 0) ∧ w = wr) (fun i _ => l.length - (intOf i).toNat)
  case atStart => exact ⟨0, by omega, rfl, fun j x h => absurd h (Nat.not_lt_zero _), rfl⟩
  case round =>
    obtain ⟨k, hk, rfl, hT, rfl⟩ := hrel
    have HT := Lib.hid hT
    clear hT
    by_cases hlt : k < l.length
    · obtain ⟨x, hx⟩ : ∃ x, l[k]? = some x := ⟨_, List.getElem?_eq_getElem hlt⟩
      obtain ⟨b, o, rfl, hbl, hrow⟩ := HR.out.at_ icells_length hx
      have g0 : w.cell? ⟨b, o + k, none⟩ = some (.int .i64 x) := rowI hrow
      have HX := Lib.hid hx
      have hk0 : (0 : Int) ≤ (k : Int) := Int.natCast_nonneg _
      have hk8 : (k : Int) < l.length := by omega
      clear hx hrow
      go_wp2_with fail
      refine (isOpen_any x w).mono ?_
      rintro e w1 ⟨rfl, rfl⟩
      by_cases hz : x = 0
      · rw [show (!decide (x = 0)) = false from by simp [hz]]
        have HZ := Lib.hid hz
        clear hz
        go_wp2
        go_roundw
        case rel => exact ⟨k + 1, by omega, by go_num, fun j y h1 h2 => by
          by_cases e : j = k
          · subst e; rw [HX.out] at h2; obtain rfl := Option.some.inj h2; exact HZ.out
          · exact HT.out j y (by omega) h2, by first | rfl | trivial⟩
        case measure => simp [intOf]; omega
      · rw [show (!decide (x = 0)) = true from by simp [hz]]
        have HZ := Lib.hid hz
        clear hz
        go_wp2
        go_ret
        exact ⟨k, rfl, by rw [all_noP HX.out HZ.out]; simp, by omega, by omega, rfl⟩
    · obtain rfl : k = l.length := by omega
      have hall : l.all (fun x => decide (x = 0)) = true := by
        rw [List.all_eq_true]
        intro x hx
        obtain ⟨j, hj, rfl⟩ := List.mem_iff_getElem.1 hx
        simp [HT.out j _ hj (List.getElem?_eq_getElem hj)]
      have HAll := Lib.hid hall
      clear hall
      go_wp2
      go_ret
      exact ⟨-1, rfl, by rw [HAll.out]; rfl, by omega, by omega, rfl⟩
set_option maxHeartbeats 1000000 in
theorem containsOpen_any (l : List Int) (A : Option Addr) (c : Nat) (w : World) (hl : l.length ≤ 1048576) (hr : Rd w w.heap.size icells A l) :
    Calls Tryd.prog 40 #[.slice A l.length c, .func (.func 41) #[] #[]] w fun e w' => e = .returned (.bool (!l.all (fun x => decide (x = 0)))) ∧ w = w' := by
  have HR := Lib.hid hr
  clear hr
  go_enter Tryd.func40, Tryd.ntmps40
  go_wp2_with fail
  refine (indexOpen_any l A c w hl HR.out).mono ?_
  rintro e w1 ⟨i, rfl, hi, hi0, hi1, rfl⟩
  by_cases h0 : i < 0
  · have HI : Hid (l.all (fun x => decide (x = 0)) = true) := by show _ = _; rw [← hi]; exact decide_eq_true h0
    have h1 : ¬ 0 ≤ i := by omega
    clear hi
    go_wp2
    go_ret
    exact ⟨by rw [HI.out]; simp [h0, h1], rfl⟩
  · have HI : Hid (l.all (fun x => decide (x = 0)) = false) := by show _ = _; rw [← hi]; exact decide_eq_false h0
    have h1 : 0 ≤ i := by omega
    clear hi
    go_wp2
    go_ret
    exact ⟨by rw [HI.out]; simp [h0, h1], rfl⟩

end Go.Proofs.YtcdoablhnlkkmaaDoor
