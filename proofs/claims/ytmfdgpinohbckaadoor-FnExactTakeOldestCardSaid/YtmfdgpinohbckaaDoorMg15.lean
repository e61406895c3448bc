/-
  StoreAll: what it answers, and the model's contract. Condition: the rack and the list read, their numbers fit their kinds, not more than 1048576.
-/
import Derived.Test.YtmfdgpinohbckaaDoorMg2
import Derived.OwnWalk
import Derived.Laws.AppendOwn
import Derived.Laws.MakeOwn
import Derived.Maps.AppendAt
import Derived.Test.YtmfdgpinohbckaaDoorMg3
import Derived.Deep.RegionHeld3
import Derived.WalkSmall
import Derived.Test.YtmfdgpinohbckaaDoorKd2
import Derived.Test.YtmfdgpinohbckaaDoorMg11
import Derived.Test.YtmfdgpinohbckaaDoorMg12
namespace Go.Proofs.YtmfdgpinohbckaaDoor
open Go.ChangeShapes Go.WideShapes Go.ChangeAt Go.RowKit

theorem Tryd.info64 : (Tryd.prog.info? 2).map (fun i => (i.zero, i.size, i.bytes)) = some (some (.int .i64 0), 1, 8) := by kernel_rfl
end Go.Proofs.YtmfdgpinohbckaaDoor

namespace Go.Proofs.YtmfdgpinohbckaaDoor
open Go.ChangeShapes Go.WideShapes Go.ChangeAt Go.RowKit Go.Deep

def wfI (n : Int) : Prop := -9223372036854775808 ≤ n ∧ n ≤ 9223372036854775807
def icells (n : Int) : List Value := [.int .i64 n]
theorem icells_length (n : Int) : (icells n).length = 1 := rfl
theorem icells_of (cs : List Value) (h : FitsL [.i64] cs) : ∃ b, wfI b ∧ cs = icells b := by
  match cs, h.length, h with
  | [c0], _, h =>
    obtain ⟨⟨n, rfl, hn⟩, _⟩ := h
    exact ⟨n, bounds_i64 hn, rfl⟩
theorem Tryd.flat64 : FlatT Tryd.prog 2 [.i64] := .int Tryd.underlying2
theorem Tryd.cells64 : Tryd.prog.cellsOf 2 = 1 := by kernel_rfl
theorem rowI {w : World} {b o k : Nat} {n : Int} (h : w.rangeAt b (o + k * 1) (icells n)) : w.cell? ⟨b, o + k, none⟩ = some (.int .i64 n) := by
  have := h 0 (.int .i64 n) rfl
  simpa using this
theorem Rd.take {T : Type} {w : World} {B : Nat} {cells : T → List Value} {A : Option Addr} {xs : List T} (h : Rd w B cells A xs) (k : Nat) : Rd w B cells A (xs.take k) := fun hn => by
  obtain ⟨b, o, e, hb, hr⟩ := h (by rw [List.length_take] at hn; omega)
  refine ⟨b, o, e, hb, fun j v hv => hr j v ?_⟩
  have hj := (List.getElem?_eq_some_iff.1 hv).1
  have e2 : xs.flatMap cells = (xs.take k).flatMap cells ++ (xs.drop k).flatMap cells := by rw [← List.flatMap_append, List.take_append_drop]
  rw [e2, List.getElem?_append_left hj, hv]

/-- What stands between two rounds of toInt64S. -/
def TI (xs : List Int) (w : World) (k : Nat) (X : List Int) (wr : World) : Prop :=
  X.length = xs.length ∧ (∀ j, j < k → X[j]? = xs[j]?) ∧ Rs wr w.heap.size 2 icells X ∧ Below w.heap.size w wr
theorem TI.step {xs : List Int} {w wr : World} {k : Nat} {X : List Int} {x : Int} (h : TI xs w k X wr) (hk : xs[k]? = some x) :
    TI xs w (k + 1) (X.set k x) (wr.setCell ⟨w.heap.size, k, none⟩ (.int .i64 x)) := by
  obtain ⟨hX, hj, hO, hB⟩ := h
  have hkl := (List.getElem?_eq_some_iff.1 hk).1
  refine ⟨by simp [hX], fun j hjk => ?_, ?_, hB.setCell (p := ⟨w.heap.size, k, none⟩) (Nat.le_refl _) _⟩
  · by_cases e : j = k
    · subst e
      rw [List.getElem?_set_self (by omega), hk]
    · rw [List.getElem?_set_ne (by omega)]
      exact hj j (by omega)
  · have := Rs.set_ icells_length hO (k := k) (by omega) x
    rw [Nat.mul_one] at this
    exact this
theorem TI.same {xs : List Int} {w : World} {X : List Int} {wr : World} (h : TI xs w xs.length X wr) : X = xs := by
  apply List.ext_getElem?
  intro j
  by_cases hj : j < xs.length
  · exact h.2.1 j hj
  · rw [List.getElem?_eq_none (by rw [h.1]; omega), List.getElem?_eq_none (by omega)]

set_option maxRecDepth 100000 in
set_option maxHeartbeats 1000000 in
theorem eqInt64S_same (xs : List Int) (A B : Option Addr) (c d : Nat) (w : World) (hl : xs.length ≤ 4611686018427387904) (hA : Rd w w.heap.size icells A xs) (hB : Rd w w.heap.size icells B xs) :
    Calls Tryd.prog 30 #[.slice A xs.length c, .slice B xs.length d] w fun e w' => e = .returned (.bool true) ∧ Below w.heap.size w w' := by
  have HA := Lib.hid hA
  have HB := Lib.hid hB
  clear hA hB
  go_enter Tryd.func30, Tryd.ntmps30
  go_wp2_with fail
  go_loopw [5] (fun i wr => ∃ (k : Nat), k ≤ xs.length ∧ i = .int .i64 k ∧ Below w.heap.size w wr) (fun i _ => xs.length - (intOf i).toNat)
  case atStart => exact ⟨0, by omega, rfl, Below.refl _ _⟩
  case round =>
    obtain ⟨k, hk, rfl, hT⟩ := hrel
    have HT := Lib.hid hT
    clear hT
    by_cases hlt : k < xs.length
    · obtain ⟨x, hx⟩ : ∃ x, xs[k]? = some x := ⟨_, List.getElem?_eq_getElem hlt⟩
      obtain ⟨g, o, rfl, hg, hc⟩ := (HA.out.below (Nat.le_refl _) HT.out).at_ icells_length hx
      obtain ⟨g', o', rfl, hg', hc'⟩ := (HB.out.below (Nat.le_refl _) HT.out).at_ icells_length hx
      have e1 := rowI hc
      have e2 := rowI hc'
      have hk0 : (0 : Int) ≤ (k : Int) := Int.natCast_nonneg _
      have hk8 : (k : Int) < xs.length := by omega
      clear hx hc hc'
      go_wp2_with fail
      go_region_held3 (fun w' => w'.cell? ⟨g, o + k, none⟩ = some (.int .i64 x) ∧ w'.cell? ⟨g', o' + k, none⟩ = some (.int .i64 x)) (go_keep) (fail)
      go_wp2
      go_roundw
      case rel => exact ⟨k + 1, by omega, by go_num, HT.out.drew⟩
      case measure => simp [intOf]; omega
    · obtain rfl : k = xs.length := by omega
      go_wp2
      go_ret
      exact ⟨rfl, HT.out⟩

set_option maxRecDepth 100000 in
set_option maxHeartbeats 1000000 in
theorem l00Has_any (xs : List Int) (n : Int) (A : Option Addr) (c : Nat) (w : World) (hl : xs.length ≤ 1048576) (hr : Rd w w.heap.size icells A xs) :
    Calls Tryd.prog 79 #[.slice A xs.length c, .int .i64 n] w fun e w' => e = .returned (.bool (decide (n ∈ xs))) ∧ w = w' := by
  have HR := Lib.hid hr
  clear hr
  go_enter Tryd.func79, Tryd.ntmps79
  go_wp2_with fail
  go_loop [5] (fun i => ∃ (k : Nat), k ≤ xs.length ∧ i = .int .i64 k ∧ n ∉ xs.take k) (fun i => xs.length - (intOf i).toNat)
  case atStart => exact ⟨0, by omega, rfl, by simp⟩
  case round =>
    obtain ⟨k, hk, rfl, hT⟩ := hrel
    have HT := Lib.hid hT
    clear hT
    by_cases hlt : k < xs.length
    · obtain ⟨x, hx⟩ : ∃ x, xs[k]? = some x := ⟨_, List.getElem?_eq_getElem hlt⟩
      obtain ⟨g, o, rfl, hg, hc⟩ := HR.out.at_ icells_length hx
      have e1 := rowI hc
      have HX := Lib.hid hx
      have hk0 : (0 : Int) ≤ (k : Int) := Int.natCast_nonneg _
      have hk8 : (k : Int) < xs.length := by omega
      clear hx hc
      by_cases he : x = n
      · subst he
        go_wp2
        go_ret
        exact ⟨ret_bool (by simp [List.mem_of_getElem? HX.out]), rfl⟩
      · have he' : (x == n) = false := by simpa using he
        go_wp2
        go_round
        case rel =>
          refine ⟨k + 1, by omega, by go_num, ?_⟩
          obtain ⟨h1, h2⟩ := List.getElem?_eq_some_iff.1 HX.out
          rw [List.take_succ_eq_append_getElem h1, h2, List.mem_append, List.mem_singleton]
          rintro (h | h)
          · exact HT.out h
          · exact he h.symm
        case measure => simp [intOf]; omega
    · obtain rfl : k = xs.length := by omega
      go_wp2
      go_ret
      exact ⟨ret_bool (by have := HT.out; rw [List.take_length] at this; simp [this]), rfl⟩
end Go.Proofs.YtmfdgpinohbckaaDoor

namespace Go.Proofs.YtmfdgpinohbckaaDoor
open Go.ChangeShapes Go.WideShapes Go.ChangeAt Go.RowKit Go.Deep

theorem bst_lt6 {xss : List (List Wnt)} {d : Int} (h6 : ∀ xs ∈ xss, xs.length ≤ 6) : ∀ (k : Nat), k ≤ xss.length → ∀ b o n, bst xss d k = some (b, o, n) → n < 6
  | 0, _, b, o, n, h => by cases h
  | k + 1, hk, b, o, n, h => by
    obtain ⟨xs, hx⟩ : ∃ x, xss[k]? = some x := ⟨_, List.getElem?_eq_getElem (by omega)⟩
    have hl := h6 xs (List.mem_of_getElem? hx)
    have ih := bst_lt6 (d := d) h6 k (by omega)
    by_cases e6 : xs.length = 6
    · rw [bst_full hx e6] at h
      exact ih b o n h
    · rw [bst_room hx e6] at h
      unfold bstN at h
      split at h
      · simp only [Option.some.injEq, Prod.mk.injEq] at h
        obtain ⟨-, -, rfl⟩ := h; omega
      · rename_i b' o' n' e
        split at h
        · simp only [Option.some.injEq, Prod.mk.injEq] at h
          obtain ⟨-, -, rfl⟩ := h; omega
        · rw [← e] at h; exact ih b o n h
def saN (T : Option (List (List Wnt) × List Int)) (x : Wnt) : Option (List (List Wnt) × List Int) :=
  match T with
  | none => none
  | some (r, ls) => match bst r x.2 r.length with
    | none => none
    | some (l, _, _) => some (r.set l (r.getD l [] ++ [x]), ls ++ [(l : Int)])
/-- The rack and the lanes when so many are stored. -/
def saS (xss : List (List Wnt)) (ys : List Wnt) : Nat → Option (List (List Wnt) × List Int)
  | 0 => some (xss, [])
  | k + 1 => saN (saS xss ys k) (ys.getD k ((0, 0), 0))
theorem saS_no {xss : List (List Wnt)} {ys : List Wnt} {k : Nat} (h : saS xss ys k = none) : ∀ m, saS xss ys (k + m) = none
  | 0 => h
  | m + 1 => by show saN (saS xss ys (k + m)) _ = none; rw [saS_no h m]; rfl
theorem saS_stop {xss : List (List Wnt)} {ys : List Wnt} {k : Nat} {x : Wnt} {r : List (List Wnt)} {ls : List Int} (hy : ys[k]? = some x) (h : saS xss ys k = some (r, ls)) (hb : bst r x.2 r.length = none) : saS xss ys ys.length = none := by
  have hk := (List.getElem?_eq_some_iff.1 hy).1
  have e : saS xss ys (k + 1) = none := by
    have hg : ys.getD k ((0, 0), 0) = x := by simp [hy]
    show saN (saS xss ys k) _ = none
    rw [h, hg]; simp [saN, hb]
  have := saS_no e (ys.length - (k + 1))
  rwa [show k + 1 + (ys.length - (k + 1)) = ys.length from by omega] at this
theorem saS_step {xss : List (List Wnt)} {ys : List Wnt} {k : Nat} {x : Wnt} {r : List (List Wnt)} {ls : List Int} {l o n : Nat} {zs : List Wnt} (hy : ys[k]? = some x) (h : saS xss ys k = some (r, ls)) (hb : bst r x.2 r.length = some (l, o, n)) (hl : r[l]? = some zs) : saS xss ys (k + 1) = some (r.set l (zs ++ [x]), ls ++ [(l : Int)]) := by
  have hg : ys.getD k ((0, 0), 0) = x := by simp [hy]
  have hz : r.getD l [] = zs := by simp [hl]
  show saN (saS xss ys k) _ = _
  rw [h, hg]; simp only [saN, hb, hz]
theorem bst_at {r : List (List Wnt)} {d : Int} (h6 : ∀ xs ∈ r, xs.length ≤ 6) {l o n : Nat} (hb : bst r d r.length = some (l, o, n)) : ∃ zs, r[l]? = some zs ∧ zs.length < 6 := by
  obtain ⟨-, -, zs, hz, rfl⟩ := bst_ok _ (Nat.le_refl _) _ _ _ hb
  exact ⟨zs, hz, bst_lt6 h6 _ (Nat.le_refl _) _ _ _ hb⟩
theorem saS_ok {xss : List (List Wnt)} {ys : List Wnt} (h6 : ∀ xs ∈ xss, xs.length ≤ 6) (hwf : ∀ xs ∈ xss, ∀ x ∈ xs, wfW x) (hwy : ∀ x ∈ ys, wfW x) : ∀ (k : Nat), k ≤ ys.length → ∀ r ls, saS xss ys k = some (r, ls) → r.length = xss.length ∧ ls.length = k ∧ (∀ zs ∈ r, zs.length ≤ 6) ∧ ∀ zs ∈ r, ∀ z ∈ zs, wfW z
  | 0, _, r, ls, h => by
    simp only [saS, Option.some.injEq, Prod.mk.injEq] at h
    obtain ⟨rfl, rfl⟩ := h
    exact ⟨rfl, rfl, h6, hwf⟩
  | k + 1, hk, r, ls, h => by
    obtain ⟨x, hy⟩ : ∃ x, ys[k]? = some x := ⟨_, List.getElem?_eq_getElem (by omega)⟩
    cases hS : saS xss ys k with
    | none => have := saS_no hS 1; rw [h] at this; cases this
    | some p =>
      obtain ⟨r0, l0⟩ := p
      obtain ⟨i1, i2, i3, i4⟩ := saS_ok h6 hwf hwy k (by omega) r0 l0 hS
      cases hb : bst r0 x.2 r0.length with
      | none =>
        have hg : ys.getD k ((0, 0), 0) = x := by simp [hy]
        rw [saS, hS, hg] at h
        simp [saN, hb] at h
      | some t =>
        obtain ⟨l, o, n⟩ := t
        obtain ⟨zs, hz, hz6⟩ := bst_at i3 hb
        rw [saS_step hy hS hb hz] at h
        simp only [Option.some.injEq, Prod.mk.injEq] at h
        obtain ⟨rfl, rfl⟩ := h
        refine ⟨by simp [i1], by simp [i2], fun u hu => ?_, fun u hu => ?_⟩
        · rcases List.mem_or_eq_of_mem_set hu with h | rfl
          · exact i3 u h
          · simp; omega
        · rcases List.mem_or_eq_of_mem_set hu with h | rfl
          · exact i4 u h
          · intro z hz2
            rcases List.mem_append.1 hz2 with h | h
            · exact i4 zs (List.mem_of_getElem? hz) z h
            · obtain rfl : z = x := by simpa using h
              exact hwy z (List.mem_of_getElem? hy)
def saG (xss : List (List Wnt)) (ys : List Wnt) : Option (List (List Wnt) × List Int) := if (rkOk xss && ys.all sV) = true then saS xss ys ys.length else none
/-- The rack, the lanes and the code of StoreAll. -/
def saR (xss : List (List Wnt)) (ys : List Wnt) : List (List Wnt) := match saG xss ys with
  | none => []
  | some p => p.1
def saL (xss : List (List Wnt)) (ys : List Wnt) : List Int := match saG xss ys with
  | none => []
  | some p => p.2
def saC (xss : List (List Wnt)) (ys : List Wnt) : Int := if (rkOk xss && ys.all sV) = true then (if (saS xss ys ys.length).isSome = true then 0 else 6) else 1
theorem sa_no {xss : List (List Wnt)} {ys : List Wnt} (h : (rkOk xss && ys.all sV) = false) : saR xss ys = [] ∧ saL xss ys = [] ∧ saC xss ys = 1 := by
  have e : saG xss ys = none := by rw [saG, h]; rfl
  exact ⟨by rw [saR, e], by rw [saL, e], by rw [saC, h]; rfl⟩
theorem sa_six {xss : List (List Wnt)} {ys : List Wnt} (h : (rkOk xss && ys.all sV) = true) (hs : saS xss ys ys.length = none) : saR xss ys = [] ∧ saL xss ys = [] ∧ saC xss ys = 6 := by
  have e : saG xss ys = none := by rw [saG, if_pos h, hs]
  exact ⟨by rw [saR, e], by rw [saL, e], by rw [saC, if_pos h, hs]; rfl⟩
theorem sa_yes {xss : List (List Wnt)} {ys : List Wnt} {r : List (List Wnt)} {ls : List Int} (h : (rkOk xss && ys.all sV) = true) (hs : saS xss ys ys.length = some (r, ls)) : saR xss ys = r ∧ saL xss ys = ls ∧ saC xss ys = 0 := by
  have e : saG xss ys = some (r, ls) := by rw [saG, if_pos h, hs]
  exact ⟨by rw [saR, e], by rw [saL, e], by rw [saC, if_pos h, hs]; rfl⟩
theorem rd_nilK {T : Type} (w : World) (B : Nat) (cells : T → List Value) (A : Option Addr) : Rd w B cells A ([] : List T) := fun h => absurd h (by simp)
theorem cell1A (W : World) (v : Value) (t : TypeId) : ∀ (j : Nat) (u : Value), [v][j]? = some u → (W.alloc (.cells #[v] t)).cell? ((⟨W.heap.size, 0, none⟩ : Addr).add j) = some u := fun j u hu => by
  have e : (⟨W.heap.size, 0, none⟩ : Addr).add j = ⟨W.heap.size, j, none⟩ := by cases j <;> simp [Addr.add]
  rw [e, Blk.cell (Blk.new W t #[v])]
  simpa using hu

end Go.Proofs.YtmfdgpinohbckaaDoor
