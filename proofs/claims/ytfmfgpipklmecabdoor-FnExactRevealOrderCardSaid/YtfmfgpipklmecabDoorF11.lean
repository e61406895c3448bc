/-
  FnExactRevealOrder: for all arguments the law returns true, and they read as before. No condition but that the sentinel errors hold what the program's text lays (tied).
-/
import Derived.Test.YtfmfgpipklmecabDoorI6
import Derived.Test.YtfmfgpipklmecabDoorLi
import Derived.Test.YtfmfgpipklmecabDoorOw
import Derived.Test.YtfmfgpipklmecabDoorEo
import Derived.Test.YtfmfgpipklmecabDoorCi
import Derived.Maps.OwnSet
import Derived.Maps.RangeWalk
import Derived.Maps.OwnOps
import Derived.Maps.Views
import Derived.Maps.Ext
import Derived.WideKeyEntry
import Derived.DeepKeys4
import Derived.WalkArith
import Derived.Test.YtfmfgpipklmecabDoorL
import Derived.Test.YtfmfgpipklmecabDoorGk
import Derived.Test.YtfmfgpipklmecabDoorZx
import Derived.Test.YtfmfgpipklmecabDoorW0
import Derived.Test.YtfmfgpipklmecabDoorFlb
import Derived.Deep.RegionHeld3
import Derived.Test.YtfmfgpipklmecabDoorZy
import Derived.Test.YtfmfgpipklmecabDoorIo
import Derived.Test.YtfmfgpipklmecabDoorCw
import Derived.Test.YtfmfgpipklmecabDoorCards
import Derived.Test.YtfmfgpipklmecabDoorTie
import Derived.Test.YtfmfgpipklmecabDoorG
import Derived.SevenTiedAt
namespace Go.Proofs.YtfmfgpipklmecabDoor
open Go.ChangeShapes Go.WideShapes Go.ChangeAt Go.RowKit Go.Deep Go.ChangeMaps Go.MapKept
open Go.Maps (Keyed)

theorem Below.growMap6 {N : Nat} {w w1 w2 : World} {b : Nat} (h : Below N w w1) (hg : w1.grownBy w2 (some b)) (hN : N ≤ w1.heap.size) (hb : N ≤ b) : Below N w w2 := h.grown hg hN (fun j hj => by cases hj; exact hb)
/-- The numbers of a list, each one once. -/
def onceTo (cr : List Int) : Nat → List Int
  | 0 => []
  | k + 1 => match cr[k]? with
    | none => onceTo cr k
    | some c => if c ∈ cr.take k then onceTo cr k else onceTo cr k ++ [c]
theorem onceTo_old {cr : List Int} {k : Nat} {c : Int} (h : cr[k]? = some c) (hm : c ∈ cr.take k) : onceTo cr (k + 1) = onceTo cr k := by simp [onceTo, h, hm]
theorem onceTo_new {cr : List Int} {k : Nat} {c : Int} (h : cr[k]? = some c) (hm : c ∉ cr.take k) : onceTo cr (k + 1) = onceTo cr k ++ [c] := by simp [onceTo, h, hm]
theorem onceTo_mem {cr : List Int} (k : Nat) (c : Int) : c ∈ onceTo cr k ↔ c ∈ cr.take k := by
  induction k with
  | zero => simp [onceTo]
  | succ k ih =>
    cases h : cr[k]? with
    | none =>
      have hk : cr.length ≤ k := by
        rcases Nat.lt_or_ge k cr.length with hk | hk
        · rw [List.getElem?_eq_getElem hk] at h; cases h
        · exact hk
      rw [List.take_of_length_le hk] at ih
      rw [List.take_of_length_le (by omega)]
      simp only [onceTo, h, ih]
    | some d =>
      obtain ⟨hlt, he⟩ := List.getElem?_eq_some_iff.1 h
      rw [List.take_succ_eq_append_getElem hlt, he, List.mem_append, List.mem_singleton]
      by_cases hm : d ∈ cr.take k
      · rw [onceTo_old h hm, ih]
        constructor
        · exact Or.inl
        · rintro (h | rfl)
          · exact h
          · exact hm
      · rw [onceTo_new h hm, List.mem_append, List.mem_singleton, ih]
theorem onceTo_nodup (cr : List Int) (k : Nat) : (onceTo cr k).Nodup := by
  induction k with
  | zero => simp [onceTo]
  | succ k ih =>
    cases h : cr[k]? with
    | none => simpa only [onceTo, h] using ih
    | some c =>
      by_cases hm : c ∈ cr.take k
      · rw [onceTo_old h hm]; exact ih
      · rw [onceTo_new h hm, List.nodup_append]
        refine ⟨ih, by simp, fun a ha b hb => ?_⟩
        simp only [List.mem_singleton] at hb
        subst hb
        rintro rfl
        exact hm ((onceTo_mem k a).1 ha)
theorem onceTo_length (cr : List Int) (k : Nat) : (onceTo cr k).length ≤ k := by
  induction k with
  | zero => simp [onceTo]
  | succ k ih =>
    cases h : cr[k]? with
    | none => simp only [onceTo, h]; omega
    | some c =>
      by_cases hm : c ∈ cr.take k
      · rw [onceTo_old h hm]; omega
      · rw [onceTo_new h hm, List.length_append]; simp; omega
/-- A set of numbers, as a map to yes and no. -/
abbrev OwnsI (w : World) (b n : Nat) (D : DataW Unit) : Prop := w.ownsMap Tryd.prog 2 (plainElem Tryd.prog 4) b n D
def kI (c : Int) : Lit := .int .i64 c
def HasI (D : DataW Unit) (ys : List Int) : Prop := ∀ c, D.atKey (kI c) (.lit (.bool false)) = .lit (.bool (decide (c ∈ ys)))
theorem Tryd.keyedI : Keyed Tryd.prog 2 := Maps.int_keyed Tryd.underlying2
theorem keyI {c : Int} (hc : wfI c) : keyOf Tryd.prog 2 (.int .i64 c) = some (kI c) := by
  rw [keyOf_int Tryd.underlying2]
  have : (Lit.int .i64 c).wf = true := WalkArith.wf_i64 hc
  simp [mapKey, Tryd.underlying2, this, kI]
theorem HasI.empty : HasI (.map []) [] := fun c => by simp [DataW.atKey]
theorem HasI.put {D : DataW Unit} {ys : List Int} (h : HasI D ys) (hm : Maps.IsMap D) (x : Int) : HasI (D.put (kI x) (.lit (.bool true))) (ys ++ [x]) := by
  intro c
  by_cases e : c = x
  · subst e
    rw [Maps.atKey_put_same hm (by trivial)]
    simp
  · rw [Maps.atKey_put_other (fun h' => e (by simpa [kI] using h')), h c]
    simp [e]
theorem HasI.same {D : DataW Unit} {ys zs : List Int} (h : HasI D ys) (e : ∀ c, c ∈ ys ↔ c ∈ zs) : HasI D zs := fun c => by rw [h c]; simp [e c]
theorem Tryd.zeroB (w : World) : (zeroValue 4).run Tryd.prog w = .ok (.bool false) w := by kernel_rfl
theorem isMap_owns {w : World} {b n : Nat} {D : DataW Unit} (h : OwnsI w b n D) : Maps.IsMap D := by
  obtain ⟨es, clock, hb, F, hs, rfl⟩ := h
  exact ⟨_, rfl⟩
theorem plainElem_bool_inv {P : Program} {e : TypeId} (he : P.underlying e = some .bool) {v : Value} {z : DataW Unit × List MemPlace} (h : plainElem P e v = some z) : ∃ a, v = .bool a ∧ z = (.lit (.bool a), []) := by
  unfold plainElem at h
  rw [he] at h
  cases v <;> simp at h
  exact ⟨_, rfl, h.symm⟩
theorem look_I {w : World} {b n : Nat} {D : DataW Unit} {ys : List Int} (h : OwnsI w b n D) (hh : HasI D ys) {c : Int} (hc : wfI c) : (Instr.lookup 129 (.map (some b)) (.int .i64 c) false).run Tryd.prog w = .ok (.bool (decide (c ∈ ys))) w := by
  obtain ⟨v, ps, hrun, hv⟩ := h.lookup Tryd.keyedI Tryd.underlying129 (Tryd.zeroB w) (plainElem_bool Tryd.underlying4 false) (keyI hc)
  obtain ⟨a, rfl, hz⟩ := plainElem_bool_inv Tryd.underlying4 hv
  rw [hh c] at hz
  simp only [Prod.mk.injEq, DataW.lit.injEq, Lit.bool.injEq] at hz
  rw [hrun, hz.1]
theorem take_mem {cr : List Int} {k : Nat} {c : Int} (h : cr[k]? = some c) (d : Int) : d ∈ cr.take (k + 1) ↔ d ∈ cr.take k ∨ d = c := by
  obtain ⟨h1, h2⟩ := List.getElem?_eq_some_iff.1 h
  rw [List.take_succ_eq_append_getElem h1, h2, List.mem_append, List.mem_singleton]

set_option maxRecDepth 100000 in
set_option maxHeartbeats 4000000 in
theorem eachOnce_any (cr : List Int) (hwf : ∀ c ∈ cr, wfI c) (A : Option Addr) (c : Nat) (w : World) (hl : cr.length ≤ 1048576) (hr : Rd w w.heap.size icells A cr) :
    Calls Tryd.prog 72 #[.slice A cr.length c] w fun e w' => ∃ v, e = .returned v ∧ w'.ownsRow w.heap.size 2 1 v (onceTo cr cr.length).length ((onceTo cr cr.length).flatMap icells) ∧ Below w.heap.size w w' := by
  have HR := Lib.hid hr
  have HW := Lib.hid hwf
  clear hr hwf
  obtain ⟨i0, hi, hz0, hz1, hz2⟩ := info_parts Tryd.info64
  have HI := Lib.hid hi
  have HZ0 := Lib.hid hz0
  have HZ1 := Lib.hid hz1
  have HZ2 := Lib.hid hz2
  clear hi hz0 hz1 hz2
  have hmm := @run_makeMap Tryd.prog
  go_enter Tryd.func72, Tryd.ntmps72
  go_wp2_with fail
  clear hmm
  have hlt0 : w.heap.size < (w.alloc (.map #[] 0)).heap.size := by simp
  go_loopw [4, 10] (fun v i wr => ∃ k : Nat, k ≤ cr.length ∧ i = .int .i64 k ∧ ∃ n D, n ≤ k ∧ OwnsI wr w.heap.size n D ∧ HasI D (cr.take k) ∧ wr.ownsRow (w.heap.size + 1) 2 1 v (onceTo cr k).length ((onceTo cr k).flatMap icells) ∧ Below w.heap.size w wr) (fun _ i _ => cr.length - (intOf i).toNat)
  case atStart => exact ⟨0, by omega, rfl, 0, .map [], Nat.le_refl _, World.ownsMap_made _ _ _ _, HasI.empty, ⟨rfl, .inl ⟨rfl, rfl⟩⟩, (Below.refl _ _).alloc (Nat.le_refl _) _⟩
  case round =>
    obtain ⟨k, hk, rfl, n, D, hn, q1, q2, q3, q4⟩ := hrel
    have Q1 := Lib.hid q1
    have Q2 := Lib.hid q2
    have Q3 := Lib.hid q3
    have Q4 := Lib.hid q4
    clear q1 q2 q3 q4
    by_cases hlt : k < cr.length
    · obtain ⟨i, hi⟩ : ∃ x, cr[k]? = some x := ⟨_, List.getElem?_eq_getElem hlt⟩
      obtain ⟨g, o, rfl, hg, hc⟩ := (HR.out.below (Nat.le_refl _) Q4.out).at_ icells_length hi
      have e1 := rowI hc
      have HX := Lib.hid hi
      have hwi := HW.out i (List.mem_of_getElem? hi)
      have hk0 : (0 : Int) ≤ (k : Int) := Int.natCast_nonneg _
      have hk8 : (k : Int) < cr.length := by omega
      have hrun := look_I Q1.out Q2.out hwi
      have HWi := Lib.hid hwi
      have hfresh : w.heap.size < wr.heap.size := Q1.out.lt
      have hol := onceTo_length cr k
      clear hi hc hwi
      obtain ⟨ob, hob⟩ : ∃ b, decide (i ∈ cr.take k) = b := ⟨_, rfl⟩
      rw [hob] at hrun
      have HD := Lib.hid hob
      clear hob
      cases ob
      · have hnew : i ∉ cr.take k := of_decide_eq_false HD.out
        have HNew := Lib.hid hnew
        clear hnew
        go_wp2_with (first
          | (at_mapUpdate; refine wpList_mapUpdate_own _ rfl _ _ _ 129 rfl 2 4 Tryd.keyedI Tryd.underlying129 (plainElem Tryd.prog 4) w.heap.size n D rfl Q1.out (by unfold maxLen; omega) _ _ _ rfl rfl (keyI HWi.out) _ _ (plainElem_bool Tryd.underlying4 true) ?_
             intro w2 hown2 hg2
             have O2 := Lib.hid hown2
             have R2 := Lib.hid (Q3.out.kept hg2 (.inr (fun h => by have := (Q3.out.lt _ h).1; omega)))
             have B2 := Lib.hid (Below.growMap6 Q4.out hg2 Q4.out.size (Nat.le_refl _))
             have P2 := Lib.hid (Q2.out.put (isMap_owns Q1.out) i)
             have hfresh2 : w.heap.size < w2.heap.size := O2.out.lt
             clear hown2 hg2 Q1 Q2 Q3 Q4)
          | (at_builtin; refine wpList_append_own _ rfl (.tmp 20) (.tmp 22) 24 rfl (w.heap.size + 1) 2 i0 (.int .i64 0) 1 8 Tryd.underlying24 HI.out HZ0.out HZ1.out HZ2.out rfl (by decide) _ _ _ rfl (R2.out.alloc _) ⟨w2.heap.size, 0, none⟩ 1 1 [.int .i64 i] rfl rfl ?c1 ?c2 ?c3 ?c4 ?c5 ?_))
        case c1 => exact cell_one_new _ _ _
        case c2 => simp [Value.oneCell']
        case c3 => unfold maxLen; omega
        case c4 => omega
        case c5 => simp; omega
        intro v' w3 hown' hgrow _
        have R3 := Lib.hid hown'
        have B3 : Hid (Below w.heap.size w w3) := (B2.out.alloc B2.out.size _).grown hgrow (by have := B2.out.size; simp; omega) (fun r e => by have := (R2.out.lt r e).1; omega)
        have O3 : Hid (OwnsI w3 w.heap.size (n + 1) (D.put (kI i) (.lit (.bool true)))) := (O2.out.alloc _).kept hgrow (fun h => by have := (R2.out.lt _ h.symm).1; omega)
        have M3 : Hid (HasI (D.put (kI i) (.lit (.bool true))) (cr.take (k + 1))) := P2.out.same (fun c => by rw [take_mem HX.out, List.mem_append, List.mem_singleton])
        clear hown' hgrow O2 R2 B2 P2
        go_wp2
        go_roundw
        case rel => exact ⟨k + 1, by omega, by go_num, n + 1, _, by omega, O3.out, M3.out, by rw [onceTo_new HX.out HNew.out, List.flatMap_append, List.length_append]; exact R3.out, B3.out⟩
        case measure => simp [intOf]; omega
      · have hold : i ∈ cr.take k := of_decide_eq_true HD.out
        have HOld := Lib.hid hold
        clear hold
        have M3 : Hid (HasI D (cr.take (k + 1))) := Q2.out.same (fun c => by
          rw [take_mem HX.out]
          exact ⟨.inl, fun h => h.elim id (fun e => by subst e; exact HOld.out)⟩)
        go_wp2
        go_roundw
        case rel => exact ⟨k + 1, by omega, by go_num, n, _, by omega, Q1.out, M3.out, by rw [onceTo_old HX.out HOld.out]; exact Q3.out, Q4.out⟩
        case measure => simp [intOf]; omega
    · obtain rfl : k = cr.length := by omega
      go_wp2
      go_ret
      exact ⟨_, rfl, own_base Q3.out (by omega), Q4.out⟩
end Go.Proofs.YtfmfgpipklmecabDoor

namespace Go.Proofs.YtfmfgpipklmecabDoor
open Go.ChangeShapes Go.WideShapes Go.ChangeAt Go.RowKit Go.Deep

/-- A list's cells hold numbers from k0 on. -/
def MkdBt (w : World) (A : Option Addr) (n : Nat) (k0 : Int) : Prop := ∀ j : Nat, j < n → ∃ g, A = some ⟨g, 0, none⟩ ∧ g < w.heap.size ∧ w.cell? ⟨g, j * 2, none⟩ = some (.int .u8 (IntKind.u8.wrap (k0 + 2 * (j : Int)))) ∧ w.cell? ⟨g, j * 2 + 1, none⟩ = some (.int .i16 (IntKind.i16.wrap (k0 + 2 * (j : Int) + 1)))
theorem MkdBt.below {w w' : World} {A : Option Addr} {n : Nat} {k0 : Int} (h : MkdBt w A n k0) (hb : Below w.heap.size w w') : MkdBt w' A n k0 := fun j hj => by
  obtain ⟨g, rfl, hg, h0, h1⟩ := h j hj
  exact ⟨g, rfl, Nat.lt_of_lt_of_le hg hb.size, (hb.cell (p := ⟨g, j * 2, none⟩) hg).trans h0, (hb.cell (p := ⟨g, j * 2 + 1, none⟩) hg).trans h1⟩

set_option maxRecDepth 100000 in
set_option maxHeartbeats 2000000 in
theorem mkBt_any (n : Nat) (A : Option Addr) (c : Nat) (k0 : Int) (w : World) (hk0 : 0 ≤ k0) (hk1 : k0 + 2 * (n : Int) ≤ 4611686018427387904) (h : n = 0 ∨ ∃ g cur, A = some ⟨g, 0, none⟩ ∧ Blk w g 68 cur ∧ n * 2 ≤ cur.size) :
    Calls Tryd.prog 24 #[.slice A n c, .int .i64 k0] w fun e w' => e = .returned (.int .i64 (k0 + 2 * n)) ∧ MkdBt w' A n k0 ∧ w.grownBy w' (A.map (·.block)) ∧ (n = 0 → w = w') := by
  by_cases hn0 : n = 0
  · subst hn0
    go_enter Tryd.func24, Tryd.ntmps24
    go_wp2
    refine wp_loop_rounds 1 ?_
    rw [rounds_succ]
    go_wp2
    go_ret
    exact ⟨by simp, fun j hj => absurd hj (by omega), ⟨rfl, rfl, rfl, Nat.le_refl _, fun _ _ _ => rfl⟩, fun _ => rfl⟩
  obtain ⟨g, cur, rfl, hK, hcs⟩ := h.resolve_left hn0
  have HN0 := Lib.hid hn0
  clear hn0 h
  have HK := Lib.hid hK
  have HC := Lib.hid hcs
  clear hK hcs
  go_enter Tryd.func24, Tryd.ntmps24
  go_wp2_with fail
  go_loopw [1, 5] (fun s i wr => ∃ (k : Nat) (cu : Array Value), k ≤ n ∧ i = .int .i64 k ∧ s = .int .i64 (k0 + 2 * k) ∧ Blk wr g 68 cu ∧ cu.size = cur.size ∧ (∀ j : Nat, j < k → cu[j * 2]? = some (.int .u8 (IntKind.u8.wrap (k0 + 2 * (j : Int)))) ∧ cu[j * 2 + 1]? = some (.int .i16 (IntKind.i16.wrap (k0 + 2 * (j : Int) + 1)))) ∧ w.grownBy wr (some g)) (fun _ i _ => n - (intOf i).toNat)
  case atStart => exact ⟨0, cur, by omega, rfl, by simp, HK.out, rfl, fun j h => absurd h (by omega), ⟨rfl, rfl, rfl, Nat.le_refl _, fun _ _ _ => rfl⟩⟩
  case round =>
    clear HK
    obtain ⟨k, cu, hk, rfl, rfl, hB, hsz', hm, hT⟩ := hrel
    have HB := Lib.hid hB
    have HM := Lib.hid hm
    have HT := Lib.hid hT
    have HS := Lib.hid hsz'
    clear hB hT hm hsz'
    obtain ⟨m, hmm⟩ : ∃ m : Int, k0 + 2 * (k : Int) = m := ⟨_, rfl⟩
    have HMM := Lib.hid hmm
    rw [hmm]
    by_cases hlt : k < n
    · have hcs := HC.out
      obtain ⟨u0, hu0⟩ : ∃ u, cu[k * 2]? = some u := ⟨_, Array.getElem?_eq_getElem (by have := HS.out; omega)⟩
      have e0 : wr.cell? ⟨g, k * 2, none⟩ = some u0 := (HB.out.cell _).trans hu0
      have f0 := HB.out.frozen (k * 2)
      obtain ⟨u1, hu1⟩ : ∃ u, cu[k * 2 + 1]? = some u := ⟨_, Array.getElem?_eq_getElem (by have := HS.out; omega)⟩
      have e1 : wr.cell? ⟨g, k * 2 + 1, none⟩ = some u1 := (HB.out.cell _).trans hu1
      have f1 := HB.out.frozen (k * 2 + 1)
      have hkk0 : (0 : Int) ≤ (k : Int) := Int.natCast_nonneg _
      have hkk8 : (k : Int) < n := by omega
      obtain ⟨a0, ha0⟩ : ∃ a, IntKind.u8.wrap (m) = a := ⟨_, rfl⟩
      have HA0 := Lib.hid ha0
      obtain ⟨a1, ha1⟩ : ∃ a, IntKind.i16.wrap (m + 1) = a := ⟨_, rfl⟩
      have HA1 := Lib.hid ha1
      have hs0 : IntKind.i64.wrap (m + 1) = m + 1 := IntWalk.i64_in _ ⟨by omega, by omega⟩
      have hs1 : wrap64 (m + 1) = m + 1 := IntWalk.wrap64_in _ ⟨by omega, by omega⟩
      have hs2 : IntKind.i64.wrap (m + 1 + 1) = m + 1 + 1 := IntWalk.i64_in _ ⟨by omega, by omega⟩
      have hs3 : wrap64 (m + 1 + 1) = m + 1 + 1 := IntWalk.wrap64_in _ ⟨by omega, by omega⟩
      clear hu0 hu1 hmm hcs
      go_wp2
      go_roundw
      case rel =>
        have hmm := HMM.out
        have hcs := HC.out
        refine ⟨k + 1, ((cu.setIfInBounds (k * 2) (.int .u8 a0)).setIfInBounds (k * 2 + 1) (.int .i16 a1)), by omega, by go_num, by rw [show k0 + 2 * ((k + 1 : Nat) : Int) = m + 1 + 1 from by omega], ((HB.out.set_ (k * 2) _).set_ (k * 2 + 1) _), by simp [HS.out], fun j hj => ?_, (gk_set (gk_set HT.out _) _)⟩
        have hsz2 := HS.out
        by_cases e : j = k
        · subst e
          have q0 : k0 + 2 * (j : Int) = m := by omega
          have q1 : k0 + 2 * (j : Int) + 1 = m + 1 := by omega
          refine ⟨?_, ?_⟩
          · rw [Array.getElem?_setIfInBounds, if_neg (by omega), Array.getElem?_setIfInBounds, if_pos rfl, if_pos (by have := HS.out; (try simp only [Array.size_setIfInBounds]); omega), q0, HA0.out]
          · rw [Array.getElem?_setIfInBounds, if_pos rfl, if_pos (by have := HS.out; (try simp only [Array.size_setIfInBounds]); omega), q1, HA1.out]
        · have hm1 := HM.out j (by omega)
          refine ⟨?_, ?_⟩
          · rw [Array.getElem?_setIfInBounds, if_neg (by omega), Array.getElem?_setIfInBounds, if_neg (by omega)]; exact hm1.1
          · rw [Array.getElem?_setIfInBounds, if_neg (by omega), Array.getElem?_setIfInBounds, if_neg (by omega)]; exact hm1.2
      case measure => simp [intOf]; omega
    · obtain rfl : k = n := by omega
      go_wp2
      go_ret
      exact ⟨by rw [HMM.out]; first | done | rfl, fun j hj => ⟨g, rfl, HB.out.lt, (HB.out.cell _).trans (HM.out j hj).1, (HB.out.cell _).trans (HM.out j hj).2⟩, HT.out, fun e => absurd e HN0.out⟩

set_option maxRecDepth 100000 in
set_option maxHeartbeats 2000000 in
theorem hdBt_any (n : Nat) (A : Option Addr) (c : Nat) (k0 : Int) (w : World) (hk0 : 0 ≤ k0) (hk1 : k0 + 2 * (n : Int) ≤ 4611686018427387904) (h : MkdBt w A n k0) :
    Calls Tryd.prog 25 #[.slice A n c, .int .i64 k0] w fun e w' => e = .returned (.int .i64 (k0 + 2 * n)) ∧ w = w' := by
  have H := Lib.hid h
  clear h
  go_enter Tryd.func25, Tryd.ntmps25
  go_wp2_with fail
  go_loop [1, 5] (fun s i => ∃ (k : Nat), k ≤ n ∧ i = .int .i64 k ∧ s = .int .i64 (k0 + 2 * k)) (fun _ i => n - (intOf i).toNat)
  case atStart => exact ⟨0, by omega, rfl, by simp⟩
  case round =>
    obtain ⟨k, hk, rfl, rfl⟩ := hrel
    obtain ⟨m, hmm⟩ : ∃ m : Int, k0 + 2 * (k : Int) = m := ⟨_, rfl⟩
    have HMM := Lib.hid hmm
    by_cases hlt : k < n
    · obtain ⟨g, rfl, hg, c0, c1⟩ := H.out k hlt
      rw [hmm] at c0 c1 ⊢
      have hkk0 : (0 : Int) ≤ (k : Int) := Int.natCast_nonneg _
      have hkk8 : (k : Int) < n := by omega
      obtain ⟨a0, ha0⟩ : ∃ a, IntKind.u8.wrap (m) = a := ⟨_, rfl⟩
      rw [ha0] at c0
      obtain ⟨a1, ha1⟩ : ∃ a, IntKind.i16.wrap (m + 1) = a := ⟨_, rfl⟩
      rw [ha1] at c1
      have hs0 : IntKind.i64.wrap (m + 1) = m + 1 := IntWalk.i64_in _ ⟨by omega, by omega⟩
      have hs1 : wrap64 (m + 1) = m + 1 := IntWalk.wrap64_in _ ⟨by omega, by omega⟩
      have hs2 : IntKind.i64.wrap (m + 1 + 1) = m + 1 + 1 := IntWalk.i64_in _ ⟨by omega, by omega⟩
      have hs3 : wrap64 (m + 1 + 1) = m + 1 + 1 := IntWalk.wrap64_in _ ⟨by omega, by omega⟩
      clear hmm
      go_wp2
      go_round
      case rel => exact ⟨k + 1, by omega, by go_num, by have := HMM.out; rw [show k0 + 2 * ((k + 1 : Nat) : Int) = m + 1 + 1 from by omega]⟩
      case measure => simp [intOf]; omega
    · obtain rfl : k = n := by omega
      clear hmm
      go_wp2
      go_ret
      exact ⟨rfl, rfl⟩
end Go.Proofs.YtfmfgpipklmecabDoor

namespace Go.Proofs.YtfmfgpipklmecabDoor
open Go.ChangeShapes Go.WideShapes Go.ChangeAt Go.RowKit Go.Deep

/-- A list's cells hold numbers from k0 on. -/
def MkdN (w : World) (A : Option Addr) (n : Nat) (k0 : Int) : Prop := ∀ j : Nat, j < n → ∃ g, A = some ⟨g, 0, none⟩ ∧ g < w.heap.size ∧ w.cell? ⟨g, j, none⟩ = some (.int .i64 (IntKind.i64.wrap (k0 + 1 * (j : Int))))
theorem MkdN.below {w w' : World} {A : Option Addr} {n : Nat} {k0 : Int} (h : MkdN w A n k0) (hb : Below w.heap.size w w') : MkdN w' A n k0 := fun j hj => by
  obtain ⟨g, rfl, hg, h0⟩ := h j hj
  exact ⟨g, rfl, Nat.lt_of_lt_of_le hg hb.size, (hb.cell (p := ⟨g, j, none⟩) hg).trans h0⟩

set_option maxRecDepth 100000 in
set_option maxHeartbeats 2000000 in
theorem mkN_any (n : Nat) (A : Option Addr) (c : Nat) (k0 : Int) (w : World) (hk0 : 0 ≤ k0) (hk1 : k0 + 1 * (n : Int) ≤ 4611686018427387904) (h : n = 0 ∨ ∃ g cur, A = some ⟨g, 0, none⟩ ∧ Blk w g 2 cur ∧ n * 1 ≤ cur.size) :
    Calls Tryd.prog 14 #[.slice A n c, .int .i64 k0] w fun e w' => e = .returned (.int .i64 (k0 + 1 * n)) ∧ MkdN w' A n k0 ∧ w.grownBy w' (A.map (·.block)) ∧ (n = 0 → w = w') := by
  by_cases hn0 : n = 0
  · subst hn0
    go_enter Tryd.func14, Tryd.ntmps14
    go_wp2
    refine wp_loop_rounds 1 ?_
    rw [rounds_succ]
    go_wp2
    go_ret
    exact ⟨by simp, fun j hj => absurd hj (by omega), ⟨rfl, rfl, rfl, Nat.le_refl _, fun _ _ _ => rfl⟩, fun _ => rfl⟩
  obtain ⟨g, cur, rfl, hK, hcs⟩ := h.resolve_left hn0
  have HN0 := Lib.hid hn0
  clear hn0 h
  have HK := Lib.hid hK
  have HC := Lib.hid hcs
  clear hK hcs
  go_enter Tryd.func14, Tryd.ntmps14
  go_wp2_with fail
  go_loopw [1, 5] (fun s i wr => ∃ (k : Nat) (cu : Array Value), k ≤ n ∧ i = .int .i64 k ∧ s = .int .i64 (k0 + 1 * k) ∧ Blk wr g 2 cu ∧ cu.size = cur.size ∧ (∀ j : Nat, j < k → cu[j]? = some (.int .i64 (IntKind.i64.wrap (k0 + 1 * (j : Int))))) ∧ w.grownBy wr (some g)) (fun _ i _ => n - (intOf i).toNat)
  case atStart => exact ⟨0, cur, by omega, rfl, by simp, HK.out, rfl, fun j h => absurd h (by omega), ⟨rfl, rfl, rfl, Nat.le_refl _, fun _ _ _ => rfl⟩⟩
  case round =>
    clear HK
    obtain ⟨k, cu, hk, rfl, rfl, hB, hsz', hm, hT⟩ := hrel
    have HB := Lib.hid hB
    have HM := Lib.hid hm
    have HT := Lib.hid hT
    have HS := Lib.hid hsz'
    clear hB hT hm hsz'
    obtain ⟨m, hmm⟩ : ∃ m : Int, k0 + 1 * (k : Int) = m := ⟨_, rfl⟩
    have HMM := Lib.hid hmm
    rw [hmm]
    by_cases hlt : k < n
    · have hcs := HC.out
      obtain ⟨u0, hu0⟩ : ∃ u, cu[k]? = some u := ⟨_, Array.getElem?_eq_getElem (by have := HS.out; omega)⟩
      have e0 : wr.cell? ⟨g, k, none⟩ = some u0 := (HB.out.cell _).trans hu0
      have f0 := HB.out.frozen (k)
      have hkk0 : (0 : Int) ≤ (k : Int) := Int.natCast_nonneg _
      have hkk8 : (k : Int) < n := by omega
      have hw0 : IntKind.i64.wrap (m) = m := IntWalk.i64_in _ ⟨by omega, by omega⟩
      have hs0 : IntKind.i64.wrap (m + 1) = m + 1 := IntWalk.i64_in _ ⟨by omega, by omega⟩
      have hs1 : wrap64 (m + 1) = m + 1 := IntWalk.wrap64_in _ ⟨by omega, by omega⟩
      clear hu0 hmm hcs
      go_wp2
      go_roundw
      case rel =>
        have hmm := HMM.out
        have hcs := HC.out
        refine ⟨k + 1, (cu.setIfInBounds (k) (.int .i64 (m))), by omega, by go_num, by rw [show k0 + 1 * ((k + 1 : Nat) : Int) = m + 1 from by omega], (HB.out.set_ (k) _), by simp [HS.out], fun j hj => ?_, (gk_set HT.out _)⟩
        have hsz2 := HS.out
        by_cases e : j = k
        · subst e
          have q0 : k0 + 1 * (j : Int) = m := by omega
          rw [Array.getElem?_setIfInBounds, if_pos rfl, if_pos (by have := HS.out; (try simp only [Array.size_setIfInBounds]); omega), q0, hw0]
        · have hm1 := HM.out j (by omega)
          rw [Array.getElem?_setIfInBounds, if_neg (by omega)]; exact hm1
      case measure => simp [intOf]; omega
    · obtain rfl : k = n := by omega
      go_wp2
      go_ret
      exact ⟨by rw [HMM.out]; first | done | rfl, fun j hj => ⟨g, rfl, HB.out.lt, (HB.out.cell _).trans (HM.out j hj)⟩, HT.out, fun e => absurd e HN0.out⟩

set_option maxRecDepth 100000 in
set_option maxHeartbeats 2000000 in
theorem hdN_any (n : Nat) (A : Option Addr) (c : Nat) (k0 : Int) (w : World) (hk0 : 0 ≤ k0) (hk1 : k0 + 1 * (n : Int) ≤ 4611686018427387904) (h : MkdN w A n k0) :
    Calls Tryd.prog 15 #[.slice A n c, .int .i64 k0] w fun e w' => e = .returned (.int .i64 (k0 + 1 * n)) ∧ w = w' := by
  have H := Lib.hid h
  clear h
  go_enter Tryd.func15, Tryd.ntmps15
  go_wp2_with fail
  go_loop [1, 5] (fun s i => ∃ (k : Nat), k ≤ n ∧ i = .int .i64 k ∧ s = .int .i64 (k0 + 1 * k)) (fun _ i => n - (intOf i).toNat)
  case atStart => exact ⟨0, by omega, rfl, by simp⟩
  case round =>
    obtain ⟨k, hk, rfl, rfl⟩ := hrel
    obtain ⟨m, hmm⟩ : ∃ m : Int, k0 + 1 * (k : Int) = m := ⟨_, rfl⟩
    have HMM := Lib.hid hmm
    by_cases hlt : k < n
    · obtain ⟨g, rfl, hg, c0⟩ := H.out k hlt
      rw [hmm] at c0 ⊢
      have hkk0 : (0 : Int) ≤ (k : Int) := Int.natCast_nonneg _
      have hkk8 : (k : Int) < n := by omega
      have hw0 : IntKind.i64.wrap (m) = m := IntWalk.i64_in _ ⟨by omega, by omega⟩
      rw [hw0] at c0
      have hs0 : IntKind.i64.wrap (m + 1) = m + 1 := IntWalk.i64_in _ ⟨by omega, by omega⟩
      have hs1 : wrap64 (m + 1) = m + 1 := IntWalk.wrap64_in _ ⟨by omega, by omega⟩
      clear hmm
      go_wp2
      go_round
      case rel => exact ⟨k + 1, by omega, by go_num, by have := HMM.out; rw [show k0 + 1 * ((k + 1 : Nat) : Int) = m + 1 from by omega]⟩
      case measure => simp [intOf]; omega
    · obtain rfl : k = n := by omega
      clear hmm
      go_wp2
      go_ret
      exact ⟨rfl, rfl⟩
end Go.Proofs.YtfmfgpipklmecabDoor

namespace Go.Proofs.YtfmfgpipklmecabDoor
open Go.RowKit

theorem once_len (cr : List Int) : ∀ k, k ≤ cr.length → ((onceTo cr k).length = k ↔ (cr.take k).Nodup)
  | 0, _ => by simp [onceTo]
  | k + 1, hk => by
    obtain ⟨c, hc⟩ : ∃ c, cr[k]? = some c := ⟨_, List.getElem?_eq_getElem (by omega)⟩
    have ih := once_len cr k (by omega)
    have hl := onceTo_length cr k
    have e : cr.take (k + 1) = cr.take k ++ [c] := by
      obtain ⟨h1, rfl⟩ := List.getElem?_eq_some_iff.1 hc
      rw [List.take_succ_eq_append_getElem h1]
    have hn : (cr.take (k + 1)).Nodup ↔ (cr.take k).Nodup ∧ c ∉ cr.take k := by
      rw [e, List.nodup_append]
      constructor
      · rintro ⟨h1, -, h3⟩
        exact ⟨h1, fun hm => h3 c hm c (by simp) rfl⟩
      · rintro ⟨h1, h2⟩
        exact ⟨h1, by simp, fun a ha b hb hab => by
          have hb' : b = c := by simpa using hb
          rw [hab, hb'] at ha; exact h2 ha⟩
    by_cases hm : c ∈ cr.take k
    · rw [onceTo_old hc hm, hn]
      constructor
      · intro h; omega
      · intro h; exact absurd hm h.2
    · rw [onceTo_new hc hm, List.length_append, hn, ← ih]
      simp [hm]
theorem once_all (cr : List Int) : decide ((onceTo cr cr.length).length < cr.length) = !decide cr.Nodup := by
  have h1 := once_len cr cr.length (Nat.le_refl _)
  have h2 := onceTo_length cr cr.length
  rw [List.take_length] at h1
  rw [← decide_not, decide_eq_decide, ← h1]
  omega
theorem nd_step {ns : List Int} {k : Nat} {x : Int} (hx : ns[k]? = some x) : decide (ns.take (k + 1)).Nodup = (decide (ns.take k).Nodup && !decide (x ∈ ns.take k)) := by
  obtain ⟨h1, rfl⟩ := List.getElem?_eq_some_iff.1 hx
  rw [List.take_succ_eq_append_getElem h1, Bool.eq_iff_iff]
  simp only [decide_eq_true_eq, Bool.and_eq_true, Bool.not_eq_true', decide_eq_false_iff_not, List.nodup_append]
  constructor
  · rintro ⟨h1, -, h3⟩
    exact ⟨h1, fun hm => h3 _ hm _ (by simp) rfl⟩
  · rintro ⟨h1, h2⟩
    exact ⟨h1, by simp, fun a ha b hb hab => by
      have hb' : b = ns[k] := by simpa using hb
      rw [hab, hb'] at ha; exact h2 ha⟩
def rvF (ns : List Int) (nb : Nat) : Bool := (wi 1 8 ns.length && decide (nb = ns.length)) && decide ns.Nodup
def rvH (ns os : List Int) : Bool := os.all fun x => decide (x ∈ ns)
def rvL (ns os : List Int) (bs : List Bot) (k : Nat) : List Bot := (os.take k).map fun x => bs.getD (wb ns x) (0, 0)
def rvE0 (ns os : List Int) (bs : List Bot) : Option Nat := firstO [chk 5 (bs.all vB), chk 0 (rvF ns bs.length), chk 1 (decide (os.length ≤ 100))]
def rvE (ns os : List Int) (bs : List Bot) : Option Nat := match rvE0 ns os bs with | some i => some i | none => chk 4 (rvH ns os)
def rvA (ns os : List Int) (bs : List Bot) : List Bot := match rvE ns os bs with | some _ => [] | none => rvL ns os bs os.length
def rvC (ns os : List Int) (bs : List Bot) : Int := cdO (rvE ns os bs)
theorem rv_first (b0 b1 b2 : Bool) : firstO [chk 5 b0, chk 0 b1, chk 1 b2] = if b0 = true then (if b1 = true then (if b2 = true then none else some 1) else some 0) else some 5 := by
  revert b0 b1 b2; decide
theorem rv_inv {ns os : List Int} {bs : List Bot} (h : bs.all vB = false) : rvA ns os bs = [] ∧ rvC ns os bs = 1 := by
  have e : rvE0 ns os bs = some 5 := by rw [rvE0, rv_first, h]; rfl
  have e2 : rvE ns os bs = some 5 := by rw [rvE, e]
  rw [rvA, rvC, e2]; exact ⟨rfl, rfl⟩
theorem rv_rng {ns os : List Int} {bs : List Bot} (h : bs.all vB = true) (h1 : rvF ns bs.length = false) : rvA ns os bs = [] ∧ rvC ns os bs = 2 := by
  have e : rvE0 ns os bs = some 0 := by rw [rvE0, rv_first, h, h1]; rfl
  have e2 : rvE ns os bs = some 0 := by rw [rvE, e]
  rw [rvA, rvC, e2]; exact ⟨rfl, rfl⟩
theorem rv_lim {ns os : List Int} {bs : List Bot} (h : bs.all vB = true) (h1 : rvF ns bs.length = true) (h2 : ¬ os.length ≤ 100) : rvA ns os bs = [] ∧ rvC ns os bs = 3 := by
  have e : rvE0 ns os bs = some 1 := by rw [rvE0, rv_first, h, h1, decide_eq_false h2]; rfl
  have e2 : rvE ns os bs = some 1 := by rw [rvE, e]
  rw [rvA, rvC, e2]; exact ⟨rfl, rfl⟩
theorem rv_e0 {ns os : List Int} {bs : List Bot} (h : bs.all vB = true) (h1 : rvF ns bs.length = true) (h2 : os.length ≤ 100) : rvE0 ns os bs = none := by rw [rvE0, rv_first, h, h1, decide_eq_true h2]; rfl
theorem rv_not {ns os : List Int} {bs : List Bot} (h : rvE0 ns os bs = none) (h1 : rvH ns os = false) : rvA ns os bs = [] ∧ rvC ns os bs = 6 := by
  have e2 : rvE ns os bs = some 4 := by rw [rvE, h, h1]; rfl
  rw [rvA, rvC, e2]; exact ⟨rfl, rfl⟩
theorem rv_yes {ns os : List Int} {bs : List Bot} (h : rvE0 ns os bs = none) (h1 : rvH ns os = true) : rvA ns os bs = rvL ns os bs os.length ∧ rvC ns os bs = 0 := by
  have e2 : rvE ns os bs = none := by rw [rvE, h, h1]; rfl
  rw [rvA, rvC, e2]; exact ⟨rfl, rfl⟩
theorem rv_parts {ns os : List Int} {bs : List Bot} (h : rvE0 ns os bs = none) : bs.all vB = true ∧ rvF ns bs.length = true ∧ os.length ≤ 100 := by
  rw [rvE0, rv_first] at h
  cases h0 : bs.all vB
  · simp [h0] at h
  cases h1 : rvF ns bs.length
  · simp [h0, h1] at h
  by_cases h2 : os.length ≤ 100
  · exact ⟨rfl, rfl, h2⟩
  · simp [h0, h1, h2] at h
theorem rv_some {ns os : List Int} {bs : List Bot} {i : Nat} (h : rvE0 ns os bs = some i) : rvA ns os bs = [] ∧ rvC ns os bs = cdN i ∧ i < 7 := by
  have e2 : rvE ns os bs = some i := by rw [rvE, h]
  refine ⟨by rw [rvA, e2], by rw [rvC, e2]; rfl, ?_⟩
  rw [rvE0, rv_first] at h
  revert h
  split
  · split
    · split
      · intro h; cases h
      · intro h; obtain rfl := Option.some.inj h; omega
    · intro h; obtain rfl := Option.some.inj h; omega
  · intro h; obtain rfl := Option.some.inj h; omega
theorem rvF_iff {ns : List Int} {nb : Nat} (h : rvF ns nb = true) : (1 ≤ ns.length ∧ ns.length ≤ 8) ∧ nb = ns.length ∧ ns.Nodup := by
  simp only [rvF, Bool.and_eq_true, decide_eq_true_eq, wi_iff] at h
  exact ⟨by omega, h.1.2, h.2⟩
theorem rvL_len (ns os : List Int) (bs : List Bot) {k : Nat} (h : k ≤ os.length) : (rvL ns os bs k).length = k := by simp [rvL]; omega
theorem rvL_succ {ns os : List Int} {bs : List Bot} {k : Nat} {x : Int} {b : Bot} (hx : os[k]? = some x) (hb : bs[wb ns x]? = some b) : rvL ns os bs (k + 1) = rvL ns os bs k ++ [b] := by
  obtain ⟨h1, rfl⟩ := List.getElem?_eq_some_iff.1 hx
  rw [rvL, List.take_succ_eq_append_getElem h1, List.map_append, rvL]
  congr 1
  simp only [List.map_cons, List.map_nil]
  rw [List.getD_eq_getElem?_getD, hb]; rfl
theorem rvA_len (ns os : List Int) (bs : List Bot) : (rvA ns os bs).length ≤ 100 := by
  cases h : rvE0 ns os bs with
  | some i => rw [(rv_some h).1]; simp
  | none =>
    cases h1 : rvH ns os
    · rw [(rv_not h h1).1]; simp
    · rw [(rv_yes h h1).1, rvL_len _ _ _ (Nat.le_refl _)]
      exact (rv_parts h).2.2
theorem wb_len {b : List Int} {x : Int} (h : x ∈ b) : wb b x < b.length := (List.getElem?_eq_some_iff.1 (wb_at h)).1
end Go.Proofs.YtfmfgpipklmecabDoor

namespace Go.Proofs.YtfmfgpipklmecabDoor
open Go.ChangeShapes Go.WideShapes Go.ChangeAt Go.RowKit Go.Deep

theorem bcells_length (x : Bot) : (bcells x).length = 2 := rfl
theorem bcells_one (x : Bot) : (bcells x).toArray.all (·.oneCell') = true := all_one (by intro v hv; simp only [bcells, List.mem_cons, List.not_mem_nil, or_false] at hv; rcases hv with rfl | rfl <;> rfl)
theorem bcells_of (cs : List Value) (h : FitsL [.u8, .i16] cs) : ∃ b, wfB b ∧ cs = bcells b := by
  match cs, h.length, h with
  | [c0, c1], _, h =>
    obtain ⟨⟨k, rfl, hk⟩, ⟨y, rfl, hy⟩, _⟩ := h
    have hk := wf_u8 hk
    have hy := wf_i16 hy
    exact ⟨(k, y), ⟨hk.1, hk.2, hy.1, hy.2⟩, rfl⟩
theorem Tryd.infoBt : (Tryd.prog.info? 68).map (fun i => (i.zero, i.size, i.bytes)) = some (some (.agg #[.int .u8 0, .int .i16 0]), 2, 4) := by kernel_rfl
theorem Tryd.sizeBt : (Tryd.prog.info? 68).map (·.size) = some 2 := by kernel_rfl
theorem Tryd.flatBL : FlatT Tryd.prog 72 [.u8, .i16] :=
  flat_struct (fs := [_, _]) (kss := [[.u8], [.i16]]) Tryd.underlying72 (by kernel_rfl) ⟨by kernel_rfl, rfl, .int Tryd.underlying5, by kernel_rfl, rfl, .int Tryd.underlying66, trivial⟩
theorem Tryd.cellsBL : Tryd.prog.cellsOf 72 = 2 := by kernel_rfl
theorem Tryd.sizeBL : (Tryd.prog.info? 72).map (·.size) = some 2 := by kernel_rfl
theorem toBot_any (x : Bot) (w : World) : Calls Tryd.prog 44 #[.agg (bcells x).toArray] w fun e w' => e = .returned (.agg (bcells x).toArray) ∧ Below w.heap.size w w' := toBottle_any x.1 x.2 w
theorem eqBottle_same (k y : Int) (w : World) : Calls Tryd.prog 50 #[.agg #[.int .u8 k, .int .i16 y], .agg #[.int .u8 k, .int .i16 y]] w fun e w' => e = .returned (.bool true) ∧ Below w.heap.size w w' := by
  go_enter Tryd.func50, Tryd.ntmps50
  go_wp2
  go_ret
  exact ⟨rfl, (by repeat (first | exact Below.refl _ _ | refine Below.drew ?_ | refine Below.alloc ?_ (by simp <;> omega) _ | refine Below.setCell ?_ (by simp <;> omega) _))⟩
theorem eqBot_same (x : Bot) (w : World) : Calls Tryd.prog 50 #[.agg (bcells x).toArray, .agg (bcells x).toArray] w fun e w' => e = .returned (.bool true) ∧ Below w.heap.size w w' := eqBottle_same x.1 x.2 w

theorem szBottleS_any (A : Option Addr) (n c : Nat) (l : Int) (hn : n ≤ 9223372036854775807) (hl : 0 ≤ l ∧ l ≤ 1048576) (w : World) : Calls Tryd.prog 18 #[.slice A n c, .int .i64 l] w fun e w' => e = .returned (.int .i64 (if l < n then -1 else l - n)) ∧ w = w' := by
  obtain ⟨l0, l1⟩ := hl
  by_cases h : l < n
  · rw [if_pos h]
    go_enter Tryd.func18, Tryd.ntmps18
    go_wp2
    go_ret
    exact ⟨rfl, rfl⟩
  · rw [if_neg h]
    go_enter Tryd.func18, Tryd.ntmps18
    go_wp2
    go_ret
    exact ⟨rfl, rfl⟩

/-- What stands between two rounds of toBottleS. -/
def TBw (xs : List Bot) (w : World) (k : Nat) (X : List Bot) (wr : World) : Prop :=
  X.length = xs.length ∧ (∀ j, j < k → X[j]? = xs[j]?) ∧ Rs wr w.heap.size 68 bcells X ∧ Below w.heap.size w wr
theorem TBw.step {xs : List Bot} {w wr w1 : World} {k : Nat} {X : List Bot} {x : Bot} (h : TBw xs w k X wr) (hk : xs[k]? = some x) (hb : Below wr.heap.size wr w1) :
    TBw xs w (k + 1) (X.set k x) (w1.setCells w.heap.size (k * 2) (bcells x).toArray.toList) := by
  obtain ⟨hX, hj, hO, hB⟩ := h
  have hkl := (List.getElem?_eq_some_iff.1 hk).1
  refine ⟨by simp [hX], fun j hjk => ?_, ?_, Below.setCells (hB.trans (hb.mono hB.size)) _ _ _ (Nat.le_refl _)⟩
  · by_cases e : j = k
    · subst e
      rw [List.getElem?_set_self (by omega), hk]
    · rw [List.getElem?_set_ne (by omega)]
      exact hj j (by omega)
  · exact Rs.set_ bcells_length (Blk.keep hO hb) (by omega) x
theorem TBw.same {xs : List Bot} {w : World} {X : List Bot} {wr : World} (h : TBw xs w xs.length X wr) : X = xs := by
  apply List.ext_getElem?
  intro j
  by_cases hj : j < xs.length
  · exact h.2.1 j hj
  · rw [List.getElem?_eq_none (by rw [h.1]; omega), List.getElem?_eq_none (by omega)]

set_option maxRecDepth 100000 in
set_option maxHeartbeats 1000000 in
theorem toBottleS_any (xs : List Bot) (A : Option Addr) (c : Nat) (w : World) (hl : xs.length ≤ 1048576) (hr : Rd w w.heap.size bcells A xs) :
    Calls Tryd.prog 21 #[.slice A xs.length c] w fun e w' => e = .returned (.slice (some ⟨w.heap.size, 0, none⟩) xs.length xs.length) ∧ Rs w' w.heap.size 68 bcells xs ∧ Below w.heap.size w w' := by
  obtain ⟨i0, hi, hz0, hz1, hz2⟩ := info_parts Tryd.infoBt
  have HR := Lib.hid hr
  clear hr
  go_enter Tryd.func21, Tryd.ntmps21
  go_wp2_with (refine wpList_make_full _ rfl (.tmp 6) (.tmp 6) 38 rfl w.heap.size 68 i0 _ 2 Tryd.underlying38 hi hz0 hz1 .i64 .i64 _ _ xs.length rfl rfl rfl rfl (by rw [hz2]; omega) (by unfold maxLen; omega) (Nat.le_refl _) ?_; intro w1 hown hg)
  have hR0 : Rs w1 w.heap.size 68 bcells (List.replicate xs.length (0, 0)) := by
    have := blk_of_make hown
    rw [made_rows bcells_length (0, 0) (Value.agg #[Value.int IntKind.u8 0, Value.int IntKind.i16 0]).cells rfl (by omega)] at this
    exact this
  have hB0 : Below w.heap.size w w1 := (Below.refl _ w).grown hg (Nat.le_refl _) (fun _ h => by cases h)
  have HT : Hid (TBw xs w 0 (List.replicate xs.length (0, 0)) w1) := ⟨by simp, fun j h => by omega, hR0, hB0⟩
  clear hR0 hB0 hown hg hi hz0 hz1 hz2
  go_loopw [4] (fun i wr => ∃ (k : Nat), k ≤ xs.length ∧ i = .int .i64 k ∧ ∃ X, TBw xs w k X wr)
    (fun i _ => xs.length - (intOf i).toNat)
  case atStart => exact ⟨0, by omega, rfl, _, HT.out⟩
  case round =>
    clear HT
    obtain ⟨k, hk, rfl, X, hT⟩ := hrel
    have HT := Lib.hid hT
    clear hT
    by_cases hlt : k < xs.length
    · obtain ⟨x, hx⟩ : ∃ x, xs[k]? = some x := ⟨_, List.getElem?_eq_getElem hlt⟩
      obtain ⟨b, o, rfl, hbl, hrow⟩ := (HR.out.below (Nat.le_refl _) HT.out.2.2.2).at_ bcells_length hx
      have HX := Lib.hid hx
      have HRow := Lib.hid hrow
      clear hx hrow
      go_wp2_with (refine wpList_load_mid rfl 72 (.tmp 18) rfl b (o + k * 2) rfl (bcells x) _ HRow.out Tryd.underlying72 rfl Tryd.sizeBL ?_)
      refine (toBot_any x _).mono ?_
      rintro e w2 ⟨rfl, hb2⟩
      have HB2 := Lib.hid hb2
      clear hb2
      go_wp2_with (refine wpList_store_mid rfl 68 (.tmp 21) (.tmp 20) rfl w.heap.size (k * 2) (bcells x).toArray rfl rfl (Rs.there bcells_length (Blk.keep HT.out.2.2.1 HB2.out) (by rw [HT.out.1]; exact hlt) x) Tryd.sizeBt (bcells_one x) ?_)
      go_roundw
      case rel => exact ⟨k + 1, by omega, by go_num, _, HT.out.step HX.out HB2.out⟩
      case measure => simp [intOf]; omega
    · obtain rfl : k = xs.length := by omega
      obtain rfl := HT.out.same
      go_wp2
      go_ret
      exact ⟨rfl, HT.out.2.2⟩

set_option maxRecDepth 100000 in
set_option maxHeartbeats 1000000 in
theorem eqBots_same (xs : List Bot) (A B : Option Addr) (c d : Nat) (w : World) (hl : xs.length ≤ 4611686018427387904) (hA : Rd w w.heap.size bcells A xs) (hB : Rd w w.heap.size bcells B xs) :
    Calls Tryd.prog 23 #[.slice A xs.length c, .slice B xs.length d] w fun e w' => e = .returned (.bool true) ∧ Below w.heap.size w w' := by
  have HA := Lib.hid hA
  have HB := Lib.hid hB
  clear hA hB
  go_enter Tryd.func23, Tryd.ntmps23
  go_wp2_with fail
  go_loopw [5] (fun i wr => ∃ (k : Nat), k ≤ xs.length ∧ i = .int .i64 k ∧ Below w.heap.size w wr)
    (fun i _ => xs.length - (intOf i).toNat)
  case atStart => exact ⟨0, by omega, rfl, Below.refl _ _⟩
  case round =>
    obtain ⟨k, hk, rfl, hT⟩ := hrel
    have HT := Lib.hid hT
    clear hT
    by_cases hlt : k < xs.length
    · obtain ⟨x, hx⟩ : ∃ x, xs[k]? = some x := ⟨_, List.getElem?_eq_getElem hlt⟩
      obtain ⟨b, o, rfl, hbl, hrow⟩ := (HA.out.below (Nat.le_refl _) HT.out).at_ bcells_length hx
      obtain ⟨b', o', rfl, hbl', hrow'⟩ := (HB.out.below (Nat.le_refl _) HT.out).at_ bcells_length hx
      have hb1 : b < wr.heap.size := Nat.lt_of_lt_of_le hbl HT.out.size
      have hb2 : b' < wr.heap.size := Nat.lt_of_lt_of_le hbl' HT.out.size
      clear hx
      have hk0 : (0 : Int) ≤ (k : Int) := Int.natCast_nonneg _
      have hk8 : (k : Int) < xs.length := by omega
      have hu := Tryd.underlying68
      have hi : (Tryd.prog.info? 68).map (·.size) = some (bcells x).length := Tryd.sizeBt
      have hs0 : Below wr.heap.size wr wr := Below.refl _ _
      go_wp2_with fail
      refine wp_region_held_drew (S := fun w' => w'.rangeAt b (o + k * 2) (bcells x) ∧ w'.rangeAt b' (o' + k * 2) (bcells x) ∧ Below wr.heap.size wr w') (by kernel_rfl) ⟨(World.rangeAt_drew _ _ _ _).2 hrow, (World.rangeAt_drew _ _ _ _).2 hrow', hs0.drew⟩ (fun hHeld => ?_)
      refine wpAnyH_take (i := 0) (v := .slice (some ⟨b, o, none⟩) xs.length c) rfl (by kernel_rfl) (by kernel_rfl) (by kernel_rfl) (fun _ _ _ h => h) (Or.inl ⟨by rfl, fun w _ => by go_simp⟩) (by assumption) ?_
      refine wpAnyH_take (i := 1) (v := .int .i64 k) rfl (by kernel_rfl) (by kernel_rfl) (by kernel_rfl) (fun _ _ _ h => h) (Or.inl ⟨by rfl, fun w _ => by go_simp⟩) (by assumption) ?_
      refine wpAnyH_take (i := 2) (v := .pointer (some ⟨b, o + k * 2, none⟩)) rfl (by kernel_rfl) (by kernel_rfl) (by kernel_rfl) (fun _ _ _ h => h) (Or.inl ⟨by rfl, fun w _ => by go_simp⟩) (by assumption) ?_
      refine' wpAnyH_take (i := 3) (v := _) rfl (by kernel_rfl) (by kernel_rfl) (by kernel_rfl) (fun _ _ _ h => h) (yieldsIf_load_mid (by rfl) 68 (.tmp 19) rfl b (o + k * 2) rfl (bcells x) _ (fun w h => h.1) hu rfl hi) (by assumption) ?_
      refine wpAnyH_take (i := 4) (v := .slice (some ⟨b', o', none⟩) xs.length d) rfl (by kernel_rfl) (by kernel_rfl) (by kernel_rfl) (fun _ _ _ h => h) (Or.inl ⟨by rfl, fun w _ => by go_simp⟩) (by assumption) ?_
      refine wpAnyH_take (i := 5) (v := .int .i64 k) rfl (by kernel_rfl) (by kernel_rfl) (by kernel_rfl) (fun _ _ _ h => h) (Or.inl ⟨by rfl, fun w _ => by go_simp⟩) (by assumption) ?_
      refine wpAnyH_take (i := 6) (v := .pointer (some ⟨b', o' + k * 2, none⟩)) rfl (by kernel_rfl) (by kernel_rfl) (by kernel_rfl) (fun _ _ _ h => h) (Or.inl ⟨by rfl, fun w _ => by go_simp⟩) (by assumption) ?_
      refine' wpAnyH_take (i := 7) (v := _) rfl (by kernel_rfl) (by kernel_rfl) (by kernel_rfl) (fun _ _ _ h => h) (yieldsIf_load_mid (by rfl) 68 (.tmp 23) rfl b' (o' + k * 2) rfl (bcells x) _ (fun w h => h.2.1) hu rfl hi) (by assumption) ?_
      refine wpAnyH_ready (rs := [8]) (by kernel_rfl) (by simp) ?_
      refine AllReadyH.cons rfl (fun K hK => ?_) AllReadyH.nil
      refine if_wanted rfl ?_
      go_simp
      refine (eqBot_same x _).mono ?_
      rintro e w2 ⟨rfl, hb⟩
      dsimp only
      refine hK.out _ _ (keptR hb1 hb2 hHeld.2.2 hb hHeld.1 hHeld.2.1) (fun hHeld => ?_)
      clear hK K
      refine wpAnyH_take (i := 9) (v := .bool false) rfl (by kernel_rfl) (by kernel_rfl) (by kernel_rfl) (fun _ _ _ h => h) (Or.inl ⟨by rfl, fun w _ => by go_simp⟩) (by assumption) ?_
      refine wpAnyH_done (by kernel_rfl) ?_ _
      have HR : Hid (Below wr.heap.size wr w2) := hHeld.2.2
      clear hHeld hb hrow hrow'
      go_wp2
      go_roundw
      case rel => exact ⟨k + 1, by omega, by go_num, HT.out.trans (HR.out.mono HT.out.size)⟩
      case measure => simp [intOf]; omega
    · obtain rfl : k = xs.length := by omega
      go_wp2
      go_ret
      exact ⟨rfl, HT.out⟩
end Go.Proofs.YtfmfgpipklmecabDoor

namespace Go.Proofs.YtfmfgpipklmecabDoor
open Go.ChangeShapes Go.WideShapes Go.ChangeAt Go.RowKit Go.Deep

theorem Tryd.sizeBI9 : (Tryd.prog.info? 68).map (·.size) = some 2 := by kernel_rfl
theorem Tryd.infoBI9 : (Tryd.prog.info? 68).map (fun i => (i.zero, i.size, i.bytes)) = some (some (.agg #[.int .u8 0, .int .i16 0]), 2, 4) := by kernel_rfl
theorem empty_ownB (w : World) (b : Nat) (hb : b ≤ w.heap.size) : (w.alloc (.cells #[] 68)).ownsRow b 68 2 (.slice (some ⟨w.heap.size, 0, none⟩) 0 0) 0 (([] : List Bot).flatMap bcells) :=
  ⟨rfl, .inr ⟨w.heap.size, 0, #[], rfl, hb, heap_alloc_new w _, Nat.le_refl _, by unfold maxLen; omega, by simp, by simp⟩⟩
theorem cell_bot_new (W : World) (x y : Int) (t : TypeId) : ∀ j u, [Value.int .u8 x, Value.int .i16 y][j]? = some u → (W.alloc (.cells #[.int .u8 x, .int .i16 y] t)).cell? ((⟨W.heap.size, 0, none⟩ : Addr).add j) = some u := by
  intro j u hj
  have hK : Rs (W.alloc (.cells #[.int .u8 x, .int .i16 y] t)) W.heap.size t bcells [(x, y)] := by
    have := Blk.new W t #[Value.int .u8 x, Value.int .i16 y]
    simpa [Rs, bcells] using this
  match j, hj with
  | 0, hj => simp at hj; subst hj; exact Rs.range hK 0 _ (by simp [bcells])
  | 1, hj => simp at hj; subst hj; have := Rs.range hK 1 (.int .i16 y) (by simp [bcells]); simp [Addr.add]

theorem l00HasTo9_any (xs : List Int) (k : Nat) (n : Int) (A : Option Addr) (c : Nat) (w : World) (hk : k ≤ xs.length) (hl : xs.length ≤ 1048576) (hr : Rd w w.heap.size icells A xs) :
    Calls Tryd.prog 42 #[.slice A k c, .int .i64 n] w fun e w' => e = .returned (.bool (decide (n ∈ xs.take k))) ∧ w = w' := by
  have := l00Has_any (xs.take k) n A c w (by rw [List.length_take]; omega) (hr.take k)
  rw [List.length_take, Nat.min_eq_left hk] at this
  exact this
set_option maxRecDepth 100000 in
set_option maxHeartbeats 8000000 in
theorem specReveal_any (ns os : List Int) (bs : List Bot) (hwf : ∀ x ∈ bs, wfB x) (A1 A2 A3 : Option Addr) (c1 c2 c3 : Nat) (w : World) (hl1 : ns.length ≤ 1048576) (hl2 : os.length ≤ 1048576) (hl3 : bs.length ≤ 1048576) (hc1 : ns.length ≤ c1) (hr1 : Rd w w.heap.size icells A1 ns) (hr2 : Rd w w.heap.size icells A2 os) (hr3 : Rd w w.heap.size bcells A3 bs) :
    Calls Tryd.prog 19 #[.slice A1 ns.length c1, .slice A2 os.length c2, .slice A3 bs.length c3] w fun e w' => ∃ v, e = .returned (.tuple #[v, .int .i64 (rvC ns os bs)]) ∧ w'.ownsRow w.heap.size 68 2 v (rvA ns os bs).length ((rvA ns os bs).flatMap bcells) ∧ Below w.heap.size w w' := by
  obtain ⟨i0, hi, hz0, hz1, hz2⟩ := info_parts Tryd.infoBI9
  have HI := Lib.hid hi
  have HZ0 := Lib.hid hz0
  have HZ1 := Lib.hid hz1
  have HZ2 := Lib.hid hz2
  clear hi hz0 hz1 hz2
  obtain ⟨W, hW⟩ : ∃ W, w.alloc (.cells #[] 68) = W := ⟨_, rfl⟩
  have hB0 : Below w.heap.size w W := by rw [← hW]; exact (Below.refl _ _).alloc (Nat.le_refl _) _
  have hO0 : W.ownsRow w.heap.size 68 2 (.slice (some ⟨w.heap.size, 0, none⟩) 0 0) 0 (([] : List Bot).flatMap bcells) := by rw [← hW]; exact empty_ownB _ _ (Nat.le_refl _)
  have HQ1 := Lib.hid hr1
  have HQ2 := Lib.hid hr2
  have HQ3 := Lib.hid hr3
  have HR1 := Lib.hid (hr1.keep hB0)
  have HR2 := Lib.hid (hr2.keep hB0)
  have HR3 := Lib.hid (hr3.keep hB0)
  have HB0 := Lib.hid hB0
  have HO0 := Lib.hid hO0
  have HW := Lib.hid hwf
  have hn1 : (0 : Int) ≤ (ns.length : Int) := Int.natCast_nonneg _
  have hn2 : (0 : Int) ≤ (os.length : Int) := Int.natCast_nonneg _
  have hn3 : (0 : Int) ≤ (bs.length : Int) := Int.natCast_nonneg _
  clear hr1 hr2 hr3 hB0 hO0 hwf
  go_enter Tryd.func19, Tryd.ntmps19
  go_wp2_with fail
  go_loopw [9] (fun i wr => ∃ (k : Nat), k ≤ bs.length ∧ i = .int .i64 k ∧ AllU vB bs k ∧ Below W.heap.size W wr) (fun i _ => bs.length - (intOf i).toNat)
  case atStart => exact ⟨0, by omega, rfl, AllU.zero _ _, Below.refl _ _⟩
  case round =>
    clear hW
    obtain ⟨k, hk, rfl, hT, hB⟩ := hrel
    obtain ⟨wa, rfl⟩ : ∃ u, u = wr := ⟨_, rfl⟩
    have HT := Lib.hid hT
    have HB := Lib.hid hB
    clear hT hB
    have hk0 : (0 : Int) ≤ (k : Int) := Int.natCast_nonneg _
    by_cases hlt : k < bs.length
    · obtain ⟨⟨bx, by_⟩, hx⟩ : ∃ x, bs[k]? = some x := ⟨_, List.getElem?_eq_getElem hlt⟩
      obtain ⟨b, o, rfl, hbl, hrow⟩ := (HR3.out.keep HB.out).at_ bcells_length hx
      have HX := Lib.hid hx
      have HRow := Lib.hid hrow
      have hk8 : (k : Int) < bs.length := by omega
      have hwx := HW.out _ (List.mem_of_getElem? hx)
      have HCb := Lib.hid (l01Bottle_any bx by_ ⟨hwx.1, hwx.2.1⟩ ⟨hwx.2.2.1, hwx.2.2.2⟩ wa)
      clear hx hrow hwx
      cases hv : vB (bx, by_)
      · rw [hv] at HCb
        have E2 := Lib.hid (rv_inv (ns := ns) (os := os) (allU_no HX.out hv))
        clear hv
        go_wp2_with (refine wpList_load_mid rfl 68 (.tmp 22) rfl b (o + k * 2) rfl (bcells (bx, by_)) _ HRow.out Tryd.underlying68 rfl Tryd.sizeBI9 ?_)
        refine HCb.out.mono ?_
        rintro e w1 ⟨rfl, hb1⟩
        have HB1 := Lib.hid (HB.out.trans (hb1.mono HB.out.size))
        have HB9 := Lib.hid (HB0.out.trans (HB1.out.mono HB0.out.size))
        have HO9 := Lib.hid (own_keep' HO0.out HB1.out)
        clear hb1
        go_wp2
        first | go_ret2 | skip
        refine ⟨_, by (rw [E2.out.2]; first | done | rfl), ?_, HB9.out⟩
        rw [E2.out.1]
        exact HO9.out
      · rw [hv] at HCb
        have HV := Lib.hid hv
        clear hv
        go_wp2_with (refine wpList_load_mid rfl 68 (.tmp 22) rfl b (o + k * 2) rfl (bcells (bx, by_)) _ HRow.out Tryd.underlying68 rfl Tryd.sizeBI9 ?_)
        refine HCb.out.mono ?_
        rintro e w1 ⟨rfl, hb1⟩
        have HB1 := Lib.hid (HB.out.trans (hb1.mono HB.out.size))
        clear hb1
        go_wp2
        go_roundw
        case rel => exact ⟨k + 1, by omega, by go_num, HT.out.step HX.out HV.out, HB1.out⟩
        case measure => simp [intOf]; omega
    · obtain rfl : k = bs.length := by omega
      have H0 := Lib.hid HT.out.all
      have HBW := Lib.hid HB.out
      have HSa := Lib.hid (l07Samples_any (ns.length : Int) wa)
      cases h1 : wi 1 8 (ns.length : Int)
      · rw [h1] at HSa
        have E2 := Lib.hid (rv_rng (os := os) H0.out (show rvF ns bs.length = false by rw [rvF, h1]; rfl))
        clear h1
        go_wp2_with fail
        refine HSa.out.mono ?_
        rintro e w1 ⟨rfl, rfl⟩
        clear HSa
        go_wp2_with fail
        go_loopw [10, 11] (fun f i wr => ∃ (k : Nat), k ≤ ns.length ∧ i = .int .i64 k ∧ f = .bool false ∧ Below W.heap.size W wr) (fun _ i _ => ns.length - (intOf i).toNat)
        case atStart => exact ⟨0, by omega, rfl, rfl, HBW.out⟩
        case round =>
          obtain ⟨k, hk, rfl, rfl, hB⟩ := hrel
          obtain ⟨wv, rfl⟩ : ∃ u, u = wr := ⟨_, rfl⟩
          have HB := Lib.hid hB
          clear hB
          have hk0 : (0 : Int) ≤ (k : Int) := Int.natCast_nonneg _
          by_cases hlt : k < ns.length
          · have hk8 : (k : Int) < ns.length := by omega
            go_wp2_with fail
            refine wp_region_held_drew (S := fun w' => Below wv.heap.size wv w') (by kernel_rfl) (Below.refl _ _).drew (fun hHeld => ?_)
            refine wpAnyH_take (i := 0) (v := .bool false) rfl (by kernel_rfl) (by kernel_rfl) (by kernel_rfl) (fun _ _ _ h => h) (Or.inl ⟨by rfl, fun w' h => by go_simp⟩) (by assumption) ?_
            try simp only [Act.put, List.getElem_toArray, List.getElem_cons_zero, List.getElem_cons_succ, List.setIfInBounds_toArray, List.set_cons_zero, List.set_cons_succ]
            refine wpAnyH_take (i := 1) (v := .bool false) rfl (by kernel_rfl) (by kernel_rfl) (by kernel_rfl) (fun _ _ _ h => h) (Or.inl ⟨by rfl, fun w' h => by go_simp⟩) (by assumption) ?_
            try simp only [Act.put, List.getElem_toArray, List.getElem_cons_zero, List.getElem_cons_succ, List.setIfInBounds_toArray, List.set_cons_zero, List.set_cons_succ]
            refine wpAnyH_take (i := 2) (v := undef) rfl (by kernel_rfl) (by kernel_rfl) (by kernel_rfl) (fun _ _ _ h => h) (Or.inr ⟨by rfl, rfl⟩) (by assumption) ?_
            try simp only [Act.put, List.getElem_toArray, List.getElem_cons_zero, List.getElem_cons_succ, List.setIfInBounds_toArray, List.set_cons_zero, List.set_cons_succ]
            refine wpAnyH_take (i := 3) (v := undef) rfl (by kernel_rfl) (by kernel_rfl) (by kernel_rfl) (fun _ _ _ h => h) (Or.inr ⟨by rfl, rfl⟩) (by assumption) ?_
            try simp only [Act.put, List.getElem_toArray, List.getElem_cons_zero, List.getElem_cons_succ, List.setIfInBounds_toArray, List.set_cons_zero, List.set_cons_succ]
            refine wpAnyH_take (i := 4) (v := undef) rfl (by kernel_rfl) (by kernel_rfl) (by kernel_rfl) (fun _ _ _ h => h) (Or.inr ⟨by rfl, rfl⟩) (by assumption) ?_
            try simp only [Act.put, List.getElem_toArray, List.getElem_cons_zero, List.getElem_cons_succ, List.setIfInBounds_toArray, List.set_cons_zero, List.set_cons_succ]
            refine wpAnyH_take (i := 5) (v := undef) rfl (by kernel_rfl) (by kernel_rfl) (by kernel_rfl) (fun _ _ _ h => h) (Or.inr ⟨by rfl, rfl⟩) (by assumption) ?_
            try simp only [Act.put, List.getElem_toArray, List.getElem_cons_zero, List.getElem_cons_succ, List.setIfInBounds_toArray, List.set_cons_zero, List.set_cons_succ]
            refine wpAnyH_take (i := 6) (v := undef) rfl (by kernel_rfl) (by kernel_rfl) (by kernel_rfl) (fun _ _ _ h => h) (Or.inr ⟨by rfl, rfl⟩) (by assumption) ?_
            try simp only [Act.put, List.getElem_toArray, List.getElem_cons_zero, List.getElem_cons_succ, List.setIfInBounds_toArray, List.set_cons_zero, List.set_cons_succ]
            refine wpAnyH_take (i := 7) (v := undef) rfl (by kernel_rfl) (by kernel_rfl) (by kernel_rfl) (fun _ _ _ h => h) (Or.inr ⟨by rfl, rfl⟩) (by assumption) ?_
            try simp only [Act.put, List.getElem_toArray, List.getElem_cons_zero, List.getElem_cons_succ, List.setIfInBounds_toArray, List.set_cons_zero, List.set_cons_succ]
            refine wpAnyH_take (i := 8) (v := undef) rfl (by kernel_rfl) (by kernel_rfl) (by kernel_rfl) (fun _ _ _ h => h) (Or.inr ⟨by rfl, rfl⟩) (by assumption) ?_
            try simp only [Act.put, List.getElem_toArray, List.getElem_cons_zero, List.getElem_cons_succ, List.setIfInBounds_toArray, List.set_cons_zero, List.set_cons_succ]
            refine wpAnyH_take (i := 9) (v := undef) rfl (by kernel_rfl) (by kernel_rfl) (by kernel_rfl) (fun _ _ _ h => h) (Or.inr ⟨by rfl, rfl⟩) (by assumption) ?_
            try simp only [Act.put, List.getElem_toArray, List.getElem_cons_zero, List.getElem_cons_succ, List.setIfInBounds_toArray, List.set_cons_zero, List.set_cons_succ]
            refine wpAnyH_take (i := 10) (v := undef) rfl (by kernel_rfl) (by kernel_rfl) (by kernel_rfl) (fun _ _ _ h => h) (Or.inr ⟨by rfl, rfl⟩) (by assumption) ?_
            try simp only [Act.put, List.getElem_toArray, List.getElem_cons_zero, List.getElem_cons_succ, List.setIfInBounds_toArray, List.set_cons_zero, List.set_cons_succ]
            refine wpAnyH_take (i := 11) (v := .bool false) rfl (by kernel_rfl) (by kernel_rfl) (by kernel_rfl) (fun _ _ _ h => h) (Or.inl ⟨by rfl, fun w' h => by go_simp⟩) (by assumption) ?_
            try simp only [Act.put, List.getElem_toArray, List.getElem_cons_zero, List.getElem_cons_succ, List.setIfInBounds_toArray, List.set_cons_zero, List.set_cons_succ]
            refine wpAnyH_ready (rs := [12]) (by kernel_rfl) (by simp) ?_
            refine AllReadyH.cons rfl (fun K hK => ?_) AllReadyH.nil
            refine if_wanted rfl ?_
            refine wp_assign0 (v := .bool false) rfl rfl ?_
            refine hK.out _ _ hHeld (fun hHeld => ?_)
            clear hK K
            try simp only [Act.put, List.getElem_toArray, List.getElem_cons_zero, List.getElem_cons_succ, List.setIfInBounds_toArray, List.set_cons_zero, List.set_cons_succ]
            refine wpAnyH_done (by kernel_rfl) ?_ _
            try simp only [Act.put, List.getElem_toArray, List.getElem_cons_zero, List.getElem_cons_succ, List.setIfInBounds_toArray, List.set_cons_zero, List.set_cons_succ]
            have hb := hHeld
            clear hHeld
            have HB4 := Lib.hid (HB.out.trans (hb.mono HB.out.size))
            clear hb
            go_wp2
            go_roundw
            case rel => exact ⟨k + 1, by omega, by go_num, rfl, HB4.out⟩
            case measure => simp [intOf]; omega
          · obtain rfl : k = ns.length := by omega
            have HB9 := Lib.hid (HB0.out.trans (HB.out.mono HB0.out.size))
            have HO9 := Lib.hid (own_keep' HO0.out HB.out)
            go_wp2
            first | go_ret2 | skip
            refine ⟨_, by (rw [E2.out.2]; first | done | rfl), ?_, HB9.out⟩
            rw [E2.out.1]
            exact HO9.out
      rw [h1] at HSa
      have H1 := Lib.hid h1
      by_cases h2 : bs.length = ns.length
      rotate_left
      · have E2 := Lib.hid (rv_rng (os := os) H0.out (show rvF ns bs.length = false by rw [rvF, h1, decide_eq_false h2]; rfl))
        have hne : ¬ (bs.length : Int) = (ns.length : Int) := by omega
        have hne2 : ((bs.length : Int) == (ns.length : Int)) = false := by rw [beq_eq_false_iff_ne]; exact hne
        clear h1 h2
        go_wp2_with fail
        refine HSa.out.mono ?_
        rintro e w1 ⟨rfl, rfl⟩
        clear HSa
        go_wp2_with fail
        go_loopw [10, 11] (fun f i wr => ∃ (k : Nat), k ≤ ns.length ∧ i = .int .i64 k ∧ f = .bool false ∧ Below W.heap.size W wr) (fun _ i _ => ns.length - (intOf i).toNat)
        case atStart => exact ⟨0, by omega, rfl, rfl, HBW.out⟩
        case round =>
          obtain ⟨k, hk, rfl, rfl, hB⟩ := hrel
          obtain ⟨wv, rfl⟩ : ∃ u, u = wr := ⟨_, rfl⟩
          have HB := Lib.hid hB
          clear hB
          have hk0 : (0 : Int) ≤ (k : Int) := Int.natCast_nonneg _
          by_cases hlt : k < ns.length
          · have hk8 : (k : Int) < ns.length := by omega
            go_wp2_with fail
            refine wp_region_held_drew (S := fun w' => Below wv.heap.size wv w') (by kernel_rfl) (Below.refl _ _).drew (fun hHeld => ?_)
            refine wpAnyH_take (i := 0) (v := .bool false) rfl (by kernel_rfl) (by kernel_rfl) (by kernel_rfl) (fun _ _ _ h => h) (Or.inl ⟨by rfl, fun w' h => by go_simp⟩) (by assumption) ?_
            try simp only [Act.put, List.getElem_toArray, List.getElem_cons_zero, List.getElem_cons_succ, List.setIfInBounds_toArray, List.set_cons_zero, List.set_cons_succ]
            refine wpAnyH_take (i := 1) (v := .bool false) rfl (by kernel_rfl) (by kernel_rfl) (by kernel_rfl) (fun _ _ _ h => h) (Or.inl ⟨by rfl, fun w' h => by go_simp⟩) (by assumption) ?_
            try simp only [Act.put, List.getElem_toArray, List.getElem_cons_zero, List.getElem_cons_succ, List.setIfInBounds_toArray, List.set_cons_zero, List.set_cons_succ]
            refine wpAnyH_take (i := 2) (v := undef) rfl (by kernel_rfl) (by kernel_rfl) (by kernel_rfl) (fun _ _ _ h => h) (Or.inr ⟨by rfl, rfl⟩) (by assumption) ?_
            try simp only [Act.put, List.getElem_toArray, List.getElem_cons_zero, List.getElem_cons_succ, List.setIfInBounds_toArray, List.set_cons_zero, List.set_cons_succ]
            refine wpAnyH_take (i := 3) (v := undef) rfl (by kernel_rfl) (by kernel_rfl) (by kernel_rfl) (fun _ _ _ h => h) (Or.inr ⟨by rfl, rfl⟩) (by assumption) ?_
            try simp only [Act.put, List.getElem_toArray, List.getElem_cons_zero, List.getElem_cons_succ, List.setIfInBounds_toArray, List.set_cons_zero, List.set_cons_succ]
            refine wpAnyH_take (i := 4) (v := undef) rfl (by kernel_rfl) (by kernel_rfl) (by kernel_rfl) (fun _ _ _ h => h) (Or.inr ⟨by rfl, rfl⟩) (by assumption) ?_
            try simp only [Act.put, List.getElem_toArray, List.getElem_cons_zero, List.getElem_cons_succ, List.setIfInBounds_toArray, List.set_cons_zero, List.set_cons_succ]
            refine wpAnyH_take (i := 5) (v := undef) rfl (by kernel_rfl) (by kernel_rfl) (by kernel_rfl) (fun _ _ _ h => h) (Or.inr ⟨by rfl, rfl⟩) (by assumption) ?_
            try simp only [Act.put, List.getElem_toArray, List.getElem_cons_zero, List.getElem_cons_succ, List.setIfInBounds_toArray, List.set_cons_zero, List.set_cons_succ]
            refine wpAnyH_take (i := 6) (v := undef) rfl (by kernel_rfl) (by kernel_rfl) (by kernel_rfl) (fun _ _ _ h => h) (Or.inr ⟨by rfl, rfl⟩) (by assumption) ?_
            try simp only [Act.put, List.getElem_toArray, List.getElem_cons_zero, List.getElem_cons_succ, List.setIfInBounds_toArray, List.set_cons_zero, List.set_cons_succ]
            refine wpAnyH_take (i := 7) (v := undef) rfl (by kernel_rfl) (by kernel_rfl) (by kernel_rfl) (fun _ _ _ h => h) (Or.inr ⟨by rfl, rfl⟩) (by assumption) ?_
            try simp only [Act.put, List.getElem_toArray, List.getElem_cons_zero, List.getElem_cons_succ, List.setIfInBounds_toArray, List.set_cons_zero, List.set_cons_succ]
            refine wpAnyH_take (i := 8) (v := undef) rfl (by kernel_rfl) (by kernel_rfl) (by kernel_rfl) (fun _ _ _ h => h) (Or.inr ⟨by rfl, rfl⟩) (by assumption) ?_
            try simp only [Act.put, List.getElem_toArray, List.getElem_cons_zero, List.getElem_cons_succ, List.setIfInBounds_toArray, List.set_cons_zero, List.set_cons_succ]
            refine wpAnyH_take (i := 9) (v := undef) rfl (by kernel_rfl) (by kernel_rfl) (by kernel_rfl) (fun _ _ _ h => h) (Or.inr ⟨by rfl, rfl⟩) (by assumption) ?_
            try simp only [Act.put, List.getElem_toArray, List.getElem_cons_zero, List.getElem_cons_succ, List.setIfInBounds_toArray, List.set_cons_zero, List.set_cons_succ]
            refine wpAnyH_take (i := 10) (v := undef) rfl (by kernel_rfl) (by kernel_rfl) (by kernel_rfl) (fun _ _ _ h => h) (Or.inr ⟨by rfl, rfl⟩) (by assumption) ?_
            try simp only [Act.put, List.getElem_toArray, List.getElem_cons_zero, List.getElem_cons_succ, List.setIfInBounds_toArray, List.set_cons_zero, List.set_cons_succ]
            refine wpAnyH_take (i := 11) (v := .bool false) rfl (by kernel_rfl) (by kernel_rfl) (by kernel_rfl) (fun _ _ _ h => h) (Or.inl ⟨by rfl, fun w' h => by go_simp⟩) (by assumption) ?_
            try simp only [Act.put, List.getElem_toArray, List.getElem_cons_zero, List.getElem_cons_succ, List.setIfInBounds_toArray, List.set_cons_zero, List.set_cons_succ]
            refine wpAnyH_ready (rs := [12]) (by kernel_rfl) (by simp) ?_
            refine AllReadyH.cons rfl (fun K hK => ?_) AllReadyH.nil
            refine if_wanted rfl ?_
            refine wp_assign0 (v := .bool false) rfl rfl ?_
            refine hK.out _ _ hHeld (fun hHeld => ?_)
            clear hK K
            try simp only [Act.put, List.getElem_toArray, List.getElem_cons_zero, List.getElem_cons_succ, List.setIfInBounds_toArray, List.set_cons_zero, List.set_cons_succ]
            refine wpAnyH_done (by kernel_rfl) ?_ _
            try simp only [Act.put, List.getElem_toArray, List.getElem_cons_zero, List.getElem_cons_succ, List.setIfInBounds_toArray, List.set_cons_zero, List.set_cons_succ]
            have hb := hHeld
            clear hHeld
            have HB4 := Lib.hid (HB.out.trans (hb.mono HB.out.size))
            clear hb
            go_wp2
            go_roundw
            case rel => exact ⟨k + 1, by omega, by go_num, rfl, HB4.out⟩
            case measure => simp [intOf]; omega
          · obtain rfl : k = ns.length := by omega
            have HB9 := Lib.hid (HB0.out.trans (HB.out.mono HB0.out.size))
            have HO9 := Lib.hid (own_keep' HO0.out HB.out)
            go_wp2
            first | go_ret2 | skip
            refine ⟨_, by (rw [E2.out.2]; first | done | rfl), ?_, HB9.out⟩
            rw [E2.out.1]
            exact HO9.out
      have HEq := Lib.hid h2
      have hn18 := wi_iff.1 h1
      have heq : ((bs.length : Int) == (ns.length : Int)) = true := by rw [h2]; exact beq_self_eq_true _
      have HF : Hid (rvF ns bs.length = decide ns.Nodup) := by show _ = _; rw [rvF, h1, decide_eq_true h2]; rfl
      clear h1 h2
      go_wp2_with fail
      refine HSa.out.mono ?_
      rintro e w1 ⟨rfl, rfl⟩
      clear HSa
      go_wp2_with fail
      clear heq
      go_loopw [10, 11] (fun f i wr => ∃ (k : Nat), k ≤ ns.length ∧ i = .int .i64 k ∧ f = .bool (decide (ns.take k).Nodup) ∧ Below W.heap.size W wr) (fun _ i _ => ns.length - (intOf i).toNat)
      case atStart => exact ⟨0, by omega, rfl, rfl, HBW.out⟩
      case round =>
        obtain ⟨k, hk, rfl, rfl, hB⟩ := hrel
        obtain ⟨wv, rfl⟩ : ∃ u, u = wr := ⟨_, rfl⟩
        have HB := Lib.hid hB
        clear hB HBW
        have hk0 : (0 : Int) ≤ (k : Int) := Int.natCast_nonneg _
        by_cases hlt : k < ns.length
        · have hk8 : (k : Int) < ns.length := by omega
          obtain ⟨x, hx⟩ : ∃ x, ns[k]? = some x := ⟨_, List.getElem?_eq_getElem hlt⟩
          have HSt := Lib.hid (nd_step hx)
          cases hv : decide (ns.take k).Nodup
          · rw [hv] at HSt
            clear hx hv
            go_wp2_with fail
            refine wp_region_held_drew (S := fun w' => Below wv.heap.size wv w') (by kernel_rfl) (Below.refl _ _).drew (fun hHeld => ?_)
            refine wpAnyH_take (i := 0) (v := .bool false) rfl (by kernel_rfl) (by kernel_rfl) (by kernel_rfl) (fun _ _ _ h => h) (Or.inl ⟨by rfl, fun w' h => by go_simp⟩) (by assumption) ?_
            try simp only [Act.put, List.getElem_toArray, List.getElem_cons_zero, List.getElem_cons_succ, List.setIfInBounds_toArray, List.set_cons_zero, List.set_cons_succ]
            refine wpAnyH_take (i := 1) (v := .bool false) rfl (by kernel_rfl) (by kernel_rfl) (by kernel_rfl) (fun _ _ _ h => h) (Or.inl ⟨by rfl, fun w' h => by go_simp⟩) (by assumption) ?_
            try simp only [Act.put, List.getElem_toArray, List.getElem_cons_zero, List.getElem_cons_succ, List.setIfInBounds_toArray, List.set_cons_zero, List.set_cons_succ]
            refine wpAnyH_take (i := 2) (v := undef) rfl (by kernel_rfl) (by kernel_rfl) (by kernel_rfl) (fun _ _ _ h => h) (Or.inr ⟨by rfl, rfl⟩) (by assumption) ?_
            try simp only [Act.put, List.getElem_toArray, List.getElem_cons_zero, List.getElem_cons_succ, List.setIfInBounds_toArray, List.set_cons_zero, List.set_cons_succ]
            refine wpAnyH_take (i := 3) (v := undef) rfl (by kernel_rfl) (by kernel_rfl) (by kernel_rfl) (fun _ _ _ h => h) (Or.inr ⟨by rfl, rfl⟩) (by assumption) ?_
            try simp only [Act.put, List.getElem_toArray, List.getElem_cons_zero, List.getElem_cons_succ, List.setIfInBounds_toArray, List.set_cons_zero, List.set_cons_succ]
            refine wpAnyH_take (i := 4) (v := undef) rfl (by kernel_rfl) (by kernel_rfl) (by kernel_rfl) (fun _ _ _ h => h) (Or.inr ⟨by rfl, rfl⟩) (by assumption) ?_
            try simp only [Act.put, List.getElem_toArray, List.getElem_cons_zero, List.getElem_cons_succ, List.setIfInBounds_toArray, List.set_cons_zero, List.set_cons_succ]
            refine wpAnyH_take (i := 5) (v := undef) rfl (by kernel_rfl) (by kernel_rfl) (by kernel_rfl) (fun _ _ _ h => h) (Or.inr ⟨by rfl, rfl⟩) (by assumption) ?_
            try simp only [Act.put, List.getElem_toArray, List.getElem_cons_zero, List.getElem_cons_succ, List.setIfInBounds_toArray, List.set_cons_zero, List.set_cons_succ]
            refine wpAnyH_take (i := 6) (v := undef) rfl (by kernel_rfl) (by kernel_rfl) (by kernel_rfl) (fun _ _ _ h => h) (Or.inr ⟨by rfl, rfl⟩) (by assumption) ?_
            try simp only [Act.put, List.getElem_toArray, List.getElem_cons_zero, List.getElem_cons_succ, List.setIfInBounds_toArray, List.set_cons_zero, List.set_cons_succ]
            refine wpAnyH_take (i := 7) (v := undef) rfl (by kernel_rfl) (by kernel_rfl) (by kernel_rfl) (fun _ _ _ h => h) (Or.inr ⟨by rfl, rfl⟩) (by assumption) ?_
            try simp only [Act.put, List.getElem_toArray, List.getElem_cons_zero, List.getElem_cons_succ, List.setIfInBounds_toArray, List.set_cons_zero, List.set_cons_succ]
            refine wpAnyH_take (i := 8) (v := undef) rfl (by kernel_rfl) (by kernel_rfl) (by kernel_rfl) (fun _ _ _ h => h) (Or.inr ⟨by rfl, rfl⟩) (by assumption) ?_
            try simp only [Act.put, List.getElem_toArray, List.getElem_cons_zero, List.getElem_cons_succ, List.setIfInBounds_toArray, List.set_cons_zero, List.set_cons_succ]
            refine wpAnyH_take (i := 9) (v := undef) rfl (by kernel_rfl) (by kernel_rfl) (by kernel_rfl) (fun _ _ _ h => h) (Or.inr ⟨by rfl, rfl⟩) (by assumption) ?_
            try simp only [Act.put, List.getElem_toArray, List.getElem_cons_zero, List.getElem_cons_succ, List.setIfInBounds_toArray, List.set_cons_zero, List.set_cons_succ]
            refine wpAnyH_take (i := 10) (v := undef) rfl (by kernel_rfl) (by kernel_rfl) (by kernel_rfl) (fun _ _ _ h => h) (Or.inr ⟨by rfl, rfl⟩) (by assumption) ?_
            try simp only [Act.put, List.getElem_toArray, List.getElem_cons_zero, List.getElem_cons_succ, List.setIfInBounds_toArray, List.set_cons_zero, List.set_cons_succ]
            refine wpAnyH_take (i := 11) (v := .bool false) rfl (by kernel_rfl) (by kernel_rfl) (by kernel_rfl) (fun _ _ _ h => h) (Or.inl ⟨by rfl, fun w' h => by go_simp⟩) (by assumption) ?_
            try simp only [Act.put, List.getElem_toArray, List.getElem_cons_zero, List.getElem_cons_succ, List.setIfInBounds_toArray, List.set_cons_zero, List.set_cons_succ]
            refine wpAnyH_ready (rs := [12]) (by kernel_rfl) (by simp) ?_
            refine AllReadyH.cons rfl (fun K hK => ?_) AllReadyH.nil
            refine if_wanted rfl ?_
            refine wp_assign0 (v := .bool false) rfl rfl ?_
            refine hK.out _ _ hHeld (fun hHeld => ?_)
            clear hK K
            try simp only [Act.put, List.getElem_toArray, List.getElem_cons_zero, List.getElem_cons_succ, List.setIfInBounds_toArray, List.set_cons_zero, List.set_cons_succ]
            refine wpAnyH_done (by kernel_rfl) ?_ _
            try simp only [Act.put, List.getElem_toArray, List.getElem_cons_zero, List.getElem_cons_succ, List.setIfInBounds_toArray, List.set_cons_zero, List.set_cons_succ]
            have hb := hHeld
            clear hHeld
            have HB4 := Lib.hid (HB.out.trans (hb.mono HB.out.size))
            clear hb
            go_wp2
            go_roundw
            case rel => exact ⟨k + 1, by omega, by go_num, by rw [HSt.out]; rfl, HB4.out⟩
            case measure => simp [intOf]; omega
          · rw [hv] at HSt
            obtain ⟨b, o, rfl, hbl, hrow⟩ := (HR1.out.keep HB.out).at_ icells_length hx
            have e1 := rowI hrow
            have HH : Hid (∀ V : World, Below wv.heap.size wv V → Calls Tryd.prog 42 #[.slice (some ⟨b, o, none⟩) k c1, .int .i64 x] V fun e w' => e = .returned (.bool (decide (x ∈ ns.take k))) ∧ V = w') := fun V hV => l00HasTo9_any ns k x _ c1 V (by omega) hl1 (HR1.out.keep (HB.out.trans (hV.mono HB.out.size)))
            obtain ⟨v, hv2⟩ : ∃ v, decide (x ∈ ns.take k) = v := ⟨_, rfl⟩
            rw [hv2] at HSt HH
            have hkc : (k : Int) ≤ (c1 : Int) := by omega
            have hkcn : k ≤ c1 := by omega
            clear hx hv hv2 hrow
            go_wp2_with fail
            refine wp_region_held_drew (S := fun w' => Below wv.heap.size wv w') (by kernel_rfl) (Below.refl _ _).drew (fun hHeld => ?_)
            refine wpAnyH_take (i := 0) (v := .bool true) rfl (by kernel_rfl) (by kernel_rfl) (by kernel_rfl) (fun _ _ _ h => h) (Or.inl ⟨by rfl, fun w' h => by go_simp⟩) (by assumption) ?_
            try simp only [Act.put, List.getElem_toArray, List.getElem_cons_zero, List.getElem_cons_succ, List.setIfInBounds_toArray, List.set_cons_zero, List.set_cons_succ]
            refine wpAnyH_take (i := 1) (v := .bool true) rfl (by kernel_rfl) (by kernel_rfl) (by kernel_rfl) (fun _ _ _ h => h) (Or.inl ⟨by rfl, fun w' h => by go_simp⟩) (by assumption) ?_
            try simp only [Act.put, List.getElem_toArray, List.getElem_cons_zero, List.getElem_cons_succ, List.setIfInBounds_toArray, List.set_cons_zero, List.set_cons_succ]
            refine wpAnyH_take (i := 2) (v := .slice (some ⟨b, o, none⟩) ns.length c1) rfl (by kernel_rfl) (by kernel_rfl) (by kernel_rfl) (fun _ _ _ h => h) (Or.inl ⟨by rfl, fun w' h => by go_simp⟩) (by assumption) ?_
            try simp only [Act.put, List.getElem_toArray, List.getElem_cons_zero, List.getElem_cons_succ, List.setIfInBounds_toArray, List.set_cons_zero, List.set_cons_succ]
            refine wpAnyH_take (i := 3) (v := .int .i64 k) rfl (by kernel_rfl) (by kernel_rfl) (by kernel_rfl) (fun _ _ _ h => h) (Or.inl ⟨by rfl, fun w' h => by go_simp⟩) (by assumption) ?_
            try simp only [Act.put, List.getElem_toArray, List.getElem_cons_zero, List.getElem_cons_succ, List.setIfInBounds_toArray, List.set_cons_zero, List.set_cons_succ]
            refine wpAnyH_take (i := 4) (v := .slice (some ⟨b, o, none⟩) k c1) rfl (by kernel_rfl) (by kernel_rfl) (by kernel_rfl) (fun _ _ _ h => h) (Or.inl ⟨by rfl, fun w' h => by (go_simp; first | done | omega | (intro e; omega))⟩) (by assumption) ?_
            try simp only [Act.put, List.getElem_toArray, List.getElem_cons_zero, List.getElem_cons_succ, List.setIfInBounds_toArray, List.set_cons_zero, List.set_cons_succ]
            refine wpAnyH_take (i := 5) (v := .slice (some ⟨b, o, none⟩) ns.length c1) rfl (by kernel_rfl) (by kernel_rfl) (by kernel_rfl) (fun _ _ _ h => h) (Or.inl ⟨by rfl, fun w' h => by go_simp⟩) (by assumption) ?_
            try simp only [Act.put, List.getElem_toArray, List.getElem_cons_zero, List.getElem_cons_succ, List.setIfInBounds_toArray, List.set_cons_zero, List.set_cons_succ]
            refine wpAnyH_take (i := 6) (v := .int .i64 k) rfl (by kernel_rfl) (by kernel_rfl) (by kernel_rfl) (fun _ _ _ h => h) (Or.inl ⟨by rfl, fun w' h => by go_simp⟩) (by assumption) ?_
            try simp only [Act.put, List.getElem_toArray, List.getElem_cons_zero, List.getElem_cons_succ, List.setIfInBounds_toArray, List.set_cons_zero, List.set_cons_succ]
            refine wpAnyH_take (i := 7) (v := .pointer (some ⟨b, o + k, none⟩)) rfl (by kernel_rfl) (by kernel_rfl) (by kernel_rfl) (fun _ _ _ h => h) (Or.inl ⟨by rfl, fun w' h => by go_simp⟩) (by assumption) ?_
            try simp only [Act.put, List.getElem_toArray, List.getElem_cons_zero, List.getElem_cons_succ, List.setIfInBounds_toArray, List.set_cons_zero, List.set_cons_succ]
            refine wpAnyH_take (i := 8) (v := .int .i64 x) rfl (by kernel_rfl) (by kernel_rfl) (by kernel_rfl) (fun _ _ _ h => h) (Or.inl ⟨by rfl, fun w' h => by have g1 := (h.cell (p := ⟨b, o + k, none⟩) hbl).trans e1; go_simp⟩) (by assumption) ?_
            try simp only [Act.put, List.getElem_toArray, List.getElem_cons_zero, List.getElem_cons_succ, List.setIfInBounds_toArray, List.set_cons_zero, List.set_cons_succ]
            obtain ⟨D0, hD0⟩ : ∃ D0, wv.drew = D0 := ⟨_, rfl⟩
            rw [hD0] at hHeld ⊢
            clear hD0
            refine wpAnyH_ready (rs := [9]) (by kernel_rfl) (by simp) ?_
            refine AllReadyH.cons rfl (fun K hK => ?_) AllReadyH.nil
            refine if_wanted2 (by rfl) ?_
            go_simp
            refine (HH.out D0 hHeld).mono ?_
            rintro e w3 ⟨rfl, rfl⟩
            dsimp only
            refine hK.out _ _ hHeld (fun hHeld => ?_)
            clear hK K
            try simp only [Act.put, List.getElem_toArray, List.getElem_cons_zero, List.getElem_cons_succ, List.setIfInBounds_toArray, List.set_cons_zero, List.set_cons_succ]
            refine wpAnyH_take (i := 10) (v := .bool (!v)) rfl (by kernel_rfl) (by kernel_rfl) (by kernel_rfl) (fun _ _ _ h => h) (Or.inl ⟨by rfl, fun w' h => by go_simp⟩) (by assumption) ?_
            try simp only [Act.put, List.getElem_toArray, List.getElem_cons_zero, List.getElem_cons_succ, List.setIfInBounds_toArray, List.set_cons_zero, List.set_cons_succ]
            refine wpAnyH_take (i := 11) (v := .bool (!v)) rfl (by kernel_rfl) (by kernel_rfl) (by kernel_rfl) (fun _ _ _ h => h) (Or.inl ⟨by rfl, fun w' h => by go_simp⟩) (by assumption) ?_
            try simp only [Act.put, List.getElem_toArray, List.getElem_cons_zero, List.getElem_cons_succ, List.setIfInBounds_toArray, List.set_cons_zero, List.set_cons_succ]
            refine wpAnyH_ready (rs := [12]) (by kernel_rfl) (by simp) ?_
            refine AllReadyH.cons rfl (fun K hK => ?_) AllReadyH.nil
            refine if_wanted rfl ?_
            refine wp_assign0 (v := .bool (!v)) rfl rfl ?_
            refine hK.out _ _ hHeld (fun hHeld => ?_)
            clear hK K
            try simp only [Act.put, List.getElem_toArray, List.getElem_cons_zero, List.getElem_cons_succ, List.setIfInBounds_toArray, List.set_cons_zero, List.set_cons_succ]
            refine wpAnyH_done (by kernel_rfl) ?_ _
            try simp only [Act.put, List.getElem_toArray, List.getElem_cons_zero, List.getElem_cons_succ, List.setIfInBounds_toArray, List.set_cons_zero, List.set_cons_succ]
            have hb := hHeld
            clear hHeld
            have HB4 := Lib.hid (HB.out.trans (hb.mono HB.out.size))
            clear hb
            go_wp2
            go_roundw
            case rel => exact ⟨k + 1, by omega, by go_num, by rw [HSt.out]; simp, HB4.out⟩
            case measure => simp [intOf]; omega
        · obtain rfl : k = ns.length := by omega
          rw [List.take_length]
          cases hnd : decide ns.Nodup
          · have E2 := Lib.hid (rv_rng (os := os) H0.out (HF.out.trans hnd))
            have HB9 := Lib.hid (HB0.out.trans (HB.out.mono HB0.out.size))
            have HO9 := Lib.hid (own_keep' HO0.out HB.out)
            clear hnd
            go_wp2
            first | go_ret2 | skip
            refine ⟨_, by (rw [E2.out.2]; first | done | rfl), ?_, HB9.out⟩
            rw [E2.out.1]
            exact HO9.out
          · have HFt := Lib.hid (HF.out.trans hnd)
            clear hnd
            by_cases h100 : os.length ≤ 100
            rotate_left
            · have E2 := Lib.hid (rv_lim H0.out HFt.out h100)
              have HB9 := Lib.hid (HB0.out.trans (HB.out.mono HB0.out.size))
              have HO9 := Lib.hid (own_keep' HO0.out HB.out)
              have h1i : (100 : Int) < os.length := by omega
              go_wp2
              first | go_ret2 | skip
              refine ⟨_, by (rw [E2.out.2]; first | done | rfl), ?_, HB9.out⟩
              rw [E2.out.1]
              exact HO9.out
            have h1i : ¬ (100 : Int) < os.length := by omega
            have H00 := Lib.hid (rv_e0 H0.out HFt.out h100)
            have HOo : Hid (wv.ownsRow w.heap.size 68 2 (.slice (some ⟨w.heap.size, 0, none⟩) 0 0) 0 ((rvL ns os bs 0).flatMap bcells)) := own_keep' HO0.out HB.out
            have HBo := Lib.hid (HB0.out.trans (HB.out.mono HB0.out.size))
            have h8 : ns.length ≤ 8 := by omega
            go_wp2_with fail
            go_loopw [8, 12] (fun v i wr => ∃ (t : Nat) (A9 : Option Addr) (c9 : Nat), t ≤ os.length ∧ i = .int .i64 t ∧ v = .slice A9 t c9 ∧ AllU (fun x => decide (x ∈ ns)) os t ∧ wr.ownsRow w.heap.size 68 2 (.slice A9 t c9) t ((rvL ns os bs t).flatMap bcells) ∧ Below w.heap.size w wr) (fun _ i _ => os.length - (intOf i).toNat)
            case atStart => exact ⟨0, _, _, by omega, rfl, rfl, AllU.zero _ _, HOo.out, HBo.out⟩
            case round =>
              clear HOo HBo HO0 HB0 HB
              obtain ⟨t, A9, c9, ht, rfl, rfl, hT, hO, hB⟩ := hrel
              obtain ⟨wv, rfl⟩ : ∃ u, u = wr := ⟨_, rfl⟩
              have HT2 := Lib.hid hT
              have HO := Lib.hid hO
              have HB := Lib.hid hB
              clear hT hO hB
              have ht0 : (0 : Int) ≤ (t : Int) := Int.natCast_nonneg _
              by_cases hlt : t < os.length
              · have ht8 : (t : Int) < os.length := by omega
                obtain ⟨x, hx⟩ : ∃ x, os[t]? = some x := ⟨_, List.getElem?_eq_getElem hlt⟩
                obtain ⟨b2, o2, rfl, hbl2, hrow2⟩ := (HQ2.out.keep HB.out).at_ icells_length hx
                have e2 := rowI hrow2
                have HX := Lib.hid hx
                have HH := Lib.hid (l00Has_any ns x A1 c1 wv hl1 (HQ1.out.keep HB.out))
                clear hx hrow2
                cases hv : decide (x ∈ ns)
                · rw [hv] at HH
                  have E2 := Lib.hid (rv_not H00.out (allU_no HX.out hv))
                  clear hv
                  go_wp2_with fail
                  refine HH.out.mono ?_
                  rintro e w1 ⟨rfl, rfl⟩
                  clear HH
                  have HB9 := Lib.hid (HB.out.alloc HB.out.size (.cells #[] 68))
                  have HO9 := Lib.hid (empty_ownB wv w.heap.size HB.out.size)
                  go_wp2
                  first | go_ret2 | skip
                  refine ⟨_, by (rw [E2.out.2]; first | done | rfl), ?_, HB9.out⟩
                  rw [E2.out.1]
                  exact HO9.out
                · rw [hv] at HH
                  have hm : x ∈ ns := of_decide_eq_true hv
                  have HV := Lib.hid hv
                  have HWh := Lib.hid (l07Where_any ns h8 x hm A1 c1 wv (HQ1.out.keep HB.out))
                  have hwl := wb_len hm
                  obtain ⟨q, hq⟩ : ∃ q, wb ns x = q := ⟨_, rfl⟩
                  rw [hq] at HWh hwl
                  have hqb : q < bs.length := by rw [HEq.out]; exact hwl
                  obtain ⟨⟨bx, by_⟩, hbx⟩ : ∃ b, bs[q]? = some b := ⟨_, List.getElem?_eq_getElem hqb⟩
                  have HSt : Hid (rvL ns os bs (t + 1) = rvL ns os bs t ++ [(bx, by_)]) := rvL_succ HX.out (by rw [hq]; exact hbx)
                  obtain ⟨b3, o3, rfl, hbl3, hrow3⟩ := (HQ3.out.keep HB.out).at_ bcells_length hbx
                  have HRow := Lib.hid hrow3
                  have hq0 : (0 : Int) ≤ (q : Int) := Int.natCast_nonneg _
                  have hq8 : (q : Int) < bs.length := by omega
                  clear hv hm hq hbx hrow3 hwl
                  go_wp2_with fail
                  refine HH.out.mono ?_
                  rintro e w1 ⟨rfl, rfl⟩
                  clear HH
                  go_wp2_with fail
                  refine HWh.out.mono ?_
                  rintro e w1 ⟨rfl, rfl⟩
                  clear HWh
                  go_wp2_with (first
                    | (refine wpList_load_mid rfl 68 (.tmp 84) rfl b3 (o3 + q * 2) rfl [.int .u8 bx, .int .i16 by_] _ HRow.out Tryd.underlying68 rfl Tryd.sizeBI9 ?_)
                    | (at_builtin; refine wpList_append_own _ rfl (.tmp 76) (.tmp 86) 38 rfl w.heap.size 68 i0 (.agg #[.int .u8 0, .int .i16 0]) 2 4 Tryd.underlying38 HI.out HZ0.out HZ1.out HZ2.out rfl (by decide) _ _ _ rfl (HO.out.alloc _) ⟨wv.heap.size, 0, none⟩ 1 1 [.int .u8 bx, .int .i16 by_] rfl rfl ?f1 ?f2 ?f3 ?f4 ?f5 ?_))
                  case f1 => exact cell_bot_new _ _ _ _
                  case f2 => simp [Value.oneCell']
                  case f3 => unfold maxLen; omega
                  case f4 => omega
                  case f5 => have := HB.out.size; simp; omega
                  intro v' w8 hown' hgrow _
                  have hown8 : w8.ownsRow w.heap.size 68 2 v' (t + 1) ((rvL ns os bs (t + 1)).flatMap bcells) := by rw [HSt.out, List.flatMap_append]; exact hown'
                  obtain ⟨A8, c8, rfl⟩ : ∃ A8 c8, v' = .slice A8 (t + 1) c8 := by
                    rcases hown8.2 with ⟨h1, h2⟩ | ⟨g, cap, cur, h1, -⟩
                    · exact ⟨_, _, by rw [h1, h2]⟩
                    · exact ⟨_, _, h1⟩
                  have HO8 := Lib.hid hown8
                  have HB8 : Hid (Below w.heap.size w w8) := (HB.out.alloc HB.out.size _).grown hgrow (by have := HB.out.size; simp; omega) (fun r e => (HO.out.lt r e).1)
                  have HT8 := Lib.hid (HT2.out.step HX.out HV.out)
                  clear hown' hown8 hgrow
                  go_wp2
                  go_roundw
                  case rel => exact ⟨t + 1, A8, c8, by omega, by go_num, rfl, HT8.out, HO8.out, HB8.out⟩
                  case measure => simp [intOf]; omega
              · obtain rfl : t = os.length := by omega
                have E2 := Lib.hid (rv_yes H00.out HT2.out.all)
                have HLn := Lib.hid (rvL_len ns os bs (Nat.le_refl os.length))
                go_wp2
                go_ret2
                refine ⟨_, by (rw [E2.out.2]; first | done | rfl), ?_, HB.out⟩
                rw [E2.out.1, HLn.out]
                exact HO.out
end Go.Proofs.YtfmfgpipklmecabDoor

namespace Go.Proofs.YtfmfgpipklmecabDoor
open Go.ChangeShapes Go.WideShapes Go.ChangeAt Go.RowKit Go.Deep

theorem nil_ownBo (w : World) (b : Nat) : w.ownsRow b 68 2 (.slice none 0 0) ([] : List Bot).length (([] : List Bot).flatMap bcells) := ⟨rfl, .inl ⟨rfl, rfl⟩⟩
theorem bot_new2 (W : World) (x y : Int) (t : TypeId) : ∀ j u, [Value.int .u8 x, Value.int .i16 y][j]? = some u → (W.alloc (.cells #[.int .u8 x, .int .i16 y] t)).cell? ((⟨W.heap.size, 0, none⟩ : Addr).add j) = some u := by
  intro j u hj
  have hK : Rs (W.alloc (.cells #[.int .u8 x, .int .i16 y] t)) W.heap.size t bcells [(x, y)] := by
    have := Blk.new W t #[Value.int .u8 x, Value.int .i16 y]
    simpa [Rs, bcells] using this
  match j, hj with
  | 0, hj => simp at hj; subst hj; exact Rs.range hK 0 _ (by simp [bcells])
  | 1, hj => simp at hj; subst hj; have := Rs.range hK 1 (.int .i16 y) (by simp [bcells]); simp [Addr.add]
def idxI (ns : List Int) (x : Int) : Int := if x ∈ ns then ((wb ns x : Nat) : Int) else -1
theorem rowB2 {w : World} {b o k : Nat} {x y : Int} (h : w.rangeAt b (o + k * 2) (bcells (x, y))) : w.cell? ⟨b, o + k * 2, none⟩ = some (.int .u8 x) ∧ w.cell? ⟨b, o + k * 2 + 1, none⟩ = some (.int .i16 y) :=
  ⟨by simpa using h 0 _ rfl, h 1 _ rfl⟩
theorem wb_is {ns : List Int} {x : Int} {k : Nat} (h : ns[k]? = some x) (hb : ∀ (j : Nat) (y : Int), j < k → ns[j]? = some y → y ≠ x) : wb ns x = k := by
  have hm := List.mem_of_getElem? h
  rcases Nat.lt_trichotomy (wb ns x) k with e | e | e
  · exact absurd rfl (hb _ _ e (wb_at hm))
  · exact e
  · have := wb_no e h
    simp at this

set_option maxRecDepth 100000 in
set_option maxHeartbeats 4000000 in
theorem checkEachBo_any (xs : List Bot) (A : Option Addr) (c : Nat) (ad : Nat → Addr) (w : World) (hl : xs.length ≤ 1048576) (hr : Rd w w.heap.size bcells A xs) (hE : EW 7 w ad) :
    Calls Tryd.prog 46 #[.slice A xs.length c, .func (.func 47) #[] #[]] w fun e w' => e = .returned (erO ad (chk 5 (xs.all vB))) ∧ Below w.heap.size w w' := by
  have HR := Lib.hid hr
  have HE := Lib.hid hE
  clear hr hE
  go_enter Tryd.func46, Tryd.ntmps46
  go_wp2_with fail
  go_loopw [9] (fun i wr => ∃ (k : Nat), k ≤ xs.length ∧ i = .int .i64 k ∧ AllU vB xs k ∧ Below w.heap.size w wr) (fun i _ => xs.length - (intOf i).toNat)
  case atStart => exact ⟨0, by omega, rfl, AllU.zero _ _, Below.refl _ _⟩
  case round =>
    obtain ⟨k, hk, rfl, hT, hB⟩ := hrel
    have HT := Lib.hid hT
    have HB := Lib.hid hB
    clear hT hB
    by_cases hlt : k < xs.length
    · obtain ⟨⟨bo, ct⟩, hx⟩ : ∃ x, xs[k]? = some x := ⟨_, List.getElem?_eq_getElem hlt⟩
      obtain ⟨b, o, rfl, hbl, hrow⟩ := (HR.out.below (Nat.le_refl _) HB.out).at_ bcells_length hx
      obtain ⟨e0, e1⟩ := rowB2 hrow
      have HX := Lib.hid hx
      have hk0 : (0 : Int) ≤ (k : Int) := Int.natCast_nonneg _
      have hk8 : (k : Int) < xs.length := by omega
      have HA : Hid (Below w.heap.size w (wr.alloc (.cells #[.int .u8 bo, .int .i16 ct] 68))) := HB.out.alloc HB.out.size _
      clear hx hrow
      go_wp2_with fail
      refine (validBottle_any bo ct _).mono ?_
      rintro e w1 ⟨rfl, hb1⟩
      have HB1 : Hid (Below w.heap.size w w1) := HA.out.trans (hb1.mono HA.out.size)
      have c0 : w1.cell? ⟨1, 0, none⟩ = some (.iface 170 (.pointer (some (ad 5)))) := ((HE.out).below HB1.out (Nat.le_refl _)).cell 5 (by omega)
      clear hb1 HA e0 e1
      cases hv : vB (bo, ct)
      · have HV := Lib.hid hv
        clear hv
        go_wp2
        first | go_ret | skip
        exact ⟨by rw [allU_no HX.out HV.out]; rfl, HB1.out⟩
      · have HV := Lib.hid hv
        clear hv
        go_wp2
        go_roundw
        case rel => exact ⟨k + 1, by omega, by go_num, HT.out.step HX.out HV.out, HB1.out⟩
        case measure => simp [intOf]; omega
    · obtain rfl : k = xs.length := by omega
      go_wp2
      first | go_ret | skip
      exact ⟨by rw [HT.out.all]; rfl, HB.out⟩

set_option maxRecDepth 100000 in
set_option maxHeartbeats 4000000 in
theorem checkBlinds_any (ns : List Int) (bs : List Bot) (hwn : ∀ x ∈ ns, wfI x) (A A2 : Option Addr) (c c2 : Nat) (ad : Nat → Addr) (w : World) (hl : ns.length ≤ 1048576) (hl2 : bs.length ≤ 1048576) (hr : Rd w w.heap.size icells A ns) (hE : EW 7 w ad) :
    Calls Tryd.prog 48 #[.slice A ns.length c, .slice A2 bs.length c2] w fun e w' => e = .returned (erO ad (chk 0 (rvF ns bs.length))) ∧ Below w.heap.size w w' := by
  have HO := Lib.hid (eachOnce_any ns hwn A c w hl hr)
  have HCs := Lib.hid (checkSamples_any (ns.length : Int) ad w (hE.cell 0 (by omega)))
  have HE := Lib.hid hE
  have HOa := Lib.hid (once_all ns)
  have hn1 : (0 : Int) ≤ (ns.length : Int) := Int.natCast_nonneg _
  have hn2 : (0 : Int) ≤ (bs.length : Int) := Int.natCast_nonneg _
  have hol := onceTo_length ns ns.length
  rw [show (decide (1 ≤ (ns.length : Int)) && decide ((ns.length : Int) ≤ 8)) = wi 1 8 (ns.length : Int) from rfl] at HCs
  have c0 : w.cell? ⟨2, 0, none⟩ = some (.iface 170 (.pointer (some (ad 0)))) := hE.cell 0 (by omega)
  clear hr hE
  go_enter Tryd.func48, Tryd.ntmps48
  cases h1 : wi 1 8 (ns.length : Int)
  · have HF : Hid (rvF ns bs.length = false) := by show _ = _; rw [rvF, h1]; rfl
    rw [h1, chk_no, erO_some] at HCs
    clear h1
    go_wp2_with fail
    refine HCs.out.mono ?_
    rintro e w1 ⟨rfl, rfl⟩
    go_wp2
    first | go_ret | skip
    exact ⟨by rw [HF.out]; rfl, Below.refl _ _⟩
  rw [h1, chk_yes, erO_none] at HCs
  by_cases h2 : bs.length = ns.length
  rotate_left
  · have HF : Hid (rvF ns bs.length = false) := by show _ = _; rw [rvF, decide_eq_false h2]; simp
    have hne : ((ns.length : Int) == (bs.length : Int)) = false := by rw [beq_eq_false_iff_ne]; omega
    have hne2 : ((ns.length : Int) != (bs.length : Int)) = true := by rw [bne_iff_ne]; omega
    have hne3 : ¬ (ns.length : Int) = (bs.length : Int) := by omega
    clear h1 h2
    go_wp2_with fail
    refine HCs.out.mono ?_
    rintro e w1 ⟨rfl, rfl⟩
    go_wp2
    first | go_ret | skip
    exact ⟨by rw [HF.out]; rfl, Below.refl _ _⟩
  have HF : Hid (rvF ns bs.length = decide ns.Nodup) := by show _ = _; rw [rvF, h1, decide_eq_true h2]; rfl
  have heq : ((ns.length : Int) == (bs.length : Int)) = true := by rw [h2]; exact beq_self_eq_true _
  have heq2 : ((ns.length : Int) != (bs.length : Int)) = false := by rw [h2]; simp
  clear h1 h2
  go_wp2_with fail
  refine HCs.out.mono ?_
  rintro e w1 ⟨rfl, rfl⟩
  clear HCs
  go_wp2_with fail
  refine HO.out.mono ?_
  rintro e w2 ⟨v, rfl, hO, hb⟩
  obtain ⟨A3, c3, rfl, -, -⟩ := own_rd icells_length hO
  have HB := Lib.hid hb
  have c0' : w2.cell? ⟨2, 0, none⟩ = some (.iface 170 (.pointer (some (ad 0)))) := ((HE.out).below hb (Nat.le_refl _)).cell 0 (by omega)
  obtain ⟨q, hq⟩ : ∃ q, (onceTo ns ns.length).length = q := ⟨_, rfl⟩
  rw [hq] at HOa hol ⊢
  clear hO hb hq HO c0 heq heq2
  by_cases hlt : q < ns.length
  · have hlt' : (q : Int) < (ns.length : Int) := by omega
    have HN : Hid (rvF ns bs.length = false) := by
      have h := HOa.out
      rw [decide_eq_true hlt] at h
      show _ = _
      rw [HF.out]
      revert h; cases decide ns.Nodup <;> simp
    clear HOa HF
    go_wp2
    first | go_ret | skip
    exact ⟨by rw [HN.out]; rfl, HB.out⟩
  · have hlt' : ¬ (q : Int) < (ns.length : Int) := by omega
    have HN : Hid (rvF ns bs.length = true) := by
      have h := HOa.out
      rw [decide_eq_false hlt] at h
      show _ = _
      rw [HF.out]
      revert h; cases decide ns.Nodup <;> simp
    clear HOa HF
    go_wp2
    first | go_ret | skip
    exact ⟨by rw [HN.out]; rfl, HB.out⟩

set_option maxHeartbeats 2000000 in
theorem checkRevealed_any (n : Nat) (hn : n ≤ 1048576) (A : Option Addr) (c : Nat) (ad : Nat → Addr) (w : World) (hE : EW 7 w ad) :
    Calls Tryd.prog 49 #[.slice A n c] w fun e w' => e = .returned (erO ad (chk 1 (decide (n ≤ 100)))) ∧ w = w' := by
  have c1 : w.cell? ⟨3, 0, none⟩ = some (.iface 170 (.pointer (some (ad 1)))) := hE.cell 1 (by omega)
  have hn0 : (0 : Int) ≤ (n : Int) := Int.natCast_nonneg _
  clear hE
  go_enter Tryd.func49, Tryd.ntmps49
  by_cases h : n ≤ 100
  · have h' : ¬ (100 : Int) < (n : Int) := by omega
    rw [decide_eq_true h, chk_yes, erO_none]
    go_wp2
    first | go_ret | skip
    exact ⟨rfl, rfl⟩
  · have h' : (100 : Int) < (n : Int) := by omega
    rw [decide_eq_false h, chk_no, erO_some]
    go_wp2
    first | go_ret | skip
    exact ⟨rfl, rfl⟩

set_option maxRecDepth 100000 in
set_option maxHeartbeats 2000000 in
theorem indexI_any (ns : List Int) (hl : ns.length ≤ 1048576) (x : Int) (A : Option Addr) (c : Nat) (w : World) (hr : Rd w w.heap.size icells A ns) :
    Calls Tryd.prog 39 #[.slice A ns.length c, .int .i64 x] w fun e w' => e = .returned (.int .i64 (idxI ns x)) ∧ w = w' := by
  have HR := Lib.hid hr
  clear hr
  have hn0 : (0 : Int) ≤ (ns.length : Int) := Int.natCast_nonneg _
  go_enter Tryd.func39, Tryd.ntmps39
  go_wp2_with fail
  go_loopw [8] (fun i wr => ∃ (k : Nat), k ≤ ns.length ∧ i = .int .i64 k ∧ (∀ (j : Nat) (y : Int), j < k → ns[j]? = some y → y ≠ x) ∧ w = wr) (fun i _ => ns.length - (intOf i).toNat)
  case atStart => exact ⟨0, by omega, rfl, fun j y h => absurd h (Nat.not_lt_zero _), rfl⟩
  case round =>
    obtain ⟨k, hk, rfl, hT, rfl⟩ := hrel
    have HT := Lib.hid hT
    clear hT
    have hk0 : (0 : Int) ≤ (k : Int) := Int.natCast_nonneg _
    by_cases hlt : k < ns.length
    · obtain ⟨y, hy⟩ : ∃ y, ns[k]? = some y := ⟨_, List.getElem?_eq_getElem hlt⟩
      obtain ⟨b, o, rfl, hbl, hrow⟩ := HR.out.at_ icells_length hy
      have e1 := rowI hrow
      have hk8 : (k : Int) < ns.length := by omega
      have HY := Lib.hid hy
      clear hy hrow
      by_cases hxy : y = x
      · subst hxy
        have HV : Hid (idxI ns y = k) := by
          show _ = _
          rw [idxI, if_pos (List.mem_of_getElem? HY.out), wb_is HY.out HT.out]
        go_wp2
        first | go_ret | skip
        exact ⟨by rw [HV.out]; first | done | rfl, rfl⟩
      · have hne : (x == y) = false := by rw [beq_eq_false_iff_ne]; exact fun e => hxy e.symm
        have hne2 : ¬ x = y := fun e => hxy e.symm
        have HT2 : Hid (∀ (j : Nat) (z : Int), j < k + 1 → ns[j]? = some z → z ≠ x) := fun j z hj hz => by
          by_cases e : j = k
          · subst e
            obtain rfl := Option.some.inj (HY.out.symm.trans hz)
            exact hxy
          · exact HT.out j z (by omega) hz
        go_wp2
        go_roundw
        case rel => exact ⟨k + 1, by omega, by go_num, HT2.out, by first | rfl | trivial⟩
        case measure => simp [intOf]; omega
    · obtain rfl : k = ns.length := by omega
      have HV : Hid (idxI ns x = -1) := by
        show _ = _
        rw [idxI, if_neg (fun hm => by
          obtain ⟨j, hj, e⟩ := List.mem_iff_getElem.1 hm
          exact HT.out j _ hj (List.getElem?_eq_getElem hj) e)]
      go_wp2
      first | go_ret | skip
      exact ⟨by rw [HV.out]; first | done | rfl, rfl⟩

set_option maxRecDepth 100000 in
set_option maxHeartbeats 8000000 in
theorem implReveal_any (ns os : List Int) (bs : List Bot) (hwn : ∀ x ∈ ns, wfI x) (A1 A2 A3 : Option Addr) (c1 c2 c3 : Nat) (ad : Nat → Addr) (w : World) (hl1 : ns.length ≤ 1048576) (hl2 : os.length ≤ 1048576) (hl3 : bs.length ≤ 1048576) (hr1 : Rd w w.heap.size icells A1 ns) (hr2 : Rd w w.heap.size icells A2 os) (hr3 : Rd w w.heap.size bcells A3 bs) (hE : EW 7 w ad) :
    Calls Tryd.prog 22 #[.slice A1 ns.length c1, .slice A2 os.length c2, .slice A3 bs.length c3] w fun e w' => ∃ v, e = .returned (.tuple #[v, .int .i64 (rvC ns os bs)]) ∧ w'.ownsRow w.heap.size 68 2 v (rvA ns os bs).length ((rvA ns os bs).flatMap bcells) ∧ Below w.heap.size w w' := by
  obtain ⟨i0, hi, hz0, hz1, hz2⟩ := info_parts Tryd.infoBt
  have HI := Lib.hid hi
  have HZ0 := Lib.hid hz0
  have HZ1 := Lib.hid hz1
  have HZ2 := Lib.hid hz2
  clear hi hz0 hz1 hz2
  have HQ1 := Lib.hid hr1
  have HQ2 := Lib.hid hr2
  have HQ3 := Lib.hid hr3
  have HE := Lib.hid hE
  have HC0 := Lib.hid (checkEachBo_any bs A3 c3 ad w hl3 hr3 hE)
  have HC1 : Hid (∀ W : World, Below w.heap.size w W → Calls Tryd.prog 48 #[.slice A1 ns.length c1, .slice A3 bs.length c3] W fun e w' => e = .returned (erO ad (chk 0 (rvF ns bs.length))) ∧ Below W.heap.size W w') := fun W hW => checkBlinds_any ns bs hwn A1 A3 c1 c3 ad W hl1 hl3 (HQ1.out.keep hW) (HE.out.below hW (Nat.le_refl _))
  have HC2 : Hid (∀ W : World, Below w.heap.size w W → Calls Tryd.prog 49 #[.slice A2 os.length c2] W fun e w' => e = .returned (erO ad (chk 1 (decide (os.length ≤ 100)))) ∧ W = w') := fun W hW => checkRevealed_any os.length hl2 A2 c2 ad W (HE.out.below hW (Nat.le_refl _))
  have HF : Hid (firstO [chk 5 (bs.all vB), chk 0 (rvF ns bs.length), chk 1 (decide (os.length ≤ 100))] = rvE0 ns os bs) := rfl
  have hn2 : (0 : Int) ≤ (os.length : Int) := Int.natCast_nonneg _
  clear hr1 hr2 hr3 hE hwn
  obtain ⟨v0, hv0⟩ : ∃ v, erO ad (chk 5 (bs.all vB)) = v := ⟨_, rfl⟩
  have HV0 := Lib.hid hv0
  have P0 : Hid (isE v0) := by show isE v0; rw [← hv0]; exact erO_isE _ _
  rw [hv0] at HC0
  obtain ⟨v1, hv1⟩ : ∃ v, erO ad (chk 0 (rvF ns bs.length)) = v := ⟨_, rfl⟩
  have HV1 := Lib.hid hv1
  have P1 : Hid (isE v1) := by show isE v1; rw [← hv1]; exact erO_isE _ _
  rw [hv1] at HC1
  obtain ⟨v2, hv2⟩ : ∃ v, erO ad (chk 1 (decide (os.length ≤ 100))) = v := ⟨_, rfl⟩
  have HV2 := Lib.hid hv2
  have P2 : Hid (isE v2) := by show isE v2; rw [← hv2]; exact erO_isE _ _
  rw [hv2] at HC2
  clear hv0 hv1 hv2
  go_enter Tryd.func22, Tryd.ntmps22
  go_wp2_with fail
  refine HC0.out.mono ?_
  rintro e w1 ⟨rfl, hb⟩
  have HB1 := Lib.hid hb
  have HC1' := Lib.hid (HC1.out w1 hb)
  clear HC0 HC1 hb
  go_wp2_with fail
  refine HC1'.out.mono ?_
  rintro e w2 ⟨rfl, hb⟩
  have HB2 := Lib.hid (HB1.out.trans (hb.mono HB1.out.size))
  have HC2' := Lib.hid (HC2.out w2 HB2.out)
  clear HC1' hb HC2 HB1
  go_wp2_with fail
  refine HC2'.out.mono ?_
  rintro e w3 ⟨rfl, rfl⟩
  clear HC2'
  go_wp2_with (refine wpList_threeErrs rfl (.tmp 14) (.tmp 17) (.tmp 19) rfl P0.out P1.out P2.out rfl rfl rfl ?_)
  have q0 := cells3 w2 v0 v1 v2 51 0 v0 rfl
  have q1 := cells3 w2 v0 v1 v2 51 1 v1 rfl
  have q2 := cells3 w2 v0 v1 v2 51 2 v2 rfl
  rw [← HV0.out, ← HV1.out, ← HV2.out] at q0 q1 q2 ⊢
  refine (firstErr3_O ad _ _ _ _ _ _ q0 q1 q2).mono ?_
  rintro e w9 ⟨rfl, rfl⟩
  rw [HV0.out, HV1.out, HV2.out, HF.out]
  have L2 : Below w.heap.size w (w2.alloc (.cells #[v0, v1, v2] 51)) := HB2.out.alloc HB2.out.size _
  obtain ⟨w3, hw3⟩ : ∃ w3, w2.alloc (.cells #[v0, v1, v2] 51) = w3 := ⟨_, rfl⟩
  rw [hw3] at L2 ⊢
  have M2 := Lib.hid L2
  clear q0 q1 q2 hw3 L2 HB2 HV0 HV1 HV2 P0 P1 P2 HF
  cases ho : rvE0 ns os bs with
  | some i =>
    have E2 := Lib.hid (rv_some ho)
    have HCd := Lib.hid (codeOf_O (HE.out.below M2.out (Nat.le_refl _)) i (rv_some ho).2.2)
    rw [erO_some]
    clear ho
    go_wp2_with fail
    refine HCd.out.mono ?_
    rintro e w4 ⟨rfl, rfl⟩
    go_wp2
    go_ret2
    refine ⟨_, by (rw [E2.out.2.1]; first | done | rfl), ?_, M2.out⟩
    rw [E2.out.1]
    exact nil_ownBo _ _
  | none =>
    have H00 := Lib.hid ho
    obtain ⟨-, hF, h100⟩ := rv_parts ho
    obtain ⟨hn18, hEq, -⟩ := rvF_iff hF
    have HEq := Lib.hid hEq
    have HO0 : Hid (w3.ownsRow w.heap.size 68 2 (.slice none 0 0) 0 ((rvL ns os bs 0).flatMap bcells)) := nil_ownBo _ _
    rw [erO_none]
    clear ho hF hEq
    go_wp2_with fail
    go_loopw [9, 28] (fun v i wr => ∃ (t : Nat) (A9 : Option Addr) (c9 : Nat), t ≤ os.length ∧ i = .int .i64 t ∧ v = .slice A9 t c9 ∧ AllU (fun x => decide (x ∈ ns)) os t ∧ wr.ownsRow w.heap.size 68 2 (.slice A9 t c9) t ((rvL ns os bs t).flatMap bcells) ∧ Below w.heap.size w wr) (fun _ i _ => os.length - (intOf i).toNat)
    case atStart => exact ⟨0, _, _, by omega, rfl, rfl, AllU.zero _ _, HO0.out, M2.out⟩
    case round =>
      clear HO0 M2
      obtain ⟨t, A9, c9, ht, rfl, rfl, hT, hO, hB⟩ := hrel
      obtain ⟨wv, rfl⟩ : ∃ u, u = wr := ⟨_, rfl⟩
      have HT2 := Lib.hid hT
      have HO := Lib.hid hO
      have HB := Lib.hid hB
      clear hT hO hB
      have ht0 : (0 : Int) ≤ (t : Int) := Int.natCast_nonneg _
      by_cases hlt : t < os.length
      · have ht8 : (t : Int) < os.length := by omega
        obtain ⟨x, hx⟩ : ∃ x, os[t]? = some x := ⟨_, List.getElem?_eq_getElem hlt⟩
        obtain ⟨b2, o2, rfl, hbl2, hrow2⟩ := (HQ2.out.keep HB.out).at_ icells_length hx
        have e2 := rowI hrow2
        have HX := Lib.hid hx
        have HH := Lib.hid (indexI_any ns hl1 x A1 c1 wv (HQ1.out.keep HB.out))
        clear hx hrow2
        by_cases hm : x ∈ ns
        rotate_left
        · have E2 := Lib.hid (rv_not H00.out (allU_no HX.out (decide_eq_false hm)))
          rw [idxI, if_neg hm] at HH
          have c4 : wv.cell? ⟨0, 0, none⟩ = some (.iface 170 (.pointer (some (ad 4)))) := (HE.out.below HB.out (Nat.le_refl _)).cell 4 (by omega)
          have HCd := Lib.hid (codeOf_O (HE.out.below HB.out (Nat.le_refl _)) 4 (by omega))
          clear hm
          go_wp2_with fail
          refine HH.out.mono ?_
          rintro e w1 ⟨rfl, rfl⟩
          clear HH
          go_wp2_with fail
          refine HCd.out.mono ?_
          rintro e w4 ⟨rfl, rfl⟩
          go_wp2
          first | go_ret2 | skip
          refine ⟨_, by (rw [E2.out.2]; first | done | rfl), ?_, HB.out⟩
          rw [E2.out.1]
          exact nil_ownBo _ _
        · rw [idxI, if_pos hm] at HH
          have HV := Lib.hid (show (fun x => decide (x ∈ ns)) x = true from decide_eq_true hm)
          have hwl := wb_len hm
          obtain ⟨q, hq⟩ : ∃ q, wb ns x = q := ⟨_, rfl⟩
          rw [hq] at HH hwl
          have hqb : q < bs.length := by rw [HEq.out]; exact hwl
          obtain ⟨⟨bx, by_⟩, hbx⟩ : ∃ b, bs[q]? = some b := ⟨_, List.getElem?_eq_getElem hqb⟩
          have HSt : Hid (rvL ns os bs (t + 1) = rvL ns os bs t ++ [(bx, by_)]) := rvL_succ HX.out (by rw [hq]; exact hbx)
          obtain ⟨b3, o3, rfl, hbl3, hrow3⟩ := (HQ3.out.keep HB.out).at_ bcells_length hbx
          have HRow := Lib.hid hrow3
          have hq0 : (0 : Int) ≤ (q : Int) := Int.natCast_nonneg _
          have hqn : ¬ (q : Int) < 0 := by omega
          have hq8 : (q : Int) < bs.length := by omega
          clear hm hq hbx hrow3 hwl
          go_wp2_with fail
          refine HH.out.mono ?_
          rintro e w1 ⟨rfl, rfl⟩
          clear HH
          go_wp2_with (first
            | (refine wpList_load_mid rfl 68 (.tmp 42) rfl b3 (o3 + q * 2) rfl [.int .u8 bx, .int .i16 by_] _ HRow.out Tryd.underlying68 rfl Tryd.sizeBt ?_)
            | (at_builtin; refine wpList_append_own _ rfl (.tmp 39) (.tmp 44) 38 rfl w.heap.size 68 i0 (.agg #[.int .u8 0, .int .i16 0]) 2 4 Tryd.underlying38 HI.out HZ0.out HZ1.out HZ2.out rfl (by decide) _ _ _ rfl (HO.out.alloc _) ⟨wv.heap.size, 0, none⟩ 1 1 [.int .u8 bx, .int .i16 by_] rfl rfl ?f1 ?f2 ?f3 ?f4 ?f5 ?_))
          case f1 => exact bot_new2 _ _ _ _
          case f2 => simp [Value.oneCell']
          case f3 => unfold maxLen; omega
          case f4 => omega
          case f5 => have := HB.out.size; simp; omega
          intro v' w8 hown' hgrow _
          have hown8 : w8.ownsRow w.heap.size 68 2 v' (t + 1) ((rvL ns os bs (t + 1)).flatMap bcells) := by rw [HSt.out, List.flatMap_append]; exact hown'
          obtain ⟨A8, c8, rfl⟩ : ∃ A8 c8, v' = .slice A8 (t + 1) c8 := by
            rcases hown8.2 with ⟨h1, h2⟩ | ⟨g, cap, cur, h1, -⟩
            · exact ⟨_, _, by rw [h1, h2]⟩
            · exact ⟨_, _, h1⟩
          have HO8 := Lib.hid hown8
          have HB8 : Hid (Below w.heap.size w w8) := (HB.out.alloc HB.out.size _).grown hgrow (by have := HB.out.size; simp; omega) (fun r e => (HO.out.lt r e).1)
          have HT8 := Lib.hid (HT2.out.step HX.out HV.out)
          clear hown' hown8 hgrow
          go_wp2
          go_roundw
          case rel => exact ⟨t + 1, A8, c8, by omega, by go_num, rfl, HT8.out, HO8.out, HB8.out⟩
          case measure => simp [intOf]; omega
      · obtain rfl : t = os.length := by omega
        have E2 := Lib.hid (rv_yes H00.out HT2.out.all)
        have HLn := Lib.hid (rvL_len ns os bs (Nat.le_refl os.length))
        go_wp2
        go_ret2
        refine ⟨_, by (rw [E2.out.2]; first | done | rfl), ?_, HB.out⟩
        rw [E2.out.1, HLn.out]
        exact HO.out
end Go.Proofs.YtfmfgpipklmecabDoor

namespace Go.Proofs.YtfmfgpipklmecabDoor
open Go.ChangeShapes Go.WideShapes Go.ChangeAt Go.RowKit Go.Deep

set_option maxRecDepth 100000 in
set_option maxHeartbeats 4000000 in
theorem rv7Law_any (ns : List Int) (os : List Int) (bs : List Bot) (A1 : Option Addr) (c1 : Nat) (A2 : Option Addr) (c2 : Nat) (A3 : Option Addr) (c3 : Nat) (ad : Nat → Addr) (w : World) (hl0 : ns.length ≤ 9223372036854775807) (hr0 : Rd w w.heap.size icells A1 ns) (hw0 : ∀ x ∈ ns, wfI x) (hl1 : os.length ≤ 9223372036854775807) (hr1 : Rd w w.heap.size icells A2 os) (hw1 : ∀ x ∈ os, wfI x) (hl2 : bs.length ≤ 9223372036854775807) (hr2 : Rd w w.heap.size bcells A3 bs) (hw2 : ∀ x ∈ bs, wfB x) (hE : EW 7 w ad) :
    Calls Tryd.prog 5 #[.slice A1 ns.length c1, .slice A2 os.length c2, .slice A3 bs.length c3] w (Good w) := by
  have HR0 := Lib.hid hr0
  have HW0 := Lib.hid hw0
  have HR1 := Lib.hid hr1
  have HW1 := Lib.hid hw1
  have HR2 := Lib.hid hr2
  have HW2 := Lib.hid hw2
  have HE := Lib.hid hE
  clear hE
  clear hr0 hw0 hr1 hw1 hr2 hw2
  go_enter Tryd.func5, Tryd.ntmps5
  by_cases hq0 : (1048576 : Int) < ns.length
  · go_wp2
    go_ret
    exact ⟨rfl, (Below.refl _ _)⟩
  have hm0 : ns.length ≤ 1048576 := by omega
  by_cases hq1 : (1048576 : Int) < os.length
  · go_wp2
    go_ret
    exact ⟨rfl, (Below.refl _ _)⟩
  have hm1 : os.length ≤ 1048576 := by omega
  go_wp2_with fail
  refine (szBottleS_any A3 bs.length c3 (1048576) hl2 ⟨by omega, by omega⟩ _).mono ?_
  rintro e w' ⟨rfl, rfl⟩
  by_cases hn2 : (1048576 : Int) < bs.length
  · rw [if_pos hn2]
    go_wp2
    go_ret
    exact ⟨rfl, (Below.refl _ _)⟩
  rw [if_neg hn2]
  have hz2 : (0 : Int) ≤ 1048576 - bs.length := by omega
  have hm2 : bs.length ≤ 1048576 := by omega
  have HB_0 : Hid (Below w.heap.size w w) := Below.refl _ _
  go_wp2_with fail
  refine (toInt64S_any ns A1 c1 _ hm0 (HR0.out.keep HB_0.out)).mono ?_
  rintro e w1 ⟨rfl, hR, hb⟩
  have HB_1 : Hid (Below w.heap.size w w1) := HB_0.out.trans (hb.mono HB_0.out.size)
  clear hb HB_0
  have Y0_1 : Hid (Rs w1 w.heap.size 2 icells ns) := hR
  clear hR
  go_wp2_with fail
  refine (toInt64S_any os A2 c2 _ hm1 (HR1.out.keep HB_1.out)).mono ?_
  rintro e w2 ⟨rfl, hR, hb⟩
  have HB_2 : Hid (Below w.heap.size w w2) := HB_1.out.trans (hb.mono HB_1.out.size)
  have Y0_2 : Hid (Rs w2 w.heap.size 2 icells ns) := Blk.keep Y0_1.out hb
  clear hb HB_1 Y0_1
  have Y1_2 : Hid (Rs w2 w1.heap.size 2 icells os) := hR
  clear hR
  go_wp2_with fail
  refine (toBottleS_any bs A3 c3 _ hm2 (HR2.out.keep HB_2.out)).mono ?_
  rintro e w3 ⟨rfl, hR, hb⟩
  have HB_3 : Hid (Below w.heap.size w w3) := HB_2.out.trans (hb.mono HB_2.out.size)
  have Y0_3 : Hid (Rs w3 w.heap.size 2 icells ns) := Blk.keep Y0_2.out hb
  have Y1_3 : Hid (Rs w3 w1.heap.size 2 icells os) := Blk.keep Y1_2.out hb
  clear hb HB_2 Y0_2 Y1_2
  have Y2_3 : Hid (Rs w3 w2.heap.size 68 bcells bs) := hR
  clear hR
  go_wp2_with fail
  refine (specReveal_any ns os bs HW2.out _ _ _ _ _ _ _ hm0 hm1 hm2 (Nat.le_refl _) (Y0_3.out.rd Y0_3.out.lt) (Y1_3.out.rd Y1_3.out.lt) (Y2_3.out.rd Y2_3.out.lt)).mono ?_
  rintro e w4 ⟨v0, rfl, hO0, hb⟩
  clear Y0_3
  clear Y1_3
  clear Y2_3
  have HB_4 : Hid (Below w.heap.size w w4) := HB_3.out.trans (hb.mono HB_3.out.size)
  clear hb HB_3
  obtain ⟨Av0, cv0, rfl, -, hrv0⟩ := own_rd bcells_length hO0
  have RV0 : Hid (Rd w4 w4.heap.size bcells Av0 (rvA ns os bs)) := hrv0
  clear hO0 hrv0
  have HV_4 : Hid (Below w4.heap.size w4 w4) := Below.refl _ _
  obtain ⟨cd0, hcd0⟩ : ∃ c, rvC ns os bs = c := ⟨_, rfl⟩
  have HCD0 := Lib.hid hcd0
  clear hcd0
  rw [HCD0.out]
  go_wp2_with fail
  refine (toInt64S_any ns A1 c1 _ hm0 (HR0.out.keep HB_4.out)).mono ?_
  rintro e w5 ⟨rfl, hR, hb⟩
  have LE0 : Hid (w.heap.size ≤ w4.heap.size) := HB_4.out.size
  have LE1 : Hid (w4.heap.size ≤ w4.heap.size) := HV_4.out.size
  have HB_5 : Hid (Below w.heap.size w w5) := HB_4.out.trans (hb.mono HB_4.out.size)
  have HV_5 : Hid (Below w4.heap.size w4 w5) := HV_4.out.trans (hb.mono HV_4.out.size)
  clear hb HB_4 HV_4
  have X0_5 : Hid (Rs w5 w4.heap.size 2 icells ns) := hR
  clear hR
  go_wp2_with fail
  refine (toInt64S_any os A2 c2 _ hm1 (HR1.out.keep HB_5.out)).mono ?_
  rintro e w6 ⟨rfl, hR, hb⟩
  have LE2 : Hid (w.heap.size ≤ w5.heap.size) := HB_5.out.size
  have LE3 : Hid (w4.heap.size ≤ w5.heap.size) := HV_5.out.size
  have LE4 : Hid (w4.heap.size < w5.heap.size) := X0_5.out.lt
  have HB_6 : Hid (Below w.heap.size w w6) := HB_5.out.trans (hb.mono HB_5.out.size)
  have HV_6 : Hid (Below w4.heap.size w4 w6) := HV_5.out.trans (hb.mono HV_5.out.size)
  have X0_6 : Hid (Rs w6 w4.heap.size 2 icells ns) := Blk.keep X0_5.out hb
  clear hb HB_5 HV_5 X0_5
  have X1_6 : Hid (Rs w6 w5.heap.size 2 icells os) := hR
  clear hR
  go_wp2_with fail
  refine (toBottleS_any bs A3 c3 _ hm2 (HR2.out.keep HB_6.out)).mono ?_
  rintro e w7 ⟨rfl, hR, hb⟩
  have LE5 : Hid (w.heap.size ≤ w6.heap.size) := HB_6.out.size
  have LE6 : Hid (w4.heap.size ≤ w6.heap.size) := HV_6.out.size
  have LE7 : Hid (w4.heap.size < w6.heap.size) := X0_6.out.lt
  have LE8 : Hid (w5.heap.size < w6.heap.size) := X1_6.out.lt
  have HB_7 : Hid (Below w.heap.size w w7) := HB_6.out.trans (hb.mono HB_6.out.size)
  have HV_7 : Hid (Below w4.heap.size w4 w7) := HV_6.out.trans (hb.mono HV_6.out.size)
  have X0_7 : Hid (Rs w7 w4.heap.size 2 icells ns) := Blk.keep X0_6.out hb
  have X1_7 : Hid (Rs w7 w5.heap.size 2 icells os) := Blk.keep X1_6.out hb
  clear hb HB_6 HV_6 X0_6 X1_6
  have X2_7 : Hid (Rs w7 w6.heap.size 68 bcells bs) := hR
  clear hR
  go_wp2_with fail
  refine (implReveal_any ns os bs HW0.out _ _ _ _ _ _ ad _ hm0 hm1 hm2 (X0_7.out.rd X0_7.out.lt) (X1_7.out.rd X1_7.out.lt) (X2_7.out.rd X2_7.out.lt) (HE.out.below HB_7.out (Nat.le_refl _))).mono ?_
  rintro e w8 ⟨g0, rfl, hO0, hb⟩
  have LE9 : Hid (w.heap.size ≤ w7.heap.size) := HB_7.out.size
  have LE10 : Hid (w4.heap.size ≤ w7.heap.size) := HV_7.out.size
  have LE11 : Hid (w4.heap.size < w7.heap.size) := X0_7.out.lt
  have LE12 : Hid (w5.heap.size < w7.heap.size) := X1_7.out.lt
  have LE13 : Hid (w6.heap.size < w7.heap.size) := X2_7.out.lt
  have LE14 : Hid (w7.heap.size ≤ w8.heap.size) := hb.size
  have HB_8 : Hid (Below w.heap.size w w8) := HB_7.out.trans (hb.mono HB_7.out.size)
  have HV_8 : Hid (Below w4.heap.size w4 w8) := HV_7.out.trans (hb.mono HV_7.out.size)
  have X0_8 : Hid (Rs w8 w4.heap.size 2 icells ns) := Blk.keep X0_7.out hb
  have X1_8 : Hid (Rs w8 w5.heap.size 2 icells os) := Blk.keep X1_7.out hb
  have X2_8 : Hid (Rs w8 w6.heap.size 68 bcells bs) := Blk.keep X2_7.out hb
  clear hb HB_7 HV_7 X0_7 X1_7 X2_7
  rw [HCD0.out]
  obtain ⟨Ag0, cg0, rfl, -, -⟩ := own_rd bcells_length hO0
  have G0_8 := Lib.hid hO0
  clear hO0
  have hLlen := rvA_len ns os bs
  go_wp2_with fail
  refine (eqBots_same (rvA ns os bs) _ _ _ _ _ (by omega) (own_rd2 bcells_length G0_8.out) (RV0.out.keep HV_8.out)).mono ?_
  rintro e w9 ⟨rfl, hb⟩
  have HB_9 : Hid (Below w.heap.size w w9) := HB_8.out.trans (hb.mono HB_8.out.size)
  have HV_9 : Hid (Below w4.heap.size w4 w9) := HV_8.out.trans (hb.mono HV_8.out.size)
  have X0_9 : Hid (Rs w9 w4.heap.size 2 icells ns) := Blk.keep X0_8.out hb
  have X1_9 : Hid (Rs w9 w5.heap.size 2 icells os) := Blk.keep X1_8.out hb
  have X2_9 : Hid (Rs w9 w6.heap.size 68 bcells bs) := Blk.keep X2_8.out hb
  have G0_9 : Hid (w9.ownsRow w7.heap.size 68 2 (.slice Ag0 (rvA ns os bs).length cg0) (rvA ns os bs).length ((rvA ns os bs).flatMap bcells)) := own_keep' G0_8.out hb
  clear hb HB_8 HV_8 X0_8 X1_8 X2_8 G0_8
  go_wp2_with fail
  refine (toInt64S_any ns A1 c1 _ hm0 (HR0.out.keep HB_9.out)).mono ?_
  rintro e w10 ⟨rfl, hR, hb⟩
  have HB_10 : Hid (Below w.heap.size w w10) := HB_9.out.trans (hb.mono HB_9.out.size)
  have HV_10 : Hid (Below w4.heap.size w4 w10) := HV_9.out.trans (hb.mono HV_9.out.size)
  have X0_10 : Hid (Rs w10 w4.heap.size 2 icells ns) := Blk.keep X0_9.out hb
  have X1_10 : Hid (Rs w10 w5.heap.size 2 icells os) := Blk.keep X1_9.out hb
  have X2_10 : Hid (Rs w10 w6.heap.size 68 bcells bs) := Blk.keep X2_9.out hb
  have G0_10 : Hid (w10.ownsRow w7.heap.size 68 2 (.slice Ag0 (rvA ns os bs).length cg0) (rvA ns os bs).length ((rvA ns os bs).flatMap bcells)) := own_keep' G0_9.out hb
  clear hb HB_9 HV_9 X0_9 X1_9 X2_9 G0_9
  have Z0_10 : Hid (Rs w10 w9.heap.size 2 icells ns) := hR
  clear hR
  go_wp2_with fail
  refine (eqInt64S_same ns _ _ _ _ _ (by omega) (X0_10.out.rd X0_10.out.lt) (Z0_10.out.rd Z0_10.out.lt)).mono ?_
  rintro e w11 ⟨rfl, hb⟩
  clear Z0_10
  have HB_11 : Hid (Below w.heap.size w w11) := HB_10.out.trans (hb.mono HB_10.out.size)
  have HV_11 : Hid (Below w4.heap.size w4 w11) := HV_10.out.trans (hb.mono HV_10.out.size)
  have X0_11 : Hid (Rs w11 w4.heap.size 2 icells ns) := Blk.keep X0_10.out hb
  have X1_11 : Hid (Rs w11 w5.heap.size 2 icells os) := Blk.keep X1_10.out hb
  have X2_11 : Hid (Rs w11 w6.heap.size 68 bcells bs) := Blk.keep X2_10.out hb
  have G0_11 : Hid (w11.ownsRow w7.heap.size 68 2 (.slice Ag0 (rvA ns os bs).length cg0) (rvA ns os bs).length ((rvA ns os bs).flatMap bcells)) := own_keep' G0_10.out hb
  clear hb HB_10 HV_10 X0_10 X1_10 X2_10 G0_10
  go_wp2_with fail
  refine (toInt64S_any os A2 c2 _ hm1 (HR1.out.keep HB_11.out)).mono ?_
  rintro e w12 ⟨rfl, hR, hb⟩
  have HB_12 : Hid (Below w.heap.size w w12) := HB_11.out.trans (hb.mono HB_11.out.size)
  have HV_12 : Hid (Below w4.heap.size w4 w12) := HV_11.out.trans (hb.mono HV_11.out.size)
  have X0_12 : Hid (Rs w12 w4.heap.size 2 icells ns) := Blk.keep X0_11.out hb
  have X1_12 : Hid (Rs w12 w5.heap.size 2 icells os) := Blk.keep X1_11.out hb
  have X2_12 : Hid (Rs w12 w6.heap.size 68 bcells bs) := Blk.keep X2_11.out hb
  have G0_12 : Hid (w12.ownsRow w7.heap.size 68 2 (.slice Ag0 (rvA ns os bs).length cg0) (rvA ns os bs).length ((rvA ns os bs).flatMap bcells)) := own_keep' G0_11.out hb
  clear hb HB_11 HV_11 X0_11 X1_11 X2_11 G0_11
  have Z1_12 : Hid (Rs w12 w11.heap.size 2 icells os) := hR
  clear hR
  go_wp2_with fail
  refine (eqInt64S_same os _ _ _ _ _ (by omega) (X1_12.out.rd X1_12.out.lt) (Z1_12.out.rd Z1_12.out.lt)).mono ?_
  rintro e w13 ⟨rfl, hb⟩
  clear Z1_12
  have HB_13 : Hid (Below w.heap.size w w13) := HB_12.out.trans (hb.mono HB_12.out.size)
  have HV_13 : Hid (Below w4.heap.size w4 w13) := HV_12.out.trans (hb.mono HV_12.out.size)
  have X0_13 : Hid (Rs w13 w4.heap.size 2 icells ns) := Blk.keep X0_12.out hb
  have X1_13 : Hid (Rs w13 w5.heap.size 2 icells os) := Blk.keep X1_12.out hb
  have X2_13 : Hid (Rs w13 w6.heap.size 68 bcells bs) := Blk.keep X2_12.out hb
  have G0_13 : Hid (w13.ownsRow w7.heap.size 68 2 (.slice Ag0 (rvA ns os bs).length cg0) (rvA ns os bs).length ((rvA ns os bs).flatMap bcells)) := own_keep' G0_12.out hb
  clear hb HB_12 HV_12 X0_12 X1_12 X2_12 G0_12
  go_wp2_with fail
  refine (toBottleS_any bs A3 c3 _ hm2 (HR2.out.keep HB_13.out)).mono ?_
  rintro e w14 ⟨rfl, hR, hb⟩
  have HB_14 : Hid (Below w.heap.size w w14) := HB_13.out.trans (hb.mono HB_13.out.size)
  have HV_14 : Hid (Below w4.heap.size w4 w14) := HV_13.out.trans (hb.mono HV_13.out.size)
  have X0_14 : Hid (Rs w14 w4.heap.size 2 icells ns) := Blk.keep X0_13.out hb
  have X1_14 : Hid (Rs w14 w5.heap.size 2 icells os) := Blk.keep X1_13.out hb
  have X2_14 : Hid (Rs w14 w6.heap.size 68 bcells bs) := Blk.keep X2_13.out hb
  have G0_14 : Hid (w14.ownsRow w7.heap.size 68 2 (.slice Ag0 (rvA ns os bs).length cg0) (rvA ns os bs).length ((rvA ns os bs).flatMap bcells)) := own_keep' G0_13.out hb
  clear hb HB_13 HV_13 X0_13 X1_13 X2_13 G0_13
  have Z2_14 : Hid (Rs w14 w13.heap.size 68 bcells bs) := hR
  clear hR
  go_wp2_with fail
  refine (eqBots_same bs _ _ _ _ _ (by omega) (X2_14.out.rd X2_14.out.lt) (Z2_14.out.rd Z2_14.out.lt)).mono ?_
  rintro e w15 ⟨rfl, hb⟩
  clear Z2_14
  have HB_15 : Hid (Below w.heap.size w w15) := HB_14.out.trans (hb.mono HB_14.out.size)
  have HV_15 : Hid (Below w4.heap.size w4 w15) := HV_14.out.trans (hb.mono HV_14.out.size)
  have X0_15 : Hid (Rs w15 w4.heap.size 2 icells ns) := Blk.keep X0_14.out hb
  have X1_15 : Hid (Rs w15 w5.heap.size 2 icells os) := Blk.keep X1_14.out hb
  have X2_15 : Hid (Rs w15 w6.heap.size 68 bcells bs) := Blk.keep X2_14.out hb
  have G0_15 : Hid (w15.ownsRow w7.heap.size 68 2 (.slice Ag0 (rvA ns os bs).length cg0) (rvA ns os bs).length ((rvA ns os bs).flatMap bcells)) := own_keep' G0_14.out hb
  clear hb HB_14 HV_14 X0_14 X1_14 X2_14 G0_14
  have hnn0 : (0 : Int) ≤ (ns.length : Int) := Int.natCast_nonneg _
  have hnn1 : (0 : Int) ≤ (os.length : Int) := Int.natCast_nonneg _
  have hnn2 : (0 : Int) ≤ (bs.length : Int) := Int.natCast_nonneg _
  have SR := gk_rs icells_length X0_15.out
  clear X0_15
  go_wp2_with fail
  refine (mkN_any ns.length _ _ (1) _ (by omega) (by omega) SR).mono ?_
  rintro e w16 ⟨rfl, -, hg, -⟩
  clear SR
  have HB_16 : Hid (Below w.heap.size w w16) := HB_15.out.grown hg HB_15.out.size (fun k e => by obtain rfl := Option.some.inj e; have l0 := LE0.out; have l1 := LE1.out; have l2 := LE2.out; have l3 := LE3.out; have l4 := LE4.out; have l5 := LE5.out; have l6 := LE6.out; have l7 := LE7.out; have l8 := LE8.out; have l9 := LE9.out; have l10 := LE10.out; have l11 := LE11.out; have l12 := LE12.out; have l13 := LE13.out; have l14 := LE14.out; omega)
  have HV_16 : Hid (Below w4.heap.size w4 w16) := HV_15.out.grown hg HV_15.out.size (fun k e => by obtain rfl := Option.some.inj e; have l0 := LE0.out; have l1 := LE1.out; have l2 := LE2.out; have l3 := LE3.out; have l4 := LE4.out; have l5 := LE5.out; have l6 := LE6.out; have l7 := LE7.out; have l8 := LE8.out; have l9 := LE9.out; have l10 := LE10.out; have l11 := LE11.out; have l12 := LE12.out; have l13 := LE13.out; have l14 := LE14.out; omega)
  have X1_16 : Hid (Rs w16 w5.heap.size 2 icells os) := gk_blk X1_15.out hg (fun e => by have e2 := Option.some.inj e; dsimp only at e2; have l0 := LE0.out; have l1 := LE1.out; have l2 := LE2.out; have l3 := LE3.out; have l4 := LE4.out; have l5 := LE5.out; have l6 := LE6.out; have l7 := LE7.out; have l8 := LE8.out; have l9 := LE9.out; have l10 := LE10.out; have l11 := LE11.out; have l12 := LE12.out; have l13 := LE13.out; have l14 := LE14.out; omega)
  have X2_16 : Hid (Rs w16 w6.heap.size 68 bcells bs) := gk_blk X2_15.out hg (fun e => by have e2 := Option.some.inj e; dsimp only at e2; have l0 := LE0.out; have l1 := LE1.out; have l2 := LE2.out; have l3 := LE3.out; have l4 := LE4.out; have l5 := LE5.out; have l6 := LE6.out; have l7 := LE7.out; have l8 := LE8.out; have l9 := LE9.out; have l10 := LE10.out; have l11 := LE11.out; have l12 := LE12.out; have l13 := LE13.out; have l14 := LE14.out; omega)
  have G0_16 : Hid (w16.ownsRow w7.heap.size 68 2 (.slice Ag0 (rvA ns os bs).length cg0) (rvA ns os bs).length ((rvA ns os bs).flatMap bcells)) := gk_own G0_15.out hg (fun k e => by obtain rfl := Option.some.inj e; dsimp only; have l0 := LE0.out; have l1 := LE1.out; have l2 := LE2.out; have l3 := LE3.out; have l4 := LE4.out; have l5 := LE5.out; have l6 := LE6.out; have l7 := LE7.out; have l8 := LE8.out; have l9 := LE9.out; have l10 := LE10.out; have l11 := LE11.out; have l12 := LE12.out; have l13 := LE13.out; have l14 := LE14.out; omega)
  clear hg HB_15 HV_15 X1_15 X2_15 G0_15
  have SR := gk_rs icells_length X1_16.out
  clear X1_16
  go_wp2_with fail
  refine (mkN_any os.length _ _ (1 + (ns.length : Int)) _ (by omega) (by omega) SR).mono ?_
  rintro e w17 ⟨rfl, -, hg, -⟩
  clear SR
  have HB_17 : Hid (Below w.heap.size w w17) := HB_16.out.grown hg HB_16.out.size (fun k e => by obtain rfl := Option.some.inj e; have l0 := LE0.out; have l1 := LE1.out; have l2 := LE2.out; have l3 := LE3.out; have l4 := LE4.out; have l5 := LE5.out; have l6 := LE6.out; have l7 := LE7.out; have l8 := LE8.out; have l9 := LE9.out; have l10 := LE10.out; have l11 := LE11.out; have l12 := LE12.out; have l13 := LE13.out; have l14 := LE14.out; omega)
  have HV_17 : Hid (Below w4.heap.size w4 w17) := HV_16.out.grown hg HV_16.out.size (fun k e => by obtain rfl := Option.some.inj e; have l0 := LE0.out; have l1 := LE1.out; have l2 := LE2.out; have l3 := LE3.out; have l4 := LE4.out; have l5 := LE5.out; have l6 := LE6.out; have l7 := LE7.out; have l8 := LE8.out; have l9 := LE9.out; have l10 := LE10.out; have l11 := LE11.out; have l12 := LE12.out; have l13 := LE13.out; have l14 := LE14.out; omega)
  have X2_17 : Hid (Rs w17 w6.heap.size 68 bcells bs) := gk_blk X2_16.out hg (fun e => by have e2 := Option.some.inj e; dsimp only at e2; have l0 := LE0.out; have l1 := LE1.out; have l2 := LE2.out; have l3 := LE3.out; have l4 := LE4.out; have l5 := LE5.out; have l6 := LE6.out; have l7 := LE7.out; have l8 := LE8.out; have l9 := LE9.out; have l10 := LE10.out; have l11 := LE11.out; have l12 := LE12.out; have l13 := LE13.out; have l14 := LE14.out; omega)
  have G0_17 : Hid (w17.ownsRow w7.heap.size 68 2 (.slice Ag0 (rvA ns os bs).length cg0) (rvA ns os bs).length ((rvA ns os bs).flatMap bcells)) := gk_own G0_16.out hg (fun k e => by obtain rfl := Option.some.inj e; dsimp only; have l0 := LE0.out; have l1 := LE1.out; have l2 := LE2.out; have l3 := LE3.out; have l4 := LE4.out; have l5 := LE5.out; have l6 := LE6.out; have l7 := LE7.out; have l8 := LE8.out; have l9 := LE9.out; have l10 := LE10.out; have l11 := LE11.out; have l12 := LE12.out; have l13 := LE13.out; have l14 := LE14.out; omega)
  clear hg HB_16 HV_16 X2_16 G0_16
  have SR := gk_rs bcells_length X2_17.out
  clear X2_17
  go_wp2_with fail
  refine (mkBt_any bs.length _ _ (1 + (ns.length : Int) + (os.length : Int)) _ (by omega) (by omega) SR).mono ?_
  rintro e w18 ⟨rfl, -, hg, -⟩
  clear SR
  have HB_18 : Hid (Below w.heap.size w w18) := HB_17.out.grown hg HB_17.out.size (fun k e => by obtain rfl := Option.some.inj e; have l0 := LE0.out; have l1 := LE1.out; have l2 := LE2.out; have l3 := LE3.out; have l4 := LE4.out; have l5 := LE5.out; have l6 := LE6.out; have l7 := LE7.out; have l8 := LE8.out; have l9 := LE9.out; have l10 := LE10.out; have l11 := LE11.out; have l12 := LE12.out; have l13 := LE13.out; have l14 := LE14.out; omega)
  have HV_18 : Hid (Below w4.heap.size w4 w18) := HV_17.out.grown hg HV_17.out.size (fun k e => by obtain rfl := Option.some.inj e; have l0 := LE0.out; have l1 := LE1.out; have l2 := LE2.out; have l3 := LE3.out; have l4 := LE4.out; have l5 := LE5.out; have l6 := LE6.out; have l7 := LE7.out; have l8 := LE8.out; have l9 := LE9.out; have l10 := LE10.out; have l11 := LE11.out; have l12 := LE12.out; have l13 := LE13.out; have l14 := LE14.out; omega)
  have G0_18 : Hid (w18.ownsRow w7.heap.size 68 2 (.slice Ag0 (rvA ns os bs).length cg0) (rvA ns os bs).length ((rvA ns os bs).flatMap bcells)) := gk_own G0_17.out hg (fun k e => by obtain rfl := Option.some.inj e; dsimp only; have l0 := LE0.out; have l1 := LE1.out; have l2 := LE2.out; have l3 := LE3.out; have l4 := LE4.out; have l5 := LE5.out; have l6 := LE6.out; have l7 := LE7.out; have l8 := LE8.out; have l9 := LE9.out; have l10 := LE10.out; have l11 := LE11.out; have l12 := LE12.out; have l13 := LE13.out; have l14 := LE14.out; omega)
  clear hg HB_17 HV_17 G0_17
  have hkn : ¬ (1 + (ns.length : Int) + (os.length : Int) + 2 * (bs.length : Int) < 0) := by omega
  go_wp2_with fail
  refine (eqBots_same (rvA ns os bs) _ _ _ _ _ (by omega) (own_rd2 bcells_length G0_18.out) (RV0.out.keep HV_18.out)).mono ?_
  rintro e w19 ⟨rfl, hb⟩
  have HB_19 : Hid (Below w.heap.size w w19) := HB_18.out.trans (hb.mono HB_18.out.size)
  have HV_19 : Hid (Below w4.heap.size w4 w19) := HV_18.out.trans (hb.mono HV_18.out.size)
  have G0_19 : Hid (w19.ownsRow w7.heap.size 68 2 (.slice Ag0 (rvA ns os bs).length cg0) (rvA ns os bs).length ((rvA ns os bs).flatMap bcells)) := own_keep' G0_18.out hb
  clear hb HB_18 HV_18 G0_18
  have hgn0 : (0 : Int) ≤ ((rvA ns os bs).length : Int) := Int.natCast_nonneg _
  have SR := gk_src G0_19.out
  have GE := gk_ge G0_19.out
  clear G0_19
  go_wp2_with fail
  refine (mkBt_any (rvA ns os bs).length Ag0 _ (1) _ (by omega) (by omega) SR).mono ?_
  rintro e w20 ⟨rfl, hM, hg, -⟩
  clear SR
  have HB_20 : Hid (Below w.heap.size w w20) := HB_19.out.grown hg HB_19.out.size (fun k e => by have lk := GE k e; have l0 := LE0.out; have l1 := LE1.out; have l2 := LE2.out; have l3 := LE3.out; have l4 := LE4.out; have l5 := LE5.out; have l6 := LE6.out; have l7 := LE7.out; have l8 := LE8.out; have l9 := LE9.out; have l10 := LE10.out; have l11 := LE11.out; have l12 := LE12.out; have l13 := LE13.out; have l14 := LE14.out; omega)
  have HV_20 : Hid (Below w4.heap.size w4 w20) := HV_19.out.grown hg HV_19.out.size (fun k e => by have lk := GE k e; have l0 := LE0.out; have l1 := LE1.out; have l2 := LE2.out; have l3 := LE3.out; have l4 := LE4.out; have l5 := LE5.out; have l6 := LE6.out; have l7 := LE7.out; have l8 := LE8.out; have l9 := LE9.out; have l10 := LE10.out; have l11 := LE11.out; have l12 := LE12.out; have l13 := LE13.out; have l14 := LE14.out; omega)
  clear hg HB_19 HV_19
  clear GE
  have M0_20 : Hid (MkdBt w20 Ag0 (rvA ns os bs).length (1)) := hM
  clear hM
  have hmn : ¬ (1 + 2 * (((rvA ns os bs).length : Nat) : Int) < 0) := by omega
  go_wp2_with fail
  refine (hdBt_any (rvA ns os bs).length Ag0 _ (1) _ (by omega) (by omega) M0_20.out).mono ?_
  rintro e w' ⟨rfl, rfl⟩
  go_wp2_with fail
  refine (toInt64S_any ns A1 c1 _ hm0 (HR0.out.keep HB_20.out)).mono ?_
  rintro e w21 ⟨rfl, hR, hb⟩
  have HB_21 : Hid (Below w.heap.size w w21) := HB_20.out.trans (hb.mono HB_20.out.size)
  have HV_21 : Hid (Below w4.heap.size w4 w21) := HV_20.out.trans (hb.mono HV_20.out.size)
  have M0_21 : Hid (MkdBt w21 Ag0 (rvA ns os bs).length (1)) := M0_20.out.below hb
  clear hb HB_20 HV_20 M0_20
  have T0_21 : Hid (Rs w21 w20.heap.size 2 icells ns) := hR
  clear hR
  go_wp2_with fail
  refine (toInt64S_any os A2 c2 _ hm1 (HR1.out.keep HB_21.out)).mono ?_
  rintro e w22 ⟨rfl, hR, hb⟩
  have HB_22 : Hid (Below w.heap.size w w22) := HB_21.out.trans (hb.mono HB_21.out.size)
  have HV_22 : Hid (Below w4.heap.size w4 w22) := HV_21.out.trans (hb.mono HV_21.out.size)
  have T0_22 : Hid (Rs w22 w20.heap.size 2 icells ns) := Blk.keep T0_21.out hb
  have M0_22 : Hid (MkdBt w22 Ag0 (rvA ns os bs).length (1)) := M0_21.out.below hb
  clear hb HB_21 HV_21 T0_21 M0_21
  have T1_22 : Hid (Rs w22 w21.heap.size 2 icells os) := hR
  clear hR
  go_wp2_with fail
  refine (toBottleS_any bs A3 c3 _ hm2 (HR2.out.keep HB_22.out)).mono ?_
  rintro e w23 ⟨rfl, hR, hb⟩
  have HB_23 : Hid (Below w.heap.size w w23) := HB_22.out.trans (hb.mono HB_22.out.size)
  have HV_23 : Hid (Below w4.heap.size w4 w23) := HV_22.out.trans (hb.mono HV_22.out.size)
  have T0_23 : Hid (Rs w23 w20.heap.size 2 icells ns) := Blk.keep T0_22.out hb
  have T1_23 : Hid (Rs w23 w21.heap.size 2 icells os) := Blk.keep T1_22.out hb
  have M0_23 : Hid (MkdBt w23 Ag0 (rvA ns os bs).length (1)) := M0_22.out.below hb
  clear hb HB_22 HV_22 T0_22 T1_22 M0_22
  have T2_23 : Hid (Rs w23 w22.heap.size 68 bcells bs) := hR
  clear hR
  go_wp2_with fail
  refine (implReveal_any ns os bs HW0.out _ _ _ _ _ _ ad _ hm0 hm1 hm2 (T0_23.out.rd T0_23.out.lt) (T1_23.out.rd T1_23.out.lt) (T2_23.out.rd T2_23.out.lt) (HE.out.below HB_23.out (Nat.le_refl _))).mono ?_
  rintro e w24 ⟨h0, rfl, hO0, hb⟩
  clear T0_23
  clear T1_23
  clear T2_23
  have HB_24 : Hid (Below w.heap.size w w24) := HB_23.out.trans (hb.mono HB_23.out.size)
  have HV_24 : Hid (Below w4.heap.size w4 w24) := HV_23.out.trans (hb.mono HV_23.out.size)
  have M0_24 : Hid (MkdBt w24 Ag0 (rvA ns os bs).length (1)) := M0_23.out.below hb
  clear hb HB_23 HV_23 M0_23
  rw [HCD0.out]
  obtain ⟨Ah0, ch0, rfl, -, -⟩ := own_rd bcells_length hO0
  have H0_24 := Lib.hid hO0
  clear hO0
  go_wp2_with fail
  refine (eqBots_same (rvA ns os bs) _ _ _ _ _ (by omega) (own_rd2 bcells_length H0_24.out) (RV0.out.keep HV_24.out)).mono ?_
  rintro e w25 ⟨rfl, hb⟩
  have HB_25 : Hid (Below w.heap.size w w25) := HB_24.out.trans (hb.mono HB_24.out.size)
  have HV_25 : Hid (Below w4.heap.size w4 w25) := HV_24.out.trans (hb.mono HV_24.out.size)
  have H0_25 : Hid (w25.ownsRow w23.heap.size 68 2 (.slice Ah0 (rvA ns os bs).length ch0) (rvA ns os bs).length ((rvA ns os bs).flatMap bcells)) := own_keep' H0_24.out hb
  have M0_25 : Hid (MkdBt w25 Ag0 (rvA ns os bs).length (1)) := M0_24.out.below hb
  clear hb HB_24 HV_24 H0_24 M0_24
  go_wp2_with fail
  refine (hdBt_any (rvA ns os bs).length Ag0 _ (1) _ (by omega) (by omega) M0_25.out).mono ?_
  rintro e w' ⟨rfl, rfl⟩
  go_wp2
  go_ret
  exact ⟨rfl, HB_25.out⟩
end Go.Proofs.YtfmfgpipklmecabDoor

namespace Go.Proofs.YtfmfgpipklmecabDoor
open Go.ChangeShapes Go.WideShapes Go.ChangeAt Go.RowKit Go.Deep

set_option maxRecDepth 100000 in
theorem fnExactRevealOrder_lifted (os : Os) (started : os.Started) (H : Type) (enc : TypeId × Value → H) :
    ReturnsInHanded {} Tryd.checked os 5 .any (fun w args => (Rows.fnExactRevealOrderSpec.pre enc Tryd.prog Tryd.f5 Rows.fnExactRevealOrderRow.domain false w args ∧ laidMetH Tryd.prog (lay sl7) w) ∧ sizedMet enc Tryd.prog Tryd.f5 (OpenSpec.ofChange Rows.fnExactRevealOrderSpec) false w args)
      (Rows.fnExactRevealOrderSpec.post enc Tryd.prog Tryd.f5 false true false false) := by
  refine law_liftL (C := Tryd.checked) 3 7 Tryd.own started (by kernel_rfl) Tryd.func5
    (ChangeSpec.witness_shaped (enc := enc) (C := Tryd.checked) (os := os) (X := fun w _ => laidMetH Tryd.prog (lay sl7) w) false (World.doorLaid Tryd.prog 157 os) #[.slice none 0 0, .slice none 0 0, .slice none 0 0] 8 rfl (World.shaped_of_RefB (by kernel_rfl) (by kernel_rfl)) (by kernel_rfl) (by kernel_rfl) (by kernel_rfl)
      (laidMetH_of_parts3 (fuel := 8) (laidMet_of_run' 8 (by kernel_rfl) (by kernel_rfl)) (by kernel_rfl) (by kernel_rfl)))
    Tryd.laidOut (by kernel_rfl) rfl (by kernel_rfl) Tryd.underlying4 (by kernel_rfl) (by kernel_rfl)
    (fun ds gs h h' => by match ds, gs, h, h' with | [d1, d2, d3], [g1, g2, g3, g4, g5, g6, g7], _, _ => rfl) ?_
  intro W base args ds p hL hval hA
  rw [Tryd.params5] at hA hval
  obtain ⟨v0, v1, v2, d0, d1, d2, r0, r1, r2, rfl, rfl, rfl, h0, h1, h2⟩ := trodAll_three hA
  obtain ⟨A0, n0, c0, rfl⟩ := okWide_slice Tryd.underlying24 (hval 0 24 v0 rfl rfl)
  obtain ⟨A0, c0, xs0, he0, _, hcm0, hwf0, hR0⟩ := open_rows icells wfI Tryd.underlying24 (.int Tryd.underlying2) Tryd.cells64 (by decide) icells_length icells_of rfl h0
  cases he0
  unfold maxLen at hcm0
  obtain ⟨A1, n1, c1, rfl⟩ := okWide_slice Tryd.underlying24 (hval 1 24 v1 rfl rfl)
  obtain ⟨A1, c1, xs1, he1, _, hcm1, hwf1, hR1⟩ := open_rows icells wfI Tryd.underlying24 (.int Tryd.underlying2) Tryd.cells64 (by decide) icells_length icells_of rfl h1
  cases he1
  unfold maxLen at hcm1
  obtain ⟨A2, n2, c2, rfl⟩ := okWide_slice Tryd.underlying36 (hval 2 36 v2 rfl rfl)
  obtain ⟨A2, c2, xs2, he2, _, hcm2, hwf2, hR2⟩ := open_rows bcells wfB Tryd.underlying36 Tryd.flatBL Tryd.cellsBL (by decide) bcells_length bcells_of rfl h2
  cases he2
  unfold maxLen at hcm2
  obtain ⟨ad, hE⟩ := ew7_of hL
  exact rv7Law_any xs0 xs1 xs2 A0 c0 A1 c1 A2 c2 ad W (by omega) hR0 hwf0 (by omega) hR1 hwf1 (by omega) hR2 hwf2 hE

theorem fnExactRevealOrder_row : Rows.FnExactRevealOrderSaid :=
  OpenClaim.holds_of_wide 5 Tryd.f5 rfl rfl rfl rfl rfl rfl rfl ⟨rfl, rfl, rfl, rfl, rfl⟩ rfl rfl rfl rfl rfl (by kernel_rfl) Tryd.func5 (by kernel_rfl)
    (of_decide_eq_true (by kernel_rfl)) (by unfold Func.isWrapper; rw [if_neg (of_decide_eq_false (by kernel_rfl))]; exact ⟨rfl, rfl⟩)
    (fun os started H enc _ => fnExactRevealOrder_lifted os started H enc)

theorem fnExactRevealOrder_card : Rows.FnExactRevealOrderCardSaid :=
  Claim7.holds_tied_plain_at .later [] [.sentinel, .sentinel, .sentinel, .sentinel, .sentinel, .sentinel, .sentinel] true (true, "4c440c1ec5785c0993ef3024584514834e6581186616a01c7c86f6c31b0f9491") true
    fnExactRevealOrder_row (fun _ h => by cases h) (by kernel_rfl) (fun _ h => by cases h) fnExactRevealOrder_row_tie rfl ⟨rfl, rfl⟩ (by kernel_rfl) rfl
    (fun f fn hf hfn => by
      obtain rfl : f = 5 := Option.some.inj ((show Tryd.prog.funcNamed "loop.example/g01353/laws.FnExactRevealOrder" = some 5 by kernel_rfl).symm.trans hf) |>.symm
      obtain rfl : fn = Tryd.f5 := (Option.some.inj (Tryd.func5.symm.trans hfn)).symm
      exact ⟨by kernel_rfl, fun j t ht => by
        have hm : t ∈ Tryd.f5.params.toList := Array.mem_toList_iff.2 (Array.mem_of_getElem? ht)
        have hall : (Tryd.f5.params.toList.all fun u => !Tryd.prog.wantsStandIn u) = true := by kernel_rfl
        exact (show Tryd.prog.wantsStandIn t = false by simpa using List.all_eq_true.1 hall t hm)⟩)
    (by kernel_rfl)
#print axioms fnExactRevealOrder_card
end Go.Proofs.YtfmfgpipklmecabDoor
