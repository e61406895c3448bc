/-
  Numbers of parties: each one once, all within; the contracts of eachOnce, checkIndices, checkParties, checkLedgers. Condition: the lists read as told; the sentinel errors lie as the row lists them.
-/
import Derived.Test.YtjgafdfffmfhhabDoorHl2
import Derived.Test.YtjgafdfffmfhhabDoorLi
import Derived.Test.YtjgafdfffmfhhabDoorOw
import Derived.Test.YtjgafdfffmfhhabDoorEo
import Derived.Maps.OwnSet
import Derived.Maps.RangeWalk
import Derived.Maps.OwnOps
import Derived.Maps.Views
import Derived.Maps.Ext
import Derived.WideKeyEntry
import Derived.DeepKeys4
import Derived.WalkArith
namespace Go.Proofs.YtjgafdfffmfhhabDoor
open Go.ChangeShapes Go.WideShapes Go.ChangeAt Go.RowKit Go.Deep Go.ChangeMaps Go.MapKept
open Go.Maps (Keyed)

theorem Below.growMap6 {N : Nat} {w w1 w2 : World} {b : Nat} (h : Below N w w1) (hg : w1.grownBy w2 (some b)) (hN : N ≤ w1.heap.size) (hb : N ≤ b) : Below N w w2 := h.grown hg hN (fun j hj => by cases hj; exact hb)
/-- The numbers of a list, each one once. -/
def onceTo (cr : List Int) : Nat → List Int
  | 0 => []
  | k + 1 => match cr[k]? with
    | none => onceTo cr k
    | some c => if c ∈ cr.take k then onceTo cr k else onceTo cr k ++ [c]
theorem onceTo_old {cr : List Int} {k : Nat} {c : Int} (h : cr[k]? = some c) (hm : c ∈ cr.take k) : onceTo cr (k + 1) = onceTo cr k := by simp [onceTo, h, hm]
theorem onceTo_new {cr : List Int} {k : Nat} {c : Int} (h : cr[k]? = some c) (hm : c ∉ cr.take k) : onceTo cr (k + 1) = onceTo cr k ++ [c] := by simp [onceTo, h, hm]
theorem onceTo_mem {cr : List Int} (k : Nat) (c : Int) : c ∈ onceTo cr k ↔ c ∈ cr.take k := by
  induction k with
  | zero => simp [onceTo]
  | succ k ih =>
    cases h : cr[k]? with
    | none =>
      have hk : cr.length ≤ k := by
        rcases Nat.lt_or_ge k cr.length with hk | hk
        · rw [List.getElem?_eq_getElem hk] at h; cases h
        · exact hk
      rw [List.take_of_length_le hk] at ih
      rw [List.take_of_length_le (by omega)]
      simp only [onceTo, h, ih]
    | some d =>
      obtain ⟨hlt, he⟩ := List.getElem?_eq_some_iff.1 h
      rw [List.take_succ_eq_append_getElem hlt, he, List.mem_append, List.mem_singleton]
      by_cases hm : d ∈ cr.take k
      · rw [onceTo_old h hm, ih]
        constructor
        · exact Or.inl
        · rintro (h | rfl)
          · exact h
          · exact hm
      · rw [onceTo_new h hm, List.mem_append, List.mem_singleton, ih]
theorem onceTo_nodup (cr : List Int) (k : Nat) : (onceTo cr k).Nodup := by
  induction k with
  | zero => simp [onceTo]
  | succ k ih =>
    cases h : cr[k]? with
    | none => simpa only [onceTo, h] using ih
    | some c =>
      by_cases hm : c ∈ cr.take k
      · rw [onceTo_old h hm]; exact ih
      · rw [onceTo_new h hm, List.nodup_append]
        refine ⟨ih, by simp, fun a ha b hb => ?_⟩
        simp only [List.mem_singleton] at hb
        subst hb
        rintro rfl
        exact hm ((onceTo_mem k a).1 ha)
theorem onceTo_length (cr : List Int) (k : Nat) : (onceTo cr k).length ≤ k := by
  induction k with
  | zero => simp [onceTo]
  | succ k ih =>
    cases h : cr[k]? with
    | none => simp only [onceTo, h]; omega
    | some c =>
      by_cases hm : c ∈ cr.take k
      · rw [onceTo_old h hm]; omega
      · rw [onceTo_new h hm, List.length_append]; simp; omega
/-- A set of numbers, as a map to yes and no. -/
abbrev OwnsI (w : World) (b n : Nat) (D : DataW Unit) : Prop := w.ownsMap Tryd.prog 2 (plainElem Tryd.prog 4) b n D
def kI (c : Int) : Lit := .int .i64 c
def HasI (D : DataW Unit) (ys : List Int) : Prop := ∀ c, D.atKey (kI c) (.lit (.bool false)) = .lit (.bool (decide (c ∈ ys)))
theorem Tryd.keyedI : Keyed Tryd.prog 2 := Maps.int_keyed Tryd.underlying2
theorem keyI {c : Int} (hc : wfI c) : keyOf Tryd.prog 2 (.int .i64 c) = some (kI c) := by
  rw [keyOf_int Tryd.underlying2]
  have : (Lit.int .i64 c).wf = true := WalkArith.wf_i64 hc
  simp [mapKey, Tryd.underlying2, this, kI]
theorem HasI.empty : HasI (.map []) [] := fun c => by simp [DataW.atKey]
theorem HasI.put {D : DataW Unit} {ys : List Int} (h : HasI D ys) (hm : Maps.IsMap D) (x : Int) : HasI (D.put (kI x) (.lit (.bool true))) (ys ++ [x]) := by
  intro c
  by_cases e : c = x
  · subst e
    rw [Maps.atKey_put_same hm (by trivial)]
    simp
  · rw [Maps.atKey_put_other (fun h' => e (by simpa [kI] using h')), h c]
    simp [e]
theorem HasI.same {D : DataW Unit} {ys zs : List Int} (h : HasI D ys) (e : ∀ c, c ∈ ys ↔ c ∈ zs) : HasI D zs := fun c => by rw [h c]; simp [e c]
theorem Tryd.zeroB (w : World) : (zeroValue 4).run Tryd.prog w = .ok (.bool false) w := by kernel_rfl
theorem isMap_owns {w : World} {b n : Nat} {D : DataW Unit} (h : OwnsI w b n D) : Maps.IsMap D := by
  obtain ⟨es, clock, hb, F, hs, rfl⟩ := h
  exact ⟨_, rfl⟩
theorem plainElem_bool_inv {P : Program} {e : TypeId} (he : P.underlying e = some .bool) {v : Value} {z : DataW Unit × List MemPlace} (h : plainElem P e v = some z) : ∃ a, v = .bool a ∧ z = (.lit (.bool a), []) := by
  unfold plainElem at h
  rw [he] at h
  cases v <;> simp at h
  exact ⟨_, rfl, h.symm⟩
theorem look_I {w : World} {b n : Nat} {D : DataW Unit} {ys : List Int} (h : OwnsI w b n D) (hh : HasI D ys) {c : Int} (hc : wfI c) : (Instr.lookup 113 (.map (some b)) (.int .i64 c) false).run Tryd.prog w = .ok (.bool (decide (c ∈ ys))) w := by
  obtain ⟨v, ps, hrun, hv⟩ := h.lookup Tryd.keyedI Tryd.underlying113 (Tryd.zeroB w) (plainElem_bool Tryd.underlying4 false) (keyI hc)
  obtain ⟨a, rfl, hz⟩ := plainElem_bool_inv Tryd.underlying4 hv
  rw [hh c] at hz
  simp only [Prod.mk.injEq, DataW.lit.injEq, Lit.bool.injEq] at hz
  rw [hrun, hz.1]
theorem take_mem {cr : List Int} {k : Nat} {c : Int} (h : cr[k]? = some c) (d : Int) : d ∈ cr.take (k + 1) ↔ d ∈ cr.take k ∨ d = c := by
  obtain ⟨h1, h2⟩ := List.getElem?_eq_some_iff.1 h
  rw [List.take_succ_eq_append_getElem h1, h2, List.mem_append, List.mem_singleton]

set_option maxRecDepth 100000 in
set_option maxHeartbeats 4000000 in
theorem eachOnce_any (cr : List Int) (hwf : ∀ c ∈ cr, wfI c) (A : Option Addr) (c : Nat) (w : World) (hl : cr.length ≤ 1048576) (hr : Rd w w.heap.size icells A cr) :
    Calls Tryd.prog 60 #[.slice A cr.length c] w fun e w' => ∃ v, e = .returned v ∧ w'.ownsRow w.heap.size 2 1 v (onceTo cr cr.length).length ((onceTo cr cr.length).flatMap icells) ∧ Below w.heap.size w w' := by
  have HR := Lib.hid hr
  have HW := Lib.hid hwf
  clear hr hwf
  obtain ⟨i0, hi, hz0, hz1, hz2⟩ := info_parts Tryd.info64
  have HI := Lib.hid hi
  have HZ0 := Lib.hid hz0
  have HZ1 := Lib.hid hz1
  have HZ2 := Lib.hid hz2
  clear hi hz0 hz1 hz2
  have hmm := @run_makeMap Tryd.prog
  go_enter Tryd.func60, Tryd.ntmps60
  go_wp2_with fail
  clear hmm
  have hlt0 : w.heap.size < (w.alloc (.map #[] 0)).heap.size := by simp
  go_loopw [4, 10] (fun v i wr => ∃ k : Nat, k ≤ cr.length ∧ i = .int .i64 k ∧ ∃ n D, n ≤ k ∧ OwnsI wr w.heap.size n D ∧ HasI D (cr.take k) ∧ wr.ownsRow (w.heap.size + 1) 2 1 v (onceTo cr k).length ((onceTo cr k).flatMap icells) ∧ Below w.heap.size w wr) (fun _ i _ => cr.length - (intOf i).toNat)
  case atStart => exact ⟨0, by omega, rfl, 0, .map [], Nat.le_refl _, World.ownsMap_made _ _ _ _, HasI.empty, ⟨rfl, .inl ⟨rfl, rfl⟩⟩, (Below.refl _ _).alloc (Nat.le_refl _) _⟩
  case round =>
    obtain ⟨k, hk, rfl, n, D, hn, q1, q2, q3, q4⟩ := hrel
    have Q1 := Lib.hid q1
    have Q2 := Lib.hid q2
    have Q3 := Lib.hid q3
    have Q4 := Lib.hid q4
    clear q1 q2 q3 q4
    by_cases hlt : k < cr.length
    · obtain ⟨i, hi⟩ : ∃ x, cr[k]? = some x := ⟨_, List.getElem?_eq_getElem hlt⟩
      obtain ⟨g, o, rfl, hg, hc⟩ := (HR.out.below (Nat.le_refl _) Q4.out).at_ icells_length hi
      have e1 := rowI hc
      have HX := Lib.hid hi
      have hwi := HW.out i (List.mem_of_getElem? hi)
      have hk0 : (0 : Int) ≤ (k : Int) := Int.natCast_nonneg _
      have hk8 : (k : Int) < cr.length := by omega
      have hrun := look_I Q1.out Q2.out hwi
      have HWi := Lib.hid hwi
      have hfresh : w.heap.size < wr.heap.size := Q1.out.lt
      have hol := onceTo_length cr k
      clear hi hc hwi
      obtain ⟨ob, hob⟩ : ∃ b, decide (i ∈ cr.take k) = b := ⟨_, rfl⟩
      rw [hob] at hrun
      have HD := Lib.hid hob
      clear hob
      cases ob
      · have hnew : i ∉ cr.take k := of_decide_eq_false HD.out
        have HNew := Lib.hid hnew
        clear hnew
        go_wp2_with (first
          | (at_mapUpdate; refine wpList_mapUpdate_own _ rfl _ _ _ 113 rfl 2 4 Tryd.keyedI Tryd.underlying113 (plainElem Tryd.prog 4) w.heap.size n D rfl Q1.out (by unfold maxLen; omega) _ _ _ rfl rfl (keyI HWi.out) _ _ (plainElem_bool Tryd.underlying4 true) ?_
             intro w2 hown2 hg2
             have O2 := Lib.hid hown2
             have R2 := Lib.hid (Q3.out.kept hg2 (.inr (fun h => by have := (Q3.out.lt _ h).1; omega)))
             have B2 := Lib.hid (Below.growMap6 Q4.out hg2 Q4.out.size (Nat.le_refl _))
             have P2 := Lib.hid (Q2.out.put (isMap_owns Q1.out) i)
             have hfresh2 : w.heap.size < w2.heap.size := O2.out.lt
             clear hown2 hg2 Q1 Q2 Q3 Q4)
          | (at_builtin; refine wpList_append_own _ rfl (.tmp 20) (.tmp 22) 36 rfl (w.heap.size + 1) 2 i0 (.int .i64 0) 1 8 Tryd.underlying36 HI.out HZ0.out HZ1.out HZ2.out rfl (by decide) _ _ _ rfl (R2.out.alloc _) ⟨w2.heap.size, 0, none⟩ 1 1 [.int .i64 i] rfl rfl ?c1 ?c2 ?c3 ?c4 ?c5 ?_))
        case c1 => exact cell_one_new _ _ _
        case c2 => simp [Value.oneCell']
        case c3 => unfold maxLen; omega
        case c4 => omega
        case c5 => simp; omega
        intro v' w3 hown' hgrow _
        have R3 := Lib.hid hown'
        have B3 : Hid (Below w.heap.size w w3) := (B2.out.alloc B2.out.size _).grown hgrow (by have := B2.out.size; simp; omega) (fun r e => by have := (R2.out.lt r e).1; omega)
        have O3 : Hid (OwnsI w3 w.heap.size (n + 1) (D.put (kI i) (.lit (.bool true)))) := (O2.out.alloc _).kept hgrow (fun h => by have := (R2.out.lt _ h.symm).1; omega)
        have M3 : Hid (HasI (D.put (kI i) (.lit (.bool true))) (cr.take (k + 1))) := P2.out.same (fun c => by rw [take_mem HX.out, List.mem_append, List.mem_singleton])
        clear hown' hgrow O2 R2 B2 P2
        go_wp2
        go_roundw
        case rel => exact ⟨k + 1, by omega, by go_num, n + 1, _, by omega, O3.out, M3.out, by rw [onceTo_new HX.out HNew.out, List.flatMap_append, List.length_append]; exact R3.out, B3.out⟩
        case measure => simp [intOf]; omega
      · have hold : i ∈ cr.take k := of_decide_eq_true HD.out
        have HOld := Lib.hid hold
        clear hold
        have M3 : Hid (HasI D (cr.take (k + 1))) := Q2.out.same (fun c => by
          rw [take_mem HX.out]
          exact ⟨.inl, fun h => h.elim id (fun e => by subst e; exact HOld.out)⟩)
        go_wp2
        go_roundw
        case rel => exact ⟨k + 1, by omega, by go_num, n, _, by omega, Q1.out, M3.out, by rw [onceTo_old HX.out HOld.out]; exact Q3.out, Q4.out⟩
        case measure => simp [intOf]; omega
    · obtain rfl : k = cr.length := by omega
      go_wp2
      go_ret
      exact ⟨_, rfl, own_base Q3.out (by omega), Q4.out⟩

/-- Are all numbers those of parties? -/
def inRI (n : Int) (cr : List Int) : Bool := cr.all fun i => wi 0 (n - 1) i
theorem inRI_no {n : Int} {cr : List Int} {k : Nat} {i : Int} (h : cr[k]? = some i) (hi : ¬ (0 ≤ i ∧ i < n)) : inRI n cr = false := by
  rw [inRI, List.all_eq_false]
  exact ⟨i, List.mem_of_getElem? h, by rw [Bool.not_eq_true, wi_no]; omega⟩
theorem inRI_all {n : Int} {cr : List Int} (h : ∀ j i, j < cr.length → cr[j]? = some i → 0 ≤ i ∧ i < n) : inRI n cr = true := by
  rw [inRI, List.all_eq_true]
  intro i hi
  obtain ⟨j, hj, rfl⟩ := List.mem_iff_getElem.1 hi
  have := h j _ hj (List.getElem?_eq_getElem hj)
  rw [wi_iff]; omega
set_option maxHeartbeats 1000000 in
theorem checkIndicesI_any (cr : List Int) (n : Int) (A : Option Addr) (c : Nat) (ad : Nat → Addr) (w : World) (hl : cr.length ≤ 1048576) (hr : Rd w w.heap.size icells A cr) (hE : EW 7 w ad) :
    Calls Tryd.prog 61 #[.slice A cr.length c, .int .i64 n] w fun e w' => e = .returned (erO ad (chk 0 (inRI n cr))) ∧ w = w' := by
  have HR := Lib.hid hr
  have c0 : w.cell? ⟨1, 0, none⟩ = some (.iface 124 (.pointer (some (ad 0)))) := hE.cell 0 (by omega)
  have C0 := Lib.hid c0
  clear hr hE c0
  go_enter Tryd.func61, Tryd.ntmps61
  go_wp2_with fail
  go_loop [9] (fun i => ∃ k : Nat, k ≤ cr.length ∧ i = .int .i64 k ∧ ∀ j i, j < k → cr[j]? = some i → 0 ≤ i ∧ i < (n : Int)) (fun i => cr.length - (intOf i).toNat)
  case atStart => exact ⟨0, by omega, rfl, fun j i h => by omega⟩
  case round =>
    obtain ⟨k, hk, rfl, hT⟩ := hrel
    have HT := Lib.hid hT
    clear hT
    by_cases hlt : k < cr.length
    · obtain ⟨i, hi⟩ : ∃ x, cr[k]? = some x := ⟨_, List.getElem?_eq_getElem hlt⟩
      obtain ⟨g, o, rfl, hg, hc⟩ := HR.out.at_ icells_length hi
      have e1 := rowI hc
      have HX := Lib.hid hi
      have hk0 : (0 : Int) ≤ (k : Int) := Int.natCast_nonneg _
      have hk8 : (k : Int) < cr.length := by omega
      have c0 := C0.out
      clear hi hc
      by_cases h0 : i < 0
      · go_wp2
        go_ret
        exact ⟨by rw [inRI_no HX.out (by omega)]; rfl, rfl⟩
      · have h0d : decide (i < 0) = false := decide_eq_false h0
        by_cases h1 : n ≤ i
        · go_wp2
          go_ret
          exact ⟨by rw [inRI_no HX.out (by omega)]; rfl, rfl⟩
        · have h1d : decide (n ≤ i) = false := decide_eq_false h1
          go_wp2
          go_round
          case rel =>
            refine ⟨k + 1, by omega, by go_num, fun j i' hj hi' => ?_⟩
            by_cases e : j = k
            · subst e
              rw [HX.out] at hi'
              simp only [Option.some.injEq] at hi'
              subst hi'
              omega
            · exact HT.out j i' (by omega) hi'
          case measure => simp [intOf]; omega
    · obtain rfl : k = cr.length := by omega
      go_wp2
      go_ret
      exact ⟨by rw [inRI_all HT.out]; rfl, rfl⟩
/-- Are the numbers those of different parties? -/
def ptOk (n : Int) (cr : List Int) : Bool := decide (cr.length ≤ (onceTo cr cr.length).length) && inRI n cr
theorem ptOk_one (n i : Int) : ptOk n [i] = wi 0 (n - 1) i := by
  simp [ptOk, onceTo, inRI]
theorem ptOk_two (n i j : Int) : ptOk n [i, j] = (decide (i ≠ j) && (wi 0 (n - 1) i && wi 0 (n - 1) j)) := by
  by_cases h : j = i
  · subst h; simp [ptOk, onceTo]
  · have h' : ¬ i = j := fun e => h e.symm
    simp [ptOk, onceTo, inRI, h, h']
set_option maxHeartbeats 2000000 in
theorem checkParties_any (n : Int) (cr : List Int) (hwf : ∀ c ∈ cr, wfI c) (A : Option Addr) (c : Nat) (ad : Nat → Addr) (w : World) (hl : cr.length ≤ 1048576) (hr : Rd w w.heap.size icells A cr) (hE : EW 7 w ad) :
    Calls Tryd.prog 47 #[.int .i64 n, .slice A cr.length c] w fun e w' => e = .returned (erO ad (chk 0 (ptOk n cr))) ∧ Below w.heap.size w w' := by
  have HR := Lib.hid hr
  have HE := Lib.hid hE
  clear hr hE
  go_enter Tryd.func47, Tryd.ntmps47
  go_wp2_with fail
  refine (eachOnce_any cr hwf A c _ hl HR.out).mono ?_
  rintro e w1 ⟨v, rfl, hO, hb⟩
  have HB := Lib.hid hb
  have HE1 : Hid (EW 7 w1 ad) := HE.out.below hb (Nat.le_refl _)
  have c0 : w1.cell? ⟨1, 0, none⟩ = some (.iface 124 (.pointer (some (ad 0)))) := HE1.out.cell 0 (by omega)
  obtain ⟨A1, c1, rfl, -, -⟩ := own_rd icells_length hO
  obtain ⟨L, hL⟩ : ∃ L, (onceTo cr cr.length).length = L := ⟨_, rfl⟩
  have HL := Lib.hid hL
  rw [hL]
  clear hb hO hL
  by_cases hlt : L < cr.length
  · have hlt' : (L : Int) < cr.length := by omega
    go_wp2
    go_ret
    exact ⟨by rw [ptOk, HL.out, decide_eq_false (by omega)]; rfl, HB.out⟩
  · have hlt' : ¬ (L : Int) < cr.length := by omega
    go_wp2_with fail
    refine (checkIndicesI_any cr n A c ad _ hl (HR.out.keep HB.out) HE1.out).mono ?_
    rintro e w2 ⟨rfl, rfl⟩
    have E : Hid (ptOk n cr = inRI n cr) := by show _ = _; rw [ptOk, HL.out, decide_eq_true (by omega), Bool.true_and]
    obtain ⟨v, hv⟩ : ∃ v, erO ad (chk 0 (inRI n cr)) = v := ⟨_, rfl⟩
    have HV := Lib.hid hv
    rw [hv]
    clear hv c0
    go_wp2
    go_ret
    exact ⟨by (rw [E.out, HV.out]; first | done | rfl), HB.out⟩

/-- Heads of ledgers. -/
theorem clClosure_any (n : Int) (l : List Ent) (hwf : ∀ x ∈ l, wfE x) (A : Option Addr) (c B : Nat) (w : World) (hl : l.length ≤ 1048576) (hr : Rd w w.heap.size ecells A l) (hb : w.cell? ⟨B, 0, none⟩ = some (.int .i64 n)) :
    Calls Tryd.prog 58 #[.slice A l.length c, .pointer (some ⟨B, 0, none⟩)] w fun e w' => e = .returned (.bool (leOk n l)) ∧ Below w.heap.size w w' := by
  have HR := Lib.hid hr
  clear hr
  go_enter Tryd.func58, Tryd.ntmps58
  go_wp2_with fail
  refine (implValidLedger_any n l hwf A c _ hl HR.out).mono ?_
  rintro e w1 ⟨rfl, hb1⟩
  have HB := Lib.hid hb1
  clear hb1 hb
  go_wp2
  go_ret
  exact ⟨rfl, HB.out⟩
set_option maxHeartbeats 2000000 in
theorem checkEachL_any (n : Int) (ls : List (List Ent)) (hs : List (Option Addr × Nat × Nat)) (B c D : Nat) (ad : Nat → Addr) (w : World) (hl : hs.length ≤ 1048576) (hlen : ls.length = hs.length) (hd : w.cell? ⟨D, 0, none⟩ = some (.int .i64 n))
    (hc : ∀ (j : Nat) h r, hs[j]? = some h → ls[j]? = some r → B < w.heap.size ∧ w.cell? ⟨B, j, none⟩ = some (.slice h.1 r.length h.2.2) ∧ r.length ≤ 1048576 ∧ (∀ x ∈ r, wfE x) ∧ Rd w w.heap.size ecells h.1 r) (hE : EW 7 w ad) :
    Calls Tryd.prog 57 #[.slice (some ⟨B, 0, none⟩) hs.length c, .func (.func 58) #[] #[.pointer (some ⟨D, 0, none⟩)]] w fun e w' => e = .returned (erO ad (chk 5 (ls.all (leOk n)))) ∧ Below w.heap.size w w' := by
  have HC := Lib.hid hc
  have HE := Lib.hid hE
  have HD := Lib.hid hd
  have hDl := block_lt_of_cell hd
  clear hc hE hd
  go_enter Tryd.func57, Tryd.ntmps57
  go_wp2_with fail
  go_loopw [6, 9] (fun _ i wr => ∃ (k : Nat), k ≤ hs.length ∧ i = .int .i64 k ∧ AllTo (leOk n) ls k ∧ Below w.heap.size w wr) (fun _ i _ => hs.length - (intOf i).toNat)
  case atStart => exact ⟨0, by omega, rfl, AllTo.zero _ _, Below.refl _ _⟩
  case round =>
    obtain ⟨k, hk, rfl, hT, hB⟩ := hrel
    have HT := Lib.hid hT
    have HB := Lib.hid hB
    clear hT hB
    by_cases hlt : k < hs.length
    · obtain ⟨⟨a, m, c'⟩, hh⟩ : ∃ x, hs[k]? = some x := ⟨_, List.getElem?_eq_getElem hlt⟩
      obtain ⟨r, hr⟩ : ∃ x, ls[k]? = some x := ⟨_, List.getElem?_eq_getElem (by omega)⟩
      obtain ⟨hBl, hcell, hrl, hrw, hrd⟩ := HC.out k _ _ hh hr
      have e1 := (HB.out.cell (p := ⟨B, k, none⟩) hBl).trans hcell
      have d1 := (HB.out.cell (p := ⟨D, 0, none⟩) hDl).trans HD.out
      have HRd : Hid (Rd wr wr.heap.size ecells a r) := hrd.keep HB.out
      have HRw := Lib.hid hrw
      have HX := Lib.hid hr
      have hk0 : (0 : Int) ≤ (k : Int) := Int.natCast_nonneg _
      have hk8 : (k : Int) < hs.length := by omega
      dsimp only at e1
      clear hh hr hcell hrd hrw
      go_wp2_with fail
      refine (clClosure_any n r HRw.out a c' D _ hrl HRd.out d1).mono ?_
      rintro e w1 ⟨rfl, hb1⟩
      have HB1 : Hid (Below w.heap.size w w1) := HB.out.trans (hb1.mono HB.out.size)
      have c5 : w1.cell? ⟨6, 0, none⟩ = some (.iface 124 (.pointer (some (ad 5)))) := (HE.out.below HB1.out (Nat.le_refl _)).cell 5 (by omega)
      clear hb1 e1 d1
      cases hv : leOk n r
      · have HV := Lib.hid hv
        clear hv
        go_wp2
        go_ret
        exact ⟨by rw [all_no HX.out HV.out]; rfl, HB1.out⟩
      · have HV := Lib.hid hv
        clear hv
        go_wp2
        go_roundw
        case rel => exact ⟨k + 1, by omega, by go_num, HT.out.step HX.out HV.out, HB1.out⟩
        case measure => simp [intOf]; omega
    · obtain rfl : k = hs.length := by omega
      have HT2 : Hid (ls.all (leOk n) = true) := by show _ = true; exact AllTo.all (by rw [hlen]; exact HT.out)
      go_wp2
      go_ret
      exact ⟨by rw [HT2.out]; rfl, HB.out⟩
set_option maxHeartbeats 1000000 in
theorem checkLedgers1_any (n : Int) (r : List Ent) (hwf : ∀ x ∈ r, wfE x) (a : Option Addr) (c' B c : Nat) (ad : Nat → Addr) (w : World) (hl : r.length ≤ 1048576) (hc : w.cell? ⟨B, 0, none⟩ = some (.slice a r.length c')) (hr : Rd w w.heap.size ecells a r) (hE : EW 7 w ad) :
    Calls Tryd.prog 46 #[.int .i64 n, .slice (some ⟨B, 0, none⟩) 1 c] w fun e w' => e = .returned (erO ad (chk 5 (leOk n r))) ∧ Below w.heap.size w w' := by
  have hBl := block_lt_of_cell hc
  have hA : Below w.heap.size w (w.alloc (.cells #[.int .i64 n] 2)) := (Below.refl _ w).alloc (Nat.le_refl _) _
  have hd : (w.alloc (.cells #[.int .i64 n] 2)).cell? ⟨w.heap.size, 0, none⟩ = some (.int .i64 n) := (Blk.new w 2 #[.int .i64 n]).cell 0
  have H : Hid (Calls Tryd.prog 57 #[.slice (some ⟨B, 0, none⟩) 1 c, .func (.func 58) #[] #[.pointer (some ⟨w.heap.size, 0, none⟩)]] (w.alloc (.cells #[.int .i64 n] 2)) fun e w' => e = .returned (erO ad (chk 5 (leOk n r))) ∧ Below (w.alloc (.cells #[.int .i64 n] 2)).heap.size (w.alloc (.cells #[.int .i64 n] 2)) w') := by
    have := checkEachL_any n [r] [(a, r.length, c')] B c w.heap.size ad _ (by simp) rfl hd (fun j h r' hh hr' => by
      match j with
      | 0 =>
        obtain rfl := Option.some.inj hh
        obtain rfl := Option.some.inj hr'
        exact ⟨Nat.lt_of_lt_of_le hBl hA.size, (hA.cell (p := ⟨B, 0, none⟩) hBl).trans hc, hl, hwf, hr.keep hA⟩
      | _ + 1 => simp at hh) (hE.below hA (Nat.le_refl _))
    rw [show ([r] : List (List Ent)).all (leOk n) = leOk n r from by simp] at this
    exact this
  have HA := Lib.hid hA
  clear hc hr hE hBl hA hd
  go_enter Tryd.func46, Tryd.ntmps46
  go_wp2_with fail
  refine H.out.mono ?_
  rintro e w1 ⟨rfl, hb⟩
  have HB : Hid (Below w.heap.size w w1) := HA.out.trans (hb.mono HA.out.size)
  obtain ⟨v, hv⟩ : ∃ v, erO ad (chk 5 (leOk n r)) = v := ⟨_, rfl⟩
  have HV := Lib.hid hv
  rw [hv]
  clear hb hv
  go_wp2
  go_ret
  exact ⟨by (rw [HV.out]; first | done | rfl), HB.out⟩
end Go.Proofs.YtjgafdfffmfhhabDoor
