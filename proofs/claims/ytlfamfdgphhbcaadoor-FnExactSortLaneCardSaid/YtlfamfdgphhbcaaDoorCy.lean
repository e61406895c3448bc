/-
  The contracts of slices.Clone at things that are stored, of copied and of put (the program's), and of l04Own (the model's). Condition: a rack of at most 1048576 lanes and things that are stored.
-/
import Derived.Test.YtlfamfdgphhbcaaDoorNp
import Derived.Test.YtlfamfdgphhbcaaDoorRk
namespace Go.Proofs.YtlfamfdgphhbcaaDoor
open Go.ChangeShapes Go.WideShapes Go.ChangeAt Go.RowKit Go.Deep

theorem empty_own (w : World) (t : TypeId) (size : Nat) : (w.alloc (.cells #[] t)).ownsRow w.heap.size t size (.slice (some ⟨w.heap.size, 0, none⟩) 0 0) 0 [] :=
  ⟨by simp, .inr ⟨w.heap.size, 0, #[], rfl, Nat.le_refl _, heap_alloc_new w _, Nat.le_refl _, by unfold maxLen; omega, by simp, by simp⟩⟩

set_option maxRecDepth 100000 in
set_option maxHeartbeats 1000000 in
theorem cloneT_any (xs : List Wnt) (A : Option Addr) (c : Nat) (w : World) (hl : xs.length ≤ 1048576) (hr : Rd w w.heap.size wcells A xs) :
    Calls Tryd.prog 84 #[.slice A xs.length c] w fun e w' => ∃ A' c', e = .returned (.slice A' xs.length c') ∧ w'.ownsRow w.heap.size 90 3 (.slice A' xs.length c') xs.length (xs.flatMap wcells) ∧ Below w.heap.size w w' := by
  obtain ⟨i0, hi, hz0, hz1, hz2⟩ := info_parts Tryd.infoTI
  have HI := Lib.hid hi
  have HZ0 := Lib.hid hz0
  have HZ1 := Lib.hid hz1
  have HZ2 := Lib.hid hz2
  clear hi hz0 hz1 hz2
  have HR := Lib.hid hr
  cases A with
  | none =>
    have hx : xs = [] := by
      rcases Nat.eq_zero_or_pos xs.length with h | h
      · exact List.eq_nil_of_length_eq_zero h
      · obtain ⟨b, o, e, -⟩ := hr h; cases e
    subst hx
    clear hr
    have hnil : ∀ w : World, (binOp .eql 88 (.slice none 0 c) (.slice none 0 0)).run Tryd.prog w = .ok (.bool true) w := fun w => Lib.run_eql_slice_nil (P := Tryd.prog) w 88 90 none 0 c 0 0 Tryd.underlying88
    show Calls Tryd.prog 84 #[.slice none 0 c] w _
    go_enter Tryd.func84, Tryd.ntmps84
    go_wp2
    go_ret
    exact ⟨none, 0, rfl, ⟨rfl, .inl ⟨rfl, rfl⟩⟩, Below.refl _ _⟩
  | some a =>
    clear hr
    have hnil : ∀ w : World, (binOp .eql 88 (.slice (some a) xs.length c) (.slice none 0 0)).run Tryd.prog w = .ok (.bool false) w := fun w => Lib.run_eql_slice_nil (P := Tryd.prog) w 88 90 (some a) xs.length c 0 0 Tryd.underlying88
    go_enter Tryd.func84, Tryd.ntmps84
    go_wp2_with (at_builtin; refine wpList_append_any _ rfl (.tmp 5) (.tmp 6) 88 88 rfl w.heap.size 90 i0 (.agg #[.int .u8 0, .int .i16 0, .int .i16 0]) 3 6 Tryd.underlying88 HI.out HZ0.out HZ1.out HZ2.out rfl (by decide) _ 0 [] rfl ?own _ xs.length (xs.flatMap wcells) rfl ?src ?c3 ?c4 ?c5 ?_)
    case own => exact empty_own w _ 3
    case src => exact src_of_rd _ Tryd.underlying88 wcells_length wcells_one (HR.out.keep ((Below.refl _ w).alloc (Nat.le_refl _) _))
    case c3 => unfold maxLen; omega
    case c4 => omega
    case c5 => simp
    intro v' w2 hown hg _
    have hB : Below w.heap.size w w2 := ((Below.refl _ w).alloc (Nat.le_refl _) _).grown hg (by simp) (fun k e => by
      have e2 : w.heap.size = k := by simpa [Value.ownBlock] using e
      omega)
    have hown2 : w2.ownsRow w.heap.size 90 3 v' xs.length (xs.flatMap wcells) := by simpa using hown
    obtain ⟨A', c', rfl, -, -⟩ := own_rd wcells_length hown2
    have HO := Lib.hid hown2
    have HB := Lib.hid hB
    clear hown hown2 hg hB hnil
    go_wp2
    go_ret
    exact ⟨A', c', rfl, HO.out, HB.out⟩

/-- What stands between two rounds of copied, and of l04Own. -/
def CPk (b : Nat) (xss : List (List Wnt)) (k : Nat) (hs : List Hd) (wr : World) : Prop :=
  (∀ (i : Nat) (h : Hd) (xs : List Wnt), i < k → hs[i]? = some h → xss[i]? = some xs → h.2.1 = xs.length ∧ wr.ownsRow b 90 3 (.slice h.1 h.2.1 h.2.2) xs.length (xs.flatMap wcells)) ∧
  (∀ (i j : Nat) (h h' : Hd), i < k → j < k → i ≠ j → hs[i]? = some h → hs[j]? = some h' → ∀ q, h.1.map (·.block) = some q → h'.1.map (·.block) ≠ some q)
theorem CPk.step {b : Nat} {xss : List (List Wnt)} {k : Nat} {hs hs' : List Hd} {wr w2 : World} {xs : List Wnt} {A' : Option Addr} {c' : Nat} (h : CPk b xss k hs wr) (hkl : k ≤ hs.length) (hxl : k < xss.length) (hk : xss[k]? = some xs) (hb : Below wr.heap.size wr w2) (hbw : b ≤ wr.heap.size) (hown : w2.ownsRow wr.heap.size 90 3 (.slice A' xs.length c') xs.length (xs.flatMap wcells))
    (h1 : ∀ i, i < k → hs'[i]? = hs[i]?) (h2 : hs'[k]? = some (A', xs.length, c')) : CPk b xss (k + 1) hs' w2 := by
  obtain ⟨q1, q2⟩ := h
  have lt : ∀ (i : Nat) (h : Hd), i < k → hs[i]? = some h → ∀ q, h.1.map (·.block) = some q → q < wr.heap.size := fun i h hi hh q e => by
    obtain ⟨-, ho⟩ := q1 i h _ hi hh (List.getElem?_eq_getElem (by omega))
    exact (own_block ho (by rw [ownBlock_slice]; exact e)).2
  have ge : ∀ q, A'.map (·.block) = some q → wr.heap.size ≤ q := fun q e => (own_block hown (by rw [ownBlock_slice]; exact e)).1
  refine ⟨fun i h ys hi hh hy => ?_, fun i j h h' hi hj hij hh hh' q e e' => ?_⟩
  · by_cases e : i = k
    · subst e
      rw [h2] at hh
      obtain rfl := Option.some.inj hh
      obtain rfl := Option.some.inj (hk.symm.trans hy)
      exact ⟨rfl, own_base hown hbw⟩
    · rw [h1 i (by omega)] at hh
      obtain ⟨r1, r2⟩ := q1 i h ys (by omega) hh hy
      exact ⟨r1, own_keep' r2 hb⟩
  · by_cases ei : i = k
    · have ej : j < k := by omega
      rw [ei, h2] at hh
      obtain rfl := Option.some.inj hh
      rw [h1 j ej] at hh'
      have := lt j h' ej hh' q e'
      have := ge q e
      omega
    · rw [h1 i (by omega)] at hh
      by_cases ej : j = k
      · rw [ej, h2] at hh'
        obtain rfl := Option.some.inj hh'
        have := lt i h (by omega) hh q e
        have := ge q e'
        omega
      · rw [h1 j (by omega)] at hh'
        exact q2 i j h h' (by omega) (by omega) hij hh hh' q e e'
theorem CPk.only {b : Nat} {xss : List (List Wnt)} {k : Nat} {hs : List Hd} {wr w2 : World} {S : Nat → Prop} (h : CPk b xss k hs wr) (ho : Only S wr w2) (hS : ∀ q, S q → q < b) : CPk b xss k hs w2 :=
  ⟨fun i hd xs hi hh hx => ⟨(h.1 i hd xs hi hh hx).1, ho.own (h.1 i hd xs hi hh hx).2 (fun q e e2 => by have := (own_block (h.1 i hd xs hi hh hx).2 e).1; have := hS q e2; omega)⟩, h.2⟩

set_option maxRecDepth 100000 in
set_option maxHeartbeats 2000000 in
theorem copied_any (xss : List (List Wnt)) (A : Option Addr) (c : Nat) (w : World) (hl : xss.length ≤ 1048576) (hx : ∀ xs ∈ xss, xs.length ≤ 1048576) (hr : RdN w w.heap.size wcells A xss) :
    Calls Tryd.prog 49 #[.slice A xss.length c] w fun e w' => ∃ A' c' hs, e = .returned (.slice A' xss.length c') ∧ OwnN w' w.heap.size 88 90 3 wcells A' c' hs xss ∧ Below w.heap.size w w' := by
  obtain ⟨i0, hi, hz0, hz1, hz2⟩ := info_parts Tryd.infoLI
  have HR := Lib.hid hr
  have HX := Lib.hid hx
  clear hr hx
  go_enter Tryd.func49, Tryd.ntmps49
  go_wp2_with (refine wpList_make_full _ rfl (.tmp 7) (.tmp 7) 45 rfl w.heap.size 88 i0 _ 1 Tryd.underlying45 hi hz0 hz1 .i64 .i64 _ _ xss.length rfl rfl rfl rfl (by rw [hz2]; omega) (by unfold maxLen; omega) (Nat.le_refl _) ?_; intro w1 hown hg)
  have hR0 : Rs w1 w.heap.size 88 hcells (List.replicate xss.length (none, 0, 0)) := by
    have := blk_of_make hown
    rw [made_rows hcells_length (none, 0, 0) (Value.slice none 0 0).cells rfl (by omega)] at this
    exact this
  have hB0 : Below w.heap.size w w1 := (Below.refl _ w).grown hg (Nat.le_refl _) (fun _ h => by cases h)
  have HR0 := Lib.hid hR0
  have HB0 := Lib.hid hB0
  clear hR0 hB0 hown hg hi hz0 hz1 hz2
  go_loopw [11] (fun i wr => ∃ (k : Nat) (hs : List Hd), k ≤ xss.length ∧ i = .int .i64 k ∧ hs.length = xss.length ∧ Rs wr w.heap.size 88 hcells hs ∧ CPk (w.heap.size + 1) xss k hs wr ∧ Below w.heap.size w wr)
    (fun i _ => xss.length - (intOf i).toNat)
  case atStart => exact ⟨0, _, by omega, rfl, by simp, HR0.out, ⟨fun i h xs hi => absurd hi (Nat.not_lt_zero _), fun i j h h' hi => absurd hi (Nat.not_lt_zero _)⟩, HB0.out⟩
  case round =>
    clear HR0 HB0
    obtain ⟨k, hs, hk, rfl, hhl, hRs, hC, hB⟩ := hrel
    have HHl := Lib.hid hhl
    have HRs := Lib.hid hRs
    have HC := Lib.hid hC
    have HB := Lib.hid hB
    clear hhl hRs hC hB
    by_cases hlt : k < xss.length
    · obtain ⟨xs, hxs⟩ : ∃ x, xss[k]? = some x := ⟨_, List.getElem?_eq_getElem hlt⟩
      obtain ⟨b, o, a, c', rfl, hb, hc, hrd⟩ := (HR.out.keep HB.out).at_ hxs
      have hxl := HX.out xs (List.mem_of_getElem? hxs)
      have hk0 : (0 : Int) ≤ (k : Int) := Int.natCast_nonneg _
      have hk8 : (k : Int) < xss.length := by omega
      have HXs := Lib.hid hxs
      have hszw : w.heap.size < wr.heap.size := Blk.lt HRs.out
      clear hxs
      go_wp2_with fail
      refine (cloneT_any xs a c' _ hxl hrd).mono ?_
      rintro e w2 ⟨A', c2, rfl, hown2, hb2⟩
      obtain ⟨h0, hh⟩ : ∃ h, hs[k]? = some h := ⟨_, List.getElem?_eq_getElem (by rw [HHl.out]; exact hlt)⟩
      have hK := Blk.keep HRs.out hb2
      have e1 : w2.cell? ⟨w.heap.size, k, none⟩ = some (.slice h0.1 h0.2.1 h0.2.2) := by
        have := rowH (range_row hcells_length (Rs.range hK) hh)
        simpa using this
      have e2 : w2.frozen? ⟨w.heap.size, k, none⟩ = false := Blk.frozen hK k
      have HC2 : Hid (CPk (w.heap.size + 1) xss (k + 1) (hs.set k (A', xs.length, c2)) (w2.setCell ⟨w.heap.size, k, none⟩ (.slice A' xs.length c2))) :=
        CPk.only (CPk.step HC.out (by rw [HHl.out]; exact hk) hlt HXs.out hb2 hszw hown2 (fun i hi => List.getElem?_set_ne (by omega)) (List.getElem?_set_self (by rw [HHl.out]; exact hlt))) (only_set _ _ _ _) (fun q e => by subst e; omega)
      have HR2 : Hid (Rs (w2.setCell ⟨w.heap.size, k, none⟩ (.slice A' xs.length c2)) w.heap.size 88 hcells (hs.set k (A', xs.length, c2))) := rs_set1 hK (by rw [HHl.out]; exact hlt) (A', xs.length, c2)
      have HB2 : Hid (Below w.heap.size w (w2.setCell ⟨w.heap.size, k, none⟩ (.slice A' xs.length c2))) := (HB.out.trans (hb2.mono HB.out.size)).setCell (p := ⟨w.heap.size, k, none⟩) (Nat.le_refl _) _
      clear hb2 hown2 hK hh hrd hc
      go_wp2
      go_roundw
      case rel => exact ⟨k + 1, _, by omega, by go_num, by simpa using HHl.out, HR2.out, HC2.out, HB2.out⟩
      case measure => simp [intOf]; omega
    · obtain rfl : k = xss.length := by omega
      go_wp2
      go_ret
      refine ⟨some ⟨w.heap.size, 0, none⟩, xss.length, hs, rfl, ⟨?_, HHl.out, fun i h xs hih hix => ?_, fun i j h h' hij hi hj => HC.out.2 i j h h' (by have := (List.getElem?_eq_some_iff.1 hi).1; rw [HHl.out] at this; exact this) (by have := (List.getElem?_eq_some_iff.1 hj).1; rw [HHl.out] at this; exact this) hij hi hj, fun i h hi q e e' => ?_⟩, HB.out⟩
      · have := own_of_rs hcells_length HRs.out (by rw [HHl.out]; unfold maxLen; omega)
        rw [← HHl.out]; exact this
      · obtain ⟨r1, r2⟩ := HC.out.1 i h xs (List.getElem?_eq_some_iff.1 hix).1 hih hix
        exact ⟨r1, own_base r2 (by omega)⟩
      · have hil := (List.getElem?_eq_some_iff.1 hi).1
        rw [HHl.out] at hil
        obtain ⟨r1, r2⟩ := HC.out.1 i h _ hil hi (List.getElem?_eq_getElem hil)
        have := (own_block r2 (by rw [ownBlock_slice]; exact e')).1
        obtain rfl : w.heap.size = q := by simpa using e
        omega

theorem three_cells (W : World) (t : TypeId) (k y n : Int) : ∀ (j : Nat) (u : Value), [Value.int .u8 k, .int .i16 y, .int .i16 n][j]? = some u → (W.alloc (.cells #[.int .u8 k, .int .i16 y, .int .i16 n] t)).drew.cell? ((⟨W.heap.size, 0, none⟩ : Addr).add j) = some u := fun j u hu => by
  have e : (⟨W.heap.size, 0, none⟩ : Addr).add j = ⟨W.heap.size, j, none⟩ := by cases j <;> simp [Addr.add]
  rw [e, Blk.cell ((Blk.new W t #[.int .u8 k, .int .i16 y, .int .i16 n]).drew)]
  simpa using hu
section
variable {w w2 w5 : World} {b g0 c k m c0 : Nat} {a : Option Addr} {hs : List Hd} {xss : List (List Wnt)}
theorem put_blk (h : OwnN w b 88 90 3 wcells (some ⟨g0, 0, none⟩) c hs xss) (hk : hs[k]? = some (a, m, c0)) (h2 : Below w.heap.size w w2) (hg : w2.grownBy w5 (a.map (·.block))) : ∃ cur, Blk w g0 88 cur ∧ Blk w5 g0 88 cur := by
  rcases h.1.2 with ⟨e, -⟩ | ⟨g, cap, cur, hv, hb, hg', -⟩
  · cases e
  · simp only [Value.slice.injEq, Option.some.injEq, Addr.mk.injEq, and_true, true_and] at hv
    obtain ⟨rfl, rfl⟩ := hv
    have hK : Blk w g0 88 cur := hg'
    exact ⟨cur, hK, gk_blk (Blk.keep hK h2) hg (fun e => h.2.2.2.2 k _ hk g0 rfl e)⟩
theorem put_cell (h : OwnN w b 88 90 3 wcells (some ⟨g0, 0, none⟩) c hs xss) (hk : hs[k]? = some (a, m, c0)) (h2 : Below w.heap.size w w2) (hg : w2.grownBy w5 (a.map (·.block))) {v : Value} (hc : w.cell? ⟨g0, k, none⟩ = some v) : w5.cell? ⟨g0, k, none⟩ = some v := by
  obtain ⟨cur, h1, h3⟩ := put_blk h hk h2 hg
  rw [h3.cell, ← h1.cell]; exact hc
theorem put_frozen (h : OwnN w b 88 90 3 wcells (some ⟨g0, 0, none⟩) c hs xss) (hk : hs[k]? = some (a, m, c0)) (h2 : Below w.heap.size w w2) (hg : w2.grownBy w5 (a.map (·.block))) : w5.frozen? ⟨g0, k, none⟩ = false := by
  obtain ⟨cur, h1, h3⟩ := put_blk h hk h2 hg
  exact h3.frozen k
theorem put_below {n : Nat} {xs : List Value} (hb : Below b w w2) (ho : w2.ownsRow b 90 3 (.slice a n c0) n xs) {o : Obj} (hg : (w2.alloc o).drew.grownBy w5 (a.map (·.block))) (hbs : b ≤ w2.heap.size) : Below b w w5 :=
  ((hb.alloc hbs o).drew).grown hg (by simp; omega) (fun k e => (own_block ho (by rw [ownBlock_slice]; exact e)).1)
end

end Go.Proofs.YtlfamfdgphhbcaaDoor
