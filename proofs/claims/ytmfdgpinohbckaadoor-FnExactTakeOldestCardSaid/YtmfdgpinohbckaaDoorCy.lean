/-
  The contracts of slices.Clone at things that are stored, of copied and of put (the program's), and of l04Own (the model's). Condition: a rack of at most 1048576 lanes and things that are stored.
-/
import Derived.Test.YtmfdgpinohbckaaDoorMg7
import Derived.Test.YtmfdgpinohbckaaDoorRk
namespace Go.Proofs.YtmfdgpinohbckaaDoor
open Go.ChangeShapes Go.WideShapes Go.ChangeAt Go.RowKit Go.Deep

theorem empty_own (w : World) (t : TypeId) (size : Nat) : (w.alloc (.cells #[] t)).ownsRow w.heap.size t size (.slice (some ⟨w.heap.size, 0, none⟩) 0 0) 0 [] :=
  ⟨by simp, .inr ⟨w.heap.size, 0, #[], rfl, Nat.le_refl _, heap_alloc_new w _, Nat.le_refl _, by unfold maxLen; omega, by simp, by simp⟩⟩

set_option maxRecDepth 100000 in
set_option maxHeartbeats 1000000 in
theorem cloneT_any (xs : List Wnt) (A : Option Addr) (c : Nat) (w : World) (hl : xs.length ≤ 1048576) (hr : Rd w w.heap.size wcells A xs) :
    Calls Tryd.prog 69 #[.slice A xs.length c] w fun e w' => ∃ A' c', e = .returned (.slice A' xs.length c') ∧ w'.ownsRow w.heap.size 30 3 (.slice A' xs.length c') xs.length (xs.flatMap wcells) ∧ Below w.heap.size w w' := by
  obtain ⟨i0, hi, hz0, hz1, hz2⟩ := info_parts Tryd.infoTI
  have HI := Lib.hid hi
  have HZ0 := Lib.hid hz0
  have HZ1 := Lib.hid hz1
  have HZ2 := Lib.hid hz2
  clear hi hz0 hz1 hz2
  have HR := Lib.hid hr
  cases A with
  | none =>
    have hx : xs = [] := by
      rcases Nat.eq_zero_or_pos xs.length with h | h
      · exact List.eq_nil_of_length_eq_zero h
      · obtain ⟨b, o, e, -⟩ := hr h; cases e
    subst hx
    clear hr
    have hnil : ∀ w : World, (binOp .eql 44 (.slice none 0 c) (.slice none 0 0)).run Tryd.prog w = .ok (.bool true) w := fun w => Lib.run_eql_slice_nil (P := Tryd.prog) w 44 30 none 0 c 0 0 Tryd.underlying44
    show Calls Tryd.prog 69 #[.slice none 0 c] w _
    go_enter Tryd.func69, Tryd.ntmps69
    go_wp2
    go_ret
    exact ⟨none, 0, rfl, ⟨rfl, .inl ⟨rfl, rfl⟩⟩, Below.refl _ _⟩
  | some a =>
    clear hr
    have hnil : ∀ w : World, (binOp .eql 44 (.slice (some a) xs.length c) (.slice none 0 0)).run Tryd.prog w = .ok (.bool false) w := fun w => Lib.run_eql_slice_nil (P := Tryd.prog) w 44 30 (some a) xs.length c 0 0 Tryd.underlying44
    go_enter Tryd.func69, Tryd.ntmps69
    go_wp2_with (at_builtin; refine wpList_append_any _ rfl (.tmp 5) (.tmp 6) 44 44 rfl w.heap.size 30 i0 (.agg #[.int .u8 0, .int .i16 0, .int .i16 0]) 3 6 Tryd.underlying44 HI.out HZ0.out HZ1.out HZ2.out rfl (by decide) _ 0 [] rfl ?own _ xs.length (xs.flatMap wcells) rfl ?src ?c3 ?c4 ?c5 ?_)
    case own => exact empty_own w _ 3
    case src => exact src_of_rd _ Tryd.underlying44 wcells_length wcells_one (HR.out.keep ((Below.refl _ w).alloc (Nat.le_refl _) _))
    case c3 => unfold maxLen; omega
    case c4 => omega
    case c5 => simp
    intro v' w2 hown hg _
    have hB : Below w.heap.size w w2 := ((Below.refl _ w).alloc (Nat.le_refl _) _).grown hg (by simp) (fun k e => by
      have e2 : w.heap.size = k := by simpa [Value.ownBlock] using e
      omega)
    have hown2 : w2.ownsRow w.heap.size 30 3 v' xs.length (xs.flatMap wcells) := by simpa using hown
    obtain ⟨A', c', rfl, -, -⟩ := own_rd wcells_length hown2
    have HO := Lib.hid hown2
    have HB := Lib.hid hB
    clear hown hown2 hg hB hnil
    go_wp2
    go_ret
    exact ⟨A', c', rfl, HO.out, HB.out⟩

/-- What stands between two rounds of copied, and of l04Own. -/
def CPk (b : Nat) (xss : List (List Wnt)) (k : Nat) (hs : List Hd) (wr : World) : Prop :=
  (∀ (i : Nat) (h : Hd) (xs : List Wnt), i < k → hs[i]? = some h → xss[i]? = some xs → h.2.1 = xs.length ∧ wr.ownsRow b 30 3 (.slice h.1 h.2.1 h.2.2) xs.length (xs.flatMap wcells)) ∧
  (∀ (i j : Nat) (h h' : Hd), i < k → j < k → i ≠ j → hs[i]? = some h → hs[j]? = some h' → ∀ q, h.1.map (·.block) = some q → h'.1.map (·.block) ≠ some q)
theorem CPk.step {b : Nat} {xss : List (List Wnt)} {k : Nat} {hs hs' : List Hd} {wr w2 : World} {xs : List Wnt} {A' : Option Addr} {c' : Nat} (h : CPk b xss k hs wr) (hkl : k ≤ hs.length) (hxl : k < xss.length) (hk : xss[k]? = some xs) (hb : Below wr.heap.size wr w2) (hbw : b ≤ wr.heap.size) (hown : w2.ownsRow wr.heap.size 30 3 (.slice A' xs.length c') xs.length (xs.flatMap wcells))
    (h1 : ∀ i, i < k → hs'[i]? = hs[i]?) (h2 : hs'[k]? = some (A', xs.length, c')) : CPk b xss (k + 1) hs' w2 := by
  obtain ⟨q1, q2⟩ := h
  have lt : ∀ (i : Nat) (h : Hd), i < k → hs[i]? = some h → ∀ q, h.1.map (·.block) = some q → q < wr.heap.size := fun i h hi hh q e => by
    obtain ⟨-, ho⟩ := q1 i h _ hi hh (List.getElem?_eq_getElem (by omega))
    exact (own_block ho (by rw [ownBlock_slice]; exact e)).2
  have ge : ∀ q, A'.map (·.block) = some q → wr.heap.size ≤ q := fun q e => (own_block hown (by rw [ownBlock_slice]; exact e)).1
  refine ⟨fun i h ys hi hh hy => ?_, fun i j h h' hi hj hij hh hh' q e e' => ?_⟩
  · by_cases e : i = k
    · subst e
      rw [h2] at hh
      obtain rfl := Option.some.inj hh
      obtain rfl := Option.some.inj (hk.symm.trans hy)
      exact ⟨rfl, own_base hown hbw⟩
    · rw [h1 i (by omega)] at hh
      obtain ⟨r1, r2⟩ := q1 i h ys (by omega) hh hy
      exact ⟨r1, own_keep' r2 hb⟩
  · by_cases ei : i = k
    · have ej : j < k := by omega
      rw [ei, h2] at hh
      obtain rfl := Option.some.inj hh
      rw [h1 j ej] at hh'
      have := lt j h' ej hh' q e'
      have := ge q e
      omega
    · rw [h1 i (by omega)] at hh
      by_cases ej : j = k
      · rw [ej, h2] at hh'
        obtain rfl := Option.some.inj hh'
        have := lt i h (by omega) hh q e
        have := ge q e'
        omega
      · rw [h1 j (by omega)] at hh'
        exact q2 i j h h' (by omega) (by omega) hij hh hh' q e e'
theorem CPk.only {b : Nat} {xss : List (List Wnt)} {k : Nat} {hs : List Hd} {wr w2 : World} {S : Nat → Prop} (h : CPk b xss k hs wr) (ho : Only S wr w2) (hS : ∀ q, S q → q < b) : CPk b xss k hs w2 :=
  ⟨fun i hd xs hi hh hx => ⟨(h.1 i hd xs hi hh hx).1, ho.own (h.1 i hd xs hi hh hx).2 (fun q e e2 => by have := (own_block (h.1 i hd xs hi hh hx).2 e).1; have := hS q e2; omega)⟩, h.2⟩

set_option maxRecDepth 100000 in
set_option maxHeartbeats 2000000 in
theorem copied_any (xss : List (List Wnt)) (A : Option Addr) (c : Nat) (w : World) (hl : xss.length ≤ 1048576) (hx : ∀ xs ∈ xss, xs.length ≤ 1048576) (hr : RdN w w.heap.size wcells A xss) :
    Calls Tryd.prog 43 #[.slice A xss.length c] w fun e w' => ∃ A' c' hs, e = .returned (.slice A' xss.length c') ∧ OwnN w' w.heap.size 44 30 3 wcells A' c' hs xss ∧ Below w.heap.size w w' := by
  obtain ⟨i0, hi, hz0, hz1, hz2⟩ := info_parts Tryd.infoLI
  have HR := Lib.hid hr
  have HX := Lib.hid hx
  clear hr hx
  go_enter Tryd.func43, Tryd.ntmps43
  go_wp2_with (refine wpList_make_full _ rfl (.tmp 7) (.tmp 7) 25 rfl w.heap.size 44 i0 _ 1 Tryd.underlying25 hi hz0 hz1 .i64 .i64 _ _ xss.length rfl rfl rfl rfl (by rw [hz2]; omega) (by unfold maxLen; omega) (Nat.le_refl _) ?_; intro w1 hown hg)
  have hR0 : Rs w1 w.heap.size 44 hcells (List.replicate xss.length (none, 0, 0)) := by
    have := blk_of_make hown
    rw [made_rows hcells_length (none, 0, 0) (Value.slice none 0 0).cells rfl (by omega)] at this
    exact this
  have hB0 : Below w.heap.size w w1 := (Below.refl _ w).grown hg (Nat.le_refl _) (fun _ h => by cases h)
  have HR0 := Lib.hid hR0
  have HB0 := Lib.hid hB0
  clear hR0 hB0 hown hg hi hz0 hz1 hz2
  go_loopw [11] (fun i wr => ∃ (k : Nat) (hs : List Hd), k ≤ xss.length ∧ i = .int .i64 k ∧ hs.length = xss.length ∧ Rs wr w.heap.size 44 hcells hs ∧ CPk (w.heap.size + 1) xss k hs wr ∧ Below w.heap.size w wr)
    (fun i _ => xss.length - (intOf i).toNat)
  case atStart => exact ⟨0, _, by omega, rfl, by simp, HR0.out, ⟨fun i h xs hi => absurd hi (Nat.not_lt_zero _), fun i j h h' hi => absurd hi (Nat.not_lt_zero _)⟩, HB0.out⟩
  case round =>
    clear HR0 HB0
    obtain ⟨k, hs, hk, rfl, hhl, hRs, hC, hB⟩ := hrel
    have HHl := Lib.hid hhl
    have HRs := Lib.hid hRs
    have HC := Lib.hid hC
    have HB := Lib.hid hB
    clear hhl hRs hC hB
    by_cases hlt : k < xss.length
    · obtain ⟨xs, hxs⟩ : ∃ x, xss[k]? = some x := ⟨_, List.getElem?_eq_getElem hlt⟩
      obtain ⟨b, o, a, c', rfl, hb, hc, hrd⟩ := (HR.out.keep HB.out).at_ hxs
      have hxl := HX.out xs (List.mem_of_getElem? hxs)
      have hk0 : (0 : Int) ≤ (k : Int) := Int.natCast_nonneg _
      have hk8 : (k : Int) < xss.length := by omega
      have HXs := Lib.hid hxs
      have hszw : w.heap.size < wr.heap.size := Blk.lt HRs.out
      clear hxs
      go_wp2_with fail
      refine (cloneT_any xs a c' _ hxl hrd).mono ?_
      rintro e w2 ⟨A', c2, rfl, hown2, hb2⟩
      obtain ⟨h0, hh⟩ : ∃ h, hs[k]? = some h := ⟨_, List.getElem?_eq_getElem (by rw [HHl.out]; exact hlt)⟩
      have hK := Blk.keep HRs.out hb2
      have e1 : w2.cell? ⟨w.heap.size, k, none⟩ = some (.slice h0.1 h0.2.1 h0.2.2) := by
        have := rowH (range_row hcells_length (Rs.range hK) hh)
        simpa using this
      have e2 : w2.frozen? ⟨w.heap.size, k, none⟩ = false := Blk.frozen hK k
      have HC2 : Hid (CPk (w.heap.size + 1) xss (k + 1) (hs.set k (A', xs.length, c2)) (w2.setCell ⟨w.heap.size, k, none⟩ (.slice A' xs.length c2))) :=
        CPk.only (CPk.step HC.out (by rw [HHl.out]; exact hk) hlt HXs.out hb2 hszw hown2 (fun i hi => List.getElem?_set_ne (by omega)) (List.getElem?_set_self (by rw [HHl.out]; exact hlt))) (only_set _ _ _ _) (fun q e => by subst e; omega)
      have HR2 : Hid (Rs (w2.setCell ⟨w.heap.size, k, none⟩ (.slice A' xs.length c2)) w.heap.size 44 hcells (hs.set k (A', xs.length, c2))) := rs_set1 hK (by rw [HHl.out]; exact hlt) (A', xs.length, c2)
      have HB2 : Hid (Below w.heap.size w (w2.setCell ⟨w.heap.size, k, none⟩ (.slice A' xs.length c2))) := (HB.out.trans (hb2.mono HB.out.size)).setCell (p := ⟨w.heap.size, k, none⟩) (Nat.le_refl _) _
      clear hb2 hown2 hK hh hrd hc
      go_wp2
      go_roundw
      case rel => exact ⟨k + 1, _, by omega, by go_num, by simpa using HHl.out, HR2.out, HC2.out, HB2.out⟩
      case measure => simp [intOf]; omega
    · obtain rfl : k = xss.length := by omega
      go_wp2
      go_ret
      refine ⟨some ⟨w.heap.size, 0, none⟩, xss.length, hs, rfl, ⟨?_, HHl.out, fun i h xs hih hix => ?_, fun i j h h' hij hi hj => HC.out.2 i j h h' (by have := (List.getElem?_eq_some_iff.1 hi).1; rw [HHl.out] at this; exact this) (by have := (List.getElem?_eq_some_iff.1 hj).1; rw [HHl.out] at this; exact this) hij hi hj, fun i h hi q e e' => ?_⟩, HB.out⟩
      · have := own_of_rs hcells_length HRs.out (by rw [HHl.out]; unfold maxLen; omega)
        rw [← HHl.out]; exact this
      · obtain ⟨r1, r2⟩ := HC.out.1 i h xs (List.getElem?_eq_some_iff.1 hix).1 hih hix
        exact ⟨r1, own_base r2 (by omega)⟩
      · have hil := (List.getElem?_eq_some_iff.1 hi).1
        rw [HHl.out] at hil
        obtain ⟨r1, r2⟩ := HC.out.1 i h _ hil hi (List.getElem?_eq_getElem hil)
        have := (own_block r2 (by rw [ownBlock_slice]; exact e')).1
        obtain rfl : w.heap.size = q := by simpa using e
        omega

theorem three_cells (W : World) (t : TypeId) (k y n : Int) : ∀ (j : Nat) (u : Value), [Value.int .u8 k, .int .i16 y, .int .i16 n][j]? = some u → (W.alloc (.cells #[.int .u8 k, .int .i16 y, .int .i16 n] t)).drew.cell? ((⟨W.heap.size, 0, none⟩ : Addr).add j) = some u := fun j u hu => by
  have e : (⟨W.heap.size, 0, none⟩ : Addr).add j = ⟨W.heap.size, j, none⟩ := by cases j <;> simp [Addr.add]
  rw [e, Blk.cell ((Blk.new W t #[.int .u8 k, .int .i16 y, .int .i16 n]).drew)]
  simpa using hu
section
variable {w w2 w5 : World} {b g0 c k m c0 : Nat} {a : Option Addr} {hs : List Hd} {xss : List (List Wnt)}
theorem put_blk (h : OwnN w b 44 30 3 wcells (some ⟨g0, 0, none⟩) c hs xss) (hk : hs[k]? = some (a, m, c0)) (h2 : Below w.heap.size w w2) (hg : w2.grownBy w5 (a.map (·.block))) : ∃ cur, Blk w g0 44 cur ∧ Blk w5 g0 44 cur := by
  rcases h.1.2 with ⟨e, -⟩ | ⟨g, cap, cur, hv, hb, hg', -⟩
  · cases e
  · simp only [Value.slice.injEq, Option.some.injEq, Addr.mk.injEq, and_true, true_and] at hv
    obtain ⟨rfl, rfl⟩ := hv
    have hK : Blk w g0 44 cur := hg'
    exact ⟨cur, hK, gk_blk (Blk.keep hK h2) hg (fun e => h.2.2.2.2 k _ hk g0 rfl e)⟩
theorem put_cell (h : OwnN w b 44 30 3 wcells (some ⟨g0, 0, none⟩) c hs xss) (hk : hs[k]? = some (a, m, c0)) (h2 : Below w.heap.size w w2) (hg : w2.grownBy w5 (a.map (·.block))) {v : Value} (hc : w.cell? ⟨g0, k, none⟩ = some v) : w5.cell? ⟨g0, k, none⟩ = some v := by
  obtain ⟨cur, h1, h3⟩ := put_blk h hk h2 hg
  rw [h3.cell, ← h1.cell]; exact hc
theorem put_frozen (h : OwnN w b 44 30 3 wcells (some ⟨g0, 0, none⟩) c hs xss) (hk : hs[k]? = some (a, m, c0)) (h2 : Below w.heap.size w w2) (hg : w2.grownBy w5 (a.map (·.block))) : w5.frozen? ⟨g0, k, none⟩ = false := by
  obtain ⟨cur, h1, h3⟩ := put_blk h hk h2 hg
  exact h3.frozen k
theorem put_below {n : Nat} {xs : List Value} (hb : Below b w w2) (ho : w2.ownsRow b 30 3 (.slice a n c0) n xs) {o : Obj} (hg : (w2.alloc o).drew.grownBy w5 (a.map (·.block))) (hbs : b ≤ w2.heap.size) : Below b w w5 :=
  ((hb.alloc hbs o).drew).grown hg (by simp; omega) (fun k e => (own_block ho (by rw [ownBlock_slice]; exact e)).1)
end

set_option maxRecDepth 100000 in
set_option maxHeartbeats 4000000 in
theorem put_any (xss : List (List Wnt)) (hs : List Hd) (b : Nat) (A : Option Addr) (c : Nat) (k : Nat) (x : Wnt) (xs : List Wnt) (w : World) (hN : OwnN w b 44 30 3 wcells A c hs xss) (hbw : b ≤ w.heap.size) (hx : xss[k]? = some xs) (hl : xss.length ≤ 1048576) (hxl : xs.length ≤ 1048576) :
    Calls Tryd.prog 72 #[.slice A xss.length c, .int .i64 (k : Int), .agg (wcells x).toArray] w fun e w' => ∃ hs', e = .returned (.tuple #[]) ∧ OwnN w' b 44 30 3 wcells A c hs' (xss.set k (xs ++ [x])) ∧ Below b w w' := by
  obtain ⟨⟨k1, y1⟩, n1⟩ := x
  have hkx := (List.getElem?_eq_some_iff.1 hx).1
  have hlen : hs.length = xss.length := hN.2.1
  obtain ⟨⟨a, m, c0⟩, hk⟩ : ∃ h, hs[k]? = some h := ⟨_, List.getElem?_eq_getElem (by omega)⟩
  obtain ⟨em, how⟩ := hN.2.2.1 k _ xs hk hx
  dsimp only at em how
  subst em
  obtain ⟨b0, o0, e0, hb0, hrow⟩ := (own_rd2 hcells_length hN.1).at_ hcells_length hk
  obtain ⟨g0, rfl⟩ : ∃ g, A = some ⟨g, 0, none⟩ := by
    rcases hN.1.2 with ⟨e, -⟩ | ⟨g, cap, cur, hv, -⟩
    · subst e0; cases e
    · exact ⟨g, (by simpa using hv : A = some ⟨g, 0, none⟩ ∧ c = cap).1⟩
  obtain ⟨rfl, rfl⟩ : g0 = b0 ∧ 0 = o0 := by simpa using e0
  have hc := rowH hrow
  rw [Nat.zero_add] at hc
  dsimp only at hc
  obtain ⟨i0, hi, hz0, hz1, hz2⟩ := info_parts Tryd.infoTI
  have HI := Lib.hid hi
  have HZ0 := Lib.hid hz0
  have HZ1 := Lib.hid hz1
  have HZ2 := Lib.hid hz2
  clear hi hz0 hz1 hz2
  have hk0 : (0 : Int) ≤ (k : Int) := Int.natCast_nonneg _
  have hk8 : (k : Int) < hs.length := by omega
  rw [← hlen]
  show Calls Tryd.prog 72 #[.slice (some ⟨g0, 0, none⟩) hs.length c, .int .i64 (k : Int), .agg #[.int .u8 k1, .int .i16 y1, .int .i16 n1]] w _
  have HN := Lib.hid hN
  have HK := Lib.hid hk
  have HX := Lib.hid hx
  have h1 := Blk.new w 30 #[.int .u8 k1, .int .i16 y1, .int .i16 n1]
  have h2 : Below w.heap.size w (w.alloc (.cells #[.int .u8 k1, .int .i16 y1, .int .i16 n1] 30)) := (Below.refl _ w).alloc (Nat.le_refl _) _
  have h3 : (w.alloc (.cells #[.int .u8 k1, .int .i16 y1, .int .i16 n1] 30)).ownsRow b 30 3 (.slice a xs.length c0) xs.length (xs.flatMap wcells) := how.alloc _
  have h4 : Below b w (w.alloc (.cells #[.int .u8 k1, .int .i16 y1, .int .i16 n1] 30)) := (Below.refl _ w).alloc hbw _
  have h5 : b ≤ (w.alloc (.cells #[.int .u8 k1, .int .i16 y1, .int .i16 n1] 30)).heap.size := by simp; omega
  have hc1 : w.cell? ⟨g0, k, none⟩ = some (.slice a xs.length c0) := hc
  go_enter Tryd.func72, Tryd.ntmps72
  obtain ⟨W0, hW0⟩ : ∃ W0, w.alloc (.cells #[.int .u8 k1, .int .i16 y1, .int .i16 n1] 30) = W0 := ⟨_, rfl⟩
  rw [hW0] at h1 h2 h3 h4 h5
  go_wp2_with fail
  have hcW : W0.cell? ⟨g0, k, none⟩ = some (.slice a xs.length c0) := (h2.cell (p := ⟨g0, k, none⟩) hb0).trans hc
  have hcW2 : (W0.alloc (.cells #[.int .u8 k1, .int .i16 y1, .int .i16 n1] 30)).cell? ⟨g0, k, none⟩ = some (.slice a xs.length c0) := (((Below.refl W0.heap.size W0).alloc (Nat.le_refl _) _).cell (p := ⟨g0, k, none⟩) (by have := h2.size; show g0 < _; omega)).trans hcW
  have d0 : W0.cell? ⟨w.heap.size, 0, none⟩ = some (.int .u8 k1) := h1.cell 0
  have d1 : W0.cell? ⟨w.heap.size, 1, none⟩ = some (.int .i16 y1) := h1.cell 1
  have d2 : W0.cell? ⟨w.heap.size, 2, none⟩ = some (.int .i16 n1) := h1.cell 2
  have HBW : Hid (Below w.heap.size w (W0.alloc (.cells #[.int .u8 k1, .int .i16 y1, .int .i16 n1] 30)).drew) := (h2.alloc h2.size _).drew
  have HOW : Hid (W0.ownsRow b 30 3 (.slice a xs.length c0) xs.length (xs.flatMap wcells)) := h3
  have HBb := Lib.hid h4
  have HSz := Lib.hid h5
  clear hW0 h1 h2 h3 h4 h5 hN hk hx how hrow hc e0
  refine wp_region_any (by kernel_rfl) ?_
  try (change wpAny _ _ _ _ _ _ _ (World.drew _))
  refine wpAny_take (i := 0) (v := .slice (some ⟨g0, 0, none⟩) hs.length c) rfl (by kernel_rfl) (by kernel_rfl) (by kernel_rfl) (fun _ _ _ h => h) (Or.inl ⟨by rfl, fun w' => by go_simp⟩) ?_
  try simp only [Act.put, List.getElem_toArray, List.getElem_cons_zero, List.getElem_cons_succ, List.setIfInBounds_toArray, List.set_cons_zero, List.set_cons_succ]
  refine wpAny_take (i := 1) (v := .int .i64 k) rfl (by kernel_rfl) (by kernel_rfl) (by kernel_rfl) (fun _ _ _ h => h) (Or.inl ⟨by rfl, fun w' => by go_simp⟩) ?_
  try simp only [Act.put, List.getElem_toArray, List.getElem_cons_zero, List.getElem_cons_succ, List.setIfInBounds_toArray, List.set_cons_zero, List.set_cons_succ]
  refine wpAny_take (i := 2) (v := .slice (some ⟨g0, 0, none⟩) hs.length c) rfl (by kernel_rfl) (by kernel_rfl) (by kernel_rfl) (fun _ _ _ h => h) (Or.inl ⟨by rfl, fun w' => by go_simp⟩) ?_
  try simp only [Act.put, List.getElem_toArray, List.getElem_cons_zero, List.getElem_cons_succ, List.setIfInBounds_toArray, List.set_cons_zero, List.set_cons_succ]
  refine wpAny_take (i := 3) (v := .int .i64 k) rfl (by kernel_rfl) (by kernel_rfl) (by kernel_rfl) (fun _ _ _ h => h) (Or.inl ⟨by rfl, fun w' => by go_simp⟩) ?_
  try simp only [Act.put, List.getElem_toArray, List.getElem_cons_zero, List.getElem_cons_succ, List.setIfInBounds_toArray, List.set_cons_zero, List.set_cons_succ]
  refine wpAny_take (i := 4) (v := .pointer (some ⟨g0, k, none⟩)) rfl (by kernel_rfl) (by kernel_rfl) (by kernel_rfl) (fun _ _ _ h => h) (Or.inl ⟨by rfl, fun w' => by go_simp⟩) ?_
  try simp only [Act.put, List.getElem_toArray, List.getElem_cons_zero, List.getElem_cons_succ, List.setIfInBounds_toArray, List.set_cons_zero, List.set_cons_succ]
  refine wpAny_ready (rs := [5, 6]) (by kernel_rfl) (by simp) ?_
  refine AllReady.cons rfl (fun K hK => ?_) (AllReady.cons rfl (fun K hK => ?_) AllReady.nil)
  · skip
    refine if_wanted rfl ?_
    go_simp
    refine hK _ _ ?_
    clear hK K
    try simp only [Act.put, List.getElem_toArray, List.getElem_cons_zero, List.getElem_cons_succ, List.setIfInBounds_toArray, List.set_cons_zero, List.set_cons_succ]
    refine wpAny_ready (rs := [6]) (by kernel_rfl) (by simp) ?_
    refine AllReady.cons rfl (fun K hK => ?_) AllReady.nil
    refine if_wanted rfl ?_
    go_simp
    refine hK _ _ ?_
    clear hK K
    try simp only [Act.put, List.getElem_toArray, List.getElem_cons_zero, List.getElem_cons_succ, List.setIfInBounds_toArray, List.set_cons_zero, List.set_cons_succ]
    refine wpAny_ready (rs := [7]) (by kernel_rfl) (by simp) ?_
    refine AllReady.cons rfl (fun K hK => ?_) AllReady.nil
    refine if_wanted rfl ?_
    go_simp
    refine hK _ _ ?_
    clear hK K
    try simp only [Act.put, List.getElem_toArray, List.getElem_cons_zero, List.getElem_cons_succ, List.setIfInBounds_toArray, List.set_cons_zero, List.set_cons_succ]
    refine wpAny_ready (rs := [8]) (by kernel_rfl) (by simp) ?_
    refine AllReady.cons rfl (fun K hK => ?_) AllReady.nil
    refine if_wanted rfl ?_
    refine wp_append_any _ (.tmp 11) (.tmp 13) 44 44 rfl b 30 i0 (.agg #[.int .u8 0, .int .i16 0, .int .i16 0]) 3 6 Tryd.underlying44 HI.out HZ0.out HZ1.out HZ2.out rfl (by decide) (.slice a xs.length c0) xs.length (xs.flatMap wcells) rfl ((HOW.out.alloc _).drew) _ 1 [.int .u8 k1, .int .i16 y1, .int .i16 n1] rfl (Src.ofSlice _ Tryd.underlying44 ⟨W0.heap.size, 0, none⟩ 1 1 _ rfl (three_cells W0 _ k1 y1 n1) (by intro u hu; simp only [List.mem_cons, List.not_mem_nil, or_false] at hu; rcases hu with rfl | rfl | rfl <;> rfl)) (by unfold maxLen; omega) (by omega) (by have := HSz.out; simp; omega) ?_
    intro v' w5 hown5 hg5 hblk5
    rw [ownBlock_slice] at hg5 hblk5
    have hown6 : w5.ownsRow b 30 3 v' (xs ++ [((k1, y1), n1)]).length ((xs ++ [((k1, y1), n1)]).flatMap wcells) := by rw [List.length_append, List.flatMap_append]; simpa [wcells] using hown5
    obtain ⟨A5, c5, rfl, -, -⟩ := own_rd wcells_length hown6
    rw [ownBlock_slice] at hblk5
    have hN5 := OwnN.put HN.out HK.out HX.out HBW.out hown6 hg5 hblk5
    rw [show (xs ++ [((k1, y1), n1)]).length = xs.length + 1 from by simp] at hN5
    have HN5 := Lib.hid hN5
    have e5 : w5.cell? ⟨g0, k, none⟩ = some (.slice a xs.length c0) := put_cell HN.out HK.out HBW.out hg5 hc1
    have f5 : w5.frozen? ⟨g0, k, none⟩ = false := put_frozen HN.out HK.out HBW.out hg5
    have HB5 : Hid (Below b w w5) := put_below HBb.out HOW.out hg5 (by have := HSz.out; omega)
    clear hown5 hown6 hg5 hblk5 hN5
    refine hK _ _ ?_
    clear hK K
    try simp only [Act.put, List.getElem_toArray, List.getElem_cons_zero, List.getElem_cons_succ, List.setIfInBounds_toArray, List.set_cons_zero, List.set_cons_succ]
    refine wpAny_take (i := 9) (v := .pointer (some ⟨g0, k, none⟩)) rfl (by kernel_rfl) (by kernel_rfl) (by kernel_rfl) (fun _ _ _ h => h) (Or.inl ⟨by rfl, fun w' => by go_simp⟩) ?_
    try simp only [Act.put, List.getElem_toArray, List.getElem_cons_zero, List.getElem_cons_succ, List.setIfInBounds_toArray, List.set_cons_zero, List.set_cons_succ]
    refine wpAny_ready (rs := [10]) (by kernel_rfl) (by simp) ?_
    refine AllReady.cons rfl (fun K hK => ?_) AllReady.nil
    refine if_wanted rfl ?_
    go_simp
    refine hK _ _ ?_
    clear hK K
    try simp only [Act.put, List.getElem_toArray, List.getElem_cons_zero, List.getElem_cons_succ, List.setIfInBounds_toArray, List.set_cons_zero, List.set_cons_succ]
    refine wpAny_done (by kernel_rfl) ?_ _
    try simp only [Act.put, List.getElem_toArray, List.getElem_cons_zero, List.getElem_cons_succ, List.setIfInBounds_toArray, List.set_cons_zero, List.set_cons_succ]
    go_wp2
    first | go_end0 | (refine bodyPost_ret (results_none rfl _ _ _) rfl ?_)
    exact ⟨_, rfl, HN5.out, HB5.out.setCell (p := ⟨g0, k, none⟩) (by have := own_block HN.out.1 rfl; exact this.1) _⟩
  · skip
    refine if_wanted rfl ?_
    go_simp
    refine hK _ _ ?_
    clear hK K
    try simp only [Act.put, List.getElem_toArray, List.getElem_cons_zero, List.getElem_cons_succ, List.setIfInBounds_toArray, List.set_cons_zero, List.set_cons_succ]
    refine wpAny_ready (rs := [5, 7]) (by kernel_rfl) (by simp) ?_
    refine AllReady.cons rfl (fun K hK => ?_) (AllReady.cons rfl (fun K hK => ?_) AllReady.nil)
    · skip
      refine if_wanted rfl ?_
      go_simp
      refine hK _ _ ?_
      clear hK K
      try simp only [Act.put, List.getElem_toArray, List.getElem_cons_zero, List.getElem_cons_succ, List.setIfInBounds_toArray, List.set_cons_zero, List.set_cons_succ]
      refine wpAny_ready (rs := [7]) (by kernel_rfl) (by simp) ?_
      refine AllReady.cons rfl (fun K hK => ?_) AllReady.nil
      refine if_wanted rfl ?_
      go_simp
      refine hK _ _ ?_
      clear hK K
      try simp only [Act.put, List.getElem_toArray, List.getElem_cons_zero, List.getElem_cons_succ, List.setIfInBounds_toArray, List.set_cons_zero, List.set_cons_succ]
      refine wpAny_ready (rs := [8]) (by kernel_rfl) (by simp) ?_
      refine AllReady.cons rfl (fun K hK => ?_) AllReady.nil
      refine if_wanted rfl ?_
      refine wp_append_any _ (.tmp 11) (.tmp 13) 44 44 rfl b 30 i0 (.agg #[.int .u8 0, .int .i16 0, .int .i16 0]) 3 6 Tryd.underlying44 HI.out HZ0.out HZ1.out HZ2.out rfl (by decide) (.slice a xs.length c0) xs.length (xs.flatMap wcells) rfl ((HOW.out.alloc _).drew) _ 1 [.int .u8 k1, .int .i16 y1, .int .i16 n1] rfl (Src.ofSlice _ Tryd.underlying44 ⟨W0.heap.size, 0, none⟩ 1 1 _ rfl (three_cells W0 _ k1 y1 n1) (by intro u hu; simp only [List.mem_cons, List.not_mem_nil, or_false] at hu; rcases hu with rfl | rfl | rfl <;> rfl)) (by unfold maxLen; omega) (by omega) (by have := HSz.out; simp; omega) ?_
      intro v' w5 hown5 hg5 hblk5
      rw [ownBlock_slice] at hg5 hblk5
      have hown6 : w5.ownsRow b 30 3 v' (xs ++ [((k1, y1), n1)]).length ((xs ++ [((k1, y1), n1)]).flatMap wcells) := by rw [List.length_append, List.flatMap_append]; simpa [wcells] using hown5
      obtain ⟨A5, c5, rfl, -, -⟩ := own_rd wcells_length hown6
      rw [ownBlock_slice] at hblk5
      have hN5 := OwnN.put HN.out HK.out HX.out HBW.out hown6 hg5 hblk5
      rw [show (xs ++ [((k1, y1), n1)]).length = xs.length + 1 from by simp] at hN5
      have HN5 := Lib.hid hN5
      have e5 : w5.cell? ⟨g0, k, none⟩ = some (.slice a xs.length c0) := put_cell HN.out HK.out HBW.out hg5 hc1
      have f5 : w5.frozen? ⟨g0, k, none⟩ = false := put_frozen HN.out HK.out HBW.out hg5
      have HB5 : Hid (Below b w w5) := put_below HBb.out HOW.out hg5 (by have := HSz.out; omega)
      clear hown5 hown6 hg5 hblk5 hN5
      refine hK _ _ ?_
      clear hK K
      try simp only [Act.put, List.getElem_toArray, List.getElem_cons_zero, List.getElem_cons_succ, List.setIfInBounds_toArray, List.set_cons_zero, List.set_cons_succ]
      refine wpAny_take (i := 9) (v := .pointer (some ⟨g0, k, none⟩)) rfl (by kernel_rfl) (by kernel_rfl) (by kernel_rfl) (fun _ _ _ h => h) (Or.inl ⟨by rfl, fun w' => by go_simp⟩) ?_
      try simp only [Act.put, List.getElem_toArray, List.getElem_cons_zero, List.getElem_cons_succ, List.setIfInBounds_toArray, List.set_cons_zero, List.set_cons_succ]
      refine wpAny_ready (rs := [10]) (by kernel_rfl) (by simp) ?_
      refine AllReady.cons rfl (fun K hK => ?_) AllReady.nil
      refine if_wanted rfl ?_
      go_simp
      refine hK _ _ ?_
      clear hK K
      try simp only [Act.put, List.getElem_toArray, List.getElem_cons_zero, List.getElem_cons_succ, List.setIfInBounds_toArray, List.set_cons_zero, List.set_cons_succ]
      refine wpAny_done (by kernel_rfl) ?_ _
      try simp only [Act.put, List.getElem_toArray, List.getElem_cons_zero, List.getElem_cons_succ, List.setIfInBounds_toArray, List.set_cons_zero, List.set_cons_succ]
      go_wp2
      first | go_end0 | (refine bodyPost_ret (results_none rfl _ _ _) rfl ?_)
      exact ⟨_, rfl, HN5.out, HB5.out.setCell (p := ⟨g0, k, none⟩) (by have := own_block HN.out.1 rfl; exact this.1) _⟩
    · skip
      refine if_wanted rfl ?_
      go_simp
      refine hK _ _ ?_
      clear hK K
      try simp only [Act.put, List.getElem_toArray, List.getElem_cons_zero, List.getElem_cons_succ, List.setIfInBounds_toArray, List.set_cons_zero, List.set_cons_succ]
      refine wpAny_ready (rs := [5]) (by kernel_rfl) (by simp) ?_
      refine AllReady.cons rfl (fun K hK => ?_) AllReady.nil
      refine if_wanted rfl ?_
      go_simp
      refine hK _ _ ?_
      clear hK K
      try simp only [Act.put, List.getElem_toArray, List.getElem_cons_zero, List.getElem_cons_succ, List.setIfInBounds_toArray, List.set_cons_zero, List.set_cons_succ]
      refine wpAny_ready (rs := [8]) (by kernel_rfl) (by simp) ?_
      refine AllReady.cons rfl (fun K hK => ?_) AllReady.nil
      refine if_wanted rfl ?_
      refine wp_append_any _ (.tmp 11) (.tmp 13) 44 44 rfl b 30 i0 (.agg #[.int .u8 0, .int .i16 0, .int .i16 0]) 3 6 Tryd.underlying44 HI.out HZ0.out HZ1.out HZ2.out rfl (by decide) (.slice a xs.length c0) xs.length (xs.flatMap wcells) rfl ((HOW.out.alloc _).drew) _ 1 [.int .u8 k1, .int .i16 y1, .int .i16 n1] rfl (Src.ofSlice _ Tryd.underlying44 ⟨W0.heap.size, 0, none⟩ 1 1 _ rfl (three_cells W0 _ k1 y1 n1) (by intro u hu; simp only [List.mem_cons, List.not_mem_nil, or_false] at hu; rcases hu with rfl | rfl | rfl <;> rfl)) (by unfold maxLen; omega) (by omega) (by have := HSz.out; simp; omega) ?_
      intro v' w5 hown5 hg5 hblk5
      rw [ownBlock_slice] at hg5 hblk5
      have hown6 : w5.ownsRow b 30 3 v' (xs ++ [((k1, y1), n1)]).length ((xs ++ [((k1, y1), n1)]).flatMap wcells) := by rw [List.length_append, List.flatMap_append]; simpa [wcells] using hown5
      obtain ⟨A5, c5, rfl, -, -⟩ := own_rd wcells_length hown6
      rw [ownBlock_slice] at hblk5
      have hN5 := OwnN.put HN.out HK.out HX.out HBW.out hown6 hg5 hblk5
      rw [show (xs ++ [((k1, y1), n1)]).length = xs.length + 1 from by simp] at hN5
      have HN5 := Lib.hid hN5
      have e5 : w5.cell? ⟨g0, k, none⟩ = some (.slice a xs.length c0) := put_cell HN.out HK.out HBW.out hg5 hc1
      have f5 : w5.frozen? ⟨g0, k, none⟩ = false := put_frozen HN.out HK.out HBW.out hg5
      have HB5 : Hid (Below b w w5) := put_below HBb.out HOW.out hg5 (by have := HSz.out; omega)
      clear hown5 hown6 hg5 hblk5 hN5
      refine hK _ _ ?_
      clear hK K
      try simp only [Act.put, List.getElem_toArray, List.getElem_cons_zero, List.getElem_cons_succ, List.setIfInBounds_toArray, List.set_cons_zero, List.set_cons_succ]
      refine wpAny_take (i := 9) (v := .pointer (some ⟨g0, k, none⟩)) rfl (by kernel_rfl) (by kernel_rfl) (by kernel_rfl) (fun _ _ _ h => h) (Or.inl ⟨by rfl, fun w' => by go_simp⟩) ?_
      try simp only [Act.put, List.getElem_toArray, List.getElem_cons_zero, List.getElem_cons_succ, List.setIfInBounds_toArray, List.set_cons_zero, List.set_cons_succ]
      refine wpAny_ready (rs := [10]) (by kernel_rfl) (by simp) ?_
      refine AllReady.cons rfl (fun K hK => ?_) AllReady.nil
      refine if_wanted rfl ?_
      go_simp
      refine hK _ _ ?_
      clear hK K
      try simp only [Act.put, List.getElem_toArray, List.getElem_cons_zero, List.getElem_cons_succ, List.setIfInBounds_toArray, List.set_cons_zero, List.set_cons_succ]
      refine wpAny_done (by kernel_rfl) ?_ _
      try simp only [Act.put, List.getElem_toArray, List.getElem_cons_zero, List.getElem_cons_succ, List.setIfInBounds_toArray, List.set_cons_zero, List.set_cons_succ]
      go_wp2
      first | go_end0 | (refine bodyPost_ret (results_none rfl _ _ _) rfl ?_)
      exact ⟨_, rfl, HN5.out, HB5.out.setCell (p := ⟨g0, k, none⟩) (by have := own_block HN.out.1 rfl; exact this.1) _⟩

end Go.Proofs.YtmfdgpinohbckaaDoor
