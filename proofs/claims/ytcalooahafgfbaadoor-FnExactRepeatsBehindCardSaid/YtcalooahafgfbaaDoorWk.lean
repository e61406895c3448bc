/-
  Walkers: their cells; the contracts of toWalker, eqWalker, szWalkerS, toWalkerS and of eqWalkerS at equal arguments. Condition: a list of at most 1048576 walkers.
-/
import Derived.Test.YtcalooahafgfbaaDoorL
import Derived.Test.YtcalooahafgfbaaDoorW0
import Derived.Test.YtcalooahafgfbaaDoorYm
import Derived.Test.YtcalooahafgfbaaDoorFlb
import Derived.Deep.RegionHeld3
namespace Go.Proofs.YtcalooahafgfbaaDoor
open Go.ChangeShapes Go.WideShapes Go.ChangeAt Go.RowKit Go.Deep

def vcells (x : Wal) : List Value := [.int .i16 x.fi, .int .i16 x.ev, .int .i16 x.st, .int .i16 x.sp, .int .i16 x.co, .int .i8 x.tu]
theorem vcells_length (x : Wal) : (vcells x).length = 6 := rfl
theorem vcells_one (x : Wal) : (vcells x).toArray.all (·.oneCell') = true := all_one (by intro v hv; simp only [vcells, List.mem_cons, List.not_mem_nil, or_false] at hv; rcases hv with rfl | rfl | rfl | rfl | rfl | rfl <;> rfl)
theorem vcells_of (cs : List Value) (h : FitsL [.i16, .i16, .i16, .i16, .i16, .i8] cs) : ∃ b, wfV b ∧ cs = vcells b := by
  match cs, h.length, h with
  | [c0, c1, c2, c3, c4, c5], _, h =>
    obtain ⟨⟨n0, rfl, h0⟩, ⟨n1, rfl, h1⟩, ⟨n2, rfl, h2⟩, ⟨n3, rfl, h3⟩, ⟨n4, rfl, h4⟩, ⟨n5, rfl, h5⟩, _⟩ := h
    exact ⟨⟨n0, n1, n2, n3, n4, n5⟩, ⟨wf_i16 h0, wf_i16 h1, wf_i16 h2, wf_i16 h3, wf_i16 h4, bounds_i8 h5⟩, rfl⟩
theorem Tryd.flatVL : FlatT Tryd.prog 39 [.i16, .i16, .i16, .i16, .i16, .i8] :=
  flat_struct (fs := [_, _, _, _, _, _]) (kss := [[.i16], [.i16], [.i16], [.i16], [.i16], [.i8]]) Tryd.underlying39 (by kernel_rfl) ⟨by kernel_rfl, rfl, .int Tryd.underlying33, by kernel_rfl, rfl, .int Tryd.underlying33, by kernel_rfl, rfl, .int Tryd.underlying33, by kernel_rfl, rfl, .int Tryd.underlying33, by kernel_rfl, rfl, .int Tryd.underlying33, by kernel_rfl, rfl, .int Tryd.underlying34, trivial⟩
theorem Tryd.cellsVL : Tryd.prog.cellsOf 39 = 6 := by kernel_rfl
theorem Tryd.sizeVL : (Tryd.prog.info? 39).map (·.size) = some 6 := by kernel_rfl
theorem Tryd.sizeVI : (Tryd.prog.info? 36).map (·.size) = some 6 := by kernel_rfl
theorem Tryd.sizeVIx (x : Wal) : (Tryd.prog.info? 36).map (·.size) = some (vcells x).toArray.size := by rw [Tryd.sizeVI]; rfl
theorem Tryd.infoVI : (Tryd.prog.info? 36).map (fun i => (i.zero, i.size, i.bytes)) = some (some (.agg #[.int .i16 0, .int .i16 0, .int .i16 0, .int .i16 0, .int .i16 0, .int .i8 0]), 6, 12) := by kernel_rfl

theorem toWalker_any (x : Wal) (w : World) : Calls Tryd.prog 12 #[.agg (vcells x).toArray] w fun e w' => e = .returned (.agg (vcells x).toArray) ∧ Below w.heap.size w w' := by
  obtain ⟨fi, ev, st, sp, co, tu⟩ := x
  show Calls Tryd.prog 12 #[.agg #[.int .i16 fi, .int .i16 ev, .int .i16 st, .int .i16 sp, .int .i16 co, .int .i8 tu]] w fun e w' => e = .returned (.agg #[.int .i16 fi, .int .i16 ev, .int .i16 st, .int .i16 sp, .int .i16 co, .int .i8 tu]) ∧ Below w.heap.size w w'
  go_enter Tryd.func12, Tryd.ntmps12
  go_wp2
  refine bodyPost_ret (v := .agg #[.int .i16 fi, .int .i16 ev, .int .i16 st, .int .i16 sp, .int .i16 co, .int .i8 tu]) (by simp [results, Tryd.results12, go_sem]) rfl ⟨rfl, (by repeat (first | exact Below.refl _ _ | refine Below.drew ?_ | refine Below.alloc ?_ (by simp <;> omega) _ | refine Below.setCell ?_ (by simp <;> omega) _))⟩
theorem eqWalker_same (x : Wal) (w : World) : Calls Tryd.prog 16 #[.agg (vcells x).toArray, .agg (vcells x).toArray] w fun e w' => e = .returned (.bool true) ∧ Below w.heap.size w w' := by
  obtain ⟨fi, ev, st, sp, co, tu⟩ := x
  show Calls Tryd.prog 16 #[.agg #[.int .i16 fi, .int .i16 ev, .int .i16 st, .int .i16 sp, .int .i16 co, .int .i8 tu], .agg #[.int .i16 fi, .int .i16 ev, .int .i16 st, .int .i16 sp, .int .i16 co, .int .i8 tu]] w fun e w' => e = .returned (.bool true) ∧ Below w.heap.size w w'
  go_enter Tryd.func16, Tryd.ntmps16
  go_wp2
  all_goals (go_ret; exact ⟨rfl, (by repeat (first | exact Below.refl _ _ | refine Below.drew ?_ | refine Below.alloc ?_ (by simp <;> omega) _ | refine Below.setCell ?_ (by simp <;> omega) _))⟩)
theorem szWalkerS_any (A : Option Addr) (n c : Nat) (l : Int) (hn : n ≤ 9223372036854775807) (hl : 0 ≤ l ∧ l ≤ 1048576) (w : World) : Calls Tryd.prog 4 #[.slice A n c, .int .i64 l] w fun e w' => e = .returned (.int .i64 (if l < n then -1 else l - n)) ∧ w = w' := by
  obtain ⟨l0, l1⟩ := hl
  by_cases h : l < n
  · rw [if_pos h]
    go_enter Tryd.func4, Tryd.ntmps4
    go_wp2
    go_ret
    exact ⟨rfl, rfl⟩
  · rw [if_neg h]
    go_enter Tryd.func4, Tryd.ntmps4
    go_wp2
    go_ret
    exact ⟨rfl, rfl⟩

/-- What stands between two rounds of toWalkerS. -/
def TVal (xs : List Wal) (w : World) (k : Nat) (X : List Wal) (wr : World) : Prop :=
  X.length = xs.length ∧ (∀ j, j < k → X[j]? = xs[j]?) ∧ Rs wr w.heap.size 36 vcells X ∧ Below w.heap.size w wr
theorem TVal.step {xs : List Wal} {w wr w1 : World} {k : Nat} {X : List Wal} {x : Wal} (h : TVal xs w k X wr) (hk : xs[k]? = some x) (hb : Below wr.heap.size wr w1) :
    TVal xs w (k + 1) (X.set k x) (w1.setCells w.heap.size (k * 6) (vcells x).toArray.toList) := by
  obtain ⟨hX, hj, hO, hB⟩ := h
  have hkl := (List.getElem?_eq_some_iff.1 hk).1
  refine ⟨by simp [hX], fun j hjk => ?_, ?_, Below.setCells (hB.trans (hb.mono hB.size)) _ _ _ (Nat.le_refl _)⟩
  · by_cases e : j = k
    · subst e
      rw [List.getElem?_set_self (by omega), hk]
    · rw [List.getElem?_set_ne (by omega)]
      exact hj j (by omega)
  · exact Rs.set_ vcells_length (Blk.keep hO hb) (by omega) x
theorem TVal.same {xs : List Wal} {w : World} {X : List Wal} {wr : World} (h : TVal xs w xs.length X wr) : X = xs := by
  apply List.ext_getElem?
  intro j
  by_cases hj : j < xs.length
  · exact h.2.1 j hj
  · rw [List.getElem?_eq_none (by rw [h.1]; omega), List.getElem?_eq_none (by omega)]

set_option maxRecDepth 100000 in
set_option maxHeartbeats 1000000 in
theorem toWalkerS_any (xs : List Wal) (A : Option Addr) (c : Nat) (w : World) (hl : xs.length ≤ 1048576) (hr : Rd w w.heap.size vcells A xs) :
    Calls Tryd.prog 6 #[.slice A xs.length c] w fun e w' => e = .returned (.slice (some ⟨w.heap.size, 0, none⟩) xs.length xs.length) ∧ Rs w' w.heap.size 36 vcells xs ∧ Below w.heap.size w w' := by
  obtain ⟨i0, hi, hz0, hz1, hz2⟩ := info_parts Tryd.infoVI
  have HR := Lib.hid hr
  clear hr
  go_enter Tryd.func6, Tryd.ntmps6
  go_wp2_with (refine wpList_make_full _ rfl (.tmp 6) (.tmp 6) 26 rfl w.heap.size 36 i0 _ 6 Tryd.underlying26 hi hz0 hz1 .i64 .i64 _ _ xs.length rfl rfl rfl rfl (by rw [hz2]; omega) (by unfold maxLen; omega) (Nat.le_refl _) ?_; intro w1 hown hg)
  have hR0 : Rs w1 w.heap.size 36 vcells (List.replicate xs.length (⟨0, 0, 0, 0, 0, 0⟩ : Wal)) := by
    have := blk_of_make hown
    rw [made_rows vcells_length (⟨0, 0, 0, 0, 0, 0⟩ : Wal) (Value.agg #[Value.int IntKind.i16 0, Value.int IntKind.i16 0, Value.int IntKind.i16 0, Value.int IntKind.i16 0, Value.int IntKind.i16 0, Value.int IntKind.i8 0]).cells rfl (by omega)] at this
    exact this
  have hB0 : Below w.heap.size w w1 := (Below.refl _ w).grown hg (Nat.le_refl _) (fun _ h => by cases h)
  have HT : Hid (TVal xs w 0 (List.replicate xs.length (⟨0, 0, 0, 0, 0, 0⟩ : Wal)) w1) := ⟨by simp, fun j h => by omega, hR0, hB0⟩
  clear hR0 hB0 hown hg hi hz0 hz1 hz2
  go_loopw [4] (fun i wr => ∃ (k : Nat), k ≤ xs.length ∧ i = .int .i64 k ∧ ∃ X, TVal xs w k X wr)
    (fun i _ => xs.length - (intOf i).toNat)
  case atStart => exact ⟨0, by omega, rfl, _, HT.out⟩
  case round =>
    clear HT
    obtain ⟨k, hk, rfl, X, hT⟩ := hrel
    have HT := Lib.hid hT
    clear hT
    by_cases hlt : k < xs.length
    · obtain ⟨x, hx⟩ : ∃ x, xs[k]? = some x := ⟨_, List.getElem?_eq_getElem hlt⟩
      obtain ⟨b, o, rfl, hbl, hrow⟩ := (HR.out.below (Nat.le_refl _) HT.out.2.2.2).at_ vcells_length hx
      have HX := Lib.hid hx
      have HRow := Lib.hid hrow
      clear hx hrow
      go_wp2_with (refine wpList_load_mid rfl 39 (.tmp 18) rfl b (o + k * 6) rfl (vcells x) _ HRow.out Tryd.underlying39 rfl Tryd.sizeVL ?_)
      refine (toWalker_any x _).mono ?_
      rintro e w2 ⟨rfl, hb2⟩
      have HB2 := Lib.hid hb2
      clear hb2
      have hth : w2.there w.heap.size (k * 6) (vcells x).toArray.size := Rs.there (size := 6) (cells := vcells) (xs := X) (t := 36) vcells_length (Blk.keep HT.out.2.2.1 HB2.out) (by rw [HT.out.1]; exact hlt) x
      go_wp2_with (refine wpList_store_mid rfl 36 (.tmp 21) (.tmp 20) rfl w.heap.size (k * 6) (vcells x).toArray rfl rfl ?ht (Tryd.sizeVIx x) (vcells_one x) ?_)
      case ht => exact hth
      go_roundw
      case rel => exact ⟨k + 1, by omega, by go_num, _, HT.out.step HX.out HB2.out⟩
      case measure => simp [intOf]; omega
    · obtain rfl : k = xs.length := by omega
      obtain rfl := HT.out.same
      go_wp2
      go_ret
      exact ⟨rfl, HT.out.2.2⟩

set_option maxRecDepth 100000 in
set_option maxHeartbeats 1000000 in
theorem eqWalkerS_same (xs : List Wal) (A B : Option Addr) (c d : Nat) (w : World) (hl : xs.length ≤ 4611686018427387904) (hA : Rd w w.heap.size vcells A xs) (hB : Rd w w.heap.size vcells B xs) :
    Calls Tryd.prog 8 #[.slice A xs.length c, .slice B xs.length d] w fun e w' => e = .returned (.bool true) ∧ Below w.heap.size w w' := by
  have HA := Lib.hid hA
  have HB := Lib.hid hB
  clear hA hB
  go_enter Tryd.func8, Tryd.ntmps8
  go_wp2_with fail
  go_loopw [5] (fun i wr => ∃ (k : Nat), k ≤ xs.length ∧ i = .int .i64 k ∧ Below w.heap.size w wr)
    (fun i _ => xs.length - (intOf i).toNat)
  case atStart => exact ⟨0, by omega, rfl, Below.refl _ _⟩
  case round =>
    obtain ⟨k, hk, rfl, hT⟩ := hrel
    have HT := Lib.hid hT
    clear hT
    by_cases hlt : k < xs.length
    · obtain ⟨x, hx⟩ : ∃ x, xs[k]? = some x := ⟨_, List.getElem?_eq_getElem hlt⟩
      obtain ⟨b, o, rfl, hbl, hrow⟩ := (HA.out.below (Nat.le_refl _) HT.out).at_ vcells_length hx
      obtain ⟨b', o', rfl, hbl', hrow'⟩ := (HB.out.below (Nat.le_refl _) HT.out).at_ vcells_length hx
      have hb1 : b < wr.heap.size := Nat.lt_of_lt_of_le hbl HT.out.size
      have hb2 : b' < wr.heap.size := Nat.lt_of_lt_of_le hbl' HT.out.size
      clear hx
      have hk0 : (0 : Int) ≤ (k : Int) := Int.natCast_nonneg _
      have hk8 : (k : Int) < xs.length := by omega
      have hu := Tryd.underlying36
      have hi : (Tryd.prog.info? 36).map (·.size) = some (vcells x).length := Tryd.sizeVI
      have hs0 : Below wr.heap.size wr wr := Below.refl _ _
      go_wp2_with fail
      refine wp_region_held_drew (S := fun w' => w'.rangeAt b (o + k * 6) (vcells x) ∧ w'.rangeAt b' (o' + k * 6) (vcells x) ∧ Below wr.heap.size wr w') (by kernel_rfl) ⟨(World.rangeAt_drew _ _ _ _).2 hrow, (World.rangeAt_drew _ _ _ _).2 hrow', hs0.drew⟩ (fun hHeld => ?_)
      refine wpAnyH_take (i := 0) (v := .slice (some ⟨b, o, none⟩) xs.length c) rfl (by kernel_rfl) (by kernel_rfl) (by kernel_rfl) (fun _ _ _ h => h) (Or.inl ⟨by rfl, fun w _ => by go_simp⟩) (by assumption) ?_
      refine wpAnyH_take (i := 1) (v := .int .i64 k) rfl (by kernel_rfl) (by kernel_rfl) (by kernel_rfl) (fun _ _ _ h => h) (Or.inl ⟨by rfl, fun w _ => by go_simp⟩) (by assumption) ?_
      refine wpAnyH_take (i := 2) (v := .pointer (some ⟨b, o + k * 6, none⟩)) rfl (by kernel_rfl) (by kernel_rfl) (by kernel_rfl) (fun _ _ _ h => h) (Or.inl ⟨by rfl, fun w _ => by go_simp⟩) (by assumption) ?_
      refine' wpAnyH_take (i := 3) (v := _) rfl (by kernel_rfl) (by kernel_rfl) (by kernel_rfl) (fun _ _ _ h => h) (yieldsIf_load_mid (by rfl) 36 (.tmp 19) rfl b (o + k * 6) rfl (vcells x) _ (fun w h => h.1) hu rfl hi) (by assumption) ?_
      refine wpAnyH_take (i := 4) (v := .slice (some ⟨b', o', none⟩) xs.length d) rfl (by kernel_rfl) (by kernel_rfl) (by kernel_rfl) (fun _ _ _ h => h) (Or.inl ⟨by rfl, fun w _ => by go_simp⟩) (by assumption) ?_
      refine wpAnyH_take (i := 5) (v := .int .i64 k) rfl (by kernel_rfl) (by kernel_rfl) (by kernel_rfl) (fun _ _ _ h => h) (Or.inl ⟨by rfl, fun w _ => by go_simp⟩) (by assumption) ?_
      refine wpAnyH_take (i := 6) (v := .pointer (some ⟨b', o' + k * 6, none⟩)) rfl (by kernel_rfl) (by kernel_rfl) (by kernel_rfl) (fun _ _ _ h => h) (Or.inl ⟨by rfl, fun w _ => by go_simp⟩) (by assumption) ?_
      refine' wpAnyH_take (i := 7) (v := _) rfl (by kernel_rfl) (by kernel_rfl) (by kernel_rfl) (fun _ _ _ h => h) (yieldsIf_load_mid (by rfl) 36 (.tmp 23) rfl b' (o' + k * 6) rfl (vcells x) _ (fun w h => h.2.1) hu rfl hi) (by assumption) ?_
      refine wpAnyH_ready (rs := [8]) (by kernel_rfl) (by simp) ?_
      refine AllReadyH.cons rfl (fun K hK => ?_) AllReadyH.nil
      refine if_wanted rfl ?_
      go_simp
      refine (eqWalker_same x _).mono ?_
      rintro e w2 ⟨rfl, hb⟩
      dsimp only
      refine hK.out _ _ (keptR hb1 hb2 hHeld.2.2 hb hHeld.1 hHeld.2.1) (fun hHeld => ?_)
      clear hK K
      refine wpAnyH_take (i := 9) (v := .bool false) rfl (by kernel_rfl) (by kernel_rfl) (by kernel_rfl) (fun _ _ _ h => h) (Or.inl ⟨by rfl, fun w _ => by go_simp⟩) (by assumption) ?_
      refine wpAnyH_done (by kernel_rfl) ?_ _
      have HR : Hid (Below wr.heap.size wr w2) := hHeld.2.2
      clear hHeld hb hrow hrow'
      go_wp2
      go_roundw
      case rel => exact ⟨k + 1, by omega, by go_num, HT.out.trans (HR.out.mono HT.out.size)⟩
      case measure => simp [intOf]; omega
    · obtain rfl : k = xs.length := by omega
      go_wp2
      go_ret
      exact ⟨rfl, HT.out⟩
end Go.Proofs.YtcalooahafgfbaaDoor
