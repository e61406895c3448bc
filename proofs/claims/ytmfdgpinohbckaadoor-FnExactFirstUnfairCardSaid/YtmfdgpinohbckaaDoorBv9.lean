/-
  The contracts of szBottleS, toBottleS and of eqBottleS at equal arguments. Condition: a list of at most 1048576 bottles.
-/
import Derived.Test.YtmfdgpinohbckaaDoorL
import Derived.Test.YtmfdgpinohbckaaDoorW0
import Derived.Test.YtmfdgpinohbckaaDoorI6
import Derived.Test.YtmfdgpinohbckaaDoorFlb
import Derived.Deep.RegionHeld3
namespace Go.Proofs.YtmfdgpinohbckaaDoor
open Go.ChangeShapes Go.WideShapes Go.ChangeAt Go.RowKit Go.Deep

theorem bcells_length (x : Bot) : (bcells x).length = 2 := rfl
theorem bcells_one (x : Bot) : (bcells x).toArray.all (·.oneCell') = true := all_one (by intro v hv; simp only [bcells, List.mem_cons, List.not_mem_nil, or_false] at hv; rcases hv with rfl | rfl <;> rfl)
theorem bcells_of (cs : List Value) (h : FitsL [.u8, .i16] cs) : ∃ b, wfB b ∧ cs = bcells b := by
  match cs, h.length, h with
  | [c0, c1], _, h =>
    obtain ⟨⟨k, rfl, hk⟩, ⟨y, rfl, hy⟩, _⟩ := h
    have hk := wf_u8 hk
    have hy := wf_i16 hy
    exact ⟨(k, y), ⟨hk.1, hk.2, hy.1, hy.2⟩, rfl⟩
theorem Tryd.infoBt : (Tryd.prog.info? 28).map (fun i => (i.zero, i.size, i.bytes)) = some (some (.agg #[.int .u8 0, .int .i16 0]), 2, 4) := by kernel_rfl
theorem Tryd.sizeBt : (Tryd.prog.info? 28).map (·.size) = some 2 := by kernel_rfl
theorem Tryd.flatBL : FlatT Tryd.prog 38 [.u8, .i16] :=
  flat_struct (fs := [_, _]) (kss := [[.u8], [.i16]]) Tryd.underlying38 (by kernel_rfl) ⟨by kernel_rfl, rfl, .int Tryd.underlying5, by kernel_rfl, rfl, .int Tryd.underlying26, trivial⟩
theorem Tryd.cellsBL : Tryd.prog.cellsOf 38 = 2 := by kernel_rfl
theorem Tryd.sizeBL : (Tryd.prog.info? 38).map (·.size) = some 2 := by kernel_rfl
theorem toBot_any (x : Bot) (w : World) : Calls Tryd.prog 17 #[.agg (bcells x).toArray] w fun e w' => e = .returned (.agg (bcells x).toArray) ∧ Below w.heap.size w w' := toBottle_any x.1 x.2 w
theorem eqBottle_same (k y : Int) (w : World) : Calls Tryd.prog 45 #[.agg #[.int .u8 k, .int .i16 y], .agg #[.int .u8 k, .int .i16 y]] w fun e w' => e = .returned (.bool true) ∧ Below w.heap.size w w' := by
  go_enter Tryd.func45, Tryd.ntmps45
  go_wp2
  go_ret
  exact ⟨rfl, (by repeat (first | exact Below.refl _ _ | refine Below.drew ?_ | refine Below.alloc ?_ (by simp <;> omega) _ | refine Below.setCell ?_ (by simp <;> omega) _))⟩
theorem eqBot_same (x : Bot) (w : World) : Calls Tryd.prog 45 #[.agg (bcells x).toArray, .agg (bcells x).toArray] w fun e w' => e = .returned (.bool true) ∧ Below w.heap.size w w' := eqBottle_same x.1 x.2 w

theorem szBottleS_any (A : Option Addr) (n c : Nat) (l : Int) (hn : n ≤ 9223372036854775807) (hl : 0 ≤ l ∧ l ≤ 1048576) (w : World) : Calls Tryd.prog 19 #[.slice A n c, .int .i64 l] w fun e w' => e = .returned (.int .i64 (if l < n then -1 else l - n)) ∧ w = w' := by
  obtain ⟨l0, l1⟩ := hl
  by_cases h : l < n
  · rw [if_pos h]
    go_enter Tryd.func19, Tryd.ntmps19
    go_wp2
    go_ret
    exact ⟨rfl, rfl⟩
  · rw [if_neg h]
    go_enter Tryd.func19, Tryd.ntmps19
    go_wp2
    go_ret
    exact ⟨rfl, rfl⟩

/-- What stands between two rounds of toBottleS. -/
def TBw (xs : List Bot) (w : World) (k : Nat) (X : List Bot) (wr : World) : Prop :=
  X.length = xs.length ∧ (∀ j, j < k → X[j]? = xs[j]?) ∧ Rs wr w.heap.size 28 bcells X ∧ Below w.heap.size w wr
theorem TBw.step {xs : List Bot} {w wr w1 : World} {k : Nat} {X : List Bot} {x : Bot} (h : TBw xs w k X wr) (hk : xs[k]? = some x) (hb : Below wr.heap.size wr w1) :
    TBw xs w (k + 1) (X.set k x) (w1.setCells w.heap.size (k * 2) (bcells x).toArray.toList) := by
  obtain ⟨hX, hj, hO, hB⟩ := h
  have hkl := (List.getElem?_eq_some_iff.1 hk).1
  refine ⟨by simp [hX], fun j hjk => ?_, ?_, Below.setCells (hB.trans (hb.mono hB.size)) _ _ _ (Nat.le_refl _)⟩
  · by_cases e : j = k
    · subst e
      rw [List.getElem?_set_self (by omega), hk]
    · rw [List.getElem?_set_ne (by omega)]
      exact hj j (by omega)
  · exact Rs.set_ bcells_length (Blk.keep hO hb) (by omega) x
theorem TBw.same {xs : List Bot} {w : World} {X : List Bot} {wr : World} (h : TBw xs w xs.length X wr) : X = xs := by
  apply List.ext_getElem?
  intro j
  by_cases hj : j < xs.length
  · exact h.2.1 j hj
  · rw [List.getElem?_eq_none (by rw [h.1]; omega), List.getElem?_eq_none (by omega)]

set_option maxRecDepth 100000 in
set_option maxHeartbeats 1000000 in
theorem toBottleS_any (xs : List Bot) (A : Option Addr) (c : Nat) (w : World) (hl : xs.length ≤ 1048576) (hr : Rd w w.heap.size bcells A xs) :
    Calls Tryd.prog 21 #[.slice A xs.length c] w fun e w' => e = .returned (.slice (some ⟨w.heap.size, 0, none⟩) xs.length xs.length) ∧ Rs w' w.heap.size 28 bcells xs ∧ Below w.heap.size w w' := by
  obtain ⟨i0, hi, hz0, hz1, hz2⟩ := info_parts Tryd.infoBt
  have HR := Lib.hid hr
  clear hr
  go_enter Tryd.func21, Tryd.ntmps21
  go_wp2_with (refine wpList_make_full _ rfl (.tmp 6) (.tmp 6) 47 rfl w.heap.size 28 i0 _ 2 Tryd.underlying47 hi hz0 hz1 .i64 .i64 _ _ xs.length rfl rfl rfl rfl (by rw [hz2]; omega) (by unfold maxLen; omega) (Nat.le_refl _) ?_; intro w1 hown hg)
  have hR0 : Rs w1 w.heap.size 28 bcells (List.replicate xs.length (0, 0)) := by
    have := blk_of_make hown
    rw [made_rows bcells_length (0, 0) (Value.agg #[Value.int IntKind.u8 0, Value.int IntKind.i16 0]).cells rfl (by omega)] at this
    exact this
  have hB0 : Below w.heap.size w w1 := (Below.refl _ w).grown hg (Nat.le_refl _) (fun _ h => by cases h)
  have HT : Hid (TBw xs w 0 (List.replicate xs.length (0, 0)) w1) := ⟨by simp, fun j h => by omega, hR0, hB0⟩
  clear hR0 hB0 hown hg hi hz0 hz1 hz2
  go_loopw [4] (fun i wr => ∃ (k : Nat), k ≤ xs.length ∧ i = .int .i64 k ∧ ∃ X, TBw xs w k X wr)
    (fun i _ => xs.length - (intOf i).toNat)
  case atStart => exact ⟨0, by omega, rfl, _, HT.out⟩
  case round =>
    clear HT
    obtain ⟨k, hk, rfl, X, hT⟩ := hrel
    have HT := Lib.hid hT
    clear hT
    by_cases hlt : k < xs.length
    · obtain ⟨x, hx⟩ : ∃ x, xs[k]? = some x := ⟨_, List.getElem?_eq_getElem hlt⟩
      obtain ⟨b, o, rfl, hbl, hrow⟩ := (HR.out.below (Nat.le_refl _) HT.out.2.2.2).at_ bcells_length hx
      have HX := Lib.hid hx
      have HRow := Lib.hid hrow
      clear hx hrow
      go_wp2_with (refine wpList_load_mid rfl 38 (.tmp 18) rfl b (o + k * 2) rfl (bcells x) _ HRow.out Tryd.underlying38 rfl Tryd.sizeBL ?_)
      refine (toBot_any x _).mono ?_
      rintro e w2 ⟨rfl, hb2⟩
      have HB2 := Lib.hid hb2
      clear hb2
      go_wp2_with (refine wpList_store_mid rfl 28 (.tmp 21) (.tmp 20) rfl w.heap.size (k * 2) (bcells x).toArray rfl rfl (Rs.there bcells_length (Blk.keep HT.out.2.2.1 HB2.out) (by rw [HT.out.1]; exact hlt) x) Tryd.sizeBt (bcells_one x) ?_)
      go_roundw
      case rel => exact ⟨k + 1, by omega, by go_num, _, HT.out.step HX.out HB2.out⟩
      case measure => simp [intOf]; omega
    · obtain rfl : k = xs.length := by omega
      obtain rfl := HT.out.same
      go_wp2
      go_ret
      exact ⟨rfl, HT.out.2.2⟩

set_option maxRecDepth 100000 in
set_option maxHeartbeats 1000000 in
theorem eqBots_same (xs : List Bot) (A B : Option Addr) (c d : Nat) (w : World) (hl : xs.length ≤ 4611686018427387904) (hA : Rd w w.heap.size bcells A xs) (hB : Rd w w.heap.size bcells B xs) :
    Calls Tryd.prog 24 #[.slice A xs.length c, .slice B xs.length d] w fun e w' => e = .returned (.bool true) ∧ Below w.heap.size w w' := by
  have HA := Lib.hid hA
  have HB := Lib.hid hB
  clear hA hB
  go_enter Tryd.func24, Tryd.ntmps24
  go_wp2_with fail
  go_loopw [5] (fun i wr => ∃ (k : Nat), k ≤ xs.length ∧ i = .int .i64 k ∧ Below w.heap.size w wr)
    (fun i _ => xs.length - (intOf i).toNat)
  case atStart => exact ⟨0, by omega, rfl, Below.refl _ _⟩
  case round =>
    obtain ⟨k, hk, rfl, hT⟩ := hrel
    have HT := Lib.hid hT
    clear hT
    by_cases hlt : k < xs.length
    · obtain ⟨x, hx⟩ : ∃ x, xs[k]? = some x := ⟨_, List.getElem?_eq_getElem hlt⟩
      obtain ⟨b, o, rfl, hbl, hrow⟩ := (HA.out.below (Nat.le_refl _) HT.out).at_ bcells_length hx
      obtain ⟨b', o', rfl, hbl', hrow'⟩ := (HB.out.below (Nat.le_refl _) HT.out).at_ bcells_length hx
      have hb1 : b < wr.heap.size := Nat.lt_of_lt_of_le hbl HT.out.size
      have hb2 : b' < wr.heap.size := Nat.lt_of_lt_of_le hbl' HT.out.size
      clear hx
      have hk0 : (0 : Int) ≤ (k : Int) := Int.natCast_nonneg _
      have hk8 : (k : Int) < xs.length := by omega
      have hu := Tryd.underlying28
      have hi : (Tryd.prog.info? 28).map (·.size) = some (bcells x).length := Tryd.sizeBt
      have hs0 : Below wr.heap.size wr wr := Below.refl _ _
      go_wp2_with fail
      refine wp_region_held_drew (S := fun w' => w'.rangeAt b (o + k * 2) (bcells x) ∧ w'.rangeAt b' (o' + k * 2) (bcells x) ∧ Below wr.heap.size wr w') (by kernel_rfl) ⟨(World.rangeAt_drew _ _ _ _).2 hrow, (World.rangeAt_drew _ _ _ _).2 hrow', hs0.drew⟩ (fun hHeld => ?_)
      refine wpAnyH_take (i := 0) (v := .slice (some ⟨b, o, none⟩) xs.length c) rfl (by kernel_rfl) (by kernel_rfl) (by kernel_rfl) (fun _ _ _ h => h) (Or.inl ⟨by rfl, fun w _ => by go_simp⟩) (by assumption) ?_
      refine wpAnyH_take (i := 1) (v := .int .i64 k) rfl (by kernel_rfl) (by kernel_rfl) (by kernel_rfl) (fun _ _ _ h => h) (Or.inl ⟨by rfl, fun w _ => by go_simp⟩) (by assumption) ?_
      refine wpAnyH_take (i := 2) (v := .pointer (some ⟨b, o + k * 2, none⟩)) rfl (by kernel_rfl) (by kernel_rfl) (by kernel_rfl) (fun _ _ _ h => h) (Or.inl ⟨by rfl, fun w _ => by go_simp⟩) (by assumption) ?_
      refine' wpAnyH_take (i := 3) (v := _) rfl (by kernel_rfl) (by kernel_rfl) (by kernel_rfl) (fun _ _ _ h => h) (yieldsIf_load_mid (by rfl) 28 (.tmp 19) rfl b (o + k * 2) rfl (bcells x) _ (fun w h => h.1) hu rfl hi) (by assumption) ?_
      refine wpAnyH_take (i := 4) (v := .slice (some ⟨b', o', none⟩) xs.length d) rfl (by kernel_rfl) (by kernel_rfl) (by kernel_rfl) (fun _ _ _ h => h) (Or.inl ⟨by rfl, fun w _ => by go_simp⟩) (by assumption) ?_
      refine wpAnyH_take (i := 5) (v := .int .i64 k) rfl (by kernel_rfl) (by kernel_rfl) (by kernel_rfl) (fun _ _ _ h => h) (Or.inl ⟨by rfl, fun w _ => by go_simp⟩) (by assumption) ?_
      refine wpAnyH_take (i := 6) (v := .pointer (some ⟨b', o' + k * 2, none⟩)) rfl (by kernel_rfl) (by kernel_rfl) (by kernel_rfl) (fun _ _ _ h => h) (Or.inl ⟨by rfl, fun w _ => by go_simp⟩) (by assumption) ?_
      refine' wpAnyH_take (i := 7) (v := _) rfl (by kernel_rfl) (by kernel_rfl) (by kernel_rfl) (fun _ _ _ h => h) (yieldsIf_load_mid (by rfl) 28 (.tmp 23) rfl b' (o' + k * 2) rfl (bcells x) _ (fun w h => h.2.1) hu rfl hi) (by assumption) ?_
      refine wpAnyH_ready (rs := [8]) (by kernel_rfl) (by simp) ?_
      refine AllReadyH.cons rfl (fun K hK => ?_) AllReadyH.nil
      refine if_wanted rfl ?_
      go_simp
      refine (eqBot_same x _).mono ?_
      rintro e w2 ⟨rfl, hb⟩
      dsimp only
      refine hK.out _ _ (keptR hb1 hb2 hHeld.2.2 hb hHeld.1 hHeld.2.1) (fun hHeld => ?_)
      clear hK K
      refine wpAnyH_take (i := 9) (v := .bool false) rfl (by kernel_rfl) (by kernel_rfl) (by kernel_rfl) (fun _ _ _ h => h) (Or.inl ⟨by rfl, fun w _ => by go_simp⟩) (by assumption) ?_
      refine wpAnyH_done (by kernel_rfl) ?_ _
      have HR : Hid (Below wr.heap.size wr w2) := hHeld.2.2
      clear hHeld hb hrow hrow'
      go_wp2
      go_roundw
      case rel => exact ⟨k + 1, by omega, by go_num, HT.out.trans (HR.out.mono HT.out.size)⟩
      case measure => simp [intOf]; omega
    · obtain rfl : k = xs.length := by omega
      go_wp2
      go_ret
      exact ⟨rfl, HT.out⟩
end Go.Proofs.YtmfdgpinohbckaaDoor
