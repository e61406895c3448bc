/-
  The contracts of szCrateS, toCrateS and of eqCrateS at equal arguments. Condition: a list of at most 1048576 crates.
-/
import Derived.Test.YtcdhmlalpjcidaaDoorKa
import Derived.Test.YtcdhmlalpjcidaaDoorMg2
namespace Go.Proofs.YtcdhmlalpjcidaaDoor
open Go.ChangeShapes Go.WideShapes Go.ChangeAt Go.RowKit Go.Deep

theorem szCrateS_any (A : Option Addr) (n c : Nat) (l : Int) (hn : n ≤ 9223372036854775807) (hl : 0 ≤ l ∧ l ≤ 1048576) (w : World) : Calls Tryd.prog 11 #[.slice A n c, .int .i64 l] w fun e w' => e = .returned (.int .i64 (if l < n then -1 else l - n)) ∧ w = w' := by
  obtain ⟨l0, l1⟩ := hl
  by_cases h : l < n
  · rw [if_pos h]
    go_enter Tryd.func11, Tryd.ntmps11
    go_wp2
    go_ret
    exact ⟨rfl, rfl⟩
  · rw [if_neg h]
    go_enter Tryd.func11, Tryd.ntmps11
    go_wp2
    go_ret
    exact ⟨rfl, rfl⟩

/-- What stands between two rounds of toCrateS. -/
def TC2 (xs : List Crt) (w : World) (k : Nat) (X : List Crt) (wr : World) : Prop :=
  X.length = xs.length ∧ (∀ j, j < k → X[j]? = xs[j]?) ∧ Rs wr w.heap.size 30 kcells X ∧ Below w.heap.size w wr
theorem TC2.step {xs : List Crt} {w wr w1 : World} {k : Nat} {X : List Crt} {x : Crt} (h : TC2 xs w k X wr) (hk : xs[k]? = some x) (hb : Below wr.heap.size wr w1) :
    TC2 xs w (k + 1) (X.set k x) (w1.setCells w.heap.size (k * 24) (kcells x).toArray.toList) := by
  obtain ⟨hX, hj, hO, hB⟩ := h
  have hkl := (List.getElem?_eq_some_iff.1 hk).1
  refine ⟨by simp [hX], fun j hjk => ?_, ?_, Below.setCells (hB.trans (hb.mono hB.size)) _ _ _ (Nat.le_refl _)⟩
  · by_cases e : j = k
    · subst e
      rw [List.getElem?_set_self (by omega), hk]
    · rw [List.getElem?_set_ne (by omega)]
      exact hj j (by omega)
  · exact Rs.set_ kcells_length (Blk.keep hO hb) (by omega) x
theorem TC2.same {xs : List Crt} {w : World} {X : List Crt} {wr : World} (h : TC2 xs w xs.length X wr) : X = xs := by
  apply List.ext_getElem?
  intro j
  by_cases hj : j < xs.length
  · exact h.2.1 j hj
  · rw [List.getElem?_eq_none (by rw [h.1]; omega), List.getElem?_eq_none (by omega)]

set_option maxRecDepth 100000 in
set_option maxHeartbeats 1000000 in
theorem toCrateS_any (xs : List Crt) (A : Option Addr) (c : Nat) (w : World) (hl : xs.length ≤ 1048576) (hr : Rd w w.heap.size kcells A xs) :
    Calls Tryd.prog 14 #[.slice A xs.length c] w fun e w' => e = .returned (.slice (some ⟨w.heap.size, 0, none⟩) xs.length xs.length) ∧ Rs w' w.heap.size 30 kcells xs ∧ Below w.heap.size w w' := by
  obtain ⟨i0, hi, hz0, hz1, hz2⟩ := info_parts Tryd.infoCr
  have HR := Lib.hid hr
  clear hr
  go_enter Tryd.func14, Tryd.ntmps14
  go_wp2_with (refine wpList_make_full _ rfl (.tmp 6) (.tmp 6) 39 rfl w.heap.size 30 i0 _ 24 Tryd.underlying39 hi hz0 hz1 .i64 .i64 _ _ xs.length rfl rfl rfl rfl (by rw [hz2]; omega) (by unfold maxLen; omega) (Nat.le_refl _) ?_; intro w1 hown hg)
  have hR0 : Rs w1 w.heap.size 30 kcells (List.replicate xs.length zCrt) := by
    have := blk_of_make hown
    rw [made_rows kcells_length zCrt (Value.agg #[Value.int IntKind.u8 0, Value.int IntKind.i16 0, Value.int IntKind.u8 0, Value.int IntKind.i16 0, Value.int IntKind.u8 0, Value.int IntKind.i16 0, Value.int IntKind.u8 0, Value.int IntKind.i16 0, Value.int IntKind.u8 0, Value.int IntKind.i16 0, Value.int IntKind.u8 0, Value.int IntKind.i16 0, Value.int IntKind.u8 0, Value.int IntKind.i16 0, Value.int IntKind.u8 0, Value.int IntKind.i16 0, Value.int IntKind.u8 0, Value.int IntKind.i16 0, Value.int IntKind.u8 0, Value.int IntKind.i16 0, Value.int IntKind.u8 0, Value.int IntKind.i16 0, Value.int IntKind.u8 0, Value.int IntKind.i16 0]).cells rfl (by omega)] at this
    exact this
  have hB0 : Below w.heap.size w w1 := (Below.refl _ w).grown hg (Nat.le_refl _) (fun _ h => by cases h)
  have HT : Hid (TC2 xs w 0 (List.replicate xs.length zCrt) w1) := ⟨by simp, fun j h => by omega, hR0, hB0⟩
  clear hR0 hB0 hown hg hi hz0 hz1 hz2
  go_loopw [4] (fun i wr => ∃ (k : Nat), k ≤ xs.length ∧ i = .int .i64 k ∧ ∃ X, TC2 xs w k X wr)
    (fun i _ => xs.length - (intOf i).toNat)
  case atStart => exact ⟨0, by omega, rfl, _, HT.out⟩
  case round =>
    clear HT
    obtain ⟨k, hk, rfl, X, hT⟩ := hrel
    have HT := Lib.hid hT
    clear hT
    by_cases hlt : k < xs.length
    · obtain ⟨x, hx⟩ : ∃ x, xs[k]? = some x := ⟨_, List.getElem?_eq_getElem hlt⟩
      obtain ⟨b, o, rfl, hbl, hrow⟩ := (HR.out.below (Nat.le_refl _) HT.out.2.2.2).at_ kcells_length hx
      have HX := Lib.hid hx
      have HRow := Lib.hid hrow
      clear hx hrow
      go_wp2_with (refine wpList_load_mid rfl 25 (.tmp 18) rfl b (o + k * 24) rfl (kcells x) _ HRow.out Tryd.underlying25 rfl (size_k Tryd.sizeLc x) ?_)
      refine (toCrate_any x.1 x.2.1 _).mono ?_
      rintro e w2 ⟨rfl, hb2⟩
      have HB2 := Lib.hid hb2
      clear hb2
      go_wp2_with (refine wpList_store_mid rfl 30 (.tmp 21) (.tmp 20) rfl w.heap.size (k * 24) (kcells x).toArray rfl rfl (Rs.there kcells_length (Blk.keep HT.out.2.2.1 HB2.out) (by rw [HT.out.1]; exact hlt) x) (size_k' Tryd.sizeCr x) (kcells_one x) ?_)
      go_roundw
      case rel => exact ⟨k + 1, by omega, by go_num, _, HT.out.step HX.out HB2.out⟩
      case measure => simp [intOf]; omega
    · obtain rfl : k = xs.length := by omega
      obtain rfl := HT.out.same
      go_wp2
      go_ret
      exact ⟨rfl, HT.out.2.2⟩

set_option maxRecDepth 100000 in
set_option maxHeartbeats 1000000 in
theorem eqCrateS_same (xs : List Crt) (A B : Option Addr) (c d : Nat) (w : World) (hl : xs.length ≤ 4611686018427387904) (hA : Rd w w.heap.size kcells A xs) (hB : Rd w w.heap.size kcells B xs) :
    Calls Tryd.prog 18 #[.slice A xs.length c, .slice B xs.length d] w fun e w' => e = .returned (.bool true) ∧ Below w.heap.size w w' := by
  have HA := Lib.hid hA
  have HB := Lib.hid hB
  clear hA hB
  go_enter Tryd.func18, Tryd.ntmps18
  go_wp2_with fail
  go_loopw [5] (fun i wr => ∃ (k : Nat), k ≤ xs.length ∧ i = .int .i64 k ∧ Below w.heap.size w wr)
    (fun i _ => xs.length - (intOf i).toNat)
  case atStart => exact ⟨0, by omega, rfl, Below.refl _ _⟩
  case round =>
    obtain ⟨k, hk, rfl, hT⟩ := hrel
    have HT := Lib.hid hT
    clear hT
    by_cases hlt : k < xs.length
    · obtain ⟨x, hx⟩ : ∃ x, xs[k]? = some x := ⟨_, List.getElem?_eq_getElem hlt⟩
      obtain ⟨b, o, rfl, hbl, hrow⟩ := (HA.out.below (Nat.le_refl _) HT.out).at_ kcells_length hx
      obtain ⟨b', o', rfl, hbl', hrow'⟩ := (HB.out.below (Nat.le_refl _) HT.out).at_ kcells_length hx
      have hb1 : b < wr.heap.size := Nat.lt_of_lt_of_le hbl HT.out.size
      have hb2 : b' < wr.heap.size := Nat.lt_of_lt_of_le hbl' HT.out.size
      clear hx
      have hk0 : (0 : Int) ≤ (k : Int) := Int.natCast_nonneg _
      have hk8 : (k : Int) < xs.length := by omega
      have hu := Tryd.underlying30
      have hi : (Tryd.prog.info? 30).map (·.size) = some (kcells x).length := size_k Tryd.sizeCr x
      have hs0 : Below wr.heap.size wr wr := Below.refl _ _
      go_wp2_with fail
      refine wp_region_held_drew (S := fun w' => w'.rangeAt b (o + k * 24) (kcells x) ∧ w'.rangeAt b' (o' + k * 24) (kcells x) ∧ Below wr.heap.size wr w') (by kernel_rfl) ⟨(World.rangeAt_drew _ _ _ _).2 hrow, (World.rangeAt_drew _ _ _ _).2 hrow', hs0.drew⟩ (fun hHeld => ?_)
      refine wpAnyH_take (i := 0) (v := .slice (some ⟨b, o, none⟩) xs.length c) rfl (by kernel_rfl) (by kernel_rfl) (by kernel_rfl) (fun _ _ _ h => h) (Or.inl ⟨by rfl, fun w _ => by go_simp⟩) (by assumption) ?_
      refine wpAnyH_take (i := 1) (v := .int .i64 k) rfl (by kernel_rfl) (by kernel_rfl) (by kernel_rfl) (fun _ _ _ h => h) (Or.inl ⟨by rfl, fun w _ => by go_simp⟩) (by assumption) ?_
      refine wpAnyH_take (i := 2) (v := .pointer (some ⟨b, o + k * 24, none⟩)) rfl (by kernel_rfl) (by kernel_rfl) (by kernel_rfl) (fun _ _ _ h => h) (Or.inl ⟨by rfl, fun w _ => by go_simp⟩) (by assumption) ?_
      refine' wpAnyH_take (i := 3) (v := _) rfl (by kernel_rfl) (by kernel_rfl) (by kernel_rfl) (fun _ _ _ h => h) (yieldsIf_load_mid (by rfl) 30 (.tmp 19) rfl b (o + k * 24) rfl (kcells x) _ (fun w h => h.1) hu rfl hi) (by assumption) ?_
      refine wpAnyH_take (i := 4) (v := .slice (some ⟨b', o', none⟩) xs.length d) rfl (by kernel_rfl) (by kernel_rfl) (by kernel_rfl) (fun _ _ _ h => h) (Or.inl ⟨by rfl, fun w _ => by go_simp⟩) (by assumption) ?_
      refine wpAnyH_take (i := 5) (v := .int .i64 k) rfl (by kernel_rfl) (by kernel_rfl) (by kernel_rfl) (fun _ _ _ h => h) (Or.inl ⟨by rfl, fun w _ => by go_simp⟩) (by assumption) ?_
      refine wpAnyH_take (i := 6) (v := .pointer (some ⟨b', o' + k * 24, none⟩)) rfl (by kernel_rfl) (by kernel_rfl) (by kernel_rfl) (fun _ _ _ h => h) (Or.inl ⟨by rfl, fun w _ => by go_simp⟩) (by assumption) ?_
      refine' wpAnyH_take (i := 7) (v := _) rfl (by kernel_rfl) (by kernel_rfl) (by kernel_rfl) (fun _ _ _ h => h) (yieldsIf_load_mid (by rfl) 30 (.tmp 23) rfl b' (o' + k * 24) rfl (kcells x) _ (fun w h => h.2.1) hu rfl hi) (by assumption) ?_
      refine wpAnyH_ready (rs := [8]) (by kernel_rfl) (by simp) ?_
      refine AllReadyH.cons rfl (fun K hK => ?_) AllReadyH.nil
      refine if_wanted rfl ?_
      go_simp
      refine (eqCrate_same x.1 x.2 _).mono ?_
      rintro e w2 ⟨rfl, hb⟩
      dsimp only
      refine hK.out _ _ (keptR hb1 hb2 hHeld.2.2 hb hHeld.1 hHeld.2.1) (fun hHeld => ?_)
      clear hK K
      refine wpAnyH_take (i := 9) (v := .bool false) rfl (by kernel_rfl) (by kernel_rfl) (by kernel_rfl) (fun _ _ _ h => h) (Or.inl ⟨by rfl, fun w _ => by go_simp⟩) (by assumption) ?_
      refine wpAnyH_done (by kernel_rfl) ?_ _
      have HR : Hid (Below wr.heap.size wr w2) := hHeld.2.2
      clear hHeld hb hrow hrow'
      go_wp2
      go_roundw
      case rel => exact ⟨k + 1, by omega, by go_num, HT.out.trans (HR.out.mono HT.out.size)⟩
      case measure => simp [intOf]; omega
    · obtain rfl : k = xs.length := by omega
      go_wp2
      go_ret
      exact ⟨rfl, HT.out⟩
end Go.Proofs.YtcdhmlalpjcidaaDoor
