/-
  The contracts of the laws' szRack, toRack and eqRack at equal arguments. Condition: a rack of at most 1048576 lanes and things that are stored.
-/
import Derived.Test.YtmfdgpinohbckaaDoorTb
import Derived.Test.YtmfdgpinohbckaaDoorNs
import Derived.Deep.RegionHeld3
import Derived.WalkSmall
namespace Go.Proofs.YtmfdgpinohbckaaDoor
open Go.ChangeShapes Go.WideShapes Go.ChangeAt Go.RowKit Go.Deep

theorem Tryd.infoLI : (Tryd.prog.info? 44).map (fun i => (i.zero, i.size, i.bytes)) = some (some (.slice none 0 0), 1, 24) := by kernel_rfl

set_option maxRecDepth 100000 in
set_option maxHeartbeats 1000000 in
theorem szRack_any (xss : List (List Wnt)) (A : Option Addr) (c : Nat) (l : Int) (hn : xss.length ≤ 9223372036854775807) (hx : ∀ xs ∈ xss, xs.length ≤ 9223372036854775807) (hl : 0 ≤ l ∧ l ≤ 1048576) (w : World) (hr : RdN w w.heap.size wcells A xss) :
    Calls Tryd.prog 8 #[.slice A xss.length c, .int .i64 l] w fun e w' => e = .returned (.int .i64 (if l < xss.length + sumL xss then -1 else l - (xss.length + sumL xss))) ∧ w = w' := by
  obtain ⟨l0, l1⟩ := hl
  have HR := Lib.hid hr
  have HX := Lib.hid hx
  clear hr hx
  by_cases h : l < xss.length
  · rw [if_pos (by omega)]
    go_enter Tryd.func8, Tryd.ntmps8
    go_wp2
    go_ret
    exact ⟨rfl, rfl⟩
  obtain ⟨r, hr⟩ : ∃ r : Int, (if l < xss.length + sumL xss then -1 else l - (xss.length + sumL xss)) = r := ⟨_, rfl⟩
  rw [hr]
  have HRes := Lib.hid hr
  clear hr
  obtain ⟨m, hm⟩ : ∃ m : Int, l - xss.length = m := ⟨_, rfl⟩
  have HM := Lib.hid hm
  have hm0 : 0 ≤ m := by omega
  have hm1 : m ≤ 1048576 := by omega
  have hw1 : IntKind.i64.wrap (l - xss.length) = m := by rw [hm]; exact IntWalk.i64_in _ ⟨by omega, by omega⟩
  have hw2 : wrap64 (l - xss.length) = m := by rw [hm]; exact IntWalk.wrap64_in _ ⟨by omega, by omega⟩
  have hmn : ¬ m < 0 := by omega
  have HS := Lib.hid (sumTo_all xss)
  clear hm
  go_enter Tryd.func8, Tryd.ntmps8
  go_wp2_with fail
  clear hw1 hw2
  go_loop [1, 5] (fun s i => ∃ k : Nat, k ≤ xss.length ∧ i = .int .i64 k ∧ s = .int .i64 (m - sumTo xss k) ∧ (sumTo xss k : Int) ≤ m) (fun _ i => xss.length - (intOf i).toNat)
  case atStart => exact ⟨0, by omega, rfl, by simp [sumTo, sumL], by simpa [sumTo, sumL] using hm0⟩
  case round =>
    obtain ⟨k, hk, rfl, rfl, hs⟩ := hrel
    by_cases hlt : k < xss.length
    · obtain ⟨xs, hxs⟩ : ∃ x, xss[k]? = some x := ⟨_, List.getElem?_eq_getElem hlt⟩
      obtain ⟨b, o, a, c', rfl, hb, hc, -⟩ := HR.out.at_ hxs
      have hxl := HX.out xs (List.mem_of_getElem? hxs)
      have hk0 : (0 : Int) ≤ (k : Int) := Int.natCast_nonneg _
      have hk8 : (k : Int) < xss.length := by omega
      have HXs := Lib.hid hxs
      have hle := Lib.hid (le_sumL hxs)
      have hsl := Lib.hid (sumTo_le xss (k + 1))
      have hsu := Lib.hid (sumTo_succ hxs)
      clear hxs
      go_wp2_with fail
      refine (szStoredS_any a xs.length c' (m - sumTo xss k) hxl ⟨by omega, by omega⟩ _).mono ?_
      rintro e w' ⟨rfl, rfl⟩
      by_cases hn : m - (sumTo xss k : Int) < xs.length
      · rw [if_pos hn]
        go_wp2
        go_ret
        refine ⟨ret_i64 ?_, rfl⟩
        have q1 := hsl.out; have q2 := hsu.out; have q3 := HM.out
        rw [← HRes.out, if_pos (by omega)]
      · rw [if_neg hn]
        obtain ⟨z, hz⟩ : ∃ z : Int, m - (sumTo xss k : Int) - xs.length = z := ⟨_, rfl⟩
        have hz0 : ¬ z < 0 := by omega
        have HZ := Lib.hid hz
        rw [hz]
        clear hz hn
        go_wp2
        go_round
        case rel => exact ⟨k + 1, by omega, by go_num, by rw [hsu.out, ← HZ.out]; congr 1; omega, by have q1 := HZ.out; rw [hsu.out]; omega⟩
        case measure => simp [intOf]; omega
    · obtain rfl : k = xss.length := by omega
      go_wp2
      go_ret
      refine ⟨ret_i64 ?_, rfl⟩
      have q1 := HS.out; have q2 := HM.out
      rw [← HRes.out, if_neg (by omega)]
      omega

/-- What stands between two rounds of toRack. -/
def TRk (xss : List (List Wnt)) (w : World) (k : Nat) (gs : List Nat) (hs : List Hd) (wr : World) : Prop :=
  hs.length = xss.length ∧ gs.length = k ∧ Rs wr w.heap.size 44 hcells hs ∧ (∀ (i g : Nat) (xs : List Wnt), gs[i]? = some g → xss[i]? = some xs → hs[i]? = some (hdOf g xs) ∧ Rs wr g 30 wcells xs) ∧
    (w.heap.size :: gs).Pairwise (· < ·) ∧ (∀ g ∈ gs, g < wr.heap.size) ∧ Below w.heap.size w wr
theorem rs_set1 {w : World} {g : Nat} {t : TypeId} {hs : List Hd} (h : Rs w g t hcells hs) {k : Nat} (hk : k < hs.length) (x : Hd) : Rs (w.setCell ⟨g, k, none⟩ (.slice x.1 x.2.1 x.2.2)) g t hcells (hs.set k x) := by
  have := Rs.set_ hcells_length h hk x
  simpa [hcells, World.setCells] using this
theorem TRk.step {xss : List (List Wnt)} {w wr w2 : World} {k : Nat} {gs : List Nat} {hs : List Hd} {xs : List Wnt} (h : TRk xss w k gs hs wr) (hk : xss[k]? = some xs) (hR : Rs w2 wr.heap.size 30 wcells xs) (hb : Below wr.heap.size wr w2) :
    TRk xss w (k + 1) (gs ++ [wr.heap.size]) (hs.set k (hdOf wr.heap.size xs)) (w2.setCell ⟨w.heap.size, k, none⟩ (.slice (some ⟨wr.heap.size, 0, none⟩) xs.length xs.length)) := by
  obtain ⟨h1, h2, h3, h4, h5, h6, h7⟩ := h
  have hkl := (List.getElem?_eq_some_iff.1 hk).1
  have hsz : w.heap.size < wr.heap.size := Blk.lt h3
  have hsz2 : wr.heap.size < w2.heap.size := Blk.lt hR
  refine ⟨by simp [h1], by simp [h2], rs_set1 (Blk.keep h3 hb) (by omega) (hdOf wr.heap.size xs), ?_, ?_, ?_, (h7.trans (hb.mono (Nat.le_of_lt hsz))).setCell (p := ⟨w.heap.size, k, none⟩) (Nat.le_refl _) _⟩
  · intro i g ys hg hy
    by_cases e : i = k
    · subst e
      rw [List.getElem?_append_right (by omega), h2] at hg
      obtain rfl : wr.heap.size = g := by simpa using hg
      obtain rfl : xs = ys := Option.some.inj (hk.symm.trans hy)
      exact ⟨by rw [List.getElem?_set_self (by omega)], hR.far (p := ⟨w.heap.size, i, none⟩) (by show wr.heap.size ≠ w.heap.size; omega) _⟩
    · have hi : i < gs.length := by
        have := (List.getElem?_eq_some_iff.1 hg).1
        simp at this; omega
      rw [List.getElem?_append_left hi] at hg
      obtain ⟨q1, q2⟩ := h4 i g ys hg hy
      have hgl : g ≠ w.heap.size := by
        have := (List.pairwise_cons.1 h5).1 g (List.mem_of_getElem? hg)
        omega
      exact ⟨by rw [List.getElem?_set_ne (by omega)]; exact q1, (Blk.keep q2 hb).far (p := ⟨w.heap.size, k, none⟩) hgl _⟩
  · rw [List.pairwise_cons] at h5 ⊢
    refine ⟨fun g hg => ?_, ?_⟩
    · rcases List.mem_append.1 hg with hg | hg
      · exact h5.1 g hg
      · obtain rfl : g = wr.heap.size := by simpa using hg
        exact hsz
    · rw [List.pairwise_append]
      refine ⟨h5.2, by simp, fun a ha b hb' => ?_⟩
      obtain rfl : b = wr.heap.size := by simpa using hb'
      exact h6 a ha
  · intro g hg
    rcases List.mem_append.1 hg with hg | hg
    · have := h6 g hg; simp [World.setCell]; omega
    · obtain rfl : g = wr.heap.size := by simpa using hg
      simpa [World.setCell] using hsz2
theorem TRk.done {xss : List (List Wnt)} {w wr : World} {gs : List Nat} {hs : List Hd} (h : TRk xss w xss.length gs hs wr) : RsN wr w.heap.size 44 30 wcells xss gs := by
  obtain ⟨h1, h2, h3, h4, h5, h6, h7⟩ := h
  refine ⟨h2, ?_, fun i g xs hg hx => (h4 i g xs hg hx).2, h5⟩
  have e : hs = List.zipWith hdOf gs xss := by
    apply List.ext_getElem?
    intro i
    by_cases hi : i < xss.length
    · have hx : xss[i]? = some (xss[i]'hi) := List.getElem?_eq_getElem hi
      have hg : gs[i]? = some (gs[i]'(by omega)) := List.getElem?_eq_getElem (by omega)
      rw [(h4 i _ _ hg hx).1, List.getElem?_zipWith, hg, hx]
    · rw [List.getElem?_eq_none (by omega), List.getElem?_eq_none (by simp; omega)]
  rw [← e]; exact h3

set_option maxRecDepth 100000 in
set_option maxHeartbeats 1000000 in
theorem toRack_any (xss : List (List Wnt)) (A : Option Addr) (c : Nat) (w : World) (hl : xss.length ≤ 1048576) (hx : ∀ xs ∈ xss, xs.length ≤ 1048576) (hr : RdN w w.heap.size wcells A xss) :
    Calls Tryd.prog 10 #[.slice A xss.length c] w fun e w' => e = .returned (.slice (some ⟨w.heap.size, 0, none⟩) xss.length xss.length) ∧ (∃ gs, RsN w' w.heap.size 44 30 wcells xss gs) ∧ Below w.heap.size w w' := by
  obtain ⟨i0, hi, hz0, hz1, hz2⟩ := info_parts Tryd.infoLI
  have HR := Lib.hid hr
  have HX := Lib.hid hx
  clear hr hx
  go_enter Tryd.func10, Tryd.ntmps10
  go_wp2_with (refine wpList_make_full _ rfl (.tmp 6) (.tmp 6) 25 rfl w.heap.size 44 i0 _ 1 Tryd.underlying25 hi hz0 hz1 .i64 .i64 _ _ xss.length rfl rfl rfl rfl (by rw [hz2]; omega) (by unfold maxLen; omega) (Nat.le_refl _) ?_; intro w1 hown hg)
  have hR0 : Rs w1 w.heap.size 44 hcells (List.replicate xss.length (none, 0, 0)) := by
    have := blk_of_make hown
    rw [made_rows hcells_length (none, 0, 0) (Value.slice none 0 0).cells rfl (by omega)] at this
    exact this
  have hB0 : Below w.heap.size w w1 := (Below.refl _ w).grown hg (Nat.le_refl _) (fun _ h => by cases h)
  have HT : Hid (TRk xss w 0 [] (List.replicate xss.length (none, 0, 0)) w1) := ⟨by simp, rfl, hR0, fun i g xs h => by simp at h, by simp, by simp, hB0⟩
  clear hR0 hB0 hown hg hi hz0 hz1 hz2
  go_loopw [4] (fun i wr => ∃ (k : Nat), k ≤ xss.length ∧ i = .int .i64 k ∧ ∃ gs hs, TRk xss w k gs hs wr)
    (fun i _ => xss.length - (intOf i).toNat)
  case atStart => exact ⟨0, by omega, rfl, _, _, HT.out⟩
  case round =>
    clear HT
    obtain ⟨k, hk, rfl, gs, hs, hT⟩ := hrel
    have HT := Lib.hid hT
    clear hT
    by_cases hlt : k < xss.length
    · obtain ⟨xs, hxs⟩ : ∃ x, xss[k]? = some x := ⟨_, List.getElem?_eq_getElem hlt⟩
      obtain ⟨b, o, a, c', rfl, hb, hc, hrd⟩ := (HR.out.keep HT.out.2.2.2.2.2.2).at_ hxs
      have hxl := HX.out xs (List.mem_of_getElem? hxs)
      have hk0 : (0 : Int) ≤ (k : Int) := Int.natCast_nonneg _
      have hk8 : (k : Int) < xss.length := by omega
      have HXs := Lib.hid hxs
      clear hxs
      go_wp2_with fail
      refine (toStoredS_any xs a c' _ hxl hrd).mono ?_
      rintro e w2 ⟨rfl, hR2, hb2⟩
      obtain ⟨h0, hh⟩ : ∃ h, hs[k]? = some h := ⟨_, List.getElem?_eq_getElem (by rw [HT.out.1]; exact hlt)⟩
      have hK := Blk.keep HT.out.2.2.1 hb2
      have e1 : w2.cell? ⟨w.heap.size, k, none⟩ = some (.slice h0.1 h0.2.1 h0.2.2) := by
        have := rowH (range_row hcells_length (Rs.range hK) hh)
        simpa using this
      have e2 : w2.frozen? ⟨w.heap.size, k, none⟩ = false := Blk.frozen hK k
      have HB2 := Lib.hid hb2
      have HR2 := Lib.hid hR2
      clear hb2 hR2 hK hh
      go_wp2
      go_roundw
      case rel => exact ⟨k + 1, by omega, by go_num, _, _, HT.out.step HXs.out HR2.out HB2.out⟩
      case measure => simp [intOf]; omega
    · obtain rfl : k = xss.length := by omega
      go_wp2
      go_ret
      exact ⟨rfl, ⟨_, HT.out.done⟩, HT.out.2.2.2.2.2.2⟩

theorem keptH {W0 w1 w2 : World} {b o b' o' : Nat} {v v' : Value} (hg : b < W0.heap.size) (hg' : b' < W0.heap.size) (h : Below W0.heap.size W0 w1) (hb : Below w1.heap.size w1 w2)
    (a0 : w1.cell? ⟨b, o, none⟩ = some v) (b0 : w1.cell? ⟨b', o', none⟩ = some v') : w2.cell? ⟨b, o, none⟩ = some v ∧ w2.cell? ⟨b', o', none⟩ = some v' ∧ Below W0.heap.size W0 w2 := by
  have hs := h.size
  exact ⟨(hb.cell (p := ⟨b, o, none⟩) (by show b < _; omega)).trans a0, (hb.cell (p := ⟨b', o', none⟩) (by show b' < _; omega)).trans b0, h.trans (hb.mono hs)⟩

set_option maxRecDepth 100000 in
set_option maxHeartbeats 2000000 in
theorem eqRack_same (xss : List (List Wnt)) (A B : Option Addr) (c d : Nat) (w : World) (hl : xss.length ≤ 1048576) (hx : ∀ xs ∈ xss, xs.length ≤ 1048576) (hA : RdN w w.heap.size wcells A xss) (hB : RdN w w.heap.size wcells B xss) :
    Calls Tryd.prog 12 #[.slice A xss.length c, .slice B xss.length d] w fun e w' => e = .returned (.bool true) ∧ Below w.heap.size w w' := by
  have HA := Lib.hid hA
  have HB := Lib.hid hB
  have HX := Lib.hid hx
  clear hA hB hx
  go_enter Tryd.func12, Tryd.ntmps12
  go_wp2_with fail
  go_loopw [5] (fun i wr => ∃ (k : Nat), k ≤ xss.length ∧ i = .int .i64 k ∧ Below w.heap.size w wr)
    (fun i _ => xss.length - (intOf i).toNat)
  case atStart => exact ⟨0, by omega, rfl, Below.refl _ _⟩
  case round =>
    obtain ⟨k, hk, rfl, hT⟩ := hrel
    have HT := Lib.hid hT
    clear hT
    by_cases hlt : k < xss.length
    · obtain ⟨xs, hxs⟩ : ∃ x, xss[k]? = some x := ⟨_, List.getElem?_eq_getElem hlt⟩
      obtain ⟨b, o, a, c1, rfl, hb1, e1, r1⟩ := (HA.out.keep HT.out).at_ hxs
      obtain ⟨b', o', a', c2, rfl, hb2, e2, r2⟩ := (HB.out.keep HT.out).at_ hxs
      have hxl := HX.out xs (List.mem_of_getElem? hxs)
      have hk0 : (0 : Int) ≤ (k : Int) := Int.natCast_nonneg _
      have hk8 : (k : Int) < xss.length := by omega
      have R1 := Lib.hid r1
      have R2 := Lib.hid r2
      have hs0 : Below wr.heap.size wr wr := Below.refl _ _
      clear hxs r1 r2
      go_wp2_with fail
      go_region_held3 (fun w' => w'.cell? ⟨b, o + k, none⟩ = some (.slice a xs.length c1) ∧ w'.cell? ⟨b', o' + k, none⟩ = some (.slice a' xs.length c2) ∧ Below wr.heap.size wr w') ((refine ⟨?_, ?_, ?_⟩ <;> (first | assumption | exact Below.drew ‹_› | (simp [*]; done))))
        (first
          | (go_at_call 23; refine (eqStoredS_same xs a a' c1 c2 _ (by omega) (R1.out.keep (by first | assumption | exact Below.drew (by assumption))) (R2.out.keep (by first | assumption | exact Below.drew (by assumption)))).mono ?_; rintro e w2 ⟨rfl, hb⟩; obtain ⟨r0, r1, r2⟩ := keptH (b := b) (b' := b') (o := o + k) (o' := o' + k) hb1 hb2 (by first | assumption | exact Below.drew (by assumption)) hb (by assumption) (by assumption)))
      have HR : Hid (Below wr.heap.size wr w2) := (by assumption : Below wr.heap.size wr w2)
      go_wp2
      go_roundw
      case rel => exact ⟨k + 1, by omega, by go_num, HT.out.trans (HR.out.mono HT.out.size)⟩
      case measure => simp [intOf]; omega
    · obtain rfl : k = xss.length := by omega
      go_wp2
      go_ret
      exact ⟨rfl, HT.out⟩
end Go.Proofs.YtmfdgpinohbckaaDoor
