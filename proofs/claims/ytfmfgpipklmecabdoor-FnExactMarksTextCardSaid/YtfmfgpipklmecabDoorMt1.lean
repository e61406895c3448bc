/-
  MarksText: the model's contract. Condition: marks that are valid have a text.
-/
import Derived.Test.YtfmfgpipklmecabDoorMt0
import Derived.Test.YtfmfgpipklmecabDoorTv
namespace Go.Proofs.YtfmfgpipklmecabDoor
open Go.ChangeShapes Go.WideShapes Go.ChangeAt Go.RowKit Go.Deep

set_option maxRecDepth 100000 in
set_option maxHeartbeats 4000000 in
theorem l07Text_any (m : List (List Int)) (hm : ∀ xs ∈ m, xs.length ≤ 8 ∧ ∀ x ∈ xs, 0 ≤ x ∧ x ≤ 20) (h12 : m.length ≤ 12) (A : Option Addr) (c : Nat) (w : World) (hr : RdN w w.heap.size icells A m) :
    Calls Tryd.prog 51 #[.slice A m.length c] w fun e w' => e = .returned (.string (mtT m m.length)) ∧ Below w.heap.size w w' := by
  have HR := Lib.hid hr
  have HM := Lib.hid hm
  have HSz : Hid (∀ t, t ≤ m.length → (mtT m t).size ≤ 200 * t) := mtT_size hm
  clear hr hm
  go_enter Tryd.func51, Tryd.ntmps51
  go_wp2_with fail
  go_loopw [3, 4] (fun v i wr => ∃ (t : Nat), t ≤ m.length ∧ i = .int .i64 t ∧ v = .string (mtT m t) ∧ Below w.heap.size w wr) (fun _ i _ => m.length - (intOf i).toNat)
  case atStart => exact ⟨0, by omega, rfl, rfl, Below.refl _ _⟩
  case round =>
    obtain ⟨t, ht, rfl, rfl, hB⟩ := hrel
    obtain ⟨wa, rfl⟩ : ∃ u, u = wr := ⟨_, rfl⟩
    have HB := Lib.hid hB
    have hsz := HSz.out t ht
    clear hB
    have ht0 : (0 : Int) ≤ (t : Int) := Int.natCast_nonneg _
    obtain ⟨o, ho⟩ : ∃ o, mtT m t = o := ⟨_, rfl⟩
    by_cases hlt : t < m.length
    · have ht8 : (t : Int) < m.length := by omega
      obtain ⟨xs, hxs⟩ : ∃ xs, m[t]? = some xs := ⟨_, List.getElem?_eq_getElem hlt⟩
      have hx8 := HM.out xs (List.mem_of_getElem? hxs)
      have HSt := Lib.hid (mtT_succ hxs)
      have HIz : Hid (∀ k, k ≤ xs.length → (mtI o xs k).size ≤ o.size + 22 * k) := mtI_size o hx8.2
      have HXb := Lib.hid hx8.2
      have hx8l := hx8.1
      have HXs := Lib.hid hxs
      rw [ho] at HSt hsz ⊢
      clear hxs hx8 ho
      go_wp2_with fail
      go_loopw [3, 5] (fun v i wr => ∃ (k : Nat), k ≤ xs.length ∧ i = .int .i64 k ∧ v = .string (mtI o xs k) ∧ Below w.heap.size w wr) (fun _ i _ => xs.length - (intOf i).toNat)
      case atStart => exact ⟨0, by omega, rfl, rfl, HB.out⟩
      case round =>
        clear HB
        obtain ⟨k, hk, rfl, rfl, hB⟩ := hrel
        obtain ⟨wb, rfl⟩ : ∃ u, u = wr := ⟨_, rfl⟩
        have HB := Lib.hid hB
        have hiz := HIz.out k hk
        have hk0 : (0 : Int) ≤ (k : Int) := Int.natCast_nonneg _
        obtain ⟨b, o9, a, c', rfl, hb, hc, hrd⟩ := (HR.out.keep hB).at_ HXs.out
        clear hB
        by_cases hlt2 : k < xs.length
        · have hk8 : (k : Int) < xs.length := by omega
          obtain ⟨x, hx⟩ : ∃ x, xs[k]? = some x := ⟨_, List.getElem?_eq_getElem hlt2⟩
          have hxb := HXb.out x (List.mem_of_getElem? hx)
          obtain ⟨q, rfl⟩ : ∃ q : Nat, x = (q : Int) := ⟨x.toNat, by omega⟩
          obtain ⟨b2, o2, rfl, hb2, hrow⟩ := hrd.at_ icells_length hx
          have e1 := rowI hrow
          have HX := Lib.hid hx
          have HD : Hid (∀ W, Calls Tryd.prog 73 #[.int .i64 q] W fun e w' => e = .returned (.string (decS q)) ∧ Below W.heap.size W w') := fun W => decimal_any q (by omega) W
          have hdz := decS_size q
          obtain ⟨d, hd⟩ : ∃ d, decS q = d := ⟨_, rfl⟩
          clear hx hrow hrd
          by_cases hkp : 0 < k
          · have hkp' : (0 : Int) < (k : Int) := by omega
            have HS2 := Lib.hid (mtI_next (o := o) HX.out hkp)
            obtain ⟨s, hs⟩ : ∃ s, mtI o xs k = s := ⟨_, rfl⟩
            rw [hd] at HD HS2 hdz
            rw [hs] at HS2 hiz ⊢
            have hn1 : ¬ (9223372036854775807 < s.size + 1) := by omega
            have hn2 : ¬ (9223372036854775807 < s.size + 1 + d.size) := by omega
            clear hs hd hdz
            go_wp2_with fail
            refine (HD.out _).mono ?_
            rintro e w3 ⟨rfl, hb3⟩
            have HB3 := Lib.hid (HB.out.trans (hb3.mono HB.out.size))
            clear hb3 HD e1 hc hb hb2
            go_wp2
            go_roundw
            case rel => exact ⟨k + 1, by omega, by go_num, by rw [HS2.out], HB3.out⟩
            case measure => simp [intOf]; omega
          · have hkp' : ¬ (0 : Int) < (k : Int) := by omega
            have HS2 := Lib.hid (mtI_first (o := o) HX.out hkp)
            obtain ⟨s, hs⟩ : ∃ s, mtI o xs k = s := ⟨_, rfl⟩
            rw [hd] at HD HS2 hdz
            rw [hs] at HS2 hiz ⊢
            have hn2 : ¬ (9223372036854775807 < s.size + d.size) := by omega
            clear hs hd hdz
            go_wp2_with fail
            refine (HD.out _).mono ?_
            rintro e w3 ⟨rfl, hb3⟩
            have HB3 := Lib.hid (HB.out.trans (hb3.mono HB.out.size))
            clear hb3 HD e1 hc hb hb2
            go_wp2
            go_roundw
            case rel => exact ⟨k + 1, by omega, by go_num, by rw [HS2.out], HB3.out⟩
            case measure => simp [intOf]; omega
        · obtain rfl : k = xs.length := by omega
          obtain ⟨s, hs⟩ : ∃ s, mtI o xs xs.length = s := ⟨_, rfl⟩
          rw [hs] at HSt hiz ⊢
          have hn1 : ¬ (9223372036854775807 < s.size + 1) := by omega
          clear hs hrd
          go_wp2
          go_roundw
          case rel => exact ⟨t + 1, by omega, by go_num, by rw [HSt.out], HB.out⟩
          case measure => simp [intOf]; omega
    · obtain rfl : t = m.length := by omega
      go_wp2
      go_ret
      exact ⟨rfl, HB.out⟩

set_option maxRecDepth 100000 in
set_option maxHeartbeats 2000000 in
theorem specMarksText_any (n : Int) (m : List (List Int)) (A : Option Addr) (c : Nat) (w : World) (hl : m.length ≤ 1048576) (hx : ∀ xs ∈ m, xs.length ≤ 1048576) (hr : RdN w w.heap.size icells A m) :
    Calls Tryd.prog 26 #[.int .i64 n, .slice A m.length c] w fun e w' => e = .returned (.string (mtA n m)) ∧ Below w.heap.size w w' := by
  have HC := Lib.hid (l07Ok_any n m A c w hl hx hr)
  have HR := Lib.hid hr
  clear hr hx
  go_enter Tryd.func26, Tryd.ntmps26
  go_wp2_with fail
  refine HC.out.mono ?_
  rintro e w1 ⟨rfl, rfl⟩
  clear HC
  cases h0 : mkOk n m
  · have E := Lib.hid (mtA_no h0)
    clear h0
    go_wp2
    first | go_ret | skip
    exact ⟨by (rw [E.out]; first | done | rfl), Below.refl _ _⟩
  have E := Lib.hid (mtA_yes h0)
  obtain ⟨⟨hn1, hn8⟩, hm12, hrows⟩ := mkOk_iff.1 h0
  have HT := Lib.hid (l07Text_any m (fun xs h => by have := mkRow_iff.1 (hrows xs h); exact ⟨by omega, this.2⟩) hm12 A c w HR.out)
  clear h0 hrows
  obtain ⟨s, hs⟩ : ∃ s, mtT m m.length = s := ⟨_, rfl⟩
  rw [hs] at E HT
  clear hs
  go_wp2_with fail
  refine HT.out.mono ?_
  rintro e w2 ⟨rfl, hb⟩
  have HB := Lib.hid hb
  clear hb HT
  go_wp2
  go_ret
  exact ⟨by (rw [E.out]; first | done | rfl), HB.out⟩
end Go.Proofs.YtfmfgpipklmecabDoor
