/-
  roomiest: the program's other lane with the most room. Condition: the rack reads as lists with room, at most eight of at most six; the sentinel errors lie as the row lists them.
-/
import Derived.Test.YtmfdgpinohbckaaDoorKo1
import Derived.Test.YtmfdgpinohbckaaDoorKc2
import Derived.Test.YtmfdgpinohbckaaDoorMg9
namespace Go.Proofs.YtmfdgpinohbckaaDoor
open Go.ChangeShapes Go.WideShapes Go.ChangeAt Go.RowKit Go.Deep

/-- Not in this lane. -/
def neL (l : Nat) (s : Sp) : Bool := !decide (s.1.2.1 = l)
theorem rmCl_any (s : Sp) (l0 : Nat) (B1 : Nat) (w : World) (h0 : w.cell? ⟨B1, 0, none⟩ = some (.int .i64 (l0 : Int))) :
    Calls Tryd.prog 91 #[.agg (spcells s).toArray, .pointer (some ⟨B1, 0, none⟩)] w fun e w' => e = .returned (.bool (!neL l0 s)) ∧ Below w.heap.size w w' := by
  obtain ⟨⟨⟨⟨k1, y1⟩, d⟩, l, i⟩, a, n, c⟩ := s
  show Calls Tryd.prog 91 #[.agg #[.int .u8 k1, .int .i16 y1, .int .i64 d, .int .i64 l, .int .i64 i, .slice a n c], .pointer (some ⟨B1, 0, none⟩)] w _
  have hb1 := block_lt_of_cell h0
  dsimp only at hb1
  unfold neL
  dsimp only
  rw [Bool.not_not]
  have hA : Below w.heap.size w (w.alloc (.cells #[.int .u8 k1, .int .i16 y1, .int .i64 d, .int .i64 l, .int .i64 i, .slice a n c] 107)) := (Below.refl _ w).alloc (Nat.le_refl _) _
  have e0 : (w.alloc (.cells #[.int .u8 k1, .int .i16 y1, .int .i64 d, .int .i64 l, .int .i64 i, .slice a n c] 107)).cell? ⟨B1, 0, none⟩ = some (.int .i64 (l0 : Int)) := (hA.cell (p := ⟨B1, 0, none⟩) hb1).trans h0
  have HA := Lib.hid hA
  clear hA
  by_cases hl : l = l0
  · subst hl
    rw [decide_eq_true rfl]
    go_enter Tryd.func91, Tryd.ntmps91
    go_wp2
    go_ret
    exact ⟨by first | rfl | simp, by first | exact HA.out | exact HA.out.drew⟩
  · rw [decide_eq_false hl]
    have hl2 : ((l : Int) == (l0 : Int)) = false := by simp; omega
    go_enter Tryd.func91, Tryd.ntmps91
    go_wp2
    go_ret
    exact ⟨by first | rfl | simp [hl2], by first | exact HA.out | exact HA.out.drew⟩
set_option maxRecDepth 100000 in
set_option maxHeartbeats 4000000 in
theorem indexRm_any (g : Sp → Bool) (qs : List Sp) (hq : qs.length ≤ 64) (D1 : Nat) (A : Option Addr) (c : Nat) (w : World) (hr : Rd w w.heap.size spcells A qs)
    (HCf : ∀ p ∈ qs, ∀ (W : World), Below w.heap.size w W → Calls Tryd.prog 91 #[.agg (spcells p).toArray, .pointer (some ⟨D1, 0, none⟩)] W fun e w' => e = .returned (.bool (!g p)) ∧ Below W.heap.size W w') :
    Calls Tryd.prog 102 #[.slice A qs.length c, .func (.func 91) #[] #[.pointer (some ⟨D1, 0, none⟩)]] w fun e w' => ((e = .returned (.int .i64 (-1)) ∧ AllS g qs qs.length) ∨ ∃ (k : Nat) (x : Sp), e = .returned (.int .i64 k) ∧ qs[k]? = some x ∧ g x = false ∧ AllS g qs k) ∧ Below w.heap.size w w' := by
  have HR := Lib.hid hr
  have HC := Lib.hid HCf
  clear hr HCf
  have hn0 : (0 : Int) ≤ (qs.length : Int) := Int.natCast_nonneg _
  go_enter Tryd.func102, Tryd.ntmps102
  go_wp2_with fail
  go_loopw [8] (fun i wr => ∃ (k : Nat), k ≤ qs.length ∧ i = .int .i64 k ∧ AllS g qs k ∧ Below w.heap.size w wr) (fun i _ => qs.length - (intOf i).toNat)
  case atStart => exact ⟨0, by omega, rfl, fun j x h => absurd h (by omega), Below.refl _ _⟩
  case round =>
    obtain ⟨k, hk, rfl, hT, hB⟩ := hrel
    obtain ⟨wa, rfl⟩ : ∃ u, u = wr := ⟨_, rfl⟩
    have HT := Lib.hid hT
    have HB := Lib.hid hB
    clear hT hB
    by_cases hlt : k < qs.length
    · obtain ⟨x, hx⟩ : ∃ x, qs[k]? = some x := ⟨_, List.getElem?_eq_getElem hlt⟩
      obtain ⟨b, o, rfl, hbl, hrow⟩ := (HR.out.below (Nat.le_refl _) HB.out).at_ spcells_length hx
      have HX := Lib.hid hx
      have HRow := Lib.hid hrow
      have HCx := Lib.hid (HC.out x (List.mem_of_getElem? hx) wa HB.out)
      have hk0 : (0 : Int) ≤ (k : Int) := Int.natCast_nonneg _
      have hk8 : (k : Int) < qs.length := by omega
      clear hx hrow
      cases hv : g x
      · rw [hv] at HCx
        have HV := Lib.hid hv
        clear hv
        go_wp2_with (refine wpList_load_mid rfl 107 (.tmp 14) rfl b (o + k * 6) rfl (spcells x) _ HRow.out Tryd.underlying107 rfl Tryd.sizeSPt ?_)
        refine HCx.out.mono ?_
        rintro e w1 ⟨rfl, hb1⟩
        have HB1 : Hid (Below w.heap.size w w1) := HB.out.trans (hb1.mono HB.out.size)
        clear hb1
        go_wp2
        go_ret
        exact ⟨.inr ⟨k, x, rfl, HX.out, HV.out, HT.out⟩, HB1.out⟩
      · rw [hv] at HCx
        have HV := Lib.hid hv
        clear hv
        go_wp2_with (refine wpList_load_mid rfl 107 (.tmp 14) rfl b (o + k * 6) rfl (spcells x) _ HRow.out Tryd.underlying107 rfl Tryd.sizeSPt ?_)
        refine HCx.out.mono ?_
        rintro e w1 ⟨rfl, hb1⟩
        have HB1 : Hid (Below w.heap.size w w1) := HB.out.trans (hb1.mono HB.out.size)
        clear hb1
        go_wp2
        go_roundw
        case rel =>
          refine ⟨k + 1, by omega, by go_num, fun j z hj hz => ?_, HB1.out⟩
          by_cases e : j = k
          · subst e
            rw [HX.out] at hz
            obtain rfl := Option.some.inj hz
            exact HV.out
          · exact HT.out j z (by omega) hz
        case measure => simp [intOf]; omega
    · obtain rfl : k = qs.length := by omega
      go_wp2
      go_ret
      exact ⟨.inl ⟨rfl, HT.out⟩, HB.out⟩

set_option maxRecDepth 100000 in
set_option maxHeartbeats 4000000 in
theorem delRm_any (g : Sp → Bool) (qs : List Sp) (hq : qs.length ≤ 64) (D1 G cap : Nat) (w : World) (hX : OX w G 107 6 spcells qs cap)
    (HCf : ∀ p ∈ qs, ∀ (W : World), w.grownBy W (some G) → Calls Tryd.prog 91 #[.agg (spcells p).toArray, .pointer (some ⟨D1, 0, none⟩)] W fun e w' => e = .returned (.bool (!g p)) ∧ Below W.heap.size W w') :
    Calls Tryd.prog 89 #[.slice (some ⟨G, 0, none⟩) qs.length cap, .func (.func 91) #[] #[.pointer (some ⟨D1, 0, none⟩)]] w fun e w' => e = .returned (.slice (some ⟨G, 0, none⟩) (qs.filter g).length cap) ∧ OX w' G 107 6 spcells (qs.filter g) cap ∧ w.grownBy w' (some G) := by
  have hcap : qs.length ≤ cap := by obtain ⟨cur, h1, h2, h3⟩ := hX; exact h2
  have hcm : cap ≤ maxLen := by obtain ⟨cur, h1, h2, h3, h4⟩ := hX; exact h3
  unfold maxLen at hcm
  have HX := Lib.hid hX
  have HC := Lib.hid HCf
  have hrd : Rd w w.heap.size spcells (some ⟨G, 0, none⟩) qs := own_rd2 spcells_length (hX.own spcells_length (Nat.zero_le _))
  have HI : Hid (Calls Tryd.prog 102 #[.slice (some ⟨G, 0, none⟩) qs.length cap, .func (.func 91) #[] #[.pointer (some ⟨D1, 0, none⟩)]] w fun e w' => ((e = .returned (.int .i64 (-1)) ∧ AllS g qs qs.length) ∨ ∃ (k : Nat) (x : Sp), e = .returned (.int .i64 k) ∧ qs[k]? = some x ∧ g x = false ∧ AllS g qs k) ∧ Below w.heap.size w w') :=
    indexRm_any g qs hq D1 _ cap w hrd (fun p hp W hW => HCf p hp W (gk_anyS (grown_of_below hW) _))
  clear hX HCf hrd
  have hn0 : (0 : Int) ≤ (qs.length : Int) := Int.natCast_nonneg _
  go_enter Tryd.func89, Tryd.ntmps89
  go_wp2_with fail
  refine HI.out.mono ?_
  rintro e w1 ⟨⟨rfl, hall⟩ | ⟨k, x, rfl, hx, hg, hall⟩, hb⟩
  · have hf : qs.filter g = qs := by have := filt_all hall; rwa [List.take_length] at this
    have HF := Lib.hid hf
    have HX1 := Lib.hid (HX.out.keep hb)
    have HG1 : Hid (w.grownBy w1 (some G)) := gk_anyS (grown_of_below hb) _
    clear hf hall hb HI
    go_wp2
    go_ret
    rw [HF.out]
    exact ⟨rfl, HX1.out, HG1.out⟩
  have hkl : k < qs.length := (List.getElem?_eq_some_iff.1 hx).1
  have hk0 : (0 : Int) ≤ (k : Int) := Int.natCast_nonneg _
  have hk1 : ¬ ((k : Int) = -1) := by omega
  have hk2 : ((k : Int) == -1) = false := by first | (simp; done) | simpa using hk1
  have HX1 := Lib.hid (HX.out.keep hb)
  have HG1 : Hid (w.grownBy w1 (some G)) := gk_anyS (grown_of_below hb) _
  have hf1 : (qs.take (k + 1)).filter g = qs.take k := by rw [filt_no hx hg, filt_all hall]
  have HF1 := Lib.hid hf1
  clear hx hg hall hb HI HX hf1
  go_wp2_with fail
  go_loopw [5, 6] (fun i j wr => ∃ (m q : Nat) (X : List Sp), m < q ∧ q ≤ qs.length ∧ i = .int .i64 m ∧ j = .int .i64 q ∧ X.length = qs.length ∧ X.take m = (qs.take q).filter g ∧ (∀ p, q ≤ p → X[p]? = qs[p]?) ∧ OX wr G 107 6 spcells X cap ∧ w.grownBy wr (some G))
    (fun _ j _ => qs.length - (intOf j).toNat)
  case atStart => exact ⟨k, k + 1, qs, by omega, by omega, rfl, by go_num, rfl, HF1.out.symm, fun _ _ => rfl, HX1.out, HG1.out⟩
  case round =>
    clear HX1 HG1 HF1
    obtain ⟨wa, rfl⟩ : ∃ u, u = wr := ⟨_, rfl⟩
    obtain ⟨m, q, X, hmq, hql, rfl, rfl, hXl, hXt, hXp, hOX, hG⟩ := hrel
    have HXl := Lib.hid hXl
    have HXt := Lib.hid hXt
    have HXp := Lib.hid hXp
    have HOX := Lib.hid hOX
    have HG := Lib.hid hG
    clear hXl hXt hXp hOX hG hk1 hk2
    have hm0 : (0 : Int) ≤ (m : Int) := Int.natCast_nonneg _
    have hq0 : (0 : Int) ≤ (q : Int) := Int.natCast_nonneg _
    by_cases hlt : q < qs.length
    · obtain ⟨⟨⟨⟨⟨k1, y1⟩, d⟩, l, i⟩, a, n, c⟩, hx⟩ : ∃ x, qs[q]? = some x := ⟨_, List.getElem?_eq_getElem hlt⟩
      have HXx := Lib.hid hx
      have hxX : X[q]? = some ((((k1, y1), d), l, i), (a, n, c)) := by rw [HXp.out q (Nat.le_refl _)]; exact hx
      have hrow := HOX.out.range spcells_length hxX
      have d0 : wa.cell? ⟨G, q * 6, none⟩ = some (.int .u8 k1) := hrow 0 _ rfl
      have d1 : wa.cell? ⟨G, q * 6 + 1, none⟩ = some (.int .i16 y1) := hrow 1 _ rfl
      have d2 : wa.cell? ⟨G, q * 6 + 2, none⟩ = some (.int .i64 d) := hrow 2 _ rfl
      have d3 : wa.cell? ⟨G, q * 6 + 3, none⟩ = some (.int .i64 l) := hrow 3 _ rfl
      have d4 : wa.cell? ⟨G, q * 6 + 4, none⟩ = some (.int .i64 i) := hrow 4 _ rfl
      have d5 : wa.cell? ⟨G, q * 6 + 5, none⟩ = some (.slice a n c) := hrow 5 _ rfl
      have hq8 : (q : Int) < qs.length := by omega
      have HCx := Lib.hid (HC.out _ (List.mem_of_getElem? hx))
      have HLt : Hid (G < wa.heap.size) := HOX.out.lt
      clear hx hxX hrow
      go_wp2_with fail
      clear d0 d1 d2 d3 d4 d5
      have HA1 : Hid (Below wa.heap.size wa (wa.alloc (.cells #[.int .u8 k1, .int .i16 y1, .int .i64 d, .int .i64 l, .int .i64 i, .slice a n c] 107))) := (Below.refl _ wa).alloc (Nat.le_refl _) _
      have HK1 : Hid (Blk (wa.alloc (.cells #[.int .u8 k1, .int .i16 y1, .int .i64 d, .int .i64 l, .int .i64 i, .slice a n c] 107)) wa.heap.size 107 #[.int .u8 k1, .int .i16 y1, .int .i64 d, .int .i64 l, .int .i64 i, .slice a n c]) := Blk.new wa _ _
      obtain ⟨W1, hW1⟩ : ∃ W1, wa.alloc (.cells #[.int .u8 k1, .int .i16 y1, .int .i64 d, .int .i64 l, .int .i64 i, .slice a n c] 107) = W1 := ⟨_, rfl⟩
      rw [hW1] at HA1 HK1 ⊢
      clear hW1
      have HCW : Hid (Calls Tryd.prog 91 #[.agg #[.int .u8 k1, .int .i16 y1, .int .i64 d, .int .i64 l, .int .i64 i, .slice a n c], .pointer (some ⟨D1, 0, none⟩)] W1 fun e w' => e = .returned (.bool (!g ((((k1, y1), d), l, i), (a, n, c)))) ∧ Below W1.heap.size W1 w') := HCx.out W1 (gk_transS HG.out (gk_anyS (grown_of_below HA1.out) _))
      refine HCW.out.mono ?_
      rintro e w2 ⟨rfl, hb⟩
      have HK2 := Lib.hid (HK1.out.keep hb)
      have HOX2 := Lib.hid ((HOX.out.keep HA1.out).keep hb)
      have HG2 : Hid (w.grownBy w2 (some G)) := gk_transS (gk_transS HG.out (gk_anyS (grown_of_below HA1.out) _)) (gk_anyS (grown_of_below hb) _)
      clear hb HCW HK1 HA1 HOX HG
      cases hv : g ((((k1, y1), d), l, i), (a, n, c))
      · have HT : Hid (X.take m = (qs.take (q + 1)).filter g) := by show _ = _; rw [filt_no HXx.out hv]; exact HXt.out
        clear hv
        go_wp2
        go_roundw
        case rel => exact ⟨m, q + 1, X, by omega, by omega, rfl, by go_num, HXl.out, HT.out, fun p hp => HXp.out p (by omega), HOX2.out, HG2.out⟩
        case measure => simp [intOf]; omega
      · have hmX : m < X.length := by rw [HXl.out]; omega
        have HT : Hid ((X.set m ((((k1, y1), d), l, i), (a, n, c))).take (m + 1) = (qs.take (q + 1)).filter g) := by show _ = _; rw [filt_yes HXx.out hv, take_set hmX, HXt.out]
        have HTh : Hid (w2.there G (m * 6) (#[.int .u8 k1, .int .i16 y1, .int .i64 d, .int .i64 l, .int .i64 i, .slice a n c] : Array Value).size) := HOX2.out.there hmX
        have hsz : (Tryd.prog.info? 107).map (·.size) = some (#[.int .u8 k1, .int .i16 y1, .int .i64 d, .int .i64 l, .int .i64 i, .slice a n c] : Array Value).size := Tryd.sizeSPt
        have hone : (#[.int .u8 k1, .int .i16 y1, .int .i64 d, .int .i64 l, .int .i64 i, .slice a n c] : Array Value).all (·.oneCell') = true := spcells_one ((((k1, y1), d), l, i), (a, n, c))
        have HSz := Lib.hid hsz
        have HOne := Lib.hid hone
        clear hsz hone
        have HOX3 := Lib.hid (HOX2.out.set spcells_length hmX ((((k1, y1), d), l, i), (a, n, c)))
        have HG3 : Hid (w.grownBy (w2.setCells G (m * 6) (spcells ((((k1, y1), d), l, i), (a, n, c)))) (some G)) := gk_setCells HG2.out _ _
        have f0 : w2.cell? ⟨wa.heap.size, 0, none⟩ = some (.int .u8 k1) := HK2.out.cell 0
        have f1 : w2.cell? ⟨wa.heap.size, 1, none⟩ = some (.int .i16 y1) := HK2.out.cell 1
        have f2 : w2.cell? ⟨wa.heap.size, 2, none⟩ = some (.int .i64 d) := HK2.out.cell 2
        have f3 : w2.cell? ⟨wa.heap.size, 3, none⟩ = some (.int .i64 l) := HK2.out.cell 3
        have f4 : w2.cell? ⟨wa.heap.size, 4, none⟩ = some (.int .i64 i) := HK2.out.cell 4
        have f5 : w2.cell? ⟨wa.heap.size, 5, none⟩ = some (.slice a n c) := HK2.out.cell 5
        have hm8 : (m : Int) < qs.length := by omega
        clear hv hmX
        go_wp2_with (refine wpList_store_mid rfl 107 (.tmp 33) (.tmp 32) rfl G (m * 6) #[.int .u8 k1, .int .i16 y1, .int .i64 d, .int .i64 l, .int .i64 i, .slice a n c] rfl rfl ?hth ?hsz ?hone ?_)
        case hth => exact HTh.out
        case hsz => exact HSz.out
        case hone => exact HOne.out
        go_roundw
        case rel => exact ⟨m + 1, q + 1, X.set m ((((k1, y1), d), l, i), (a, n, c)), by omega, by omega, by go_num, by go_num, by rw [List.length_set]; exact HXl.out, HT.out, fun z hz => by rw [List.getElem?_set_ne (by omega)]; exact HXp.out z (by omega), HOX3.out, HG3.out⟩
        case measure => simp [intOf]; omega
    · obtain rfl : q = qs.length := by omega
      have hF : X.take m = qs.filter g := by rw [HXt.out, List.take_length]
      have hFl : (qs.filter g).length = m := by rw [← hF, List.length_take, HXl.out]; omega
      have HF := Lib.hid hF
      have HFl := Lib.hid hFl
      have hcl : ∀ ty, (Builtin.clear_ #[134] ty #[.slice (some ⟨G, m * 6, none⟩) (qs.length - m) (cap - m)]).run Tryd.prog wa = .ok (.tuple #[]) (wa.setCells G (m * 6) (Builtin.zeroCells #[.int .u8 0, .int .i16 0, .int .i64 0, .int .i64 0, .int .i64 0, .slice none 0 0] (qs.length - m)).toList) := fun ty => by
        obtain ⟨cur, hgc, h2, h3, h4, h5⟩ := HOX.out
        have hl := HXl.out
        exact run_clear_rows wa _ _ ty (.agg #[.int .u8 0, .int .i16 0, .int .i64 0, .int .i64 0, .int .i64 0, .slice none 0 0]) Tryd.underlying134 Tryd.zeroSP (by decide) (by intro v hv; simp only [Value.cells, List.mem_toArray, List.mem_cons, List.not_mem_nil, or_false] at hv; rcases hv with rfl | rfl | rfl | rfl | rfl | rfl <;> rfl) G (m * 6) (qs.length - m) (cap - m) (by omega)
          (fun j hj => by
            have hj' : j < (qs.length - m) * 6 := hj
            rw [cell_of_row wa G (m * 6 + j) cur _ (0, 0) hgc, Array.getElem?_eq_getElem (by omega)]; rfl)
          (fun j hj => by simp [World.frozen?, hgc])
      clear hF hFl
      go_wp2_with (simp only [hcl])
      go_ret
      have hl := HXl.out
      have h3 : OX wa G 107 6 spcells (qs.filter g) cap := by rw [← HF.out]; exact HOX.out.cutS spcells_length (by omega)
      refine ⟨by rw [HFl.out]; rfl, h3.beyond _ _ (by rw [HFl.out]; exact Nat.le_refl _) ?_, gk_setCells HG.out _ _⟩
      rw [zeroCells_len]
      show m * 6 + (qs.length - m) * 6 ≤ cap * 6
      omega


def bhF : List Num := [(93, fun s => (s.1.2.2 : Int))]
theorem bh_tells {w : World} {s : Sp} : Tells w bhF s := by
  obtain ⟨⟨⟨⟨k1, y1⟩, d⟩, l, i⟩, a, n, c⟩ := s
  intro f hf w' hb
  simp only [bhF, List.mem_cons, List.not_mem_nil, or_false] at hf
  subst hf
  exact behindK_any k1 y1 d l i a n c w'
theorem bh_enters : Enters bhF := by
  intro f hf args w
  simp only [bhF, List.mem_cons, List.not_mem_nil, or_false] at hf
  subst hf
  kernel_rfl
theorem cmp1 (a b : Int) : (if c64 a b = 0 then 0 else c64 a b) < 0 ↔ a < b := by
  unfold c64
  repeat' split
  all_goals omega
theorem rm_link {xss : List (List Wnt)} {x : Wnt} {l : Nat} : ∀ i, i ≤ xss.length → ∀ ss : List Sp, ss.map (·.1) = frT xss x i →
    (ss.filter (neL l) = [] ∧ rmT xss l i = none) ∨ ∃ m t ys, ss.filter (neL l) = m :: t ∧ rmT xss l i = some (minL bhF m t).1.2.1 ∧ xss[(minL bhF m t).1.2.1]? = some ys ∧ (minL bhF m t).1.2.2 = ys.length
  | 0, _, ss, h => by
    left
    have : ss = [] := by simpa [frT] using h
    subst this
    exact ⟨rfl, rfl⟩
  | i + 1, hi, ss, h => by
    obtain ⟨xs, hx⟩ : ∃ y, xss[i]? = some y := ⟨_, List.getElem?_eq_getElem (by omega)⟩
    by_cases hf : xs.length < 6
    · rw [frT_yes hx hf] at h
      obtain ⟨s1, s2, rfl, e1, e2⟩ := List.map_eq_append_iff.1 h
      obtain ⟨s, rfl, hs⟩ : ∃ s, s2 = [s] ∧ s.1 = (x, i, xs.length) := by
        cases s2 with
        | nil => cases e2
        | cons s r =>
          simp only [List.map_cons, List.cons.injEq, List.map_eq_nil_iff] at e2
          obtain ⟨e3, rfl⟩ := e2
          exact ⟨s, rfl, e3⟩
      rw [List.filter_append]
      by_cases hl : i = l
      · subst hl
        have e0 : [s].filter (neL i) = [] := by simp [neL, hs]
        rw [e0, List.append_nil, rm_l]
        exact rm_link i (by omega) s1 e1
      · have e0 : [s].filter (neL l) = [s] := by simp [neL, hs, hl]
        rw [e0]
        right
        rcases rm_link (l := l) i (by omega) s1 e1 with ⟨hn0, hn⟩ | ⟨m, t, ys, hn0, hm, hy, hyl⟩
        · rw [hn0]
          refine ⟨s, [], xs, rfl, ?_, ?_, ?_⟩
          · rw [rm_first hx hf hl hn]
            show some i = some s.1.2.1
            rw [hs]
          · show xss[s.1.2.1]? = some xs
            rw [hs]; exact hx
          · show s.1.2.2 = xs.length
            rw [hs]
        · rw [hn0]
          obtain ⟨p, hp⟩ : ∃ p, minL bhF m t = p := ⟨_, rfl⟩
          rw [hp] at hm hy hyl
          have hc : cmpL bhF s p < 0 ↔ xs.length < ys.length := by
            have := cmp1 (s.1.2.2 : Int) (p.1.2.2 : Int)
            have e : cmpL bhF s p = (if c64 (s.1.2.2 : Int) (p.1.2.2 : Int) = 0 then 0 else c64 (s.1.2.2 : Int) (p.1.2.2 : Int)) := rfl
            rw [e, this, hyl, hs]
            simp only
            omega
          have hN := rm_next hx hf hl hm hy
          by_cases hd : cmpL bhF s p < 0
          · refine ⟨m, t ++ [s], xs, rfl, ?_, ?_, ?_⟩
            · rw [minL_snoc, hp, if_pos hd, hN, if_pos (hc.1 hd), hs]
            · rw [minL_snoc, hp, if_pos hd, hs]; exact hx
            · rw [minL_snoc, hp, if_pos hd, hs]
          · refine ⟨m, t ++ [s], ys, rfl, ?_, ?_, ?_⟩
            · rw [minL_snoc, hp, if_neg hd, hN, if_neg (fun e => hd (hc.2 e))]
            · rw [minL_snoc, hp, if_neg hd]; exact hy
            · rw [minL_snoc, hp, if_neg hd]; exact hyl
    · rw [frT_no hx hf] at h
      rw [rm_full hx hf]
      exact rm_link i (by omega) ss h
theorem rm_linkS {xss : List (List Wnt)} {x : Wnt} {l : Nat} {ss : List Sp} (hs : ss.map (·.1) = frT xss x xss.length) (ad : Nat → Addr) : (flS bhF (ss.filter (neL l))).1.2.1 = (rmT xss l xss.length).getD 0 ∧ flE ad (ss.filter (neL l)) = olEN ad (rmT xss l xss.length) := by
  rcases rm_link (l := l) xss.length (Nat.le_refl _) ss hs with ⟨hn, hT⟩ | ⟨m, tl, ys, hn, hT, -, -⟩
  · rw [hn, hT]; exact ⟨rfl, rfl⟩
  · rw [hn, hT]; exact ⟨rfl, rfl⟩

theorem delF_any (l : Nat) (F : List Sp) (hF : F.length ≤ 8) (D : Nat) (A' : Option Addr) (c' : Nat) (w0 w2 : World) (hO : w2.ownsRow w0.heap.size 107 6 (.slice A' F.length c') F.length (F.flatMap spcells)) (hD : w0.cell? ⟨D, 0, none⟩ = some (.int .i64 (l : Int))) (hb : Below w0.heap.size w0 w2) :
    Calls Tryd.prog 89 #[.slice A' F.length c', .func (.func 91) #[] #[.pointer (some ⟨D, 0, none⟩)]] w2 fun e w' => ∃ A2 c2, e = .returned (.slice A2 (F.filter (neL l)).length c2) ∧ Rd w' w'.heap.size spcells A2 (F.filter (neL l)) ∧ Below w0.heap.size w0 w' := by
  have hDl := block_lt_of_cell hD
  dsimp only at hDl
  have hD2 := (hb.cell (p := ⟨D, 0, none⟩) hDl).trans hD
  rcases OX.of hO with ⟨he, hss⟩ | ⟨g, cap, he, hg, hX⟩
  · subst hss
    simp only [List.length_nil, Value.slice.injEq] at he
    obtain ⟨rfl, -, rfl⟩ := he
    refine (delNil_any _ 0 w2 (fun W hW => (indexRm_any (neL l) [] (by simp) D none 0 W (fun hn => absurd hn (by simp)) (fun p hp => by cases hp)).mono ?_)).mono ?_
    · rintro e w3 ⟨⟨rfl, -⟩ | ⟨j, x, -, hx, -⟩, hb⟩
      · exact ⟨rfl, hb⟩
      · cases hx
    rintro e w3 ⟨rfl, hb3⟩
    exact ⟨none, 0, rfl, fun hn => absurd hn (by simp), hb.trans (hb3.mono hb.size)⟩
  · obtain ⟨rfl, rfl⟩ : A' = some ⟨g, 0, none⟩ ∧ c' = cap := by simpa using he
    refine (delRm_any (neL l) F (by omega) D g c' w2 hX (fun p hp W hW => rmCl_any p l D W (hW.cell hD2 (by intro e; have := Option.some.inj e; dsimp only at this; omega)))).mono ?_
    rintro e w3 ⟨rfl, hX3, hG3⟩
    exact ⟨_, _, rfl, own_rd2 spcells_length (hX3.own spcells_length (Nat.zero_le _)), hb.grown hG3 hb.size (fun j e => by obtain rfl := Option.some.inj e; exact hg)⟩

set_option maxRecDepth 100000 in
set_option maxHeartbeats 4000000 in
theorem roomiest_any (xss : List (List Wnt)) (l : Nat) (x : Wnt) (hwx : wfW x) (A : Option Addr) (c : Nat) (ad : Nat → Addr) (w : World) (hl : xss.length ≤ 8) (h6 : ∀ xs ∈ xss, xs.length ≤ 6) (hr : RdK w w.heap.size wcells A xss) (hE : EW 7 w ad) :
    Calls Tryd.prog 71 #[.slice A xss.length c, .int .i64 (l : Int), .agg (wcells x).toArray] w fun e w' => ∃ (k2 y2 d2 : Int) (l2 i2 : Nat) (a2 : Option Addr) (n2 c2 : Nat), e = .returned (.tuple #[.agg #[.int .u8 k2, .int .i16 y2, .int .i64 d2, .int .i64 l2, .int .i64 i2, .slice a2 n2 c2], olEN ad (rmT xss l xss.length)]) ∧ l2 = (rmT xss l xss.length).getD 0 ∧ Below w.heap.size w w' := by
  have HWX := Lib.hid hwx
  obtain ⟨⟨k1, y1⟩, d⟩ := x
  show Calls Tryd.prog 71 #[.slice A xss.length c, .int .i64 (l : Int), .agg #[.int .u8 k1, .int .i16 y1, .int .i16 d]] w _
  have HR := Lib.hid hr
  have H6 := Lib.hid h6
  have HE := Lib.hid hE
  clear hr h6 hwx hE
  obtain ⟨wA, hwA⟩ : ∃ u, w.alloc (.cells #[.int .i64 (l : Int)] 2) = u := ⟨_, rfl⟩
  have hsA : wA.heap.size = w.heap.size + 1 := by rw [← hwA]; simp
  have qA : Below w.heap.size w wA := by rw [← hwA]; exact (Below.refl _ w).alloc (Nat.le_refl _) _
  have kA : Blk wA w.heap.size 2 #[.int .i64 (l : Int)] := by rw [← hwA]; exact Blk.new w _ _
  have h2 : Below w.heap.size w ((wA.alloc (.cells #[.int .u8 k1, .int .i16 y1, .int .i16 d] 30)).alloc (.cells #[.int .u8 0, .int .i16 0, .int .i64 0, .int .i64 0, .int .i64 0, .slice none 0 0] 107)) := by
    have q1 : Below w.heap.size w (wA.alloc (.cells #[.int .u8 k1, .int .i16 y1, .int .i16 d] 30)) := qA.alloc qA.size _
    exact q1.alloc q1.size _
  have h1 : Blk ((wA.alloc (.cells #[.int .u8 k1, .int .i16 y1, .int .i16 d] 30)).alloc (.cells #[.int .u8 0, .int .i16 0, .int .i64 0, .int .i64 0, .int .i64 0, .slice none 0 0] 107)) (w.heap.size + 2) 107 #[.int .u8 0, .int .i16 0, .int .i64 0, .int .i64 0, .int .i64 0, .slice none 0 0] := by
    have := Blk.new (wA.alloc (.cells #[.int .u8 k1, .int .i16 y1, .int .i16 d] 30)) 107 #[.int .u8 0, .int .i16 0, .int .i64 0, .int .i64 0, .int .i64 0, .slice none 0 0]
    simpa [hsA] using this
  have h3 : Blk ((wA.alloc (.cells #[.int .u8 k1, .int .i16 y1, .int .i16 d] 30)).alloc (.cells #[.int .u8 0, .int .i16 0, .int .i64 0, .int .i64 0, .int .i64 0, .slice none 0 0] 107)) (w.heap.size + 1) 30 #[.int .u8 k1, .int .i16 y1, .int .i16 d] := by
    have := (Blk.new wA 30 #[.int .u8 k1, .int .i16 y1, .int .i16 d]).alloc (.cells #[.int .u8 0, .int .i16 0, .int .i64 0, .int .i64 0, .int .i64 0, .slice none 0 0] 107)
    rw [hsA] at this; exact this
  have h4 : Blk ((wA.alloc (.cells #[.int .u8 k1, .int .i16 y1, .int .i16 d] 30)).alloc (.cells #[.int .u8 0, .int .i16 0, .int .i64 0, .int .i64 0, .int .i64 0, .slice none 0 0] 107)) w.heap.size 2 #[.int .i64 (l : Int)] := (kA.alloc _).alloc _
  subst hwA
  obtain ⟨W0, hW0⟩ : ∃ W0, ((w.alloc (.cells #[.int .i64 (l : Int)] 2)).alloc (.cells #[.int .u8 k1, .int .i16 y1, .int .i16 d] 30)).alloc (.cells #[.int .u8 0, .int .i16 0, .int .i64 0, .int .i64 0, .int .i64 0, .slice none 0 0] 107) = W0 := ⟨_, rfl⟩
  rw [hW0] at h1 h2 h3 h4
  have H1 := Lib.hid h1
  have H2 := Lib.hid h2
  have H4 := Lib.hid h4
  have b0 : W0.cell? ⟨w.heap.size + 1, 0, none⟩ = some (.int .u8 k1) := h3.cell 0
  have b1 : W0.cell? ⟨w.heap.size + 1, 1, none⟩ = some (.int .i16 y1) := h3.cell 1
  have b2 : W0.cell? ⟨w.heap.size + 1, 2, none⟩ = some (.int .i16 d) := h3.cell 2
  clear h1 h2 h3 h4 qA kA hsA
  go_enter Tryd.func71, Tryd.ntmps71
  go_wp2_with fail
  clear hW0
  refine (frontsK_any xss ((k1, y1), d) HWX.out A c W0 hl H6.out (HR.out.keep H2.out)).mono ?_
  rintro e w2 ⟨A', c', F, rfl, hO, hC, hS, hb⟩
  have hF8 : F.length ≤ 8 := by have := frT_le xss ((k1, y1), d) xss.length; rw [← hC] at this; simp at this; omega
  have HDel := Lib.hid (delF_any l F hF8 w.heap.size A' c' W0 w2 hO (H4.out.cell 0) hb)
  obtain ⟨hlk1, hlk2⟩ := rm_linkS (l := l) hC ad
  have hsl : (F.filter (neL l)).length ≤ 1000 := Nat.le_trans (List.length_filter_le _ _) (by omega)
  clear hO hC hS hb b0 b1 b2
  go_wp2_with fail
  refine HDel.out.mono ?_
  rintro e w3 ⟨A2, c3, rfl, hRd, hb⟩
  have HB2 : Hid (Below w.heap.size w w3) := H2.out.trans (hb.mono H2.out.size)
  have HK2 := Lib.hid (H1.out.below hb H1.out.lt)
  clear hb HDel
  have hq1 : Below w3.heap.size w3 (w3.alloc (.cells #[.func (.func 93) #[] #[]] 139)) := (Below.refl _ w3).alloc (Nat.le_refl _) _
  have hq2 : Blk (w3.alloc (.cells #[.func (.func 93) #[] #[]] 139)) w3.heap.size 139 #[.func (.func 93) #[] #[]] := Blk.new w3 _ _
  obtain ⟨F2, hF2⟩ : ∃ F2, F.filter (neL l) = F2 := ⟨_, rfl⟩
  rw [hF2] at hRd hlk1 hlk2 hsl ⊢
  obtain ⟨n, hn⟩ : ∃ n : Nat, F2.length = n := ⟨_, rfl⟩
  have HFL : Hid (∀ w', Below (w3.alloc (.cells #[.func (.func 93) #[] #[]] 139)).heap.size (w3.alloc (.cells #[.func (.func 93) #[] #[]] 139)) w' → Calls Tryd.prog 92 #[.slice A2 n c3, .slice (some ⟨w3.heap.size, 0, none⟩) 1 1] w' fun e w'' => e = .returned (.tuple #[.agg (spcells (flS bhF F2)).toArray, flE ad F2]) ∧ Below w'.heap.size w' w'') := fun w' hb2 => by
    have hbw : Below w3.heap.size w3 w' := hq1.trans (hb2.mono hq1.size)
    have := firstLeast_any bhF w3.heap.size 1 F2 A2 c3 ad w' (by show 1 ≤ 1000; omega) hsl (Nat.lt_of_lt_of_le hq2.lt hb2.size) (fun j f hf => by
      match j, hf with
      | 0, hf => cases hf; exact (hq2.keep hb2).cell 0
      | j + 1, hf => simp [bhF] at hf) (fun s h => bh_tells) bh_enters (hRd.keep hbw) ((HE.out.below HB2.out (Nat.le_refl _)).below hbw (Nat.le_refl _))
    rw [hn] at this
    exact this
  rw [hn]
  obtain ⟨⟨⟨⟨⟨k2, y2⟩, d2⟩, l2, i2⟩, a2, n2, c2⟩, hm⟩ : ∃ p, flS bhF F2 = p := ⟨_, rfl⟩
  rw [hm] at HFL hlk1
  obtain ⟨er, her⟩ : ∃ v, flE ad F2 = v := ⟨_, rfl⟩
  rw [her] at HFL hlk2
  have HL1 : Hid (l2 = (rmT xss l xss.length).getD 0) := hlk1
  have HL2 := Lib.hid hlk2
  clear hlk1 hlk2 hm her hn hsl hRd hF8 hF2
  go_wp2_with fail
  refine (HFL.out _ (Below.refl _ _)).mono ?_
  rintro e w5 ⟨he, hb⟩
  have he2 : e = .returned (.tuple #[.agg #[.int .u8 k2, .int .i16 y2, .int .i64 d2, .int .i64 l2, .int .i64 i2, .slice a2 n2 c2], er]) := he
  subst he2
  have HB5 : Hid (Below w.heap.size w w5) := (HB2.out.trans (hq1.mono HB2.out.size)).trans (hb.mono (HB2.out.trans (hq1.mono HB2.out.size)).size)
  have hK5 := (HK2.out.keep hq1).keep hb
  have z0 : w5.cell? ⟨w.heap.size + 2, 0, none⟩ = some (.int .u8 0) := hK5.cell 0
  have f0 : w5.frozen? ⟨w.heap.size + 2, 0, none⟩ = false := hK5.frozen 0
  have z1 : w5.cell? ⟨w.heap.size + 2, 1, none⟩ = some (.int .i16 0) := hK5.cell 1
  have f1 : w5.frozen? ⟨w.heap.size + 2, 1, none⟩ = false := hK5.frozen 1
  have z2 : w5.cell? ⟨w.heap.size + 2, 2, none⟩ = some (.int .i64 0) := hK5.cell 2
  have f2 : w5.frozen? ⟨w.heap.size + 2, 2, none⟩ = false := hK5.frozen 2
  have z3 : w5.cell? ⟨w.heap.size + 2, 3, none⟩ = some (.int .i64 0) := hK5.cell 3
  have f3 : w5.frozen? ⟨w.heap.size + 2, 3, none⟩ = false := hK5.frozen 3
  have z4 : w5.cell? ⟨w.heap.size + 2, 4, none⟩ = some (.int .i64 0) := hK5.cell 4
  have f4 : w5.frozen? ⟨w.heap.size + 2, 4, none⟩ = false := hK5.frozen 4
  have z5 : w5.cell? ⟨w.heap.size + 2, 5, none⟩ = some (.slice none 0 0) := hK5.cell 5
  have f5 : w5.frozen? ⟨w.heap.size + 2, 5, none⟩ = false := hK5.frozen 5
  clear hb hK5 hq1 hq2 HFL he
  go_wp2
  refine bodyPost_ret (v := .tuple #[.agg #[.int .u8 k2, .int .i16 y2, .int .i64 d2, .int .i64 l2, .int .i64 i2, .slice a2 n2 c2], er]) (by simp [results, Tryd.results71, go_sem, *]) rfl ?_
  exact ⟨_, _, _, _, _, _, _, _, by rw [HL2.out], HL1.out, ((((((HB5.out.setCell (p := ⟨w.heap.size + 2, 0, none⟩) (by show w.heap.size ≤ w.heap.size + 2; omega) _).setCell (p := ⟨w.heap.size + 2, 1, none⟩) (by show w.heap.size ≤ w.heap.size + 2; omega) _).setCell (p := ⟨w.heap.size + 2, 2, none⟩) (by show w.heap.size ≤ w.heap.size + 2; omega) _).setCell (p := ⟨w.heap.size + 2, 3, none⟩) (by show w.heap.size ≤ w.heap.size + 2; omega) _).setCell (p := ⟨w.heap.size + 2, 4, none⟩) (by show w.heap.size ≤ w.heap.size + 2; omega) _).setCell (p := ⟨w.heap.size + 2, 5, none⟩) (by show w.heap.size ≤ w.heap.size + 2; omega) _)⟩

end Go.Proofs.YtmfdgpinohbckaaDoor
