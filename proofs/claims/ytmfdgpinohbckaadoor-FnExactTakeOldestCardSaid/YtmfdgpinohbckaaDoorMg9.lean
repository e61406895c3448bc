/-
  DeleteFunc over spots: what is left are those that are alike, at the list's beginning. Condition: the list lies in a block of the call's own; the closure answers as told while only that block turns.
-/
import Derived.Test.YtmfdgpinohbckaaDoorBk2
import Derived.Lib.SliceRun
import Derived.Test.YtmfdgpinohbckaaDoorMg8
import Derived.Test.YtmfdgpinohbckaaDoorIs0
import Derived.Test.YtmfdgpinohbckaaDoorMg6
namespace Go.Proofs.YtmfdgpinohbckaaDoor
open Go.ChangeShapes Go.WideShapes Go.ChangeAt Go.RowKit Go.Deep

theorem zeroCells_len (zs : Array Value) (n : Nat) : (Builtin.zeroCells zs n).toList.length = n * zs.size := by simp [Builtin.zeroCells]
theorem zeroCells_one {zs : Array Value} {n : Nat} (h : ∀ v ∈ zs, v.oneCell' = true) (h0 : 0 < zs.size) : ∀ v ∈ (Builtin.zeroCells zs n).toList, v.oneCell' = true := by
  intro v hv
  simp only [Builtin.zeroCells, Array.toList_map, List.mem_map] at hv
  obtain ⟨i, -, rfl⟩ := hv
  rw [getElem!_pos zs (i % zs.size) (Nat.mod_lt _ h0)]
  exact h _ (Array.getElem_mem _)
theorem run_clear_rows {P : Program} (w : World) (t e ty : TypeId) (z : Value) (ht : P.underlying t = some (.slice e)) (hv : ∀ w, (zeroValue e).run P w = .ok z w) (h0 : 0 < z.cells.size) (h1 : ∀ v ∈ z.cells, v.oneCell' = true) (b o n c : Nat) (hn : 0 < n)
    (hc : ∀ j, j < n * z.cells.size → (w.cell? ⟨b, o + j, none⟩).isSome = true) (hf : ∀ j, j < n * z.cells.size → w.frozen? ⟨b, o + j, none⟩ = false) :
    (Builtin.clear_ #[t] ty #[.slice (some ⟨b, o, none⟩) n c]).run P w = .ok (.tuple #[]) (w.setCells b o (Builtin.zeroCells z.cells n).toList) := by
  have hst := run_storeCells_cells (P := P) b o (Builtin.zeroCells z.cells n).toList 0 w (by rw [zeroCells_len]; simpa using hc) (by rw [zeroCells_len]; simpa using hf) (zeroCells_one h1 h0)
  simp only [Nat.add_zero] at hst
  obtain ⟨m, rfl⟩ : ∃ m, n = m + 1 := ⟨n - 1, by omega⟩
  simp [Builtin.clear_, run_underlying ht, hv, hst]
end Go.Proofs.YtmfdgpinohbckaaDoor

namespace Go.Proofs.YtmfdgpinohbckaaDoor
open Go.ChangeShapes Go.WideShapes Go.ChangeAt Go.RowKit Go.Deep

theorem gk_setCells {w w1 : World} {G : Nat} (h : w.grownBy w1 (some G)) (o : Nat) (vs : List Value) : w.grownBy (w1.setCells G o vs) (some G) := by
  obtain ⟨e1, e2, e3⟩ := setCells_same G vs o w1
  exact ⟨by rw [e1]; exact h.os, by rw [e2]; exact h.tape, by rw [e3]; exact h.output, by rw [size_setCells]; exact h.size, fun k hk hne => by rw [setCells_other _ _ _ _ _ (fun e => hne (by rw [e]))]; exact h.block k hk hne⟩
theorem OX.beyond {T : Type} {w : World} {g m cap : Nat} {t : TypeId} {cells : T → List Value} {Z : List T} (h : OX w g t m cells Z cap) (o : Nat) (vs : List Value) (ho : Z.length * m ≤ o) (hv : o + vs.length ≤ cap * m) : OX (w.setCells g o vs) g t m cells Z cap := by
  obtain ⟨cur, hg, h2, h3, h4, h5⟩ := h
  have hB : Blk w g t cur.toList.toArray := hg
  have hz : cur.toList.length = cap * m := by simp [h4]
  have := hB.setCells o vs (by rw [hz]; exact hv)
  refine ⟨_, this, h2, h3, ?_, ?_⟩
  · simp only [List.size_toArray, List.length_append, List.length_take, List.length_drop, hz]
    omega
  · show (cur.toList.take o ++ vs ++ cur.toList.drop (o + vs.length)).take (Z.length * m) = _
    rw [← h5, List.append_assoc, List.take_append_of_le_length (by rw [List.length_take, hz]; omega), List.take_take, Nat.min_eq_left ho]
theorem filt_all {g : Sp → Bool} {qs : List Sp} {k : Nat} (h : AllS g qs k) : (qs.take k).filter g = qs.take k := by
  apply List.filter_eq_self.2
  intro x hx
  obtain ⟨j, hj, rfl⟩ := List.mem_iff_getElem.1 hx
  rw [List.length_take] at hj
  refine h j _ (by omega) ?_
  rw [List.getElem_take]
  exact List.getElem?_eq_getElem (by omega)
theorem filt_no {g : Sp → Bool} {qs : List Sp} {k : Nat} {x : Sp} (hx : qs[k]? = some x) (h : g x = false) : (qs.take (k + 1)).filter g = (qs.take k).filter g := by
  rw [List.take_add_one, hx, List.filter_append]
  simp [h]
theorem filt_yes {g : Sp → Bool} {qs : List Sp} {k : Nat} {x : Sp} (hx : qs[k]? = some x) (h : g x = true) : (qs.take (k + 1)).filter g = (qs.take k).filter g ++ [x] := by
  rw [List.take_add_one, hx, List.filter_append]
  simp [h]
theorem take_set {T : Type} {X : List T} {m : Nat} (h : m < X.length) (x : T) : (X.set m x).take (m + 1) = X.take m ++ [x] := by
  rw [List.take_add_one, List.getElem?_set_self h, List.take_set_of_le (Nat.le_refl m)]
  rfl
end Go.Proofs.YtmfdgpinohbckaaDoor

namespace Go.Proofs.YtmfdgpinohbckaaDoor
open Go.ChangeShapes Go.WideShapes Go.ChangeAt Go.RowKit Go.Deep

theorem OX.cutS {T : Type} {w : World} {g m cap : Nat} {t : TypeId} {cells : T → List Value} {Z : List T} (hs : ∀ b, (cells b).length = m) (h : OX w g t m cells Z cap) {j : Nat} (hj : j ≤ Z.length) : OX w g t m cells (Z.take j) cap := by
  obtain ⟨cur, hg, h2, h3, h4, h5⟩ := h
  have hl : (Z.take j).length = j := by rw [List.length_take]; omega
  refine ⟨cur, hg, by omega, h3, h4, ?_⟩
  have e : (Z.flatMap cells).take (j * m) = (Z.take j).flatMap cells := by
    have e3 : Z.flatMap cells = (Z.take j).flatMap cells ++ (Z.drop j).flatMap cells := by rw [← List.flatMap_append, List.take_append_drop]
    rw [e3, List.take_append_of_le_length (by rw [rows_length hs, hl]; exact Nat.le_refl _), List.take_of_length_le (by rw [rows_length hs, hl]; exact Nat.le_refl _)]
  rw [hl, ← e, ← h5, List.take_take]
  congr 1
  have := Nat.mul_le_mul_right m hj
  omega
theorem gk_anyS {w w' : World} (h : w.grownBy w' none) (row : Option Nat) : w.grownBy w' row := ⟨h.os, h.tape, h.output, h.size, fun k hk _ => h.block k hk (by intro e; cases e)⟩
theorem gk_transS {a b c : World} {row : Option Nat} (h : a.grownBy b row) (k : b.grownBy c row) : a.grownBy c row :=
  ⟨k.os.trans h.os, k.tape.trans h.tape, k.output.trans h.output, Nat.le_trans h.size k.size, fun q hq hne => (k.block q (Nat.lt_of_lt_of_le hq h.size) hne).trans (h.block q hq hne)⟩
theorem Tryd.zeroSP (w : World) : (zeroValue 107).run Tryd.prog w = .ok (.agg #[.int .u8 0, .int .i16 0, .int .i64 0, .int .i64 0, .int .i64 0, .slice none 0 0]) w := by kernel_rfl
set_option maxRecDepth 100000 in
set_option maxHeartbeats 4000000 in
theorem delSp_any (g : Sp → Bool) (qs : List Sp) (hq : qs.length ≤ 64) (D1 D2 G cap : Nat) (w : World) (hX : OX w G 107 6 spcells qs cap)
    (HCf : ∀ p ∈ qs, ∀ (W : World), w.grownBy W (some G) → Calls Tryd.prog 107 #[.agg (spcells p).toArray, .pointer (some ⟨D1, 0, none⟩), .pointer (some ⟨D2, 0, none⟩)] W fun e w' => e = .returned (.bool (!g p)) ∧ Below W.heap.size W w') :
    Calls Tryd.prog 89 #[.slice (some ⟨G, 0, none⟩) qs.length cap, .func (.func 107) #[] #[.pointer (some ⟨D1, 0, none⟩), .pointer (some ⟨D2, 0, none⟩)]] w fun e w' => e = .returned (.slice (some ⟨G, 0, none⟩) (qs.filter g).length cap) ∧ OX w' G 107 6 spcells (qs.filter g) cap ∧ w.grownBy w' (some G) := by
  have hcap : qs.length ≤ cap := by obtain ⟨cur, h1, h2, h3⟩ := hX; exact h2
  have hcm : cap ≤ maxLen := by obtain ⟨cur, h1, h2, h3, h4⟩ := hX; exact h3
  unfold maxLen at hcm
  have HX := Lib.hid hX
  have HC := Lib.hid HCf
  have hrd : Rd w w.heap.size spcells (some ⟨G, 0, none⟩) qs := own_rd2 spcells_length (hX.own spcells_length (Nat.zero_le _))
  have HI : Hid (Calls Tryd.prog 102 #[.slice (some ⟨G, 0, none⟩) qs.length cap, .func (.func 107) #[] #[.pointer (some ⟨D1, 0, none⟩), .pointer (some ⟨D2, 0, none⟩)]] w fun e w' => ((e = .returned (.int .i64 (-1)) ∧ AllS g qs qs.length) ∨ ∃ (k : Nat) (x : Sp), e = .returned (.int .i64 k) ∧ qs[k]? = some x ∧ g x = false ∧ AllS g qs k) ∧ Below w.heap.size w w') :=
    indexSp_any g qs hq D1 D2 _ cap w hrd (fun p hp W hW => HCf p hp W (gk_anyS (grown_of_below hW) _))
  clear hX HCf hrd
  have hn0 : (0 : Int) ≤ (qs.length : Int) := Int.natCast_nonneg _
  go_enter Tryd.func89, Tryd.ntmps89
  go_wp2_with fail
  refine HI.out.mono ?_
  rintro e w1 ⟨⟨rfl, hall⟩ | ⟨k, x, rfl, hx, hg, hall⟩, hb⟩
  · have hf : qs.filter g = qs := by have := filt_all hall; rwa [List.take_length] at this
    have HF := Lib.hid hf
    have HX1 := Lib.hid (HX.out.keep hb)
    have HG1 : Hid (w.grownBy w1 (some G)) := gk_anyS (grown_of_below hb) _
    clear hf hall hb HI
    go_wp2
    go_ret
    rw [HF.out]
    exact ⟨rfl, HX1.out, HG1.out⟩
  have hkl : k < qs.length := (List.getElem?_eq_some_iff.1 hx).1
  have hk0 : (0 : Int) ≤ (k : Int) := Int.natCast_nonneg _
  have hk1 : ¬ ((k : Int) = -1) := by omega
  have hk2 : ((k : Int) == -1) = false := by first | (simp; done) | simpa using hk1
  have HX1 := Lib.hid (HX.out.keep hb)
  have HG1 : Hid (w.grownBy w1 (some G)) := gk_anyS (grown_of_below hb) _
  have hf1 : (qs.take (k + 1)).filter g = qs.take k := by rw [filt_no hx hg, filt_all hall]
  have HF1 := Lib.hid hf1
  clear hx hg hall hb HI HX hf1
  go_wp2_with fail
  go_loopw [5, 6] (fun i j wr => ∃ (m q : Nat) (X : List Sp), m < q ∧ q ≤ qs.length ∧ i = .int .i64 m ∧ j = .int .i64 q ∧ X.length = qs.length ∧ X.take m = (qs.take q).filter g ∧ (∀ p, q ≤ p → X[p]? = qs[p]?) ∧ OX wr G 107 6 spcells X cap ∧ w.grownBy wr (some G))
    (fun _ j _ => qs.length - (intOf j).toNat)
  case atStart => exact ⟨k, k + 1, qs, by omega, by omega, rfl, by go_num, rfl, HF1.out.symm, fun _ _ => rfl, HX1.out, HG1.out⟩
  case round =>
    clear HX1 HG1 HF1
    obtain ⟨wa, rfl⟩ : ∃ u, u = wr := ⟨_, rfl⟩
    obtain ⟨m, q, X, hmq, hql, rfl, rfl, hXl, hXt, hXp, hOX, hG⟩ := hrel
    have HXl := Lib.hid hXl
    have HXt := Lib.hid hXt
    have HXp := Lib.hid hXp
    have HOX := Lib.hid hOX
    have HG := Lib.hid hG
    clear hXl hXt hXp hOX hG hk1 hk2
    have hm0 : (0 : Int) ≤ (m : Int) := Int.natCast_nonneg _
    have hq0 : (0 : Int) ≤ (q : Int) := Int.natCast_nonneg _
    by_cases hlt : q < qs.length
    · obtain ⟨⟨⟨⟨⟨k1, y1⟩, d⟩, l, i⟩, a, n, c⟩, hx⟩ : ∃ x, qs[q]? = some x := ⟨_, List.getElem?_eq_getElem hlt⟩
      have HXx := Lib.hid hx
      have hxX : X[q]? = some ((((k1, y1), d), l, i), (a, n, c)) := by rw [HXp.out q (Nat.le_refl _)]; exact hx
      have hrow := HOX.out.range spcells_length hxX
      have d0 : wa.cell? ⟨G, q * 6, none⟩ = some (.int .u8 k1) := hrow 0 _ rfl
      have d1 : wa.cell? ⟨G, q * 6 + 1, none⟩ = some (.int .i16 y1) := hrow 1 _ rfl
      have d2 : wa.cell? ⟨G, q * 6 + 2, none⟩ = some (.int .i64 d) := hrow 2 _ rfl
      have d3 : wa.cell? ⟨G, q * 6 + 3, none⟩ = some (.int .i64 l) := hrow 3 _ rfl
      have d4 : wa.cell? ⟨G, q * 6 + 4, none⟩ = some (.int .i64 i) := hrow 4 _ rfl
      have d5 : wa.cell? ⟨G, q * 6 + 5, none⟩ = some (.slice a n c) := hrow 5 _ rfl
      have hq8 : (q : Int) < qs.length := by omega
      have HCx := Lib.hid (HC.out _ (List.mem_of_getElem? hx))
      have HLt : Hid (G < wa.heap.size) := HOX.out.lt
      clear hx hxX hrow
      go_wp2_with fail
      clear d0 d1 d2 d3 d4 d5
      have HA1 : Hid (Below wa.heap.size wa (wa.alloc (.cells #[.int .u8 k1, .int .i16 y1, .int .i64 d, .int .i64 l, .int .i64 i, .slice a n c] 107))) := (Below.refl _ wa).alloc (Nat.le_refl _) _
      have HK1 : Hid (Blk (wa.alloc (.cells #[.int .u8 k1, .int .i16 y1, .int .i64 d, .int .i64 l, .int .i64 i, .slice a n c] 107)) wa.heap.size 107 #[.int .u8 k1, .int .i16 y1, .int .i64 d, .int .i64 l, .int .i64 i, .slice a n c]) := Blk.new wa _ _
      obtain ⟨W1, hW1⟩ : ∃ W1, wa.alloc (.cells #[.int .u8 k1, .int .i16 y1, .int .i64 d, .int .i64 l, .int .i64 i, .slice a n c] 107) = W1 := ⟨_, rfl⟩
      rw [hW1] at HA1 HK1 ⊢
      clear hW1
      have HCW : Hid (Calls Tryd.prog 107 #[.agg #[.int .u8 k1, .int .i16 y1, .int .i64 d, .int .i64 l, .int .i64 i, .slice a n c], .pointer (some ⟨D1, 0, none⟩), .pointer (some ⟨D2, 0, none⟩)] W1 fun e w' => e = .returned (.bool (!g ((((k1, y1), d), l, i), (a, n, c)))) ∧ Below W1.heap.size W1 w') := HCx.out W1 (gk_transS HG.out (gk_anyS (grown_of_below HA1.out) _))
      refine HCW.out.mono ?_
      rintro e w2 ⟨rfl, hb⟩
      have HK2 := Lib.hid (HK1.out.keep hb)
      have HOX2 := Lib.hid ((HOX.out.keep HA1.out).keep hb)
      have HG2 : Hid (w.grownBy w2 (some G)) := gk_transS (gk_transS HG.out (gk_anyS (grown_of_below HA1.out) _)) (gk_anyS (grown_of_below hb) _)
      clear hb HCW HK1 HA1 HOX HG
      cases hv : g ((((k1, y1), d), l, i), (a, n, c))
      · have HT : Hid (X.take m = (qs.take (q + 1)).filter g) := by show _ = _; rw [filt_no HXx.out hv]; exact HXt.out
        clear hv
        go_wp2
        go_roundw
        case rel => exact ⟨m, q + 1, X, by omega, by omega, rfl, by go_num, HXl.out, HT.out, fun p hp => HXp.out p (by omega), HOX2.out, HG2.out⟩
        case measure => simp [intOf]; omega
      · have hmX : m < X.length := by rw [HXl.out]; omega
        have HT : Hid ((X.set m ((((k1, y1), d), l, i), (a, n, c))).take (m + 1) = (qs.take (q + 1)).filter g) := by show _ = _; rw [filt_yes HXx.out hv, take_set hmX, HXt.out]
        have HTh : Hid (w2.there G (m * 6) (#[.int .u8 k1, .int .i16 y1, .int .i64 d, .int .i64 l, .int .i64 i, .slice a n c] : Array Value).size) := HOX2.out.there hmX
        have hsz : (Tryd.prog.info? 107).map (·.size) = some (#[.int .u8 k1, .int .i16 y1, .int .i64 d, .int .i64 l, .int .i64 i, .slice a n c] : Array Value).size := Tryd.sizeSPt
        have hone : (#[.int .u8 k1, .int .i16 y1, .int .i64 d, .int .i64 l, .int .i64 i, .slice a n c] : Array Value).all (·.oneCell') = true := spcells_one ((((k1, y1), d), l, i), (a, n, c))
        have HSz := Lib.hid hsz
        have HOne := Lib.hid hone
        clear hsz hone
        have HOX3 := Lib.hid (HOX2.out.set spcells_length hmX ((((k1, y1), d), l, i), (a, n, c)))
        have HG3 : Hid (w.grownBy (w2.setCells G (m * 6) (spcells ((((k1, y1), d), l, i), (a, n, c)))) (some G)) := gk_setCells HG2.out _ _
        have f0 : w2.cell? ⟨wa.heap.size, 0, none⟩ = some (.int .u8 k1) := HK2.out.cell 0
        have f1 : w2.cell? ⟨wa.heap.size, 1, none⟩ = some (.int .i16 y1) := HK2.out.cell 1
        have f2 : w2.cell? ⟨wa.heap.size, 2, none⟩ = some (.int .i64 d) := HK2.out.cell 2
        have f3 : w2.cell? ⟨wa.heap.size, 3, none⟩ = some (.int .i64 l) := HK2.out.cell 3
        have f4 : w2.cell? ⟨wa.heap.size, 4, none⟩ = some (.int .i64 i) := HK2.out.cell 4
        have f5 : w2.cell? ⟨wa.heap.size, 5, none⟩ = some (.slice a n c) := HK2.out.cell 5
        have hm8 : (m : Int) < qs.length := by omega
        clear hv hmX
        go_wp2_with (refine wpList_store_mid rfl 107 (.tmp 33) (.tmp 32) rfl G (m * 6) #[.int .u8 k1, .int .i16 y1, .int .i64 d, .int .i64 l, .int .i64 i, .slice a n c] rfl rfl ?hth ?hsz ?hone ?_)
        case hth => exact HTh.out
        case hsz => exact HSz.out
        case hone => exact HOne.out
        go_roundw
        case rel => exact ⟨m + 1, q + 1, X.set m ((((k1, y1), d), l, i), (a, n, c)), by omega, by omega, by go_num, by go_num, by rw [List.length_set]; exact HXl.out, HT.out, fun z hz => by rw [List.getElem?_set_ne (by omega)]; exact HXp.out z (by omega), HOX3.out, HG3.out⟩
        case measure => simp [intOf]; omega
    · obtain rfl : q = qs.length := by omega
      have hF : X.take m = qs.filter g := by rw [HXt.out, List.take_length]
      have hFl : (qs.filter g).length = m := by rw [← hF, List.length_take, HXl.out]; omega
      have HF := Lib.hid hF
      have HFl := Lib.hid hFl
      have hcl : ∀ ty, (Builtin.clear_ #[134] ty #[.slice (some ⟨G, m * 6, none⟩) (qs.length - m) (cap - m)]).run Tryd.prog wa = .ok (.tuple #[]) (wa.setCells G (m * 6) (Builtin.zeroCells #[.int .u8 0, .int .i16 0, .int .i64 0, .int .i64 0, .int .i64 0, .slice none 0 0] (qs.length - m)).toList) := fun ty => by
        obtain ⟨cur, hgc, h2, h3, h4, h5⟩ := HOX.out
        have hl := HXl.out
        exact run_clear_rows wa _ _ ty (.agg #[.int .u8 0, .int .i16 0, .int .i64 0, .int .i64 0, .int .i64 0, .slice none 0 0]) Tryd.underlying134 Tryd.zeroSP (by decide) (by intro v hv; simp only [Value.cells, List.mem_toArray, List.mem_cons, List.not_mem_nil, or_false] at hv; rcases hv with rfl | rfl | rfl | rfl | rfl | rfl <;> rfl) G (m * 6) (qs.length - m) (cap - m) (by omega)
          (fun j hj => by
            have hj' : j < (qs.length - m) * 6 := hj
            rw [cell_of_row wa G (m * 6 + j) cur _ (0, 0) hgc, Array.getElem?_eq_getElem (by omega)]; rfl)
          (fun j hj => by simp [World.frozen?, hgc])
      clear hF hFl
      go_wp2_with (simp only [hcl])
      go_ret
      have hl := HXl.out
      have h3 : OX wa G 107 6 spcells (qs.filter g) cap := by rw [← HF.out]; exact HOX.out.cutS spcells_length (by omega)
      refine ⟨by rw [HFl.out]; rfl, h3.beyond _ _ (by rw [HFl.out]; exact Nat.le_refl _) ?_, gk_setCells HG.out _ _⟩
      rw [zeroCells_len]
      show m * 6 + (qs.length - m) * 6 ≤ cap * 6
      omega
end Go.Proofs.YtmfdgpinohbckaaDoor
