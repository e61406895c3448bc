/-
  The contract of the program's take. Condition: the rack is lists of the call's own; the lane is not empty.
-/
import Derived.Test.YtmfdgpinohbckaaDoorSt1
import Derived.Test.YtmfdgpinohbckaaDoorRv
namespace Go.Proofs.YtmfdgpinohbckaaDoor
open Go.ChangeShapes Go.WideShapes Go.ChangeAt Go.RowKit Go.Deep

theorem own_shrink {T : Type} {w : World} {b size : Nat} {e : TypeId} {A : Option Addr} {c : Nat} {xs : List T} {cells : T → List Value} (hs : ∀ x, (cells x).length = size) (h : w.ownsRow b e size (.slice A xs.length c) xs.length (xs.flatMap cells)) {m : Nat} (hm : m ≤ xs.length) :
    w.ownsRow b e size (.slice A (xs.take m).length c) (xs.take m).length ((xs.take m).flatMap cells) := by
  have hl : (xs.take m).length = m := by simp; omega
  refine ⟨rows_length hs _, ?_⟩
  rcases h.2 with ⟨h0, h1⟩ | ⟨g, cap, cur, hv, hb, hg, hn, hc, hz, ht⟩
  · have e0 : A = none := (Value.slice.inj h0).1
    have e1 : c = 0 := (Value.slice.inj h0).2.2
    have e2 : (xs.take m).length = 0 := by omega
    exact .inl ⟨by rw [e0, e1, e2], e2⟩
  · have e0 : A = some ⟨g, 0, none⟩ := (Value.slice.inj hv).1
    have e1 : c = cap := (Value.slice.inj hv).2.2
    refine .inr ⟨g, cap, cur, by rw [e0, e1], hb, hg, by omega, hc, hz, ?_⟩
    have e2 : (xs.flatMap cells).take (m * size) = (xs.take m).flatMap cells := by
      have e3 : xs.flatMap cells = (xs.take m).flatMap cells ++ (xs.drop m).flatMap cells := by rw [← List.flatMap_append, List.take_append_drop]
      rw [e3, List.take_append_of_le_length (by rw [rows_length hs, hl]; exact Nat.le_refl _), List.take_of_length_le (by rw [rows_length hs, hl]; exact Nat.le_refl _)]
    rw [hl, ← e2, ← ht, List.take_take]
    congr 1
    have := Nat.mul_le_mul_right size hm
    omega

set_option maxRecDepth 100000 in
set_option maxHeartbeats 4000000 in
theorem take_any (xss : List (List Wnt)) (hs : List Hd) (b : Nat) (A : Option Addr) (c : Nat) (k : Nat) (j : Nat) (x : Wnt) (xs : List Wnt) (w : World) (hN : OwnN w b 44 30 3 wcells A c hs xss) (hbw : b ≤ w.heap.size) (hx : xss[k]? = some xs) (hl : xss.length ≤ 1048576) (hxl : xs.length ≤ 1048576) (hj : j + 1 = xs.length) (hxj : xs[j]? = some x) :
    Calls Tryd.prog 70 #[.slice A xss.length c, .int .i64 (k : Int)] w fun e w' => ∃ hs', e = .returned (.agg (wcells x).toArray) ∧ OwnN w' b 44 30 3 wcells A c hs' (xss.set k (xs.take j)) ∧ Below b w w' := by
  obtain ⟨⟨k1, y1⟩, n1⟩ := x
  have hkx := (List.getElem?_eq_some_iff.1 hx).1
  have hlen : hs.length = xss.length := hN.2.1
  obtain ⟨⟨a, m, c0⟩, hk⟩ : ∃ h, hs[k]? = some h := ⟨_, List.getElem?_eq_getElem (by omega)⟩
  obtain ⟨em, how⟩ := hN.2.2.1 k _ xs hk hx
  dsimp only at em how
  subst em
  obtain ⟨b0, o0, e0, hb0, hrow⟩ := (own_rd2 hcells_length hN.1).at_ hcells_length hk
  obtain ⟨g0, rfl⟩ : ∃ g, A = some ⟨g, 0, none⟩ := by
    rcases hN.1.2 with ⟨e, -⟩ | ⟨g, cap, cur, hv, -⟩
    · subst e0; cases e
    · exact ⟨g, (Value.slice.inj hv).1⟩
  obtain ⟨rfl, rfl⟩ : g0 = b0 ∧ 0 = o0 := by simpa using e0
  have hc := rowH hrow
  rw [Nat.zero_add] at hc
  dsimp only at hc
  obtain ⟨g1, o1, rfl, hg1, hrow1⟩ := (own_rd2 wcells_length how).at_ wcells_length hxj
  obtain ⟨p1, p2, p3⟩ := rowW hrow1
  have hcap : (xs.length : Int) ≤ c0 := by
    rcases how.2 with ⟨e, -⟩ | ⟨g, cap, cur, hv, -, -, hn, -⟩
    · cases e
    · have := (Value.slice.inj hv).2.2; omega
  have hk0 : (0 : Int) ≤ (k : Int) := Int.natCast_nonneg _
  have hk8 : (k : Int) < hs.length := by omega
  have hj0 : (0 : Int) ≤ (j : Int) := Int.natCast_nonneg _
  have hjl : (j : Int) < xs.length := by omega
  have hjc : (j : Int) ≤ c0 := by omega
  have hw1 : IntKind.i64.wrap ((xs.length : Int) - 1) = j := by rw [show (xs.length : Int) - 1 = j from by omega]; exact IntWalk.i64_in _ ⟨by omega, by omega⟩
  have hw2 : wrap64 ((xs.length : Int) - 1) = j := by rw [show (xs.length : Int) - 1 = j from by omega]; exact IntWalk.wrap64_in _ ⟨by omega, by omega⟩
  have hg0b : b ≤ g0 ∧ g0 < w.heap.size := own_block hN.1 rfl
  rw [← hlen]
  have HN := Lib.hid hN
  have HK := Lib.hid hk
  have HX := Lib.hid hx
  have HJ := Lib.hid hj
  have HOw := Lib.hid how
  have hne0 : g0 ≠ w.heap.size := by omega
  have hne1 : g0 ≠ w.heap.size + 1 := by omega
  have hne2 : g1 ≠ w.heap.size := by omega
  have hf : w.frozen? ⟨g0, k, none⟩ = false := by
    rcases hN.1.2 with ⟨e, -⟩ | ⟨g, cap, cur, hv, hb, hg', -⟩
    · cases e
    · have e0 := (Value.slice.inj hv).1
      simp only [Option.some.injEq, Addr.mk.injEq, and_true] at e0
      subst e0
      exact Blk.frozen (show Blk w g0 _ cur from hg') k
  clear hN hk hx hj how hrow hrow1 e0
  go_enter Tryd.func70, Tryd.ntmps70
  go_wp2
  have hlj : (xs.take j).length = j := by rw [List.length_take]; have := HJ.out; omega
  have hN2 := OwnN.put HN.out HK.out HX.out (Below.refl _ w) (own_shrink wcells_length HOw.out (m := j) (by have := HJ.out; omega)) (gk_refl w _) (.inl rfl)
  rw [hlj] at hN2
  have hB2 : Below b w (w.setCell ⟨g0, k, none⟩ (.slice (some ⟨g1, o1, none⟩) j c0)) := (Below.refl b w).setCell (p := ⟨g0, k, none⟩) hg0b.1 _
  obtain ⟨W, hW⟩ : ∃ W, w.setCell ⟨g0, k, none⟩ (.slice (some ⟨g1, o1, none⟩) j c0) = W := ⟨_, rfl⟩
  rw [hW] at hN2 hB2 ⊢
  have hsz : w.heap.size ≤ W.heap.size := hB2.size
  have hA : Below W.heap.size W ((W.alloc (.cells #[.int .u8 k1, .int .i16 y1, .int .i16 n1] 30)).alloc (.cells #[.int .u8 k1, .int .i16 y1, .int .i16 n1] 30)) := ((Below.refl _ W).alloc (Nat.le_refl _) _).alloc (by simp) _
  have hWs : W.heap.size = w.heap.size := by rw [← hW]; simp [World.setCell]
  refine bodyPost_ret (v := .agg #[.int .u8 k1, .int .i16 y1, .int .i16 n1]) (by rw [← hWs]; simp [results, Tryd.results70, go_sem]) rfl ⟨_, rfl, hN2.keep hA, hB2.trans (hA.mono (by omega))⟩
end Go.Proofs.YtmfdgpinohbckaaDoor
