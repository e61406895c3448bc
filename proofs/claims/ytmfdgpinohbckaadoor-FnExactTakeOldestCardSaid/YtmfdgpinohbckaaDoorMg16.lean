/-
  reach: what moving the ones ahead of one comes to, and the program's contract. Condition: a rack of one's own, at most eight of at most six; the sentinel errors lie as the row lists them.
-/
import Derived.Test.YtmfdgpinohbckaaDoorMg11
import Derived.Test.YtmfdgpinohbckaaDoorRv
import Derived.Test.YtmfdgpinohbckaaDoorKo2
import Derived.ScopeJumps
namespace Go.Proofs.YtmfdgpinohbckaaDoor
open Go.ChangeShapes Go.WideShapes Go.ChangeAt Go.RowKit Go.Deep

theorem own_shrink {T : Type} {w : World} {b size : Nat} {e : TypeId} {A : Option Addr} {c : Nat} {xs : List T} {cells : T → List Value} (hs : ∀ x, (cells x).length = size) (h : w.ownsRow b e size (.slice A xs.length c) xs.length (xs.flatMap cells)) {m : Nat} (hm : m ≤ xs.length) :
    w.ownsRow b e size (.slice A (xs.take m).length c) (xs.take m).length ((xs.take m).flatMap cells) := by
  have hl : (xs.take m).length = m := by simp; omega
  refine ⟨rows_length hs _, ?_⟩
  rcases h.2 with ⟨h0, h1⟩ | ⟨g, cap, cur, hv, hb, hg, hn, hc, hz, ht⟩
  · have e0 : A = none := (Value.slice.inj h0).1
    have e1 : c = 0 := (Value.slice.inj h0).2.2
    have e2 : (xs.take m).length = 0 := by omega
    exact .inl ⟨by rw [e0, e1, e2], e2⟩
  · have e0 : A = some ⟨g, 0, none⟩ := (Value.slice.inj hv).1
    have e1 : c = cap := (Value.slice.inj hv).2.2
    refine .inr ⟨g, cap, cur, by rw [e0, e1], hb, hg, by omega, hc, hz, ?_⟩
    have e2 : (xs.flatMap cells).take (m * size) = (xs.take m).flatMap cells := by
      have e3 : xs.flatMap cells = (xs.take m).flatMap cells ++ (xs.drop m).flatMap cells := by rw [← List.flatMap_append, List.take_append_drop]
      rw [e3, List.take_append_of_le_length (by rw [rows_length hs, hl]; exact Nat.le_refl _), List.take_of_length_le (by rw [rows_length hs, hl]; exact Nat.le_refl _)]
    rw [hl, ← e2, ← ht, List.take_take]
    congr 1
    have := Nat.mul_le_mul_right size hm
    omega

set_option maxRecDepth 100000 in
set_option maxHeartbeats 4000000 in
theorem take_any (xss : List (List Wnt)) (hs : List Hd) (b : Nat) (A : Option Addr) (c : Nat) (k : Nat) (j : Nat) (x : Wnt) (xs : List Wnt) (w : World) (hN : OwnN w b 44 30 3 wcells A c hs xss) (hbw : b ≤ w.heap.size) (hx : xss[k]? = some xs) (hl : xss.length ≤ 1048576) (hxl : xs.length ≤ 1048576) (hj : j + 1 = xs.length) (hxj : xs[j]? = some x) :
    Calls Tryd.prog 70 #[.slice A xss.length c, .int .i64 (k : Int)] w fun e w' => ∃ hs', e = .returned (.agg (wcells x).toArray) ∧ OwnN w' b 44 30 3 wcells A c hs' (xss.set k (xs.take j)) ∧ Below b w w' := by
  obtain ⟨⟨k1, y1⟩, n1⟩ := x
  have hkx := (List.getElem?_eq_some_iff.1 hx).1
  have hlen : hs.length = xss.length := hN.2.1
  obtain ⟨⟨a, m, c0⟩, hk⟩ : ∃ h, hs[k]? = some h := ⟨_, List.getElem?_eq_getElem (by omega)⟩
  obtain ⟨em, how⟩ := hN.2.2.1 k _ xs hk hx
  dsimp only at em how
  subst em
  obtain ⟨b0, o0, e0, hb0, hrow⟩ := (own_rd2 hcells_length hN.1).at_ hcells_length hk
  obtain ⟨g0, rfl⟩ : ∃ g, A = some ⟨g, 0, none⟩ := by
    rcases hN.1.2 with ⟨e, -⟩ | ⟨g, cap, cur, hv, -⟩
    · subst e0; cases e
    · exact ⟨g, (Value.slice.inj hv).1⟩
  obtain ⟨rfl, rfl⟩ : g0 = b0 ∧ 0 = o0 := by simpa using e0
  have hc := rowH hrow
  rw [Nat.zero_add] at hc
  dsimp only at hc
  obtain ⟨g1, o1, rfl, hg1, hrow1⟩ := (own_rd2 wcells_length how).at_ wcells_length hxj
  obtain ⟨p1, p2, p3⟩ := rowW hrow1
  have hcap : (xs.length : Int) ≤ c0 := by
    rcases how.2 with ⟨e, -⟩ | ⟨g, cap, cur, hv, -, -, hn, -⟩
    · cases e
    · have := (Value.slice.inj hv).2.2; omega
  have hk0 : (0 : Int) ≤ (k : Int) := Int.natCast_nonneg _
  have hk8 : (k : Int) < hs.length := by omega
  have hj0 : (0 : Int) ≤ (j : Int) := Int.natCast_nonneg _
  have hjl : (j : Int) < xs.length := by omega
  have hjc : (j : Int) ≤ c0 := by omega
  have hw1 : IntKind.i64.wrap ((xs.length : Int) - 1) = j := by rw [show (xs.length : Int) - 1 = j from by omega]; exact IntWalk.i64_in _ ⟨by omega, by omega⟩
  have hw2 : wrap64 ((xs.length : Int) - 1) = j := by rw [show (xs.length : Int) - 1 = j from by omega]; exact IntWalk.wrap64_in _ ⟨by omega, by omega⟩
  have hg0b : b ≤ g0 ∧ g0 < w.heap.size := own_block hN.1 rfl
  rw [← hlen]
  have HN := Lib.hid hN
  have HK := Lib.hid hk
  have HX := Lib.hid hx
  have HJ := Lib.hid hj
  have HOw := Lib.hid how
  have hne0 : g0 ≠ w.heap.size := by omega
  have hne1 : g0 ≠ w.heap.size + 1 := by omega
  have hne2 : g1 ≠ w.heap.size := by omega
  have hf : w.frozen? ⟨g0, k, none⟩ = false := by
    rcases hN.1.2 with ⟨e, -⟩ | ⟨g, cap, cur, hv, hb, hg', -⟩
    · cases e
    · have e0 := (Value.slice.inj hv).1
      simp only [Option.some.injEq, Addr.mk.injEq, and_true] at e0
      subst e0
      exact Blk.frozen (show Blk w g0 _ cur from hg') k
  clear hN hk hx hj how hrow hrow1 e0
  go_enter Tryd.func70, Tryd.ntmps70
  go_wp2
  have hlj : (xs.take j).length = j := by rw [List.length_take]; have := HJ.out; omega
  have hN2 := OwnN.put HN.out HK.out HX.out (Below.refl _ w) (own_shrink wcells_length HOw.out (m := j) (by have := HJ.out; omega)) (gk_refl w _) (.inl rfl)
  rw [hlj] at hN2
  have hB2 : Below b w (w.setCell ⟨g0, k, none⟩ (.slice (some ⟨g1, o1, none⟩) j c0)) := (Below.refl b w).setCell (p := ⟨g0, k, none⟩) hg0b.1 _
  obtain ⟨W, hW⟩ : ∃ W, w.setCell ⟨g0, k, none⟩ (.slice (some ⟨g1, o1, none⟩) j c0) = W := ⟨_, rfl⟩
  rw [hW] at hN2 hB2 ⊢
  have hsz : w.heap.size ≤ W.heap.size := hB2.size
  have hA : Below W.heap.size W ((W.alloc (.cells #[.int .u8 k1, .int .i16 y1, .int .i16 n1] 30)).alloc (.cells #[.int .u8 k1, .int .i16 y1, .int .i16 n1] 30)) := ((Below.refl _ W).alloc (Nat.le_refl _) _).alloc (by simp) _
  have hWs : W.heap.size = w.heap.size := by rw [← hW]; simp [World.setCell]
  refine bodyPost_ret (v := .agg #[.int .u8 k1, .int .i16 y1, .int .i16 n1]) (by rw [← hWs]; simp [results, Tryd.results70, go_sem]) rfl ⟨_, rfl, hN2.keep hA, hB2.trans (hA.mono (by omega))⟩
end Go.Proofs.YtmfdgpinohbckaaDoor

namespace Go.Proofs.YtmfdgpinohbckaaDoor
open Go.ChangeShapes Go.WideShapes Go.ChangeAt Go.RowKit Go.Deep

theorem rm_ne {r : List (List Wnt)} {l : Nat} : ∀ (k b : Nat), rmT r l k = some b → b ≠ l
  | 0, b, h => by cases h
  | k + 1, b, h => by
    simp only [rmT] at h
    unfold rmN at h
    split at h
    · exact rm_ne k b h
    · rename_i hn
      split at h
      · obtain rfl := Option.some.inj h; exact fun e => hn (.inl e)
      · rename_i b0 hb
        split at h
        · obtain rfl := Option.some.inj h; exact fun e => hn (.inl e)
        · obtain rfl := Option.some.inj h; exact rm_ne k _ hb
theorem rm_set {r : List (List Wnt)} {l : Nat} {ys : List Wnt} : ∀ k, rmT (r.set l ys) l k = rmT r l k
  | 0 => rfl
  | k + 1 => by
    have ih := rm_set (r := r) (l := l) (ys := ys) k
    simp only [rmT]
    rw [ih]
    unfold rmN
    by_cases hk : k = l
    · rw [if_pos (.inl hk), if_pos (.inl hk)]
    · have g : (r.set l ys).getD k [] = r.getD k [] := by simp only [List.getD_eq_getElem?_getD]; rw [List.getElem?_set_ne (fun e => hk e.symm)]
      rw [g]
      cases hT : rmT r l k with
      | none => rfl
      | some b =>
        have hb := rm_ne k b hT
        have g2 : (r.set l ys).getD b [] = r.getD b [] := by simp only [List.getD_eq_getElem?_getD]; rw [List.getElem?_set_ne (fun e => hb e.symm)]
        simp only [g2]
/-- The rack when so many have been moved out of the lane l, that was xs. -/
def rcS (xss : List (List Wnt)) (l : Nat) (xs : List Wnt) : Nat → Option (List (List Wnt))
  | 0 => some xss
  | k + 1 => match rcS xss l xs k with
    | none => none
    | some r => match rmT r l r.length with
      | none => none
      | some t => some ((r.set t (r.getD t [] ++ [xs.getD (xs.length - 1 - k) ((0, 0), 0)])).set l (xs.take (xs.length - 1 - k)))
theorem rcS_no {xss : List (List Wnt)} {l : Nat} {xs : List Wnt} {k : Nat} (h : rcS xss l xs k = none) : ∀ m, rcS xss l xs (k + m) = none
  | 0 => h
  | m + 1 => by
    have := rcS_no h m
    show rcS xss l xs (k + m + 1) = none
    rw [rcS, this]
theorem rcS_stop {xss : List (List Wnt)} {l : Nat} {xs : List Wnt} {k m : Nat} {r : List (List Wnt)} (h : rcS xss l xs k = some r) (hT : rmT r l r.length = none) (hm : k < m) : rcS xss l xs m = none := by
  have e : rcS xss l xs (k + 1) = none := by rw [rcS, h]; simp only [hT]
  have := rcS_no e (m - (k + 1))
  rwa [show k + 1 + (m - (k + 1)) = m from by omega] at this
theorem rcS_step {xss : List (List Wnt)} {l t : Nat} {xs zs : List Wnt} {k : Nat} {r : List (List Wnt)} {x : Wnt} (h : rcS xss l xs k = some r) (hT : rmT r l r.length = some t) (hz : r[t]? = some zs) (hx : xs[xs.length - 1 - k]? = some x) : rcS xss l xs (k + 1) = some ((r.set t (zs ++ [x])).set l (xs.take (xs.length - 1 - k))) := by
  have e1 : r.getD t [] = zs := by simp [hz]
  have e2 : xs.getD (xs.length - 1 - k) ((0, 0), 0) = x := by simp [hx]
  rw [rcS, h]; simp only [hT, e1, e2]
theorem rcS_ok {xss : List (List Wnt)} {l : Nat} {xs : List Wnt} (hl : xss[l]? = some xs) (h6 : ∀ xs ∈ xss, xs.length ≤ 6) (hwf : ∀ xs ∈ xss, ∀ x ∈ xs, wfW x) : ∀ (k : Nat), k ≤ xs.length → ∀ r, rcS xss l xs k = some r → r.length = xss.length ∧ r[l]? = some (xs.take (xs.length - k)) ∧ (∀ zs ∈ r, zs.length ≤ 6) ∧ ∀ zs ∈ r, ∀ z ∈ zs, wfW z
  | 0, _, r, h => by
    obtain rfl : xss = r := Option.some.inj h
    exact ⟨rfl, by simpa using hl, h6, hwf⟩
  | k + 1, hk, r, h => by
    cases hS : rcS xss l xs k with
    | none => have := rcS_no hS 1; rw [h] at this; cases this
    | some r0 =>
      obtain ⟨i1, i2, i3, i4⟩ := rcS_ok hl h6 hwf k (by omega) r0 hS
      cases hT : rmT r0 l r0.length with
      | none => have := rcS_stop hS hT (Nat.lt_succ_self k); rw [h] at this; cases this
      | some t =>
        obtain ⟨-, htl, zs, hz, hz6⟩ := rm_ok _ (Nat.le_refl _) t hT
        have hxj : xs[xs.length - 1 - k]? = some (xs[xs.length - 1 - k]'(by omega)) := List.getElem?_eq_getElem (by omega)
        rw [rcS_step hS hT hz hxj] at h
        obtain rfl := Option.some.inj h
        have hll := (List.getElem?_eq_some_iff.1 i2).1
        have hwx := hwf xs (List.mem_of_getElem? hl)
        have hl6 := h6 xs (List.mem_of_getElem? hl)
        refine ⟨by simp [i1], ?_, fun u hu => ?_, fun u hu z hzu => ?_⟩
        · rw [List.getElem?_set_self (by simpa using hll)]
          rw [show xs.length - 1 - k = xs.length - (k + 1) from by omega]
        · rcases List.mem_or_eq_of_mem_set hu with h | rfl
          · rcases List.mem_or_eq_of_mem_set h with h | rfl
            · exact i3 u h
            · simp; omega
          · rw [List.length_take]; omega
        · rcases List.mem_or_eq_of_mem_set hu with h | rfl
          · rcases List.mem_or_eq_of_mem_set h with h | rfl
            · exact i4 u h z hzu
            · rcases List.mem_append.1 hzu with h | h
              · exact i4 zs (List.mem_of_getElem? hz) z h
              · obtain rfl : z = _ := by simpa using h
                exact hwx _ (List.getElem_mem _)
          · exact hwx z (List.mem_of_mem_take hzu)
/-- Room is asked of the rack without the one that is taken. -/
theorem rcS_next {r : List (List Wnt)} {l t : Nat} {ys zs : List Wnt} {x : Wnt} (htl : t ≠ l) : (r.set l ys).set t (zs ++ [x]) = (r.set t (zs ++ [x])).set l ys := List.set_comm _ _ (fun e => htl e.symm)

def rcV (xss : List (List Wnt)) (l : Nat) (xs : List Wnt) (i : Nat) : Wnt := match rcS xss l xs (xs.length - 1 - i) with
  | none => ((0, 0), 0)
  | some _ => xs.getD i ((0, 0), 0)
def rcM (xss : List (List Wnt)) (l : Nat) (xs : List Wnt) (i : Nat) : Nat := match rcS xss l xs (xs.length - 1 - i) with
  | none => 0
  | some _ => xs.length - 1 - i
def rcE (ad : Nat → Addr) (xss : List (List Wnt)) (l : Nat) (xs : List Wnt) (i : Nat) : Value := match rcS xss l xs (xs.length - 1 - i) with
  | none => .iface 165 (.pointer (some (ad 1)))
  | some _ => .nilIface
theorem rc_no {xss : List (List Wnt)} {l : Nat} {xs : List Wnt} {i : Nat} (h : rcS xss l xs (xs.length - 1 - i) = none) (ad : Nat → Addr) : rcV xss l xs i = ((0, 0), 0) ∧ rcM xss l xs i = 0 ∧ rcE ad xss l xs i = .iface 165 (.pointer (some (ad 1))) := by
  refine ⟨by rw [rcV, h], by rw [rcM, h], by rw [rcE, h]⟩
theorem rc_yes {xss r : List (List Wnt)} {l : Nat} {xs : List Wnt} {i : Nat} {x : Wnt} (h : rcS xss l xs (xs.length - 1 - i) = some r) (hx : xs[i]? = some x) (ad : Nat → Addr) : rcV xss l xs i = x ∧ rcM xss l xs i = xs.length - 1 - i ∧ rcE ad xss l xs i = .nilIface := by
  refine ⟨by rw [rcV, h]; simp [hx], by rw [rcM, h], by rw [rcE, h]⟩

end Go.Proofs.YtmfdgpinohbckaaDoor
