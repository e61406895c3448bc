/-
  SortLane: what it answers; the order of days; a list of one's own lists gets a new one; mathematics and the contract of newestFirst. Condition: numbers fit their kinds.
-/
import Derived.Test.YtlfamfdgphhbcaaDoorIsT
import Derived.Test.YtlfamfdgphhbcaaDoorNp
import Derived.Test.YtlfamfdgphhbcaaDoorSt2
namespace Go.Proofs.YtlfamfdgphhbcaaDoor
open Go.ChangeShapes Go.WideShapes Go.ChangeAt Go.RowKit Go.Deep

def nfC (a b : Wnt) : Int := b.2 - a.2
def nfL (xs : List Wnt) : List Wnt := isL (fun a b => decide (nfC a b < 0)) xs
theorem nfL_len (xs : List Wnt) : (nfL xs).length = xs.length := isL_len _ xs
def slC (xss : List (List Wnt)) (l : Int) : Int := if rkOk xss = true then (if inB l xss.length = true then 0 else 2) else 1
def slL (xss : List (List Wnt)) (l : Int) : List (List Wnt) := if slC xss l = 0 then xss.set l.toNat (nfL (lnAt xss l)) else []
theorem slL_no {xss : List (List Wnt)} {l : Int} (h : slC xss l ≠ 0) : slL xss l = [] := by rw [slL, if_neg h]
theorem slL_yes {xss : List (List Wnt)} {k : Nat} (h : slC xss k = 0) : slL xss k = xss.set k (nfL (lnAt xss k)) := by rw [slL, if_pos h]; rfl

set_option maxRecDepth 100000 in
set_option maxHeartbeats 1000000 in
theorem newest_any (a b : Wnt) (ha : wfW a) (hb : wfW b) (w : World) : Calls Tryd.prog 51 #[.agg #[.int .u8 a.1.1, .int .i16 a.1.2, .int .i16 a.2], .agg #[.int .u8 b.1.1, .int .i16 b.1.2, .int .i16 b.2]] w fun e w' => e = .returned (.int .i64 (nfC a b)) ∧ Below w.heap.size w w' := by
  obtain ⟨⟨x1, x2⟩, x3⟩ := a
  obtain ⟨⟨a1, a2⟩, a3⟩ := b
  obtain ⟨-, hx1, hx2⟩ := ha
  obtain ⟨-, ha1, ha2⟩ := hb
  dsimp only at hx1 hx2 ha1 ha2
  have u1 : IntKind.i64.wrap x3 = x3 := IntWalk.i64_in _ ⟨by omega, by omega⟩
  have u2 : wrap64 x3 = x3 := IntWalk.wrap64_in _ ⟨by omega, by omega⟩
  have u3 : IntKind.i64.wrap a3 = a3 := IntWalk.i64_in _ ⟨by omega, by omega⟩
  have u4 : wrap64 a3 = a3 := IntWalk.wrap64_in _ ⟨by omega, by omega⟩
  have u5 : IntKind.i64.wrap (a3 - x3) = a3 - x3 := IntWalk.i64_in _ ⟨by omega, by omega⟩
  have u6 : wrap64 (a3 - x3) = a3 - x3 := IntWalk.wrap64_in _ ⟨by omega, by omega⟩
  show Calls Tryd.prog 51 #[.agg #[.int .u8 x1, .int .i16 x2, .int .i16 x3], .agg #[.int .u8 a1, .int .i16 a2, .int .i16 a3]] w _
  clear hx1 hx2 ha1 ha2
  go_enter Tryd.func51, Tryd.ntmps51
  go_wp2
  go_ret
  exact ⟨by first | rfl | simp [nfC, u1, u2, u3, u4, u5, u6], by first | exact ((Below.refl _ _).alloc (Nat.le_refl _) _).alloc (by simp) _ | exact (((Below.refl _ _).alloc (Nat.le_refl _) _).alloc (by simp) _).drew⟩

theorem OwnN.putN {T : Type} {w w5 : World} {b g0 : Nat} {te t : TypeId} {size : Nat} {cells : T → List Value} {c : Nat} {hs : List Hd} {xss : List (List T)} (h : OwnN w b te t size cells (some ⟨g0, 0, none⟩) c hs xss) {k : Nat} {ys : List T} (hkl : k < hs.length)
    (h2 : Below w.heap.size w w5) (hbw : b ≤ w.heap.size) {A' : Option Addr} {c' : Nat} (hown : w5.ownsRow w.heap.size t size (.slice A' ys.length c') ys.length (ys.flatMap cells)) :
    OwnN (w5.setCell ⟨g0, k, none⟩ (.slice A' ys.length c')) b te t size cells (some ⟨g0, 0, none⟩) c (hs.set k (A', ys.length, c')) (xss.set k ys) := by
  have h5 := h.keep h2
  obtain ⟨a1, al, a3, a4, a5⟩ := h
  obtain ⟨h1, hl, h3, h4, h5⟩ := h5
  have hg0 : g0 < w.heap.size := (own_block a1 rfl).2
  have hAg : ∀ q, A'.map (·.block) = some q → w.heap.size ≤ q := fun q e => (own_block hown (by rw [ownBlock_slice]; exact e)).1
  have hold : ∀ (i : Nat) (hd : Hd), hs[i]? = some hd → ∀ q, hd.1.map (·.block) = some q → q < w.heap.size := fun i hd hi q e => by
    have hil := (List.getElem?_eq_some_iff.1 hi).1
    exact (own_block (a3 i hd _ hi (List.getElem?_eq_getElem (by omega))).2 (by rw [ownBlock_slice]; exact e)).2
  have hS := only_set w5 g0 k (.slice A' ys.length c')
  refine ⟨?_, by simp [hl], fun i hd zs hi hz => ?_, fun i j hd hd' hij hi hj q e => ?_, fun i hd hi q e => ?_⟩
  · have := (own_setH h1 k (A', ys.length, c')).2
    rw [List.length_set]
    exact this
  · by_cases e : i = k
    · subst e
      rw [List.getElem?_set_self hkl] at hi
      rw [List.getElem?_set_self (by omega)] at hz
      obtain rfl := Option.some.inj hi
      obtain rfl := Option.some.inj hz
      exact ⟨rfl, hS.own (own_base hown hbw) (fun q e e2 => by rw [ownBlock_slice] at e; have := hAg q e; omega)⟩
    · rw [List.getElem?_set_ne (Ne.symm e)] at hi hz
      obtain ⟨q1, q2⟩ := h3 i hd zs hi hz
      refine ⟨q1, hS.own q2 (fun q e1 e2 => ?_)⟩
      rw [ownBlock_slice] at e1
      subst e2
      exact a5 i hd hi q rfl e1
  · by_cases ei : i = k
    · have ej : j ≠ k := by omega
      subst ei
      rw [List.getElem?_set_self hkl] at hi
      rw [List.getElem?_set_ne (Ne.symm ej)] at hj
      obtain rfl := Option.some.inj hi
      intro e3
      have h1 := hold j hd' hj q e3
      have h2 := hAg q e
      omega
    · rw [List.getElem?_set_ne (Ne.symm ei)] at hi
      by_cases ej : j = k
      · subst ej
        rw [List.getElem?_set_self hkl] at hj
        obtain rfl := Option.some.inj hj
        intro e3
        have h1 := hold i hd hi q e
        have h2 := hAg q e3
        omega
      · rw [List.getElem?_set_ne (Ne.symm ej)] at hj
        exact h4 i j hd hd' hij hi hj q e
  · obtain rfl : g0 = q := by simpa using e
    by_cases ei : i = k
    · subst ei
      rw [List.getElem?_set_self hkl] at hi
      obtain rfl := Option.some.inj hi
      intro e3
      have := hAg g0 e3
      omega
    · rw [List.getElem?_set_ne (Ne.symm ei)] at hi
      exact h5 i hd hi g0 rfl
end Go.Proofs.YtlfamfdgphhbcaaDoor
