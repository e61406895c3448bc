/-
  The program's contract of BlockedIn. Condition: the rack is a new one that reads as lists of things that are stored, whose numbers fit their kinds; the sentinel errors lie as the row lists them.
-/
import Derived.Test.YtmfdgpinohbckaaDoorEz
import Derived.Test.YtmfdgpinohbckaaDoorMg11
import Derived.Test.YtmfdgpinohbckaaDoorBk2
import Derived.Test.YtmfdgpinohbckaaDoorMg5
namespace Go.Proofs.YtmfdgpinohbckaaDoor
open Go.ChangeShapes Go.WideShapes Go.ChangeAt Go.RowKit Go.Deep

/-- The first of several errors. -/
def firstL : List Value → Value
  | [] => .nilIface
  | v :: vs => match v with | .nilIface => firstL vs | u => u
theorem firstL_nil : ∀ (vs : List Value), (∀ v ∈ vs, v = .nilIface) → firstL vs = .nilIface
  | [], _ => rfl
  | v :: vs, h => by
    have : v = .nilIface := h v (List.mem_cons_self ..)
    subst this
    exact firstL_nil vs (fun u hu => h u (List.mem_cons_of_mem _ hu))
theorem firstL_hit : ∀ (vs : List Value) (k : Nat) (a : Addr), (∀ j v, j < k → vs[j]? = some v → v = .nilIface) → vs[k]? = some (errV a) → firstL vs = errV a
  | [], k, a, _, h => by simp at h
  | v :: vs, 0, a, _, h => by
    obtain rfl : v = errV a := by simpa using h
    rfl
  | v :: vs, k + 1, a, h, hk => by
    have : v = .nilIface := h 0 v (by omega) rfl
    subst this
    exact firstL_hit vs k a (fun j u hj hu => h (j + 1) u (by omega) (by simpa using hu)) (by simpa using hk)
set_option maxHeartbeats 1000000 in
theorem firstErrs_any (vs : List Value) (hv : ∀ v ∈ vs, isE v) (B c : Nat) (w : World) (hl : vs.length ≤ 1048576) (h : ∀ (j : Nat) (v : Value), vs[j]? = some v → w.cell? ⟨B, j, none⟩ = some v) :
    Calls Tryd.prog 39 #[.slice (some ⟨B, 0, none⟩) vs.length c] w fun e w' => e = .returned (firstL vs) ∧ w = w' := by
  have HV := Lib.hid hv
  have H := Lib.hid h
  clear hv h
  go_enter Tryd.func39, Tryd.ntmps39
  go_wp2_with fail
  go_loop [7] (fun i => ∃ k : Nat, k ≤ vs.length ∧ i = .int .i64 k ∧ ∀ (j : Nat) (v : Value), j < k → vs[j]? = some v → v = .nilIface) (fun i => vs.length - (intOf i).toNat)
  case atStart => exact ⟨0, by omega, rfl, fun j v h => absurd h (Nat.not_lt_zero _)⟩
  case round =>
    obtain ⟨k, hk, rfl, hT⟩ := hrel
    have HT := Lib.hid hT
    clear hT
    by_cases hlt : k < vs.length
    · obtain ⟨v, hx⟩ : ∃ x, vs[k]? = some x := ⟨_, List.getElem?_eq_getElem hlt⟩
      have hc := H.out k v hx
      have HX := Lib.hid hx
      have hk0 : (0 : Int) ≤ (k : Int) := Int.natCast_nonneg _
      have hk8 : (k : Int) < vs.length := by omega
      rcases HV.out v (List.mem_of_getElem? hx) with rfl | ⟨a, rfl⟩
      · clear hx
        go_wp2
        go_round
        case rel =>
          refine ⟨k + 1, by omega, by go_num, fun j u hj hu => ?_⟩
          by_cases e : j = k
          · subst e; exact (Option.some.inj (HX.out.symm.trans hu)).symm
          · exact HT.out j u (by omega) hu
        case measure => simp [intOf]; omega
      · clear hx
        rw [show errV a = .iface 165 (.pointer (some a)) from rfl] at hc
        go_wp2
        go_ret
        exact ⟨by rw [firstL_hit vs k a HT.out HX.out]; rfl, rfl⟩
    · obtain rfl : k = vs.length := by omega
      go_wp2
      go_ret
      exact ⟨by rw [firstL_nil vs (fun v hv => by obtain ⟨i, hi, rfl⟩ := List.mem_iff_getElem.1 hv; exact HT.out i _ hi (List.getElem?_eq_getElem hi))]; rfl, rfl⟩
theorem fill_errs3 {v0 v1 v2 : Value} (h0 : isE v0) (h1 : isE v1) (h2 : isE v2) {z : Value} {ie : TypeInfo} (hs : ie.size = 1) :
    Instr.fill (fun i => some (i * ie.size, ie.size)) ((Array.range (3 * ie.size)).map (z.cells[· % z.cells.size]!)) [(0, v0), (1, v1), (2, v2)] = some #[v0, v1, v2] := by
  have := Great.fill_whole (s := 1) (by omega) [v0, v1, v2] ((Array.range (3 * ie.size)).map (z.cells[· % z.cells.size]!)) (by intro v hv; simp only [List.mem_cons, List.not_mem_nil, or_false] at hv; rcases hv with rfl | rfl | rfl <;> exact isE_size (by assumption)) (by simp [hs])
  rw [hs] at this ⊢
  simpa [isE_cells h0, isE_cells h1, isE_cells h2] using this
theorem wp_threeErrs {o : Oper} {a : Act} {w : World} {K : Act → World → Prop} {Q : Exit → Act → World → Prop} (x0 x1 x2 : Operand) (ho : o.op = .buildSlice 100 3 #[(0, x0), (1, x1), (2, x2)]) {v0 v1 v2 : Value} (h0 : isE v0) (h1 : isE v1) (h2 : isE v2)
    (hx0 : a.eval x0 = v0) (hx1 : a.eval x1 = v1) (hx2 : a.eval x2 = v2) (h : K (a.put o.dst (.slice (some ⟨w.heap.size, 0, none⟩) 3 3)) (w.alloc (.cells #[v0, v1, v2] 67))) : Oper.wp Tryd.prog o a w K Q := by
  obtain ⟨ie, hie, hzz⟩ := Option.map_eq_some_iff.1 Tryd.infoErr
  simp only [Prod.mk.injEq] at hzz
  refine wp_buildSlice 100 67 3 _ ho _ ie .nilIface Tryd.underlying100 hie hzz.1 (by rw [hzz.2]; omega) (by rw [hzz.2]; omega) ?_ h
  have := fill_errs3 h0 h1 h2 (z := .nilIface) hzz.2
  simpa [hx0, hx1, hx2] using this
theorem wpList_threeErrs {ops : Array Oper} {rest : List Oper} {o : Oper} {a : Act} {w : World} {Q : Exit → Act → World → Prop} (hg : o.guard = none) (x0 x1 x2 : Operand) (ho : o.op = .buildSlice 100 3 #[(0, x0), (1, x1), (2, x2)]) {v0 v1 v2 : Value} (h0 : isE v0) (h1 : isE v1) (h2 : isE v2)
    (hx0 : a.eval x0 = v0) (hx1 : a.eval x1 = v1) (hx2 : a.eval x2 = v2) (h : wpList Tryd.prog ops Q rest (a.put o.dst (.slice (some ⟨w.heap.size, 0, none⟩) 3 3)) (w.alloc (.cells #[v0, v1, v2] 67))) : wpList Tryd.prog ops Q (o :: rest) a w :=
  wpList_plain hg fun _ hK => wp_threeErrs x0 x1 x2 ho h0 h1 h2 hx0 hx1 hx2 (hK _ _ h)
theorem cells3 (W : World) (v0 v1 v2 : Value) (t : TypeId) : ∀ (j : Nat) (v : Value), [v0, v1, v2][j]? = some v → (W.alloc (.cells #[v0, v1, v2] t)).cell? ⟨W.heap.size, j, none⟩ = some v := fun j v hv => by
  rw [cell_of_row _ _ _ _ _ _ (heap_alloc_new W (.cells #[v0, v1, v2] t))]
  simpa using hv
end Go.Proofs.YtmfdgpinohbckaaDoor

namespace Go.Proofs.YtmfdgpinohbckaaDoor
open Go.ChangeShapes Go.WideShapes Go.ChangeAt Go.RowKit Go.Deep

/-- The code of StoreAt; the rack that it answers. -/
def stC (xss : List (List Wnt)) (l : Int) (x : Wnt) : Int := if (rkOk xss && sV x) = true then (if inB l xss.length = true then (if (lnAt xss l).length = 6 then 3 else 0) else 2) else 1
def stL (xss : List (List Wnt)) (l : Int) (x : Wnt) : List (List Wnt) := if stC xss l x = 0 then xss.set l.toNat (lnAt xss l ++ [x]) else []
theorem stL_no {xss : List (List Wnt)} {l : Int} {x : Wnt} (h : stC xss l x ≠ 0) : stL xss l x = [] := by rw [stL, if_neg h]
theorem stL_yes {xss : List (List Wnt)} {k : Nat} {x : Wnt} (h : stC xss k x = 0) : stL xss k x = xss.set k (lnAt xss k ++ [x]) := by rw [stL, if_pos h]; rfl
theorem rdN_nil {T : Type} (w : World) (B : Nat) (cells : T → List Value) (A : Option Addr) : RdN w B cells A ([] : List (List T)) := ⟨[], rfl, fun h => absurd h (by simp), fun i h xs h1 => by simp at h1⟩
theorem wcells_range {w : World} {B : Nat} {t : TypeId} {k1 y1 n1 : Int} (h : Blk w B t #[.int .u8 k1, .int .i16 y1, .int .i16 n1]) : w.rangeAt B 0 (wcells ((k1, y1), n1)) := fun j v hv => by
  rw [Nat.zero_add, h.cell]; simpa [wcells] using hv

/-- What is stored, checked as a list of one. -/
theorem checkStored1_any (x : Wnt) (B c : Nat) (ad : Nat → Addr) (w : World) (hB : B < w.heap.size) (hr : w.rangeAt B 0 (wcells x)) (hE : I5 w ad) :
    Calls Tryd.prog 57 #[.slice (some ⟨B, 0, none⟩) 1 c] w fun e w' => e = .returned (erV ad 5 (sV x)) ∧ Below w.heap.size w w' := by
  have hrd : Rd w w.heap.size wcells (some ⟨B, 0, none⟩) [x] := fun _ => ⟨B, 0, rfl, hB, by simpa using hr⟩
  have HR := Lib.hid hrd
  have HE := Lib.hid hE
  clear hr hE hrd
  go_enter Tryd.func57, Tryd.ntmps57
  go_wp2_with fail
  refine (checkEachS_any [x] _ c ad w (by simp) HR.out HE.out).mono ?_
  rintro e w1 ⟨rfl, hb⟩
  have HB1 := Lib.hid hb
  clear hb
  obtain ⟨v, hv⟩ : ∃ v, erV ad 5 ([x].all sV) = v := ⟨_, rfl⟩
  have HV := Lib.hid hv
  rw [hv]
  clear hv
  go_wp2
  go_ret
  exact ⟨by (rw [← HV.out]; simp), HB1.out⟩
theorem three_cells' (W : World) (t : TypeId) (k y n : Int) : (W.alloc (.cells #[.int .u8 k, .int .i16 y, .int .i16 n] t)).rangeAt W.heap.size 0 (wcells ((k, y), n)) := fun j v hv => by
  rw [Nat.zero_add, (Blk.new W t #[.int .u8 k, .int .i16 y, .int .i16 n]).cell]; simpa [wcells] using hv

end Go.Proofs.YtmfdgpinohbckaaDoor

namespace Go.Proofs.YtmfdgpinohbckaaDoor
open Go.ChangeShapes Go.WideShapes Go.ChangeAt Go.RowKit Go.Deep

/-- How many a spot's one blocks; the first j spots'. -/
def bC (xss : List (List Wnt)) (s : Core) : Nat := cntB (xss.getD s.2.1 []) s.1.2 s.2.2
def nB (xss : List (List Wnt)) (cs : List Core) : Nat := (cs.map (bC xss)).sum
theorem nB_snoc (xss : List (List Wnt)) (cs : List Core) (s : Core) : nB xss (cs ++ [s]) = nB xss cs + bC xss s := by simp [nB]
theorem nB_app (xss : List (List Wnt)) (cs ds : List Core) : nB xss (cs ++ ds) = nB xss cs + nB xss ds := by simp [nB]
theorem nB_row {xss : List (List Wnt)} {l : Nat} {xs : List Wnt} (h : xss[l]? = some xs) : ∀ m, nB xss (coR xs l m) = rowB xs m
  | 0 => rfl
  | m + 1 => by rw [coR, nB_snoc, nB_row h m, rowB]; simp [bC, h]
theorem nB_tot (xss : List (List Wnt)) : ∀ i, i ≤ xss.length → nB xss (coT xss i) = totB xss i
  | 0, _ => rfl
  | i + 1, h => by
    have hx : xss[i]? = some (xss[i]'(by omega)) := List.getElem?_eq_getElem (by omega)
    rw [coT_succ hx, totB_succ hx, nB_app, nB_tot xss i (by omega), nB_row hx]
theorem nB_le {xss : List (List Wnt)} : ∀ cs : List Core, (∀ s ∈ cs, bC xss s ≤ 6) → nB xss cs ≤ 6 * cs.length
  | [], _ => by simp [nB]
  | s :: cs, h => by
    have h1 := nB_le cs (fun t ht => h t (List.mem_cons_of_mem _ ht))
    have h2 := h s (List.mem_cons_self ..)
    simp only [nB, List.map_cons, List.sum_cons, List.length_cons] at h1 ⊢
    omega

end Go.Proofs.YtmfdgpinohbckaaDoor
