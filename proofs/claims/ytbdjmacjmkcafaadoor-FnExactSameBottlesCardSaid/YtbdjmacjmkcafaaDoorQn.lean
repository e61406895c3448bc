/-
  The contract of checkCrates at any list of crates; a list of two crates, made for a call. Condition: the sentinel errors lie as the row lists them.
-/
import Derived.Test.YtbdjmacjmkcafaaDoorKa
import Derived.Test.YtbdjmacjmkcafaaDoorJ
import Derived.Test.YtbdjmacjmkcafaaDoorE
import Derived.Test.YtbdjmacjmkcafaaDoorQ
import Derived.Great.BuildSlice
namespace Go.Proofs.YtbdjmacjmkcafaaDoor
open Go.ChangeShapes Go.WideShapes Go.ChangeAt Go.RowKit Go.Deep

def okL (xs : List Crt) : Bool := xs.all (fun x => okC x.1)
def CrsTo (xs : List Crt) (k : Nat) : Prop := ∀ j x, j < k → xs[j]? = some x → okC x.1 = true
theorem CrsTo.step {xs : List Crt} {k : Nat} (h : CrsTo xs k) {x : Crt} (hx : xs[k]? = some x) (ho : okC x.1 = true) : CrsTo xs (k + 1) := by
  intro j y hj hy
  by_cases e : j = k
  · subst e; rw [hx] at hy; cases hy; exact ho
  · exact h j y (by omega) hy
theorem CrsTo.all {xs : List Crt} (h : CrsTo xs xs.length) : okL xs = true := by
  rw [okL, List.all_eq_true]
  intro x hx
  obtain ⟨j, hj, rfl⟩ := List.mem_iff_getElem.1 hx
  exact h j _ hj (List.getElem?_eq_getElem hj)
theorem okL_no {xs : List Crt} {k : Nat} {x : Crt} (hx : xs[k]? = some x) (ho : okC x.1 = false) : okL xs = false := by
  rw [okL, List.all_eq_false]
  exact ⟨x, List.mem_of_getElem? hx, by simp [ho]⟩

set_option maxRecDepth 100000 in
set_option maxHeartbeats 1000000 in
theorem checkCrates_any (xs : List Crt) (A : Option Addr) (c : Nat) (ad : Nat → Addr) (w : World) (hl : xs.length ≤ 1048576) (hr : Rd w w.heap.size kcells A xs) (hE : EW 7 w ad) :
    Calls Tryd.prog 10 #[.slice A xs.length c] w fun e w' => e = .returned (chkV ad (okL xs)) ∧ Below w.heap.size w w' := by
  have HR := Lib.hid hr
  have HE := Lib.hid hE
  clear hr hE
  go_enter Tryd.func10, Tryd.ntmps10
  go_wp2_with fail
  go_loopw [7] (fun i wr => ∃ (k : Nat), k ≤ xs.length ∧ i = .int .i64 k ∧ CrsTo xs k ∧ Below w.heap.size w wr) (fun i _ => xs.length - (intOf i).toNat)
  case atStart => exact ⟨0, by omega, rfl, fun j _ h => by omega, Below.refl _ _⟩
  case round =>
    obtain ⟨k, hk, rfl, hT, hB⟩ := hrel
    have HT := Lib.hid hT
    have HB := Lib.hid hB
    clear hT hB
    by_cases hlt : k < xs.length
    · obtain ⟨x, hx⟩ : ∃ x, xs[k]? = some x := ⟨_, List.getElem?_eq_getElem hlt⟩
      obtain ⟨b, o, rfl, hbl, hrow⟩ := (HR.out.below (Nat.le_refl _) HB.out).at_ kcells_length hx
      have HX := Lib.hid hx
      have HRow := Lib.hid hrow
      clear hx hrow
      have hk0 : (0 : Int) ≤ (k : Int) := Int.natCast_nonneg _
      have hk8 : (k : Int) < xs.length := by omega
      have H1 : Hid (CBlk (wr.alloc (.cells (ccells noB).toArray 30)) wr.heap.size 30 noB) := CBlk.new wr 30 noB
      have H2 : Hid (CBlk ((wr.alloc (.cells (ccells noB).toArray 30)).setRow wr.heap.size (ccells x.1).toArray) wr.heap.size 30 x.1) := CBlk.setRow H1.out
      have H3 : Hid (Below w.heap.size w ((wr.alloc (.cells (ccells noB).toArray 30)).setRow wr.heap.size (ccells x.1).toArray)) := Below.setRow (HB.out.alloc HB.out.size _) _ _ HB.out.size
      go_wp2_with (first
        | (refine wpList_load_mid rfl 30 (.tmp 9) rfl b (o + k * 24) rfl (kcells x) _ HRow.out Tryd.underlying30 rfl (size_k Tryd.sizeCr x) ?_)
        | (refine wpList_store_row rfl 30 (.tmp 4) (.tmp 10) rfl wr.heap.size (ccells x.1).toArray rfl rfl 30 _ H1.out (size_of_crate Tryd.sizeCr _ x.2.1) (by rw [ccells_size _ x.2.1]; rfl) (ccells_one _) ?_)
        | (refine wpList_load_row rfl 30 (.tmp 4) rfl wr.heap.size rfl 30 _ (0, 0) _ H2.out Tryd.underlying30 rfl (size_of_crate Tryd.sizeCr _ x.2.1) ?_))
      refine (validCrate_any x.1 x.2 _).mono ?_
      rintro e w1 ⟨rfl, hb1⟩
      have HB1 : Hid (Below w.heap.size w w1) := H3.out.trans (hb1.mono H3.out.size)
      have hc : w1.cell? ⟨0, 0, none⟩ = some (.iface 77 (.pointer (some (ad 5)))) := ((HE.out).below HB1.out (Nat.le_refl _)).cell 5 (by omega)
      clear hb1 H1 H2 H3
      cases hv : okC x.1
      · have HV := Lib.hid hv
        clear hv
        go_wp2
        go_ret
        exact ⟨by rw [okL_no HX.out HV.out]; rfl, HB1.out⟩
      · have HV := Lib.hid hv
        clear hv
        go_wp2
        go_roundw
        case rel => exact ⟨k + 1, by omega, by go_num, HT.out.step HX.out HV.out, HB1.out⟩
        case measure => simp [intOf]; omega
    · obtain rfl : k = xs.length := by omega
      go_wp2
      go_ret
      exact ⟨by rw [HT.out.all]; rfl, HB.out⟩

/-- A list of two crates, made for a call. -/
theorem wpList_twoCrates {P : Program} {ops : Array Oper} {rest : List Oper} {o : Oper} {a : Act} {w : World} {Q : Exit → Act → World → Prop} (hg : o.guard = none) (t e : TypeId) (x y : Operand) (ho : o.op = .buildSlice t 2 #[(0, x), (1, y)])
    (bs cs : List Bot) (hl : bs.length = 12) (hl' : cs.length = 12) (hx : a.eval x = .agg (ccells bs).toArray) (hy : a.eval y = .agg (ccells cs).toArray) (hu : P.underlying t = some (.slice e)) (hsz : (P.info? e).map (·.size) = some 24) (hz : ((P.info? e).bind (·.zero)).map (fun z => z.cells.size) = some 24)
    (h : wpList P ops Q rest (a.put o.dst (.slice (some ⟨w.heap.size, 0, none⟩) 2 2)) (w.alloc (.cells (ccells (bs ++ cs)).toArray e))) : wpList P ops Q (o :: rest) a w := by
  cases hie : P.info? e with
  | none => simp [hie] at hsz
  | some ie =>
    simp only [hie, Option.map_some, Option.some.injEq, Option.bind_some] at hsz hz
    cases hzz : ie.zero with
    | none => simp [hzz] at hz
    | some z =>
      refine wpList_buildSlice hg t e 2 _ ho _ ie z hu hie hzz (by rw [hsz]; omega) (by rw [hsz]; omega) ?_ h
      have hs : (Value.agg (ccells bs).toArray).cells.size = 24 := ccells_size bs hl
      have hs' : (Value.agg (ccells cs).toArray).cells.size = 24 := ccells_size cs hl'
      have := Great.fill_whole (s := 24) (by omega) [Value.agg (ccells bs).toArray, Value.agg (ccells cs).toArray] ((Array.range (2 * ie.size)).map (z.cells[· % z.cells.size]!)) (by intro v hv; simp only [List.mem_cons, List.not_mem_nil, or_false] at hv; rcases hv with rfl | rfl <;> assumption) (by simp [hsz])
      rw [hsz] at this ⊢
      simpa [hx, hy, Value.cells, ccells] using this
theorem rd_two {w : World} {g B : Nat} {t : TypeId} (x y : Crt) (h : CBlk w g t (x.1 ++ y.1)) (hB : g < B) : Rd w B kcells (some ⟨g, 0, none⟩) [x, y] := fun _ => ⟨g, 0, rfl, hB, fun j v hv => by
  rw [Nat.zero_add, h.cell j]
  simpa [kcells, ccells] using hv⟩
end Go.Proofs.YtbdjmacjmkcafaaDoor
