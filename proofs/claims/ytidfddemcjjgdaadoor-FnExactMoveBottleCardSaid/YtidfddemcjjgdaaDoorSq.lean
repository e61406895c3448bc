/-
  The contracts of the model's SwapPlaces, l03All, SwapAll. Condition: the crate's length, that its numbers and those of the swaps fit their kinds.
-/
import Derived.Test.YtidfddemcjjgdaaDoorSp
namespace Go.Proofs.YtidfddemcjjgdaaDoor
open Go.ChangeShapes Go.WideShapes Go.ChangeAt Go.RowKit Go.Deep

theorem results_ctS {P : Program} {fn : Func} {p q : Tmp} {ty : TypeId} {v2 : Value} (h : fn.results = #[.cell p ty, .tmp q]) (tmps : Array Value) (hq : tmps.getD q undef = v2) (w : World) (g : Nat) (t : TypeId) (cs : Array Value) (fr : Nat × Nat) (d : TypeDesc)
    (hp : tmps.getD p undef = .pointer (some ⟨g, 0, none⟩)) (hg : w.heap[g]? = some (.cells cs t fr))
    (hu : P.underlying ty = some d) (hd : (match d with | .struct _ | .array _ _ => true | _ => false) = true) (hi : (P.info? ty).map (·.size) = some cs.size) :
    (results fn tmps).run P w = .ok (.tuple #[.agg cs, v2]) w := by
  subst hq
  have hp' : tmps[p]?.getD undef = .pointer (some ⟨g, 0, none⟩) := by simpa using hp
  simp [results, h, hp', asAddr, run_loadVar_row w g t ty cs fr d hg hu hd hi]
theorem rowS {w : World} {b o : Nat} {x y : Int} (h : w.rangeAt b o (scells (x, y))) : w.cell? ⟨b, o, none⟩ = some (.int .i8 x) ∧ w.cell? ⟨b, o + 1, none⟩ = some (.int .i8 y) :=
  ⟨h 0 _ rfl, h 1 _ rfl⟩

set_option maxRecDepth 100000 in
set_option maxHeartbeats 2000000 in
theorem specSwapPlaces_any (bs : List Bot) (hwf : WfC bs) (x y : Int) (hs : wfS (x, y)) (w : World) : Calls Tryd.prog 15 #[.agg (ccells bs).toArray, .agg #[.int .i8 x, .int .i8 y]] w
    fun e w' => e = .returned (ccV (saL bs [(x, y)]) (saC bs [(x, y)])) ∧ Below w.heap.size w w' := by
  have HW := Lib.hid hwf
  obtain ⟨⟨x1, x2⟩, y1, y2⟩ := hs
  dsimp only at x1 x2 y1 y2
  clear hwf
  have h1 : CBlk (((w.alloc (.cells (ccells bs).toArray 31)).alloc (.cells #[.int .i8 x, .int .i8 y] 35)).alloc (.cells #[.int .u8 0, .int .i16 0, .int .u8 0, .int .i16 0, .int .u8 0, .int .i16 0, .int .u8 0, .int .i16 0, .int .u8 0, .int .i16 0, .int .u8 0, .int .i16 0, .int .u8 0, .int .i16 0, .int .u8 0, .int .i16 0, .int .u8 0, .int .i16 0, .int .u8 0, .int .i16 0, .int .u8 0, .int .i16 0, .int .u8 0, .int .i16 0] 31)) w.heap.size 31 bs := ((CBlk.new w _ bs).alloc _).alloc _
  have h2 : Blk (((w.alloc (.cells (ccells bs).toArray 31)).alloc (.cells #[.int .i8 x, .int .i8 y] 35)).alloc (.cells #[.int .u8 0, .int .i16 0, .int .u8 0, .int .i16 0, .int .u8 0, .int .i16 0, .int .u8 0, .int .i16 0, .int .u8 0, .int .i16 0, .int .u8 0, .int .i16 0, .int .u8 0, .int .i16 0, .int .u8 0, .int .i16 0, .int .u8 0, .int .i16 0, .int .u8 0, .int .i16 0, .int .u8 0, .int .i16 0, .int .u8 0, .int .i16 0] 31)) (w.heap.size + 1) 35 #[.int .i8 x, .int .i8 y] := by
    refine Blk.alloc ?_ _
    exact Blk.new' (by simp) rfl
  have h3 : CBlk (((w.alloc (.cells (ccells bs).toArray 31)).alloc (.cells #[.int .i8 x, .int .i8 y] 35)).alloc (.cells #[.int .u8 0, .int .i16 0, .int .u8 0, .int .i16 0, .int .u8 0, .int .i16 0, .int .u8 0, .int .i16 0, .int .u8 0, .int .i16 0, .int .u8 0, .int .i16 0, .int .u8 0, .int .i16 0, .int .u8 0, .int .i16 0, .int .u8 0, .int .i16 0, .int .u8 0, .int .i16 0, .int .u8 0, .int .i16 0, .int .u8 0, .int .i16 0] 31)) (w.heap.size + 1 + 1) 31 noB := CBlk.new' (by simp) rfl
  have hb : Below w.heap.size w (((w.alloc (.cells (ccells bs).toArray 31)).alloc (.cells #[.int .i8 x, .int .i8 y] 35)).alloc (.cells #[.int .u8 0, .int .i16 0, .int .u8 0, .int .i16 0, .int .u8 0, .int .i16 0, .int .u8 0, .int .i16 0, .int .u8 0, .int .i16 0, .int .u8 0, .int .i16 0, .int .u8 0, .int .i16 0, .int .u8 0, .int .i16 0, .int .u8 0, .int .i16 0, .int .u8 0, .int .i16 0, .int .u8 0, .int .i16 0, .int .u8 0, .int .i16 0] 31)) := (by repeat (first | exact Below.refl _ _ | refine Below.drew ?_ | refine Below.alloc ?_ (by simp <;> omega) _ | refine Below.setCell ?_ (by simp <;> omega) _))
  obtain ⟨W1, hW1⟩ : ∃ W1, (((w.alloc (.cells (ccells bs).toArray 31)).alloc (.cells #[.int .i8 x, .int .i8 y] 35)).alloc (.cells #[.int .u8 0, .int .i16 0, .int .u8 0, .int .i16 0, .int .u8 0, .int .i16 0, .int .u8 0, .int .i16 0, .int .u8 0, .int .i16 0, .int .u8 0, .int .i16 0, .int .u8 0, .int .i16 0, .int .u8 0, .int .i16 0, .int .u8 0, .int .i16 0, .int .u8 0, .int .i16 0, .int .u8 0, .int .i16 0, .int .u8 0, .int .i16 0] 31)) = W1 := ⟨_, rfl⟩
  rw [hW1] at h1 h2 h3 hb
  have H1 := Lib.hid h1
  have H2 := Lib.hid h2
  have H3 := Lib.hid h3
  have HB := Lib.hid hb
  clear h1 h2 h3 hb
  go_enter Tryd.func15, Tryd.ntmps15
  go_wp2_with fail
  clear hW1
  refine (l01Ok_any bs HW.out _ _ H1.out).mono ?_
  rintro e w1 ⟨rfl, hb1⟩
  have HB1 : Hid (Below w.heap.size w w1) := HB.out.trans (hb1.mono HB.out.size)
  have K1 : Hid (CBlk w1 w.heap.size 31 bs) := H1.out.below hb1 H1.out.lt
  have K2 : Hid (Blk w1 (w.heap.size + 1) 35 #[.int .i8 x, .int .i8 y]) := H2.out.below hb1 H2.out.lt
  have K3 : Hid (CBlk w1 (w.heap.size + 1 + 1) 31 noB) := H3.out.below hb1 H3.out.lt
  clear hb1 H1 H2 H3 HB
  cases hok : okC bs
  · have hc := saC_bad [(x, y)] hok
    have hl := saL_no hc (by decide)
    have HC := Lib.hid hc
    have HN := Lib.hid hl
    clear hc hl hok
    go_wp2_with (refine wpList_store_row rfl 31 (.tmp 4) (.tmp 8) rfl (w.heap.size + 1 + 1) (ccells noB).toArray rfl rfl 31 _ K3.out (size_of_crate Tryd.sizeCr _ rfl) rfl (ccells_one _) ?_)
    exact bodyPost_ret (v := ccV noB 1) (results_ctS (v2 := .int .i64 1) rfl _ (by rfl) _ _ 31 _ (0, 0) _ rfl (K3.out.setRow (Y := noB)) Tryd.underlying31 rfl (size_of_crate Tryd.sizeCr _ rfl)) rfl ⟨by rw [HC.out, HN.out], Below.setRow HB1.out _ _ (by omega)⟩
  · have e3 : w1.cell? ⟨w.heap.size + 1, 0, none⟩ = some (.int .i8 x) := K2.out.cell 0
    have e4 : w1.cell? ⟨w.heap.size + 1, 1, none⟩ = some (.int .i8 y) := K2.out.cell 1
    have Hok := Lib.hid hok
    clear hok
    go_wp2_with fail
    refine (l03Can_any x y ⟨x1, x2⟩ ⟨y1, y2⟩ _).mono ?_
    rintro e w2 ⟨rfl, hb2⟩
    have HB2 : Hid (Below w.heap.size w w2) := HB1.out.trans (hb2.mono HB1.out.size)
    have L1 : Hid (CBlk w2 w.heap.size 31 bs) := K1.out.below hb2 K1.out.lt
    have L2 : Hid (Blk w2 (w.heap.size + 1) 35 #[.int .i8 x, .int .i8 y]) := K2.out.below hb2 K2.out.lt
    have L3 : Hid (CBlk w2 (w.heap.size + 1 + 1) 31 noB) := K3.out.below hb2 K3.out.lt
    clear hb2 K1 K2 K3 HB1 e3 e4
    cases hcan : canS (x, y)
    · have hc := saC_no (xs := [(x, y)]) Hok.out (by simp) (by simp [hcan])
      have hl := saL_no hc (by decide)
      have HC := Lib.hid hc
      have HN := Lib.hid hl
      clear hc hl hcan
      go_wp2_with (refine wpList_store_row rfl 31 (.tmp 4) (.tmp 12) rfl (w.heap.size + 1 + 1) (ccells noB).toArray rfl rfl 31 _ L3.out (size_of_crate Tryd.sizeCr _ rfl) rfl (ccells_one _) ?_)
      exact bodyPost_ret (v := ccV noB 2) (results_ctS (v2 := .int .i64 2) rfl _ (by rfl) _ _ 31 _ (0, 0) _ rfl (L3.out.setRow (Y := noB)) Tryd.underlying31 rfl (size_of_crate Tryd.sizeCr _ rfl)) rfl ⟨by rw [HC.out, HN.out], Below.setRow HB2.out _ _ (by omega)⟩
    · have hc := saC_ok (xs := [(x, y)]) Hok.out (by simp) (by simp [hcan])
      have hl : saL bs [(x, y)] = swB bs (x, y) := saL_of hc
      have hsl : (swB bs (x, y)).length = 12 := (swB_wf HW.out hcan).1
      obtain ⟨i, j, hij, hi, hj⟩ := canS_nat hcan
      obtain ⟨rfl, rfl⟩ : x = i ∧ y = j := by simpa using hij
      have HS := Lib.hid hsl
      have HC := Lib.hid hc
      have HN := Lib.hid hl
      clear hc hl hcan hij hsl
      have e3 : w2.cell? ⟨w.heap.size + 1, 0, none⟩ = some (.int .i8 (i : Int)) := L2.out.cell 0
      have e4 : w2.cell? ⟨w.heap.size + 1, 1, none⟩ = some (.int .i8 (j : Int)) := L2.out.cell 1
      go_wp2_with (refine wpList_load_row rfl 31 (.tmp 2) rfl w.heap.size rfl 31 _ (0, 0) _ L1.out Tryd.underlying31 rfl (size_of_crate Tryd.sizeCr _ HW.out.1) ?_)
      refine (l03Swapped_any bs HW.out i j hi hj _).mono ?_
      rintro e w3 ⟨rfl, hb3⟩
      have HB3 : Hid (Below w.heap.size w w3) := HB2.out.trans (hb3.mono HB2.out.size)
      have M3 : Hid (CBlk w3 (w.heap.size + 1 + 1) 31 noB) := L3.out.below hb3 L3.out.lt
      clear hb3 L1 L2 L3 HB2 e3 e4
      obtain ⟨Z, hZ⟩ : ∃ Z, swB bs ((i : Int), (j : Int)) = Z := ⟨_, rfl⟩
      rw [hZ] at HS HN ⊢
      clear hZ
      go_wp2_with (refine wpList_store_row rfl 31 (.tmp 4) (.tmp 15) rfl (w.heap.size + 1 + 1) _ rfl rfl 31 _ M3.out (size_of_crate Tryd.sizeCr _ HS.out) (by rw [ccells_size _ HS.out]; rfl) (ccells_one _) ?_)
      exact bodyPost_ret (v := ccV Z 0) (results_ctS (v2 := .int .i64 0) rfl _ (by rfl) _ _ 31 _ (0, 0) _ rfl (M3.out.setRow (Y := Z)) Tryd.underlying31 rfl (size_of_crate Tryd.sizeCr _ HS.out)) rfl ⟨by rw [HC.out, HN.out], Below.setRow HB3.out _ _ (by omega)⟩

/-- What stands between two rounds of l03All. -/
def SA (bs : List Bot) (xs : List Swp) (w : World) (k : Nat) (wr : World) : Prop :=
  CanTo xs k ∧ CBlk wr w.heap.size 31 (swTo bs xs k) ∧ CBlk wr (w.heap.size + 1) 31 noB ∧ Below w.heap.size w wr

set_option maxRecDepth 100000 in
set_option maxHeartbeats 4000000 in
theorem l03All_any (bs : List Bot) (hwf : WfC bs) (xs : List Swp) (hxs : ∀ x ∈ xs, wfS x) (A : Option Addr) (c : Nat) (w : World) (hl : xs.length ≤ 1048576) (hr : Rd w w.heap.size scells A xs) :
    Calls Tryd.prog 63 #[.agg (ccells bs).toArray, .slice A xs.length c] w
    fun e w' => e = .returned (ccV (saL bs xs) (saC bs xs)) ∧ Below w.heap.size w w' := by
  have HW := Lib.hid hwf
  have HX := Lib.hid hxs
  have HR := Lib.hid hr
  clear hwf hr hxs
  have h1 : CBlk ((w.alloc (.cells (ccells bs).toArray 31)).alloc (.cells #[.int .u8 0, .int .i16 0, .int .u8 0, .int .i16 0, .int .u8 0, .int .i16 0, .int .u8 0, .int .i16 0, .int .u8 0, .int .i16 0, .int .u8 0, .int .i16 0, .int .u8 0, .int .i16 0, .int .u8 0, .int .i16 0, .int .u8 0, .int .i16 0, .int .u8 0, .int .i16 0, .int .u8 0, .int .i16 0, .int .u8 0, .int .i16 0] 31)) w.heap.size 31 bs := (CBlk.new w _ bs).alloc _
  have h3 : CBlk ((w.alloc (.cells (ccells bs).toArray 31)).alloc (.cells #[.int .u8 0, .int .i16 0, .int .u8 0, .int .i16 0, .int .u8 0, .int .i16 0, .int .u8 0, .int .i16 0, .int .u8 0, .int .i16 0, .int .u8 0, .int .i16 0, .int .u8 0, .int .i16 0, .int .u8 0, .int .i16 0, .int .u8 0, .int .i16 0, .int .u8 0, .int .i16 0, .int .u8 0, .int .i16 0, .int .u8 0, .int .i16 0] 31)) (w.heap.size + 1) 31 noB := CBlk.new' (by simp) rfl
  have hb : Below w.heap.size w ((w.alloc (.cells (ccells bs).toArray 31)).alloc (.cells #[.int .u8 0, .int .i16 0, .int .u8 0, .int .i16 0, .int .u8 0, .int .i16 0, .int .u8 0, .int .i16 0, .int .u8 0, .int .i16 0, .int .u8 0, .int .i16 0, .int .u8 0, .int .i16 0, .int .u8 0, .int .i16 0, .int .u8 0, .int .i16 0, .int .u8 0, .int .i16 0, .int .u8 0, .int .i16 0, .int .u8 0, .int .i16 0] 31)) := (by repeat (first | exact Below.refl _ _ | refine Below.drew ?_ | refine Below.alloc ?_ (by simp <;> omega) _ | refine Below.setCell ?_ (by simp <;> omega) _))
  obtain ⟨W1, hW1⟩ : ∃ W1, ((w.alloc (.cells (ccells bs).toArray 31)).alloc (.cells #[.int .u8 0, .int .i16 0, .int .u8 0, .int .i16 0, .int .u8 0, .int .i16 0, .int .u8 0, .int .i16 0, .int .u8 0, .int .i16 0, .int .u8 0, .int .i16 0, .int .u8 0, .int .i16 0, .int .u8 0, .int .i16 0, .int .u8 0, .int .i16 0, .int .u8 0, .int .i16 0, .int .u8 0, .int .i16 0, .int .u8 0, .int .i16 0] 31)) = W1 := ⟨_, rfl⟩
  rw [hW1] at h1 h3 hb
  have H1 := Lib.hid h1
  have H3 := Lib.hid h3
  have HB := Lib.hid hb
  clear h1 h3 hb
  go_enter Tryd.func63, Tryd.ntmps63
  go_wp2_with fail
  clear hW1
  refine (l01Ok_any bs HW.out _ _ H1.out).mono ?_
  rintro e w1 ⟨rfl, hb1⟩
  have HB1 : Hid (Below w.heap.size w w1) := HB.out.trans (hb1.mono HB.out.size)
  have K1 : Hid (CBlk w1 w.heap.size 31 bs) := H1.out.below hb1 H1.out.lt
  have K3 : Hid (CBlk w1 (w.heap.size + 1) 31 noB) := H3.out.below hb1 H3.out.lt
  clear hb1 H1 H3 HB
  cases hok : okC bs
  · have hc := saC_bad xs hok
    have hl := saL_no hc (by decide)
    have HC := Lib.hid hc
    have HN := Lib.hid hl
    clear hc hl hok
    go_wp2_with (refine wpList_store_row rfl 31 (.tmp 4) (.tmp 9) rfl (w.heap.size + 1) (ccells noB).toArray rfl rfl 31 _ K3.out (size_of_crate Tryd.sizeCr _ rfl) rfl (ccells_one _) ?_)
    exact bodyPost_ret (v := ccV noB 1) (results_ctS (v2 := .int .i64 1) rfl _ (by rfl) _ _ 31 _ (0, 0) _ rfl (K3.out.setRow (Y := noB)) Tryd.underlying31 rfl (size_of_crate Tryd.sizeCr _ rfl)) rfl ⟨by rw [HC.out, HN.out], Below.setRow HB1.out _ _ (by omega)⟩
  have Hok := Lib.hid hok
  clear hok
  by_cases hlong : 60 < xs.length
  · have hc := saC_long Hok.out hlong
    have hl := saL_no hc (by decide)
    have HC := Lib.hid hc
    have HN := Lib.hid hl
    clear hc hl
    have hlong2 : (60 : Int) < xs.length := by omega
    go_wp2_with (refine wpList_store_row rfl 31 (.tmp 4) (.tmp 13) rfl (w.heap.size + 1) (ccells noB).toArray rfl rfl 31 _ K3.out (size_of_crate Tryd.sizeCr _ rfl) rfl (ccells_one _) ?_)
    exact bodyPost_ret (v := ccV noB 3) (results_ctS (v2 := .int .i64 3) rfl _ (by rfl) _ _ 31 _ (0, 0) _ rfl (K3.out.setRow (Y := noB)) Tryd.underlying31 rfl (size_of_crate Tryd.sizeCr _ rfl)) rfl ⟨by rw [HC.out, HN.out], Below.setRow HB1.out _ _ (by omega)⟩
  have hn0 : ¬ (60 : Int) < xs.length := by omega
  go_wp2_with fail
  go_loopw [6] (fun i wr => ∃ k : Nat, k ≤ xs.length ∧ i = .int .i64 k ∧ SA bs xs w k wr) (fun i _ => xs.length - (intOf i).toNat)
  case atStart => exact ⟨0, by omega, rfl, fun j s h => by omega, K1.out, K3.out, HB1.out⟩
  case round =>
    clear K1 K3 HB1
    obtain ⟨k, hk, rfl, q1, q2, q3, q4⟩ := hrel
    have Q1 := Lib.hid q1
    have Q2 := Lib.hid q2
    have Q3 := Lib.hid q3
    have Q4 := Lib.hid q4
    have QL := Lib.hid ((CanTo.wf HW.out q1).1)
    clear q1 q2 q3 q4
    by_cases hlt : k < xs.length
    · obtain ⟨⟨x, y⟩, hx⟩ : ∃ x, xs[k]? = some x := ⟨_, List.getElem?_eq_getElem hlt⟩
      have hwx := HX.out _ (List.mem_of_getElem? hx)
      obtain ⟨b, o, rfl, hbl, hrow⟩ := (HR.out.below (Nat.le_refl _) Q4.out).at_ scells_length hx
      obtain ⟨e1, e2⟩ := rowS hrow
      have hk0 : (0 : Int) ≤ (k : Int) := Int.natCast_nonneg _
      have hk8 : (k : Int) < xs.length := by omega
      have HXk := Lib.hid hx
      have HRow := Lib.hid hrow
      have Hbl := Lib.hid hbl
      clear hx hrow hbl
      go_wp2_with fail
      refine (l03Can_any x y hwx.1 hwx.2 _).mono ?_
      rintro e w2 ⟨rfl, hb2⟩
      have P2 : Hid (CBlk w2 w.heap.size 31 (swTo bs xs k)) := Q2.out.below hb2 Q2.out.lt
      have P3 : Hid (CBlk w2 (w.heap.size + 1) 31 noB) := Q3.out.below hb2 Q3.out.lt
      have P4 : Hid (Below w.heap.size w w2) := Q4.out.trans (hb2.mono Q4.out.size)
      have PR : Hid (w2.rangeAt b (o + k * 2) (scells (x, y))) := rangeAt_below HRow.out hb2 (Nat.lt_of_lt_of_le Hbl.out Q4.out.size)
      clear hb2 e1 e2 Q2 Q3 Q4 HRow
      cases hcan : canS (x, y)
      · have hc := saC_no Hok.out hlong (can_no HXk.out hcan)
        have hl := saL_no hc (by decide)
        have HC := Lib.hid hc
        have HN := Lib.hid hl
        clear hc hl hcan
        go_wp2_with (refine wpList_store_row rfl 31 (.tmp 4) (.tmp 26) rfl (w.heap.size + 1) (ccells noB).toArray rfl rfl 31 _ P3.out (size_of_crate Tryd.sizeCr _ rfl) rfl (ccells_one _) ?_)
        exact bodyPost_ret (v := ccV noB 2) (results_ctS (v2 := .int .i64 2) rfl _ (by rfl) _ _ 31 _ (0, 0) _ rfl (P3.out.setRow (Y := noB)) Tryd.underlying31 rfl (size_of_crate Tryd.sizeCr _ rfl)) rfl ⟨by rw [HC.out, HN.out], Below.setRow P4.out _ _ (by omega)⟩
      · have hcs := Q1.out.step HXk.out hcan
        have hsx := swTo_succ (X := bs) HXk.out
        obtain ⟨i, j, hij, hi, hj⟩ := canS_nat hcan
        obtain ⟨rfl, rfl⟩ : x = i ∧ y = j := by simpa using hij
        have hX : WfC (swTo bs xs k) := Q1.out.wf HW.out
        obtain ⟨X, hXe⟩ : ∃ X, swTo bs xs k = X := ⟨_, rfl⟩
        rw [hXe] at P2 QL hX hsx
        have hY : (swB X ((i : Int), (j : Int))).length = 12 := (swB_wf hX hcan).1
        have HCs := Lib.hid hcs
        have HSx := Lib.hid hsx
        have HX2 := Lib.hid hX
        have HY := Lib.hid hY
        clear hcan hij hcs hsx hX hXe hY
        obtain ⟨e1, e2⟩ := rowS PR.out
        go_wp2_with fail
        refine wp_region_any (by kernel_rfl) ?_
        change wpAny _ _ _ _ _ _ _ (World.drew _)
        refine wpAny_take (i := 1) (v := .slice (some ⟨b, o, none⟩) xs.length c) rfl (by kernel_rfl) (by kernel_rfl) (by kernel_rfl) (fun _ _ _ h => h) (Or.inl ⟨by rfl, fun w => by go_simp⟩) ?_
        try simp only [Act.put, List.getElem_toArray, List.getElem_cons_zero, List.getElem_cons_succ, List.setIfInBounds_toArray, List.set_cons_zero, List.set_cons_succ]
        refine wpAny_take (i := 2) (v := .int .i64 k) rfl (by kernel_rfl) (by kernel_rfl) (by kernel_rfl) (fun _ _ _ h => h) (Or.inl ⟨by rfl, fun w => by go_simp⟩) ?_
        try simp only [Act.put, List.getElem_toArray, List.getElem_cons_zero, List.getElem_cons_succ, List.setIfInBounds_toArray, List.set_cons_zero, List.set_cons_succ]
        refine wpAny_take (i := 3) (v := .pointer (some ⟨b, o + k * 2, none⟩)) rfl (by kernel_rfl) (by kernel_rfl) (by kernel_rfl) (fun _ _ _ h => h) (Or.inl ⟨by rfl, fun w => by go_simp⟩) ?_
        try simp only [Act.put, List.getElem_toArray, List.getElem_cons_zero, List.getElem_cons_succ, List.setIfInBounds_toArray, List.set_cons_zero, List.set_cons_succ]
        have D1 : CBlk w2.drew w.heap.size 31 X := P2.out
        have D2 : w2.drew.rangeAt b (o + k * 2) (scells ((i : Int), (j : Int))) := (World.rangeAt_drew _ _ _ _).2 PR.out
        have D3 : CBlk w2.drew (w.heap.size + 1) 31 noB := P3.out
        have D4 : Below w.heap.size w w2.drew := P4.out.drew
        obtain ⟨w3, hw3⟩ : ∃ w3, w2.drew = w3 := ⟨_, rfl⟩
        rw [hw3] at D1 D2 D3 D4 ⊢
        clear hw3 P2 P3 P4 PR e1 e2
        have hcell := rowS D2
        obtain ⟨e1, e2⟩ := hcell
        have E1 := Lib.hid D1
        have E3 := Lib.hid D3
        have E4 := Lib.hid D4
        have E2 := Lib.hid D2
        clear D1 D2 D3 D4
        refine wpAny_ready (rs := [0, 4]) (by kernel_rfl) (by simp) ?_
        refine AllReady.cons rfl (fun K hK => ?_) (AllReady.cons rfl (fun K hK => ?_) AllReady.nil)
        · skip
          refine if_wanted rfl (wp_load_row 31 (.tmp 2) rfl w.heap.size rfl 31 _ (0, 0) _ E1.out Tryd.underlying31 rfl (size_of_crate Tryd.sizeCr _ HX2.out.1) ?_)
          refine hK _ _ ?_
          clear hK K
          try simp only [Act.put, List.getElem_toArray, List.getElem_cons_zero, List.getElem_cons_succ, List.setIfInBounds_toArray, List.set_cons_zero, List.set_cons_succ]
          refine wpAny_ready (rs := [4]) (by kernel_rfl) (by simp) ?_
          refine AllReady.cons rfl (fun K hK => ?_) AllReady.nil
          refine if_wanted rfl ?_
          go_simp
          refine hK _ _ ?_
          clear hK K
          try simp only [Act.put, List.getElem_toArray, List.getElem_cons_zero, List.getElem_cons_succ, List.setIfInBounds_toArray, List.set_cons_zero, List.set_cons_succ]
          refine wpAny_ready (rs := [5]) (by kernel_rfl) (by simp) ?_
          refine AllReady.cons rfl (fun K hK => ?_) AllReady.nil
          refine if_wanted rfl ?_
          go_simp
          refine (l03Swapped_any X HX2.out i j hi hj _).mono ?_
          rintro e w4 ⟨rfl, hb4⟩
          have F1 : Hid (CBlk w4 w.heap.size 31 X) := E1.out.below hb4 E1.out.lt
          have F3 : Hid (CBlk w4 (w.heap.size + 1) 31 noB) := E3.out.below hb4 E3.out.lt
          have F4 : Hid (Below w.heap.size w w4) := E4.out.trans (hb4.mono E4.out.size)
          clear hb4 E1 E2 E3 E4 e1 e2
          dsimp only
          refine hK _ _ ?_
          clear hK K
          try simp only [Act.put, List.getElem_toArray, List.getElem_cons_zero, List.getElem_cons_succ, List.setIfInBounds_toArray, List.set_cons_zero, List.set_cons_succ]
          refine wpAny_ready (rs := [6]) (by kernel_rfl) (by simp) ?_
          refine AllReady.cons rfl (fun K hK => ?_) AllReady.nil
          refine if_wanted rfl (wp_store_row 31 (.tmp 2) (.tmp 32) rfl w.heap.size (ccells (swB X ((i : Int), (j : Int)))).toArray rfl rfl 31 _ F1.out (size_of_crate Tryd.sizeCr _ HY.out) (by rw [ccells_size _ HX2.out.1, ccells_size _ HY.out]) (ccells_one _) ?_)
          have G1 : Hid (CBlk (w4.setRow w.heap.size (ccells (swB X ((i : Int), (j : Int)))).toArray) w.heap.size 31 (swB X ((i : Int), (j : Int)))) := CBlk.setRow F1.out
          have G3 : Hid (CBlk (w4.setRow w.heap.size (ccells (swB X ((i : Int), (j : Int)))).toArray) (w.heap.size + 1) 31 noB) := F3.out.rowOff (by omega) _
          have G4 : Hid (Below w.heap.size w (w4.setRow w.heap.size (ccells (swB X ((i : Int), (j : Int)))).toArray)) := Below.setRow F4.out _ _ (Nat.le_refl _)
          clear F1 F3 F4
          refine hK _ _ ?_
          clear hK K
          refine wpAny_done (by kernel_rfl) ?_ _
          try simp only [Act.put, List.getElem_toArray, List.getElem_cons_zero, List.getElem_cons_succ, List.setIfInBounds_toArray, List.set_cons_zero, List.set_cons_succ]
          go_wp2
          go_roundw
          case rel => exact ⟨k + 1, by omega, by go_num, HCs.out, by rw [HSx.out]; exact G1.out, G3.out, G4.out⟩
          case measure => simp [intOf]; omega
        · skip
          refine if_wanted rfl ?_
          go_simp
          refine hK _ _ ?_
          clear hK K
          try simp only [Act.put, List.getElem_toArray, List.getElem_cons_zero, List.getElem_cons_succ, List.setIfInBounds_toArray, List.set_cons_zero, List.set_cons_succ]
          refine wpAny_ready (rs := [0]) (by kernel_rfl) (by simp) ?_
          refine AllReady.cons rfl (fun K hK => ?_) AllReady.nil
          refine if_wanted rfl (wp_load_row 31 (.tmp 2) rfl w.heap.size rfl 31 _ (0, 0) _ E1.out Tryd.underlying31 rfl (size_of_crate Tryd.sizeCr _ HX2.out.1) ?_)
          refine hK _ _ ?_
          clear hK K
          try simp only [Act.put, List.getElem_toArray, List.getElem_cons_zero, List.getElem_cons_succ, List.setIfInBounds_toArray, List.set_cons_zero, List.set_cons_succ]
          refine wpAny_ready (rs := [5]) (by kernel_rfl) (by simp) ?_
          refine AllReady.cons rfl (fun K hK => ?_) AllReady.nil
          refine if_wanted rfl ?_
          go_simp
          refine (l03Swapped_any X HX2.out i j hi hj _).mono ?_
          rintro e w4 ⟨rfl, hb4⟩
          have F1 : Hid (CBlk w4 w.heap.size 31 X) := E1.out.below hb4 E1.out.lt
          have F3 : Hid (CBlk w4 (w.heap.size + 1) 31 noB) := E3.out.below hb4 E3.out.lt
          have F4 : Hid (Below w.heap.size w w4) := E4.out.trans (hb4.mono E4.out.size)
          clear hb4 E1 E2 E3 E4 e1 e2
          dsimp only
          refine hK _ _ ?_
          clear hK K
          try simp only [Act.put, List.getElem_toArray, List.getElem_cons_zero, List.getElem_cons_succ, List.setIfInBounds_toArray, List.set_cons_zero, List.set_cons_succ]
          refine wpAny_ready (rs := [6]) (by kernel_rfl) (by simp) ?_
          refine AllReady.cons rfl (fun K hK => ?_) AllReady.nil
          refine if_wanted rfl (wp_store_row 31 (.tmp 2) (.tmp 32) rfl w.heap.size (ccells (swB X ((i : Int), (j : Int)))).toArray rfl rfl 31 _ F1.out (size_of_crate Tryd.sizeCr _ HY.out) (by rw [ccells_size _ HX2.out.1, ccells_size _ HY.out]) (ccells_one _) ?_)
          have G1 : Hid (CBlk (w4.setRow w.heap.size (ccells (swB X ((i : Int), (j : Int)))).toArray) w.heap.size 31 (swB X ((i : Int), (j : Int)))) := CBlk.setRow F1.out
          have G3 : Hid (CBlk (w4.setRow w.heap.size (ccells (swB X ((i : Int), (j : Int)))).toArray) (w.heap.size + 1) 31 noB) := F3.out.rowOff (by omega) _
          have G4 : Hid (Below w.heap.size w (w4.setRow w.heap.size (ccells (swB X ((i : Int), (j : Int)))).toArray)) := Below.setRow F4.out _ _ (Nat.le_refl _)
          clear F1 F3 F4
          refine hK _ _ ?_
          clear hK K
          refine wpAny_done (by kernel_rfl) ?_ _
          try simp only [Act.put, List.getElem_toArray, List.getElem_cons_zero, List.getElem_cons_succ, List.setIfInBounds_toArray, List.set_cons_zero, List.set_cons_succ]
          go_wp2
          go_roundw
          case rel => exact ⟨k + 1, by omega, by go_num, HCs.out, by rw [HSx.out]; exact G1.out, G3.out, G4.out⟩
          case measure => simp [intOf]; omega
    · obtain rfl : k = xs.length := by omega
      have hall : xs.all canS = true := CanTo.all Q1.out
      have hc := saC_ok Hok.out hlong hall
      have hl := saL_of hc
      obtain ⟨X, hX⟩ : ∃ X, swTo bs xs xs.length = X := ⟨_, rfl⟩
      rw [hX] at Q2 QL hl
      have HC := Lib.hid hc
      have HN := Lib.hid hl
      clear hX hc hl hall
      go_wp2_with (first
        | (refine wpList_load_row rfl 31 (.tmp 2) rfl w.heap.size rfl 31 _ (0, 0) _ Q2.out Tryd.underlying31 rfl (size_of_crate Tryd.sizeCr _ QL.out) ?_)
        | (refine wpList_store_row rfl 31 (.tmp 4) (.tmp 33) rfl (w.heap.size + 1) _ rfl rfl 31 _ Q3.out (size_of_crate Tryd.sizeCr _ QL.out) (by rw [ccells_size _ QL.out]; rfl) (ccells_one _) ?_))
      exact bodyPost_ret (v := ccV X 0) (results_ctS (v2 := .int .i64 0) rfl _ (by rfl) _ _ 31 _ (0, 0) _ rfl (Q3.out.setRow (Y := X)) Tryd.underlying31 rfl (size_of_crate Tryd.sizeCr _ QL.out)) rfl ⟨by rw [HC.out, HN.out], Below.setRow Q4.out _ _ (by omega)⟩
end Go.Proofs.YtidfddemcjjgdaaDoor
