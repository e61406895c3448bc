/-
  The contracts of IsPure, of the model and of the program. Condition: the crate's length, that its numbers fit their kinds; the sentinel errors lie as the row lists them (the program's).
-/
import Derived.Test.YtidfddemcjjgdaaDoorVs
import Derived.Test.YtidfddemcjjgdaaDoorKn
import Derived.Test.YtidfddemcjjgdaaDoorBt
import Derived.Test.YtidfddemcjjgdaaDoorQ
import Derived.Maps.OwnSet
namespace Go.Proofs.YtidfddemcjjgdaaDoor
open Go.ChangeShapes Go.WideShapes Go.ChangeAt Go.RowKit Go.Deep
open Go.Maps (Keyed)
open Go.WideElems (rd_key rg_of)

theorem keyB_inv {v : Value} {l : Lit} (h : keyOf Tryd.prog 29 v = some l) : ∃ b, wfB b ∧ l = kB b := by
  obtain ⟨xs, L, rfl, hL, -⟩ := keyOf_top (by rw [Tryd.underlying29]) h
  rw [Tryd.tsize] at hL
  obtain ⟨b, hb, hc⟩ := klits_bottle_inv (P := Tryd.prog) (d := 234 + 1) Tryd.underlying29 Tryd.underlying5 Tryd.underlying22 rfl rfl (by kernel_rfl) (by kernel_rfl) Tryd.cellsIB hL
  have e : xs = #[.int .u8 b.1, .int .i16 b.2] := by
    apply Array.ext'
    rw [hc]; rfl
  rw [e, keyB b hb] at h
  exact ⟨b, hb, (Option.some.inj h).symm⟩
theorem keys_owns {w : World} {B n : Nat} {E : DataW Unit} (h : OwnsB w B n E) : ∃ es, E = .map es ∧ es.Pairwise (fun p q => p.1 ≠ q.1) ∧ ∀ p ∈ es, ∃ b, wfB b ∧ p.1 = kB b := by
  obtain ⟨es, he, hp, -⟩ := h.entries (Keyed.of_law Tryd.lawB)
  refine ⟨es, he, hp, fun p hm => ?_⟩
  obtain ⟨es0, clock, hb, F, hs, hD⟩ := h
  rw [he] at hD
  simp only [DataW.map.injEq] at hD
  rw [hD, mem_sorted, List.mem_map] at hm
  obtain ⟨x, hx, rfl⟩ := hm
  obtain ⟨y, hy⟩ := F.reads x hx
  rw [rg_of hy]
  exact keyB_inv (rd_key hy)
theorem size_le_one {w : World} {B n : Nat} {E : DataW Unit} {f : Bot → Nat} (h : OwnsB w B n E) (hh : Holds E wfB kB f) : Maps.size E ≤ 1 ↔ ∀ a b, wfB a → wfB b → f a ≠ 0 → f b ≠ 0 → a = b := by
  obtain ⟨es, rfl, hp, hk⟩ := keys_owns h
  rw [Maps.size_eq]
  have there : ∀ a, wfB a → f a ≠ 0 → ∃ p ∈ es, p.1 = kB a := fun a ha h0 => by
    have := hh.has ha h0
    rw [Maps.has_eq, List.any_eq_true] at this
    obtain ⟨p, hpm, hs⟩ := this
    exact ⟨p, hpm, WideAt.sameKey_eq hs⟩
  have pos : ∀ a, wfB a → (∃ p ∈ es, p.1 = kB a) → f a ≠ 0 := fun a ha ⟨p, hpm, he⟩ h0 => by
    have hf : Maps.has (.map es : DataW Unit) (kB a) = false := Maps.has_false_of_atKey (fun z => by rw [hh a ha z, if_pos h0])
    rw [Maps.has_eq, List.any_eq_false] at hf
    refine hf p hpm ?_
    rw [he]; exact WideAt.sameKey_self (kB_is a)
  constructor
  · intro hl a b ha hb fa fb
    obtain ⟨p, hpm, hpe⟩ := there a ha fa
    obtain ⟨q, hqm, hqe⟩ := there b hb fb
    match es, hl, hpm, hqm with
    | [], _, h1, _ => cases h1
    | [z], _, h1, h2 =>
      obtain rfl := List.mem_singleton.1 h1
      obtain rfl := List.mem_singleton.1 h2
      exact kB_inj ha hb (hpe.symm.trans hqe)
    | _ :: _ :: _, h3, _, _ => simp at h3
  · intro hall
    match es, hp, hk with
    | [], _, _ => simp
    | [z], _, _ => simp
    | p :: q :: r, h1, h2 =>
      exfalso
      obtain ⟨a, ha, hpe⟩ := h2 p (by simp)
      obtain ⟨b, hb, hqe⟩ := h2 q (by simp)
      have fa := pos a ha ⟨p, by simp, hpe⟩
      have fb := pos b hb ⟨q, by simp, hqe⟩
      have := hall a b ha hb fa fb
      subst this
      exact (List.pairwise_cons.1 h1).1 q (by simp) (hpe.trans hqe.symm)
/-- Are all bottles alike? -/
def purB : List Bot → Bool
  | [] => true
  | b :: r => r.all fun y => decide (y = b)
theorem purB_iff (Y : List Bot) : purB Y = true ↔ ∀ a ∈ Y, ∀ b ∈ Y, a = b := by
  cases Y with
  | nil => simp [purB]
  | cons y r =>
    simp only [purB, List.all_eq_true, decide_eq_true_eq]
    constructor
    · intro h a ha b hb
      have h2 : ∀ z ∈ y :: r, z = y := fun z hz => by
        rcases List.mem_cons.1 hz with rfl | hz
        · rfl
        · exact h z hz
      rw [h2 a ha, h2 b hb]
    · intro h z hz
      exact h z (List.mem_cons_of_mem _ hz) y (List.mem_cons_self ..)
theorem mult_pos (x : Crt) (b : Bot) : mult x b ≠ 0 ↔ b ∈ allB x.1 12 := by
  unfold mult
  constructor
  · intro h
    obtain ⟨y, hy⟩ := List.exists_mem_of_ne_nil ((allB x.1 12).filter fun y => decide (y = b)) (fun e => h (by rw [e]; rfl))
    rw [List.mem_filter, decide_eq_true_eq] at hy
    rw [← hy.2]; exact hy.1
  · intro h h0
    have := List.eq_nil_of_length_eq_zero h0
    rw [List.filter_eq_nil_iff] at this
    exact this b h (by simp)
theorem size_pure {w : World} {B n : Nat} {E : DataW Unit} (x : Crt) (h : OwnsB w B n E) (hh : Holds E wfB kB (cntAll [x])) : decide (Maps.size E ≤ 1) = purB (allB x.1 12) := by
  have e : ∀ b, cntAll [x] b = mult x b := fun b => by simp [cntAll]
  rw [Bool.eq_iff_iff, decide_eq_true_eq, purB_iff, size_le_one h hh]
  constructor
  · intro hall a ha b hb
    exact hall a b (allB_wf x.2 a ha) (allB_wf x.2 b hb) (by rw [e]; exact (mult_pos x a).2 ha) (by rw [e]; exact (mult_pos x b).2 hb)
  · intro hall a b _ _ fa fb
    rw [e] at fa fb
    exact hall a ((mult_pos x a).1 fa) b ((mult_pos x b).1 fb)

/-- What IsPure answers. -/
def ipB (X : List Bot) : Bool := okC X && purB (allB X 12)
def ipC (X : List Bot) : Int := if okC X = true then 0 else 1
def ipV (X : List Bot) : Value := .tuple #[.bool (ipB X), .int .i64 (ipC X)]
theorem ip_bad {X : List Bot} (h : okC X = false) : ipV X = .tuple #[.bool false, .int .i64 1] := by simp [ipV, ipB, ipC, h]
theorem ip_ok {X : List Bot} (h : okC X = true) : ipV X = .tuple #[.bool (purB (allB X 12)), .int .i64 0] := by simp [ipV, ipB, ipC, h]

set_option maxHeartbeats 2000000 in
set_option maxRecDepth 100000 in
theorem l01AllAt_any (bs : List Bot) (hwf : WfC bs) (B o : Nat) (w : World) (hBl : B < w.heap.size) (hB : w.rangeAt B o (ccells bs)) :
    Calls Tryd.prog 106 #[.pointer (some ⟨B, o, none⟩)] w fun e w' => ∃ v, e = .returned v ∧ w'.ownsRow w.heap.size 29 2 v (allB bs 12).length (ccells (allB bs 12)) ∧ Below w.heap.size w w' := by
  have HB := Lib.hid hB
  have HW := Lib.hid hwf
  clear hB hwf
  go_enter Tryd.func106, Tryd.ntmps106
  obtain ⟨i0, hi, hz0, hz1, hz2⟩ := info_parts Tryd.infoBt
  have HI := Lib.hid hi
  have HZ0 := Lib.hid hz0
  have HZ1 := Lib.hid hz1
  have HZ2 := Lib.hid hz2
  clear hi hz0 hz1 hz2
  go_wp2_with fail
  go_loopw [3, 4] (fun v i wr => ∃ k : Nat, k ≤ 12 ∧ i = .int .i64 k ∧ wr.ownsRow w.heap.size 29 2 v (allB bs k).length (ccells (allB bs k)) ∧ Below w.heap.size w wr) (fun _ i _ => 12 - (intOf i).toNat)
  case atStart =>
    refine ⟨0, by omega, rfl, ⟨rfl, .inr ⟨w.heap.size, 0, #[], rfl, Nat.le_refl _, heap_alloc_new w _, Nat.le_refl _, by unfold maxLen; omega, rfl, rfl⟩⟩, (by repeat (first | exact Below.refl _ _ | refine Below.drew ?_ | refine Below.alloc ?_ (by simp <;> omega) _ | refine Below.setCell ?_ (by simp <;> omega) _))⟩
  case round =>
    obtain ⟨k, hk, rfl, hown, hb⟩ := hrel
    have HO := Lib.hid hown
    have Hb := Lib.hid hb
    clear hown hb
    by_cases hlt : k < 12
    · obtain ⟨k1, y1, hbk, wk, wy⟩ := HW.out.at_ hlt
      have Hk := Lib.hid hbk
      clear hbk
      obtain ⟨e1, e2⟩ := rangeK (rangeAt_below HB.out Hb.out hBl) Hk.out
      have hl0 : (0 : Int) ≤ k := by omega
      have hl1 : (k : Int) < 12 := by omega
      go_wp2_with fail
      refine (l01Free_any _ _ _).mono ?_
      rintro e w1 ⟨rfl, hb1⟩
      have Hb1 := Lib.hid hb1
      have HB1 : Hid (Below w.heap.size w w1) := Hb.out.trans (hb1.mono Hb.out.size)
      have HO1 : Hid (w1.ownsRow w.heap.size 29 2 _ (allB bs k).length (ccells (allB bs k))) := HO.out.kept (grown_of_below hb1) (Classical.em _)
      clear hb1 e1 e2
      cases hE : eB (k1, y1)
      · have HE := Lib.hid hE
        clear hE
        have hlen := allB_length bs k
        obtain ⟨g1, g2⟩ := rangeK (rangeAt_below HB.out HB1.out hBl) Hk.out
        go_wp2_with (at_builtin; refine wpList_append_own _ rfl (.tmp 17) (.tmp 23) 68 rfl w.heap.size 29 i0 (.agg #[.int .u8 0, .int .i16 0]) 2 4 Tryd.underlying68 HI.out HZ0.out HZ1.out HZ2.out rfl (by decide) _ _ _ rfl (HO1.out.alloc _) ⟨w1.heap.size, 0, none⟩ 1 1 [.int .u8 k1, .int .i16 y1] rfl rfl ?c1 ?c2 ?c3 ?c4 ?c5 ?_)
        case c1 => exact cell_two_new _ _ _ _
        case c2 => exact two_one _ _
        case c3 => unfold maxLen; omega
        case c4 => omega
        case c5 => have := HB1.out.size; simp; omega
        intro v' w2 hown' hgrow _
        have HO2 := Lib.hid hown'
        have HB2 : Hid (Below w.heap.size w w2) := (HB1.out.alloc HB1.out.size _).grown hgrow (by have := HB1.out.size; simp; omega) (fun r e => (HO1.out.lt r e).1)
        clear hown' hgrow g1 g2
        go_wp2
        go_roundw
        case rel => exact ⟨k + 1, by omega, by go_num, by rw [allB_yes Hk.out HE.out, ccells_snoc, List.length_append]; exact HO2.out, HB2.out⟩
        case measure => simp [intOf]; omega
      · have HE := Lib.hid hE
        clear hE
        go_wp2
        go_roundw
        case rel => exact ⟨k + 1, by omega, by go_num, by rw [allB_no Hk.out HE.out]; exact HO1.out, HB1.out⟩
        case measure => simp [intOf]; omega
    · obtain rfl : k = 12 := by omega
      go_wp2
      go_ret
      exact ⟨_, rfl, HO.out, Hb.out⟩


def alikeTo (Y : List Bot) (k : Nat) : Prop := ∀ j, j < k → j < Y.length → Y[j]? = Y[0]?
theorem alike_all {Y : List Bot} (h : alikeTo Y Y.length) : purB Y = true := by
  rw [purB_iff]
  intro a ha b hb
  obtain ⟨i, hi, rfl⟩ := List.mem_iff_getElem.1 ha
  obtain ⟨j, hj, rfl⟩ := List.mem_iff_getElem.1 hb
  have e1 := h i hi hi
  have e2 := h j hj hj
  rw [List.getElem?_eq_getElem hi] at e1
  rw [List.getElem?_eq_getElem hj] at e2
  exact Option.some.inj (e1.trans e2.symm)
theorem alike_no {Y : List Bot} {k : Nat} {a b : Bot} (ha : Y[k]? = some a) (hb : Y[0]? = some b) (hn : a ≠ b) : purB Y = false := by
  cases h : purB Y
  · rfl
  · rw [purB_iff] at h
    exact absurd (h a (List.mem_of_getElem? ha) b (List.mem_of_getElem? hb)) hn

set_option maxRecDepth 100000 in
set_option maxHeartbeats 4000000 in
theorem l01Pure_any (X : List Bot) (hwf : WfC X) (B o : Nat) (w : World) (hBl : B < w.heap.size) (hB : w.rangeAt B o (ccells X)) :
    Calls Tryd.prog 78 #[.pointer (some ⟨B, o, none⟩)] w fun e w' => e = .returned (.bool (purB (allB X 12))) ∧ Below w.heap.size w w' := by
  have HB := Lib.hid hB
  have HW := Lib.hid hwf
  clear hB hwf
  go_enter Tryd.func78, Tryd.ntmps78
  go_wp2_with fail
  refine (l01AllAt_any X HW.out B o _ hBl HB.out).mono ?_
  rintro e w1 ⟨v, rfl, hown, hb⟩
  have HB1 := Lib.hid hb
  have hYl := allB_length X 12
  obtain ⟨Y, hYe⟩ : ∃ Y, allB X 12 = Y := ⟨_, rfl⟩
  rw [hYe] at hown hYl
  have HYe := Lib.hid hYe
  obtain ⟨G, cg, rfl, hrd⟩ := own_readM hown
  have HRD := Lib.hid hrd
  clear hb hown hYe hrd
  go_wp2_with fail
  go_loopw [4] (fun i wr => ∃ k : Nat, 1 ≤ k ∧ k ≤ 13 ∧ i = .int .i64 k ∧ alikeTo Y k ∧ Below w1.heap.size w1 wr) (fun i _ => 12 - (intOf i).toNat)
  case atStart => exact ⟨1, by omega, by omega, rfl, (by intro j hj _; obtain rfl : j = 0 := by omega
                                                         rfl), Below.refl _ _⟩
  case round =>
    obtain ⟨k, hk1, hk13, rfl, hT, hb⟩ := hrel
    have HT := Lib.hid hT
    have Hb := Lib.hid hb
    clear hT hb
    by_cases hlt : k < Y.length
    · obtain ⟨⟨k1, y1⟩, hz⟩ : ∃ z, Y[k]? = some z := ⟨_, List.getElem?_eq_getElem hlt⟩
      obtain ⟨⟨p, q⟩, hz0⟩ : ∃ z, Y[0]? = some z := ⟨_, List.getElem?_eq_getElem (by omega)⟩
      obtain ⟨g, rfl, -, hgl, hc1, hc2⟩ := HRD.out k _ _ hz
      obtain ⟨g', hg', -, -, hc3, hc4⟩ := HRD.out 0 _ _ hz0
      obtain rfl : g = g' := by simpa using hg'
      have e1 := (Hb.out.cell (p := ⟨g, k * 2, none⟩) hgl).trans hc1
      have e2 := (Hb.out.cell (p := ⟨g, k * 2 + 1, none⟩) hgl).trans hc2
      have e3 := (Hb.out.cell (p := ⟨g, 0, none⟩) hgl).trans hc3
      have e4 := (Hb.out.cell (p := ⟨g, 1, none⟩) hgl).trans hc4
      have HZ := Lib.hid hz
      have HZ0 := Lib.hid hz0
      have hk0 : (0 : Int) ≤ (k : Int) := Int.natCast_nonneg _
      have hk8 : (k : Int) < Y.length := by omega
      have hk9 : (0 : Int) < Y.length := by omega
      have hk10 : 0 < Y.length := by omega
      have hk11 : Y ≠ [] := by intro e; subst e; simp at hlt
      clear hz hz0 hc1 hc2 hc3 hc4 hg'
      by_cases hx : k1 = p
      · by_cases hy : y1 = q
        · have hx2 := hx.symm; have hy2 := hy.symm; subst hx2; subst hy2
          go_wp2_with fail
          go_region_held3 (fun w' => w'.cell? ⟨g, k * 2, none⟩ = some (.int .u8 p) ∧ w'.cell? ⟨g, k * 2 + 1, none⟩ = some (.int .i16 q) ∧ w'.cell? ⟨g, 0, none⟩ = some (.int .u8 p) ∧ w'.cell? ⟨g, 1, none⟩ = some (.int .i16 q)) (go_keep) (fail)
          go_wp2
          go_roundw
          case rel => exact ⟨k + 1, by omega, by omega, by go_num, fun j hj hjl => by
            by_cases e : j = k
            · subst e; rw [HZ.out, HZ0.out]
            · exact HT.out j (by omega) hjl, Hb.out.drew⟩
          case measure => simp [intOf]; omega
        · have hx2 := hx.symm; subst hx2
          have hy' : (y1 == q) = false := by simpa using hy
          go_wp2_with fail
          go_region_held3 (fun w' => w'.cell? ⟨g, k * 2, none⟩ = some (.int .u8 p) ∧ w'.cell? ⟨g, k * 2 + 1, none⟩ = some (.int .i16 y1) ∧ w'.cell? ⟨g, 0, none⟩ = some (.int .u8 p) ∧ w'.cell? ⟨g, 1, none⟩ = some (.int .i16 q)) (go_keep) (fail)
          go_wp2
          go_ret
          exact ⟨ret_bool (by rw [HYe.out, alike_no HZ.out HZ0.out (by simp [*])]), HB1.out.trans (Hb.out.drew.mono HB1.out.size)⟩
      · have hx' : (k1 == p) = false := by simpa using hx
        go_wp2_with fail
        go_region_held3 (fun w' => w'.cell? ⟨g, k * 2, none⟩ = some (.int .u8 k1) ∧ w'.cell? ⟨g, k * 2 + 1, none⟩ = some (.int .i16 y1) ∧ w'.cell? ⟨g, 0, none⟩ = some (.int .u8 p) ∧ w'.cell? ⟨g, 1, none⟩ = some (.int .i16 q)) (go_keep) (fail)
        go_wp2
        go_ret
        exact ⟨ret_bool (by rw [HYe.out, alike_no HZ.out HZ0.out (by simp [*])]), HB1.out.trans (Hb.out.drew.mono HB1.out.size)⟩
    · have hge : ¬ (k : Int) < Y.length := by omega
      have HP : Hid (purB Y = true) := alike_all (fun j hj hjl => HT.out j (by omega) hjl)
      go_wp2
      go_ret
      exact ⟨ret_bool (by rw [HYe.out, HP.out]), HB1.out.trans (Hb.out.mono HB1.out.size)⟩

set_option maxRecDepth 100000 in
set_option maxHeartbeats 1000000 in
theorem specPure_any (X : List Bot) (hwf : WfC X) (w : World) : Calls Tryd.prog 49 #[.agg (ccells X).toArray] w fun e w' => e = .returned (ipV X) ∧ Below w.heap.size w w' := by
  have HW := Lib.hid hwf
  have H1 := Lib.hid (CBlk.new w 31 X)
  have HB0 : Hid (Below w.heap.size w (w.alloc (.cells (ccells X).toArray 31))) := (Below.refl _ w).alloc (Nat.le_refl _) _
  clear hwf
  go_enter Tryd.func49, Tryd.ntmps49
  go_wp2_with fail
  refine (l01Ok_any X HW.out _ _ H1.out).mono ?_
  rintro e w1 ⟨rfl, hb1⟩
  have HB1 : Hid (Below w.heap.size w w1) := HB0.out.trans (hb1.mono HB0.out.size)
  have K1 : Hid (CBlk w1 w.heap.size 31 X) := H1.out.below hb1 H1.out.lt
  clear hb1 H1 HB0
  cases hv : okC X
  · have HN := Lib.hid (ip_bad hv)
    clear hv
    go_wp2
    go_ret2
    exact ⟨by rw [HN.out]; first | done | rfl, HB1.out⟩
  · have HN := Lib.hid (ip_ok hv)
    clear hv
    go_wp2_with fail
    refine (l01Pure_any X HW.out w.heap.size 0 _ K1.out.lt K1.out.range).mono ?_
    rintro e w2 ⟨rfl, hb2⟩
    have HB2 : Hid (Below w.heap.size w w2) := HB1.out.trans (hb2.mono HB1.out.size)
    clear hb2
    go_wp2
    go_ret2
    exact ⟨by rw [HN.out]; first | done | rfl, HB2.out⟩

theorem rd_one {w : World} {g B : Nat} {t : TypeId} (x : Crt) (h : CBlk w g t x.1) (hB : g < B) : Rd w B kcells (some ⟨g, 0, none⟩) [x] := fun _ => ⟨g, 0, rfl, hB, fun j v hv => by
  rw [Nat.zero_add, h.cell j]
  simpa [kcells] using hv⟩

set_option maxRecDepth 100000 in
set_option maxHeartbeats 2000000 in
theorem implPure_any (x : Crt) (ad : Nat → Addr) (w : World) (hE : EW 7 w ad) : Calls Tryd.prog 50 #[.agg (ccells x.1).toArray] w fun e w' => e = .returned (ipV x.1) ∧ Below w.heap.size w w' := by
  have HE := Lib.hid hE
  have h1 := CBlk.new w 31 x.1
  have h2 : Below w.heap.size w (w.alloc (.cells (ccells x.1).toArray 31)) := (Below.refl _ w).alloc (Nat.le_refl _) _
  obtain ⟨W0, hW0⟩ : ∃ W0, w.alloc (.cells (ccells x.1).toArray 31) = W0 := ⟨_, rfl⟩
  rw [hW0] at h1 h2
  have H1 := Lib.hid h1
  have H2 := Lib.hid h2
  clear hE h1 h2
  go_enter Tryd.func50, Tryd.ntmps50
  go_wp2_with (first
    | (refine wpList_load_row rfl 31 (.tmp 1) rfl w.heap.size rfl 31 _ (0, 0) _ H1.out Tryd.underlying31 rfl (size_of_crate Tryd.sizeCr _ x.2.1) ?_)
    | (refine wpList_oneCrate rfl 61 31 (.tmp 5) rfl x.1 x.2.1 rfl Tryd.underlying61 Tryd.sizeCr Tryd.zeroCr ?_))
  clear hW0
  have hA : Below W0.heap.size W0 (W0.alloc (.cells (ccells x.1).toArray 31)) := (Below.refl _ W0).alloc (Nat.le_refl _) _
  refine (checkOne_any x.1 x.2 W0.heap.size _ ad _ (CBlk.new W0 31 x.1) (HE.out.below (H2.out.trans (hA.mono H2.out.size)) (Nat.le_refl _))).mono ?_
  rintro e w1 ⟨rfl, hb1⟩
  have hB1 : Below W0.heap.size W0 w1 := hA.trans (hb1.mono hA.size)
  have J1 : Hid (CBlk w1 w.heap.size 31 x.1) := H1.out.below hB1 H1.out.lt
  have J2 : Hid (Below w.heap.size w w1) := H2.out.trans (hB1.mono H2.out.size)
  clear hb1 hA hB1 H1 H2
  cases hv : okC x.1
  · have HN := Lib.hid (ip_bad hv)
    have e1 : chkV ad false = .iface 202 (.pointer (some (ad 5))) := rfl
    rw [e1]
    clear hv e1
    go_wp2_with fail
    refine (codeOf_5 (HE.out.below J2.out (Nat.le_refl _))).mono ?_
    rintro e w2 ⟨rfl, rfl⟩
    go_wp2
    go_ret2
    exact ⟨by rw [HN.out]; first | done | rfl, J2.out⟩
  · have HN := Lib.hid (ip_ok hv)
    have e1 : chkV ad true = .nilIface := rfl
    rw [e1]
    clear hv e1
    go_wp2_with (first
      | (refine wpList_load_row rfl 31 (.tmp 1) rfl w.heap.size rfl 31 _ (0, 0) _ J1.out Tryd.underlying31 rfl (size_of_crate Tryd.sizeCr _ x.2.1) ?_)
      | (refine wpList_oneCrate rfl 61 31 (.tmp 12) rfl x.1 x.2.1 rfl Tryd.underlying61 Tryd.sizeCr Tryd.zeroCr ?_))
    have hA : Below w1.heap.size w1 (w1.alloc (.cells (ccells x.1).toArray 31)) := (Below.refl _ w1).alloc (Nat.le_refl _) _
    have hrd := rd_one (B := (w1.alloc (.cells (ccells x.1).toArray 31)).heap.size) x (CBlk.new w1 31 x.1) (by simp)
    refine (countBottles_any [x] _ _ _ (by simp) hrd).mono ?_
    rintro e w2 ⟨B, n, E, rfl, hB, hn, hown, hhold, hb⟩
    have HB2 : Hid (Below w.heap.size w w2) := J2.out.trans ((hA.trans (hb.mono hA.size)).mono J2.out.size)
    have hsz := size_pure x hown hhold
    have HO := Lib.hid hown
    obtain ⟨sz, hsz2⟩ : ∃ n, Maps.size E = n := ⟨_, rfl⟩
    have hbd := (size_ownsMap hown).1
    rw [hsz2] at hsz hbd
    have hSz := Lib.hid hsz2
    have HSz := Lib.hid hsz
    clear hb hA hrd hown hhold hsz hsz2
    go_wp2_with (at_len; refine wpList_len_own _ rfl (.tmp 14) 110 rfl 29 2 Tryd.underlying110 (plainElem Tryd.prog 2) B n E rfl HO.out ?_)
    rw [hSz.out]
    go_wp2
    go_ret2
    exact ⟨by rw [HN.out, ← HSz.out]; first | done | rfl | (simp <;> omega), HB2.out⟩
end Go.Proofs.YtidfddemcjjgdaaDoor
