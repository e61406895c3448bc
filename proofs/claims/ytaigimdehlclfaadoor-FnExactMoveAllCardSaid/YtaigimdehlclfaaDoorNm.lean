/-
  The contract of the model's MoveAll. Condition: the crate's length, that its numbers and those of the moves fit their kinds.
-/
import Derived.Test.YtaigimdehlclfaaDoorMt
namespace Go.Proofs.YtaigimdehlclfaaDoor
open Go.ChangeShapes Go.WideShapes Go.ChangeAt Go.RowKit Go.Deep

theorem swTo_wfM {bs : List Bot} (h : WfC bs) {xs : List Swp} {k : Nat} (hs : MvTo bs xs k) : WfC (swTo bs xs k) := hs.can.wf h
theorem maL_wf {bs : List Bot} (h : WfC bs) (xs : List Swp) : WfC (maL bs xs) := by
  unfold maL
  split
  · rename_i h0
    suffices hs : ∀ k, k ≤ xs.length → MvTo bs xs k from swTo_wfM h (hs _ (Nat.le_refl _))
    intro k hk
    induction k with
    | zero => exact fun j s hj => by omega
    | succ k ih =>
      have hk' : k < xs.length := by omega
      have hx : xs[k]? = some xs[k] := List.getElem?_eq_getElem hk'
      have hm := ih (by omega)
      refine hm.step hx ?_
      by_cases hz : mvC (swTo bs xs k) xs[k] = 0
      · exact hz
      · have hg := mvG_no hm hx hz
        cases hok : okC bs
        · rw [maC_bad xs hok] at h0; cases h0
        · by_cases hl : 60 < xs.length
          · rw [maC_long hok hl] at h0; cases h0
          · rw [maC_ok hok hl, hg] at h0; exact h0
  · exact wfNo

set_option maxRecDepth 100000 in
set_option maxHeartbeats 4000000 in
theorem specMoveAll_any (bs : List Bot) (hwf : WfC bs) (xs : List Swp) (hxs : ∀ x ∈ xs, wfS x) (A : Option Addr) (c : Nat) (w : World) (hl : xs.length ≤ 1048576) (hr : Rd w w.heap.size scells A xs) :
    Calls Tryd.prog 5 #[.agg (ccells bs).toArray, .slice A xs.length c] w
    fun e w' => e = .returned (ccV (maL bs xs) (maC bs xs)) ∧ Below w.heap.size w w' := by
  have HW := Lib.hid hwf
  have HX := Lib.hid hxs
  have HR := Lib.hid hr
  clear hwf hr hxs
  have h1 : CBlk ((w.alloc (.cells (ccells bs).toArray 30)).alloc (.cells #[.int .u8 0, .int .i16 0, .int .u8 0, .int .i16 0, .int .u8 0, .int .i16 0, .int .u8 0, .int .i16 0, .int .u8 0, .int .i16 0, .int .u8 0, .int .i16 0, .int .u8 0, .int .i16 0, .int .u8 0, .int .i16 0, .int .u8 0, .int .i16 0, .int .u8 0, .int .i16 0, .int .u8 0, .int .i16 0, .int .u8 0, .int .i16 0] 30)) w.heap.size 30 bs := (CBlk.new w _ bs).alloc _
  have h3 : CBlk ((w.alloc (.cells (ccells bs).toArray 30)).alloc (.cells #[.int .u8 0, .int .i16 0, .int .u8 0, .int .i16 0, .int .u8 0, .int .i16 0, .int .u8 0, .int .i16 0, .int .u8 0, .int .i16 0, .int .u8 0, .int .i16 0, .int .u8 0, .int .i16 0, .int .u8 0, .int .i16 0, .int .u8 0, .int .i16 0, .int .u8 0, .int .i16 0, .int .u8 0, .int .i16 0, .int .u8 0, .int .i16 0] 30)) (w.heap.size + 1) 30 noB := CBlk.new' (by simp) rfl
  have hb : Below w.heap.size w ((w.alloc (.cells (ccells bs).toArray 30)).alloc (.cells #[.int .u8 0, .int .i16 0, .int .u8 0, .int .i16 0, .int .u8 0, .int .i16 0, .int .u8 0, .int .i16 0, .int .u8 0, .int .i16 0, .int .u8 0, .int .i16 0, .int .u8 0, .int .i16 0, .int .u8 0, .int .i16 0, .int .u8 0, .int .i16 0, .int .u8 0, .int .i16 0, .int .u8 0, .int .i16 0, .int .u8 0, .int .i16 0] 30)) := (by repeat (first | exact Below.refl _ _ | refine Below.drew ?_ | refine Below.alloc ?_ (by simp <;> omega) _ | refine Below.setCell ?_ (by simp <;> omega) _))
  obtain ⟨W1, hW1⟩ : ∃ W1, ((w.alloc (.cells (ccells bs).toArray 30)).alloc (.cells #[.int .u8 0, .int .i16 0, .int .u8 0, .int .i16 0, .int .u8 0, .int .i16 0, .int .u8 0, .int .i16 0, .int .u8 0, .int .i16 0, .int .u8 0, .int .i16 0, .int .u8 0, .int .i16 0, .int .u8 0, .int .i16 0, .int .u8 0, .int .i16 0, .int .u8 0, .int .i16 0, .int .u8 0, .int .i16 0, .int .u8 0, .int .i16 0] 30)) = W1 := ⟨_, rfl⟩
  rw [hW1] at h1 h3 hb
  have H1 := Lib.hid h1
  have H3 := Lib.hid h3
  have HB := Lib.hid hb
  clear h1 h3 hb
  go_enter Tryd.func5, Tryd.ntmps5
  go_wp2_with fail
  clear hW1
  refine (l01Ok_any bs HW.out _ _ H1.out).mono ?_
  rintro e w1 ⟨rfl, hb1⟩
  have HB1 : Hid (Below w.heap.size w w1) := HB.out.trans (hb1.mono HB.out.size)
  have K1 : Hid (CBlk w1 w.heap.size 30 bs) := H1.out.below hb1 H1.out.lt
  have K3 : Hid (CBlk w1 (w.heap.size + 1) 30 noB) := H3.out.below hb1 H3.out.lt
  clear hb1 H1 H3 HB
  cases hok : okC bs
  · have hc := maC_bad xs hok
    have hl := maL_no hc (by decide)
    have HC := Lib.hid hc
    have HN := Lib.hid hl
    clear hc hl hok
    go_wp2_with (first
      | (refine wpList_store_row rfl 30 (.tmp 4) (.tmp 8) rfl (w.heap.size + 1) (ccells noB).toArray rfl rfl 30 _ K3.out (size_of_crate Tryd.sizeCr _ rfl) rfl (ccells_one _) ?_)
      | (refine wpList_store_row rfl 30 (.tmp 4) (.tmp 9) rfl (w.heap.size + 1) (ccells noB).toArray rfl rfl 30 _ K3.out (size_of_crate Tryd.sizeCr _ rfl) rfl (ccells_one _) ?_)
      | (refine wpList_store_row rfl 30 (.tmp 4) (.tmp 10) rfl (w.heap.size + 1) (ccells noB).toArray rfl rfl 30 _ K3.out (size_of_crate Tryd.sizeCr _ rfl) rfl (ccells_one _) ?_)
      | (refine wpList_store_row rfl 30 (.tmp 4) (.tmp 11) rfl (w.heap.size + 1) (ccells noB).toArray rfl rfl 30 _ K3.out (size_of_crate Tryd.sizeCr _ rfl) rfl (ccells_one _) ?_)
      | (refine wpList_store_row rfl 30 (.tmp 4) (.tmp 12) rfl (w.heap.size + 1) (ccells noB).toArray rfl rfl 30 _ K3.out (size_of_crate Tryd.sizeCr _ rfl) rfl (ccells_one _) ?_)
      | (refine wpList_store_row rfl 30 (.tmp 4) (.tmp 13) rfl (w.heap.size + 1) (ccells noB).toArray rfl rfl 30 _ K3.out (size_of_crate Tryd.sizeCr _ rfl) rfl (ccells_one _) ?_)
      | (refine wpList_store_row rfl 30 (.tmp 4) (.tmp 14) rfl (w.heap.size + 1) (ccells noB).toArray rfl rfl 30 _ K3.out (size_of_crate Tryd.sizeCr _ rfl) rfl (ccells_one _) ?_)
      | (refine wpList_store_row rfl 30 (.tmp 4) (.tmp 15) rfl (w.heap.size + 1) (ccells noB).toArray rfl rfl 30 _ K3.out (size_of_crate Tryd.sizeCr _ rfl) rfl (ccells_one _) ?_)
      | (refine wpList_store_row rfl 30 (.tmp 4) (.tmp 16) rfl (w.heap.size + 1) (ccells noB).toArray rfl rfl 30 _ K3.out (size_of_crate Tryd.sizeCr _ rfl) rfl (ccells_one _) ?_)
      | (refine wpList_store_row rfl 30 (.tmp 4) (.tmp 17) rfl (w.heap.size + 1) (ccells noB).toArray rfl rfl 30 _ K3.out (size_of_crate Tryd.sizeCr _ rfl) rfl (ccells_one _) ?_)
      | (refine wpList_store_row rfl 30 (.tmp 4) (.tmp 18) rfl (w.heap.size + 1) (ccells noB).toArray rfl rfl 30 _ K3.out (size_of_crate Tryd.sizeCr _ rfl) rfl (ccells_one _) ?_)
      | (refine wpList_store_row rfl 30 (.tmp 4) (.tmp 19) rfl (w.heap.size + 1) (ccells noB).toArray rfl rfl 30 _ K3.out (size_of_crate Tryd.sizeCr _ rfl) rfl (ccells_one _) ?_))
    exact bodyPost_ret (v := ccV noB 1) (results_ctS (v2 := .int .i64 1) rfl _ (by rfl) _ _ 30 _ (0, 0) _ rfl (K3.out.setRow (Y := noB)) Tryd.underlying30 rfl (size_of_crate Tryd.sizeCr _ rfl)) rfl ⟨by rw [HC.out, HN.out], Below.setRow HB1.out _ _ (by omega)⟩
  have Hok := Lib.hid hok
  clear hok
  by_cases hlong : 60 < xs.length
  · have hc := maC_long Hok.out hlong
    have hl := maL_no hc (by decide)
    have HC := Lib.hid hc
    have HN := Lib.hid hl
    clear hc hl
    have hlong2 : (60 : Int) < xs.length := by omega
    go_wp2_with (first
      | (refine wpList_store_row rfl 30 (.tmp 4) (.tmp 8) rfl (w.heap.size + 1) (ccells noB).toArray rfl rfl 30 _ K3.out (size_of_crate Tryd.sizeCr _ rfl) rfl (ccells_one _) ?_)
      | (refine wpList_store_row rfl 30 (.tmp 4) (.tmp 9) rfl (w.heap.size + 1) (ccells noB).toArray rfl rfl 30 _ K3.out (size_of_crate Tryd.sizeCr _ rfl) rfl (ccells_one _) ?_)
      | (refine wpList_store_row rfl 30 (.tmp 4) (.tmp 10) rfl (w.heap.size + 1) (ccells noB).toArray rfl rfl 30 _ K3.out (size_of_crate Tryd.sizeCr _ rfl) rfl (ccells_one _) ?_)
      | (refine wpList_store_row rfl 30 (.tmp 4) (.tmp 11) rfl (w.heap.size + 1) (ccells noB).toArray rfl rfl 30 _ K3.out (size_of_crate Tryd.sizeCr _ rfl) rfl (ccells_one _) ?_)
      | (refine wpList_store_row rfl 30 (.tmp 4) (.tmp 12) rfl (w.heap.size + 1) (ccells noB).toArray rfl rfl 30 _ K3.out (size_of_crate Tryd.sizeCr _ rfl) rfl (ccells_one _) ?_)
      | (refine wpList_store_row rfl 30 (.tmp 4) (.tmp 13) rfl (w.heap.size + 1) (ccells noB).toArray rfl rfl 30 _ K3.out (size_of_crate Tryd.sizeCr _ rfl) rfl (ccells_one _) ?_)
      | (refine wpList_store_row rfl 30 (.tmp 4) (.tmp 14) rfl (w.heap.size + 1) (ccells noB).toArray rfl rfl 30 _ K3.out (size_of_crate Tryd.sizeCr _ rfl) rfl (ccells_one _) ?_)
      | (refine wpList_store_row rfl 30 (.tmp 4) (.tmp 15) rfl (w.heap.size + 1) (ccells noB).toArray rfl rfl 30 _ K3.out (size_of_crate Tryd.sizeCr _ rfl) rfl (ccells_one _) ?_)
      | (refine wpList_store_row rfl 30 (.tmp 4) (.tmp 16) rfl (w.heap.size + 1) (ccells noB).toArray rfl rfl 30 _ K3.out (size_of_crate Tryd.sizeCr _ rfl) rfl (ccells_one _) ?_)
      | (refine wpList_store_row rfl 30 (.tmp 4) (.tmp 17) rfl (w.heap.size + 1) (ccells noB).toArray rfl rfl 30 _ K3.out (size_of_crate Tryd.sizeCr _ rfl) rfl (ccells_one _) ?_)
      | (refine wpList_store_row rfl 30 (.tmp 4) (.tmp 18) rfl (w.heap.size + 1) (ccells noB).toArray rfl rfl 30 _ K3.out (size_of_crate Tryd.sizeCr _ rfl) rfl (ccells_one _) ?_)
      | (refine wpList_store_row rfl 30 (.tmp 4) (.tmp 19) rfl (w.heap.size + 1) (ccells noB).toArray rfl rfl 30 _ K3.out (size_of_crate Tryd.sizeCr _ rfl) rfl (ccells_one _) ?_))
    exact bodyPost_ret (v := ccV noB 3) (results_ctS (v2 := .int .i64 3) rfl _ (by rfl) _ _ 30 _ (0, 0) _ rfl (K3.out.setRow (Y := noB)) Tryd.underlying30 rfl (size_of_crate Tryd.sizeCr _ rfl)) rfl ⟨by rw [HC.out, HN.out], Below.setRow HB1.out _ _ (by omega)⟩
  have hn0 : ¬ (60 : Int) < xs.length := by omega
  go_wp2_with fail
  go_loopw [6] (fun i wr => ∃ k : Nat, k ≤ xs.length ∧ i = .int .i64 k ∧ MvTo bs xs k ∧ CBlk wr w.heap.size 30 (swTo bs xs k) ∧ CBlk wr (w.heap.size + 1) 30 noB ∧ Below w.heap.size w wr) (fun i _ => xs.length - (intOf i).toNat)
  case atStart => exact ⟨0, by omega, rfl, fun j s h => by omega, K1.out, K3.out, HB1.out⟩
  case round =>
    clear K1 K3 HB1
    obtain ⟨k, hk, rfl, q1, q2, q3, q4⟩ := hrel
    have Q1 := Lib.hid q1
    have Q2 := Lib.hid q2
    have Q3 := Lib.hid q3
    have Q4 := Lib.hid q4
    have QW := Lib.hid (swTo_wfM HW.out q1)
    clear q1 q2 q3 q4
    by_cases hlt : k < xs.length
    · obtain ⟨⟨x, y⟩, hx⟩ : ∃ x, xs[k]? = some x := ⟨_, List.getElem?_eq_getElem hlt⟩
      have hwx := Lib.hid (HX.out _ (List.mem_of_getElem? hx))
      obtain ⟨b, o, rfl, hbl, hrow⟩ := (HR.out.below (Nat.le_refl _) Q4.out).at_ scells_length hx
      obtain ⟨e1, e2⟩ := rowS hrow
      have hk0 : (0 : Int) ≤ (k : Int) := Int.natCast_nonneg _
      have hk8 : (k : Int) < xs.length := by omega
      have HXk := Lib.hid hx
      clear hx hrow hbl
      go_wp2_with fail
      refine (l03Moved_any _ QW.out x y hwx.out w.heap.size _ Q2.out).mono ?_
      rintro e w2 ⟨rfl, hc2, hg⟩
      have P2 := Lib.hid hc2
      have P3 : Hid (CBlk w2 (w.heap.size + 1) 30 noB) := Q3.out.gb hg (by omega)
      have P4 : Hid (Below w.heap.size w w2) := Q4.out.grown hg Q4.out.size (fun j hj => by cases hj; exact Nat.le_refl _)
      clear hc2 hg e1 e2 Q2 Q3 Q4
      by_cases h0 : mvC (swTo bs xs k) (x, y) = 0
      · have HS1 := Lib.hid (Q1.out.step HXk.out h0)
        have HSx := Lib.hid (swTo_succ (X := bs) HXk.out)
        have hm := mvR_of h0
        rw [h0]
        rw [hm] at P2
        clear h0 hm
        go_wp2_with fail
        go_roundw
        case rel => exact ⟨k + 1, by omega, by go_num, HS1.out, by rw [HSx.out]; exact P2.out, P3.out, P4.out⟩
        case measure => simp [intOf]; omega
      · have hc : maC bs xs = mvC (swTo bs xs k) (x, y) := (maC_ok Hok.out hlong).trans (mvG_no Q1.out HXk.out h0)
        have hl := maL_no hc h0
        have HC := Lib.hid hc
        have HN := Lib.hid hl
        obtain ⟨cd, hcd⟩ : ∃ cd, mvC (swTo bs xs k) (x, y) = cd := ⟨_, rfl⟩
        rw [hcd] at h0 HC ⊢
        clear hcd hc hl
        have h1 : (cd != 0) = true := by simpa using h0
        go_wp2_with (first
          | (refine wpList_store_row rfl 30 (.tmp 4) (.tmp 12) rfl (w.heap.size + 1) (ccells noB).toArray rfl rfl 30 _ P3.out (size_of_crate Tryd.sizeCr _ rfl) rfl (ccells_one _) ?_)
          | (refine wpList_store_row rfl 30 (.tmp 4) (.tmp 13) rfl (w.heap.size + 1) (ccells noB).toArray rfl rfl 30 _ P3.out (size_of_crate Tryd.sizeCr _ rfl) rfl (ccells_one _) ?_)
          | (refine wpList_store_row rfl 30 (.tmp 4) (.tmp 14) rfl (w.heap.size + 1) (ccells noB).toArray rfl rfl 30 _ P3.out (size_of_crate Tryd.sizeCr _ rfl) rfl (ccells_one _) ?_)
          | (refine wpList_store_row rfl 30 (.tmp 4) (.tmp 15) rfl (w.heap.size + 1) (ccells noB).toArray rfl rfl 30 _ P3.out (size_of_crate Tryd.sizeCr _ rfl) rfl (ccells_one _) ?_)
          | (refine wpList_store_row rfl 30 (.tmp 4) (.tmp 16) rfl (w.heap.size + 1) (ccells noB).toArray rfl rfl 30 _ P3.out (size_of_crate Tryd.sizeCr _ rfl) rfl (ccells_one _) ?_)
          | (refine wpList_store_row rfl 30 (.tmp 4) (.tmp 17) rfl (w.heap.size + 1) (ccells noB).toArray rfl rfl 30 _ P3.out (size_of_crate Tryd.sizeCr _ rfl) rfl (ccells_one _) ?_)
          | (refine wpList_store_row rfl 30 (.tmp 4) (.tmp 18) rfl (w.heap.size + 1) (ccells noB).toArray rfl rfl 30 _ P3.out (size_of_crate Tryd.sizeCr _ rfl) rfl (ccells_one _) ?_)
          | (refine wpList_store_row rfl 30 (.tmp 4) (.tmp 19) rfl (w.heap.size + 1) (ccells noB).toArray rfl rfl 30 _ P3.out (size_of_crate Tryd.sizeCr _ rfl) rfl (ccells_one _) ?_)
          | (refine wpList_store_row rfl 30 (.tmp 4) (.tmp 20) rfl (w.heap.size + 1) (ccells noB).toArray rfl rfl 30 _ P3.out (size_of_crate Tryd.sizeCr _ rfl) rfl (ccells_one _) ?_)
          | (refine wpList_store_row rfl 30 (.tmp 4) (.tmp 21) rfl (w.heap.size + 1) (ccells noB).toArray rfl rfl 30 _ P3.out (size_of_crate Tryd.sizeCr _ rfl) rfl (ccells_one _) ?_)
          | (refine wpList_store_row rfl 30 (.tmp 4) (.tmp 22) rfl (w.heap.size + 1) (ccells noB).toArray rfl rfl 30 _ P3.out (size_of_crate Tryd.sizeCr _ rfl) rfl (ccells_one _) ?_)
          | (refine wpList_store_row rfl 30 (.tmp 4) (.tmp 23) rfl (w.heap.size + 1) (ccells noB).toArray rfl rfl 30 _ P3.out (size_of_crate Tryd.sizeCr _ rfl) rfl (ccells_one _) ?_)
          | (refine wpList_store_row rfl 30 (.tmp 4) (.tmp 24) rfl (w.heap.size + 1) (ccells noB).toArray rfl rfl 30 _ P3.out (size_of_crate Tryd.sizeCr _ rfl) rfl (ccells_one _) ?_)
          | (refine wpList_store_row rfl 30 (.tmp 4) (.tmp 25) rfl (w.heap.size + 1) (ccells noB).toArray rfl rfl 30 _ P3.out (size_of_crate Tryd.sizeCr _ rfl) rfl (ccells_one _) ?_)
          | (refine wpList_store_row rfl 30 (.tmp 4) (.tmp 26) rfl (w.heap.size + 1) (ccells noB).toArray rfl rfl 30 _ P3.out (size_of_crate Tryd.sizeCr _ rfl) rfl (ccells_one _) ?_)
          | (refine wpList_store_row rfl 30 (.tmp 4) (.tmp 27) rfl (w.heap.size + 1) (ccells noB).toArray rfl rfl 30 _ P3.out (size_of_crate Tryd.sizeCr _ rfl) rfl (ccells_one _) ?_)
          | (refine wpList_store_row rfl 30 (.tmp 4) (.tmp 28) rfl (w.heap.size + 1) (ccells noB).toArray rfl rfl 30 _ P3.out (size_of_crate Tryd.sizeCr _ rfl) rfl (ccells_one _) ?_)
          | (refine wpList_store_row rfl 30 (.tmp 4) (.tmp 29) rfl (w.heap.size + 1) (ccells noB).toArray rfl rfl 30 _ P3.out (size_of_crate Tryd.sizeCr _ rfl) rfl (ccells_one _) ?_)
          | (refine wpList_store_row rfl 30 (.tmp 4) (.tmp 30) rfl (w.heap.size + 1) (ccells noB).toArray rfl rfl 30 _ P3.out (size_of_crate Tryd.sizeCr _ rfl) rfl (ccells_one _) ?_)
          | (refine wpList_store_row rfl 30 (.tmp 4) (.tmp 31) rfl (w.heap.size + 1) (ccells noB).toArray rfl rfl 30 _ P3.out (size_of_crate Tryd.sizeCr _ rfl) rfl (ccells_one _) ?_))
        exact bodyPost_ret (v := ccV noB cd) (results_ctS (v2 := .int .i64 cd) rfl _ (by rfl) _ _ 30 _ (0, 0) _ rfl (P3.out.setRow (Y := noB)) Tryd.underlying30 rfl (size_of_crate Tryd.sizeCr _ rfl)) rfl ⟨by rw [HC.out, HN.out], Below.setRow P4.out _ _ (by omega)⟩
    · obtain rfl : k = xs.length := by omega
      have hc : maC bs xs = 0 := (maC_ok Hok.out hlong).trans (mvG_all Q1.out)
      have hl : maL bs xs = swTo bs xs xs.length := by rw [maL, if_pos hc]
      have QL := Lib.hid QW.out.1
      obtain ⟨X, hX⟩ : ∃ X, swTo bs xs xs.length = X := ⟨_, rfl⟩
      rw [hX] at Q2 QL hl
      have HC := Lib.hid hc
      have HN := Lib.hid hl
      clear hX hc hl QW
      go_wp2_with (first
        | (refine wpList_load_row rfl 30 (.tmp 2) rfl w.heap.size rfl 30 _ (0, 0) _ Q2.out Tryd.underlying30 rfl (size_of_crate Tryd.sizeCr _ QL.out) ?_)
        | (refine wpList_store_row rfl 30 (.tmp 4) (.tmp 12) rfl (w.heap.size + 1) _ rfl rfl 30 _ Q3.out (size_of_crate Tryd.sizeCr _ QL.out) (by rw [ccells_size _ QL.out]; rfl) (ccells_one _) ?_)
        | (refine wpList_store_row rfl 30 (.tmp 4) (.tmp 13) rfl (w.heap.size + 1) _ rfl rfl 30 _ Q3.out (size_of_crate Tryd.sizeCr _ QL.out) (by rw [ccells_size _ QL.out]; rfl) (ccells_one _) ?_)
        | (refine wpList_store_row rfl 30 (.tmp 4) (.tmp 14) rfl (w.heap.size + 1) _ rfl rfl 30 _ Q3.out (size_of_crate Tryd.sizeCr _ QL.out) (by rw [ccells_size _ QL.out]; rfl) (ccells_one _) ?_)
        | (refine wpList_store_row rfl 30 (.tmp 4) (.tmp 15) rfl (w.heap.size + 1) _ rfl rfl 30 _ Q3.out (size_of_crate Tryd.sizeCr _ QL.out) (by rw [ccells_size _ QL.out]; rfl) (ccells_one _) ?_)
        | (refine wpList_store_row rfl 30 (.tmp 4) (.tmp 16) rfl (w.heap.size + 1) _ rfl rfl 30 _ Q3.out (size_of_crate Tryd.sizeCr _ QL.out) (by rw [ccells_size _ QL.out]; rfl) (ccells_one _) ?_)
        | (refine wpList_store_row rfl 30 (.tmp 4) (.tmp 17) rfl (w.heap.size + 1) _ rfl rfl 30 _ Q3.out (size_of_crate Tryd.sizeCr _ QL.out) (by rw [ccells_size _ QL.out]; rfl) (ccells_one _) ?_)
        | (refine wpList_store_row rfl 30 (.tmp 4) (.tmp 18) rfl (w.heap.size + 1) _ rfl rfl 30 _ Q3.out (size_of_crate Tryd.sizeCr _ QL.out) (by rw [ccells_size _ QL.out]; rfl) (ccells_one _) ?_)
        | (refine wpList_store_row rfl 30 (.tmp 4) (.tmp 19) rfl (w.heap.size + 1) _ rfl rfl 30 _ Q3.out (size_of_crate Tryd.sizeCr _ QL.out) (by rw [ccells_size _ QL.out]; rfl) (ccells_one _) ?_)
        | (refine wpList_store_row rfl 30 (.tmp 4) (.tmp 20) rfl (w.heap.size + 1) _ rfl rfl 30 _ Q3.out (size_of_crate Tryd.sizeCr _ QL.out) (by rw [ccells_size _ QL.out]; rfl) (ccells_one _) ?_)
        | (refine wpList_store_row rfl 30 (.tmp 4) (.tmp 21) rfl (w.heap.size + 1) _ rfl rfl 30 _ Q3.out (size_of_crate Tryd.sizeCr _ QL.out) (by rw [ccells_size _ QL.out]; rfl) (ccells_one _) ?_)
        | (refine wpList_store_row rfl 30 (.tmp 4) (.tmp 22) rfl (w.heap.size + 1) _ rfl rfl 30 _ Q3.out (size_of_crate Tryd.sizeCr _ QL.out) (by rw [ccells_size _ QL.out]; rfl) (ccells_one _) ?_)
        | (refine wpList_store_row rfl 30 (.tmp 4) (.tmp 23) rfl (w.heap.size + 1) _ rfl rfl 30 _ Q3.out (size_of_crate Tryd.sizeCr _ QL.out) (by rw [ccells_size _ QL.out]; rfl) (ccells_one _) ?_)
        | (refine wpList_store_row rfl 30 (.tmp 4) (.tmp 24) rfl (w.heap.size + 1) _ rfl rfl 30 _ Q3.out (size_of_crate Tryd.sizeCr _ QL.out) (by rw [ccells_size _ QL.out]; rfl) (ccells_one _) ?_)
        | (refine wpList_store_row rfl 30 (.tmp 4) (.tmp 25) rfl (w.heap.size + 1) _ rfl rfl 30 _ Q3.out (size_of_crate Tryd.sizeCr _ QL.out) (by rw [ccells_size _ QL.out]; rfl) (ccells_one _) ?_)
        | (refine wpList_store_row rfl 30 (.tmp 4) (.tmp 26) rfl (w.heap.size + 1) _ rfl rfl 30 _ Q3.out (size_of_crate Tryd.sizeCr _ QL.out) (by rw [ccells_size _ QL.out]; rfl) (ccells_one _) ?_)
        | (refine wpList_store_row rfl 30 (.tmp 4) (.tmp 27) rfl (w.heap.size + 1) _ rfl rfl 30 _ Q3.out (size_of_crate Tryd.sizeCr _ QL.out) (by rw [ccells_size _ QL.out]; rfl) (ccells_one _) ?_)
        | (refine wpList_store_row rfl 30 (.tmp 4) (.tmp 28) rfl (w.heap.size + 1) _ rfl rfl 30 _ Q3.out (size_of_crate Tryd.sizeCr _ QL.out) (by rw [ccells_size _ QL.out]; rfl) (ccells_one _) ?_)
        | (refine wpList_store_row rfl 30 (.tmp 4) (.tmp 29) rfl (w.heap.size + 1) _ rfl rfl 30 _ Q3.out (size_of_crate Tryd.sizeCr _ QL.out) (by rw [ccells_size _ QL.out]; rfl) (ccells_one _) ?_)
        | (refine wpList_store_row rfl 30 (.tmp 4) (.tmp 30) rfl (w.heap.size + 1) _ rfl rfl 30 _ Q3.out (size_of_crate Tryd.sizeCr _ QL.out) (by rw [ccells_size _ QL.out]; rfl) (ccells_one _) ?_)
        | (refine wpList_store_row rfl 30 (.tmp 4) (.tmp 31) rfl (w.heap.size + 1) _ rfl rfl 30 _ Q3.out (size_of_crate Tryd.sizeCr _ QL.out) (by rw [ccells_size _ QL.out]; rfl) (ccells_one _) ?_))
      exact bodyPost_ret (v := ccV X 0) (results_ctS (v2 := .int .i64 0) rfl _ (by rfl) _ _ 30 _ (0, 0) _ rfl (Q3.out.setRow (Y := X)) Tryd.underlying30 rfl (size_of_crate Tryd.sizeCr _ QL.out)) rfl ⟨by rw [HC.out, HN.out], Below.setRow Q4.out _ _ (by omega)⟩
end Go.Proofs.YtaigimdehlclfaaDoor
