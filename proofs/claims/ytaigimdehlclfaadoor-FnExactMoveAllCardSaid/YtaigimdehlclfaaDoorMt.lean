/-
  The contracts of the program's MoveAll and MoveBottle. Condition: the crate's length, that its numbers and those of the moves fit their kinds; the sentinel errors lie as the row lists them.
-/
import Derived.Test.YtaigimdehlclfaaDoorMs
import Derived.Test.YtaigimdehlclfaaDoorMp
import Derived.Test.YtaigimdehlclfaaDoorSt
namespace Go.Proofs.YtaigimdehlclfaaDoor
open Go.ChangeShapes Go.WideShapes Go.ChangeAt Go.RowKit Go.Deep

theorem mvC_vals (X : List Bot) (s : Swp) : mvC X s = 0 ∨ mvC X s = 2 ∨ mvC X s = 4 ∨ mvC X s = 6 := by
  unfold mvC
  split
  · split
    · exact .inr (.inr (.inr rfl))
    split
    · exact .inl rfl
    · exact .inr (.inr (.inl rfl))
  · exact .inr (.inl rfl)
theorem mvG_vals (xs : List Swp) : ∀ X, mvG X xs = 0 ∨ mvG X xs = 2 ∨ mvG X xs = 4 ∨ mvG X xs = 6 := by
  induction xs with
  | nil => exact fun X => .inl rfl
  | cons s r ih =>
    intro X
    rw [mvG]
    split
    · exact ih _
    · exact mvC_vals X s
theorem codeOf_mvE {w : World} {ad : Nat → Addr} {c : Int} (hc : c = 0 ∨ c = 2 ∨ c = 4 ∨ c = 6) (hE : EW 7 w ad) : Calls Tryd.prog 18 #[mvE ad c] w fun e w' => e = .returned (.int .i64 c) ∧ w = w' := by
  rcases hc with rfl | rfl | rfl | rfl
  · exact codeOf_nil w
  · exact codeOf_0 (hE.less (by omega))
  · exact codeOf_2 (hE.less (by omega))
  · exact codeOf_4 (hE.less (by omega))
/-- The code of moves in a crate. -/
def maC (bs : List Bot) (xs : List Swp) : Int := if okC bs = true then (if 60 < xs.length then 3 else mvG bs xs) else 1
/-- The crate that MoveAll answers. -/
def maL (bs : List Bot) (xs : List Swp) : List Bot := if maC bs xs = 0 then swTo bs xs xs.length else noB
theorem maC_bad {bs : List Bot} (xs : List Swp) (h : okC bs = false) : maC bs xs = 1 := by simp [maC, h]
theorem maC_long {bs : List Bot} {xs : List Swp} (h : okC bs = true) (hl : 60 < xs.length) : maC bs xs = 3 := by simp [maC, h, hl]
theorem maC_ok {bs : List Bot} {xs : List Swp} (h : okC bs = true) (hl : ¬ 60 < xs.length) : maC bs xs = mvG bs xs := by simp [maC, h, hl]
theorem maL_no {bs : List Bot} {xs : List Swp} {c : Int} (h : maC bs xs = c) (hc : c ≠ 0) : maL bs xs = noB := by rw [maL, if_neg (by rw [h]; exact hc)]
theorem maL_ok {bs : List Bot} {xs : List Swp} (h : maC bs xs = mvG bs xs) : maL bs xs = mvL bs xs := by rw [maL, mvL, h]
theorem mvL_length {bs : List Bot} (h : WfC bs) (xs : List Swp) : (mvL bs xs).length = 12 := by
  unfold mvL
  split
  · suffices hs : ∀ k, (swTo bs xs k).length = 12 from hs _
    intro k
    induction k with
    | zero => exact h.1
    | succ k ih =>
      cases hk : xs[k]? with
      | none => simp only [swTo, hk]; exact ih
      | some s => rw [swTo_succ hk, swB, List.length_set, List.length_set]; exact ih
  · rfl
theorem maC_one {bs : List Bot} (s : Swp) : maC bs [s] = mbC bs s := by
  unfold maC mbC
  rw [mvG_one]; rfl
theorem maL_one {bs : List Bot} (s : Swp) : maL bs [s] = mbL bs s := by
  rw [maL, mbL, maC_one]
  split
  · rename_i h
    cases hok : okC bs
    · rw [mbC_bad s hok] at h; cases h
    · rw [mbC_ok s hok] at h
      rw [mvR_of h]; rfl
  · rfl

set_option maxRecDepth 100000 in
set_option maxHeartbeats 4000000 in
theorem implMoveAll_any (bs : List Bot) (hwf : WfC bs) (xs : List Swp) (hxs : ∀ x ∈ xs, wfS x) (A : Option Addr) (c : Nat) (ad : Nat → Addr) (w : World) (hl : xs.length ≤ 1048576) (hr : Rd w w.heap.size scells A xs) (hE : EW 7 w ad) :
    Calls Tryd.prog 8 #[.agg (ccells bs).toArray, .slice A xs.length c] w
    fun e w' => e = .returned (ccV (maL bs xs) (maC bs xs)) ∧ Below w.heap.size w w' := by
  have HW := Lib.hid hwf
  have HX := Lib.hid hxs
  have HR := Lib.hid hr
  have HE := Lib.hid hE
  clear hwf hr hxs hE
  have h1 : CBlk ((w.alloc (.cells (ccells bs).toArray 30)).alloc (.cells #[.int .u8 0, .int .i16 0, .int .u8 0, .int .i16 0, .int .u8 0, .int .i16 0, .int .u8 0, .int .i16 0, .int .u8 0, .int .i16 0, .int .u8 0, .int .i16 0, .int .u8 0, .int .i16 0, .int .u8 0, .int .i16 0, .int .u8 0, .int .i16 0, .int .u8 0, .int .i16 0, .int .u8 0, .int .i16 0, .int .u8 0, .int .i16 0] 30)) w.heap.size 30 bs := (CBlk.new w _ bs).alloc _
  have h3 : CBlk ((w.alloc (.cells (ccells bs).toArray 30)).alloc (.cells #[.int .u8 0, .int .i16 0, .int .u8 0, .int .i16 0, .int .u8 0, .int .i16 0, .int .u8 0, .int .i16 0, .int .u8 0, .int .i16 0, .int .u8 0, .int .i16 0, .int .u8 0, .int .i16 0, .int .u8 0, .int .i16 0, .int .u8 0, .int .i16 0, .int .u8 0, .int .i16 0, .int .u8 0, .int .i16 0, .int .u8 0, .int .i16 0] 30)) (w.heap.size + 1) 30 noB := CBlk.new' (by simp) rfl
  have hb : Below w.heap.size w ((w.alloc (.cells (ccells bs).toArray 30)).alloc (.cells #[.int .u8 0, .int .i16 0, .int .u8 0, .int .i16 0, .int .u8 0, .int .i16 0, .int .u8 0, .int .i16 0, .int .u8 0, .int .i16 0, .int .u8 0, .int .i16 0, .int .u8 0, .int .i16 0, .int .u8 0, .int .i16 0, .int .u8 0, .int .i16 0, .int .u8 0, .int .i16 0, .int .u8 0, .int .i16 0, .int .u8 0, .int .i16 0] 30)) := (by repeat (first | exact Below.refl _ _ | refine Below.drew ?_ | refine Below.alloc ?_ (by simp <;> omega) _ | refine Below.setCell ?_ (by simp <;> omega) _))
  obtain ⟨W1, hW1⟩ : ∃ W1, ((w.alloc (.cells (ccells bs).toArray 30)).alloc (.cells #[.int .u8 0, .int .i16 0, .int .u8 0, .int .i16 0, .int .u8 0, .int .i16 0, .int .u8 0, .int .i16 0, .int .u8 0, .int .i16 0, .int .u8 0, .int .i16 0, .int .u8 0, .int .i16 0, .int .u8 0, .int .i16 0, .int .u8 0, .int .i16 0, .int .u8 0, .int .i16 0, .int .u8 0, .int .i16 0, .int .u8 0, .int .i16 0] 30)) = W1 := ⟨_, rfl⟩
  rw [hW1] at h1 h3 hb
  have H1 := Lib.hid h1
  have H3 := Lib.hid h3
  have HB := Lib.hid hb
  clear h1 h3 hb
  go_enter Tryd.func8, Tryd.ntmps8
  go_wp2_with (first
    | (refine wpList_load_row rfl 30 (.tmp 2) rfl w.heap.size rfl 30 _ (0, 0) _ H1.out Tryd.underlying30 rfl (size_of_crate Tryd.sizeCr _ HW.out.1) ?_)
    | (refine wpList_oneCrate rfl 61 30 (.tmp 9) rfl bs HW.out.1 rfl Tryd.underlying61 Tryd.sizeCr Tryd.zeroCr ?_))
  clear hW1
  have hA : Below W1.heap.size W1 (W1.alloc (.cells (ccells bs).toArray 30)) := (Below.refl _ W1).alloc (Nat.le_refl _) _
  refine (checkOne_any bs HW.out W1.heap.size _ ad _ (CBlk.new W1 30 bs) (HE.out.below (HB.out.trans (hA.mono HB.out.size)) (Nat.le_refl _))).mono ?_
  rintro e w1 ⟨rfl, hb1⟩
  have hB1 : Below W1.heap.size W1 w1 := hA.trans (hb1.mono hA.size)
  have HB1 : Hid (Below w.heap.size w w1) := HB.out.trans (hB1.mono HB.out.size)
  have J1 : Hid (CBlk w1 w.heap.size 30 bs) := H1.out.below hB1 H1.out.lt
  have J3 : Hid (CBlk w1 (w.heap.size + 1) 30 noB) := H3.out.below hB1 H3.out.lt
  clear hb1 hA hB1 H1 H3 HB
  have hp0 := chkV_isE ad (okC bs)
  have hp1 := erV_isE ad 1 (!decide (60 < xs.length))
  obtain ⟨v0, hv0⟩ : ∃ v, chkV ad (okC bs) = v := ⟨_, rfl⟩
  rw [hv0] at hp0 ⊢
  have V0 := Lib.hid hv0
  have P0 := Lib.hid hp0
  have P1 := Lib.hid hp1
  clear hv0 hp0 hp1
  go_wp2_with fail
  refine (checkMany_any A xs.length c ad _ (HE.out.below HB1.out (Nat.le_refl _))).mono ?_
  rintro e w2 ⟨rfl, rfl⟩
  obtain ⟨v1, hv1⟩ : ∃ v, erV ad 1 (!decide (60 < xs.length)) = v := ⟨_, rfl⟩
  rw [hv1] at P1 ⊢
  have V1 := Lib.hid hv1
  clear hv1
  go_wp2_with (refine wpList_twoErrs rfl (.tmp 11) (.tmp 13) rfl P0.out P1.out rfl rfl ?_)
  have q0 := new_cell2 w1 v0 v1 49
  have hB3 : Below w.heap.size w (w1.alloc (.cells #[v0, v1] 49)) := HB1.out.alloc HB1.out.size _
  have hK1 : CBlk (w1.alloc (.cells #[v0, v1] 49)) w.heap.size 30 bs := J1.out.alloc _
  have hK3 : CBlk (w1.alloc (.cells #[v0, v1] 49)) (w.heap.size + 1) 30 noB := J3.out.alloc _
  refine (first2_any P0.out P1.out _ _ _ q0.1 q0.2).mono ?_
  rintro e w3 ⟨rfl, hw3⟩
  rw [hw3] at hB3 hK1 hK3
  have HB3 := Lib.hid hB3
  have K1 := Lib.hid hK1
  have K3 := Lib.hid hK3
  clear q0 hB3 hK1 hK3 hw3 J1 J3 HB1
  cases hok : okC bs
  · have hv : firstV v0 v1 = .iface 93 (.pointer (some (ad 5))) := by rw [← V0.out, hok]; rfl
    rw [hv]
    have hc := maC_bad xs hok
    have hn := maL_no hc (by decide)
    have HC := Lib.hid hc
    have HN := Lib.hid hn
    clear hv hc hn hok V0 V1
    go_wp2_with fail
    refine (codeOf_5 ((HE.out.below HB3.out (Nat.le_refl _)))).mono ?_
    rintro e w4 ⟨rfl, rfl⟩
    go_wp2_with (first
      | (refine wpList_store_row rfl 30 (.tmp 4) (.tmp 14) rfl (w.heap.size + 1) (ccells noB).toArray rfl rfl 30 _ K3.out (size_of_crate Tryd.sizeCr _ rfl) rfl (ccells_one _) ?_)
      | (refine wpList_store_row rfl 30 (.tmp 4) (.tmp 15) rfl (w.heap.size + 1) (ccells noB).toArray rfl rfl 30 _ K3.out (size_of_crate Tryd.sizeCr _ rfl) rfl (ccells_one _) ?_)
      | (refine wpList_store_row rfl 30 (.tmp 4) (.tmp 16) rfl (w.heap.size + 1) (ccells noB).toArray rfl rfl 30 _ K3.out (size_of_crate Tryd.sizeCr _ rfl) rfl (ccells_one _) ?_)
      | (refine wpList_store_row rfl 30 (.tmp 4) (.tmp 17) rfl (w.heap.size + 1) (ccells noB).toArray rfl rfl 30 _ K3.out (size_of_crate Tryd.sizeCr _ rfl) rfl (ccells_one _) ?_)
      | (refine wpList_store_row rfl 30 (.tmp 4) (.tmp 18) rfl (w.heap.size + 1) (ccells noB).toArray rfl rfl 30 _ K3.out (size_of_crate Tryd.sizeCr _ rfl) rfl (ccells_one _) ?_)
      | (refine wpList_store_row rfl 30 (.tmp 4) (.tmp 19) rfl (w.heap.size + 1) (ccells noB).toArray rfl rfl 30 _ K3.out (size_of_crate Tryd.sizeCr _ rfl) rfl (ccells_one _) ?_)
      | (refine wpList_store_row rfl 30 (.tmp 4) (.tmp 20) rfl (w.heap.size + 1) (ccells noB).toArray rfl rfl 30 _ K3.out (size_of_crate Tryd.sizeCr _ rfl) rfl (ccells_one _) ?_)
      | (refine wpList_store_row rfl 30 (.tmp 4) (.tmp 21) rfl (w.heap.size + 1) (ccells noB).toArray rfl rfl 30 _ K3.out (size_of_crate Tryd.sizeCr _ rfl) rfl (ccells_one _) ?_))
    exact bodyPost_ret (v := ccV noB 1) (results_ctS (v2 := .int .i64 1) rfl _ (by rfl) _ _ 30 _ (0, 0) _ rfl (K3.out.setRow (Y := noB)) Tryd.underlying30 rfl (size_of_crate Tryd.sizeCr _ rfl)) rfl ⟨by rw [HC.out, HN.out], Below.setRow HB3.out _ _ (by omega)⟩
  have Hok := Lib.hid hok
  have hf : firstV v0 v1 = v1 := by rw [← V0.out, hok]; rfl
  rw [hf]
  clear hok hf V0
  by_cases hlong : 60 < xs.length
  · have hv : v1 = .iface 93 (.pointer (some (ad 1))) := by rw [← V1.out, decide_eq_true hlong]; rfl
    rw [hv]
    have hc := maC_long Hok.out hlong
    have hn := maL_no hc (by decide)
    have HC := Lib.hid hc
    have HN := Lib.hid hn
    clear hv hc hn V1
    go_wp2_with fail
    refine (codeOf_1 ((HE.out.below HB3.out (Nat.le_refl _)).less (by omega))).mono ?_
    rintro e w4 ⟨rfl, rfl⟩
    go_wp2_with (first
      | (refine wpList_store_row rfl 30 (.tmp 4) (.tmp 14) rfl (w.heap.size + 1) (ccells noB).toArray rfl rfl 30 _ K3.out (size_of_crate Tryd.sizeCr _ rfl) rfl (ccells_one _) ?_)
      | (refine wpList_store_row rfl 30 (.tmp 4) (.tmp 15) rfl (w.heap.size + 1) (ccells noB).toArray rfl rfl 30 _ K3.out (size_of_crate Tryd.sizeCr _ rfl) rfl (ccells_one _) ?_)
      | (refine wpList_store_row rfl 30 (.tmp 4) (.tmp 16) rfl (w.heap.size + 1) (ccells noB).toArray rfl rfl 30 _ K3.out (size_of_crate Tryd.sizeCr _ rfl) rfl (ccells_one _) ?_)
      | (refine wpList_store_row rfl 30 (.tmp 4) (.tmp 17) rfl (w.heap.size + 1) (ccells noB).toArray rfl rfl 30 _ K3.out (size_of_crate Tryd.sizeCr _ rfl) rfl (ccells_one _) ?_)
      | (refine wpList_store_row rfl 30 (.tmp 4) (.tmp 18) rfl (w.heap.size + 1) (ccells noB).toArray rfl rfl 30 _ K3.out (size_of_crate Tryd.sizeCr _ rfl) rfl (ccells_one _) ?_)
      | (refine wpList_store_row rfl 30 (.tmp 4) (.tmp 19) rfl (w.heap.size + 1) (ccells noB).toArray rfl rfl 30 _ K3.out (size_of_crate Tryd.sizeCr _ rfl) rfl (ccells_one _) ?_)
      | (refine wpList_store_row rfl 30 (.tmp 4) (.tmp 20) rfl (w.heap.size + 1) (ccells noB).toArray rfl rfl 30 _ K3.out (size_of_crate Tryd.sizeCr _ rfl) rfl (ccells_one _) ?_)
      | (refine wpList_store_row rfl 30 (.tmp 4) (.tmp 21) rfl (w.heap.size + 1) (ccells noB).toArray rfl rfl 30 _ K3.out (size_of_crate Tryd.sizeCr _ rfl) rfl (ccells_one _) ?_))
    exact bodyPost_ret (v := ccV noB 3) (results_ctS (v2 := .int .i64 3) rfl _ (by rfl) _ _ 30 _ (0, 0) _ rfl (K3.out.setRow (Y := noB)) Tryd.underlying30 rfl (size_of_crate Tryd.sizeCr _ rfl)) rfl ⟨by rw [HC.out, HN.out], Below.setRow HB3.out _ _ (by omega)⟩
  · have hv : v1 = .nilIface := by rw [← V1.out, decide_eq_false hlong]; rfl
    rw [hv]
    have hc := maC_ok Hok.out hlong
    have hn := maL_ok hc
    have HC := Lib.hid hc
    have HN := Lib.hid hn
    clear hv hc hn V1 P0 P1
    go_wp2_with (refine wpList_load_row rfl 30 (.tmp 2) rfl w.heap.size rfl 30 _ (0, 0) _ K1.out Tryd.underlying30 rfl (size_of_crate Tryd.sizeCr _ HW.out.1) ?_)
    refine (movedAll_any bs HW.out xs HX.out A c ad _ hl (HR.out.keep HB3.out) (HE.out.below HB3.out (Nat.le_refl _))).mono ?_
    rintro e w4 ⟨rfl, hb4⟩
    have HB4 : Hid (Below w.heap.size w w4) := HB3.out.trans (hb4.mono HB3.out.size)
    have L3 : Hid (CBlk w4 (w.heap.size + 1) 30 noB) := K3.out.below hb4 K3.out.lt
    have QL := Lib.hid (mvL_length HW.out xs)
    have CE := fun W (h : EW 7 W ad) => codeOf_mvE (w := W) (mvG_vals xs bs) h
    clear hb4 K1 K3 HB3
    obtain ⟨v2, hv2⟩ : ∃ v, mvE ad (mvG bs xs) = v := ⟨_, rfl⟩
    simp only [hv2] at CE ⊢
    clear hv2
    have HCE := Lib.hid CE
    clear CE
    obtain ⟨Z, hZ⟩ : ∃ Z, mvL bs xs = Z := ⟨_, rfl⟩
    rw [hZ] at QL HN ⊢
    clear hZ
    have n7 : CBlk (w4.alloc (.cells #[.int .u8 0, .int .i16 0, .int .u8 0, .int .i16 0, .int .u8 0, .int .i16 0, .int .u8 0, .int .i16 0, .int .u8 0, .int .i16 0, .int .u8 0, .int .i16 0, .int .u8 0, .int .i16 0, .int .u8 0, .int .i16 0, .int .u8 0, .int .i16 0, .int .u8 0, .int .i16 0, .int .u8 0, .int .i16 0, .int .u8 0, .int .i16 0] 30)) w4.heap.size 30 noB := CBlk.new' rfl rfl
    have n8 : CBlk ((w4.alloc (.cells #[.int .u8 0, .int .i16 0, .int .u8 0, .int .i16 0, .int .u8 0, .int .i16 0, .int .u8 0, .int .i16 0, .int .u8 0, .int .i16 0, .int .u8 0, .int .i16 0, .int .u8 0, .int .i16 0, .int .u8 0, .int .i16 0, .int .u8 0, .int .i16 0, .int .u8 0, .int .i16 0, .int .u8 0, .int .i16 0, .int .u8 0, .int .i16 0] 30)).setRow w4.heap.size (ccells Z).toArray) w4.heap.size 30 Z := CBlk.setRow n7
    have n3 : CBlk ((w4.alloc (.cells #[.int .u8 0, .int .i16 0, .int .u8 0, .int .i16 0, .int .u8 0, .int .i16 0, .int .u8 0, .int .i16 0, .int .u8 0, .int .i16 0, .int .u8 0, .int .i16 0, .int .u8 0, .int .i16 0, .int .u8 0, .int .i16 0, .int .u8 0, .int .i16 0, .int .u8 0, .int .i16 0, .int .u8 0, .int .i16 0, .int .u8 0, .int .i16 0] 30)).setRow w4.heap.size (ccells Z).toArray) (w.heap.size + 1) 30 noB := (L3.out.alloc _).rowOff (by have := L3.out.lt; omega) _
    have nb : Below w.heap.size w ((w4.alloc (.cells #[.int .u8 0, .int .i16 0, .int .u8 0, .int .i16 0, .int .u8 0, .int .i16 0, .int .u8 0, .int .i16 0, .int .u8 0, .int .i16 0, .int .u8 0, .int .i16 0, .int .u8 0, .int .i16 0, .int .u8 0, .int .i16 0, .int .u8 0, .int .i16 0, .int .u8 0, .int .i16 0, .int .u8 0, .int .i16 0, .int .u8 0, .int .i16 0] 30)).setRow w4.heap.size (ccells Z).toArray) := Below.setRow (HB4.out.alloc HB4.out.size _) _ _ HB4.out.size
    have N7 := Lib.hid n7
    have N8 := Lib.hid n8
    clear n7 n8
    go_wp2_with (first
      | (refine wpList_store_row rfl 30 (.tmp 7) (.tmp 25) rfl w4.heap.size _ rfl rfl 30 _ N7.out (size_of_crate Tryd.sizeCr _ QL.out) (by rw [ccells_size _ QL.out]; rfl) (ccells_one _) ?_)
      | (refine wpList_load_row rfl 30 (.tmp 7) rfl w4.heap.size rfl 30 _ (0, 0) _ N8.out Tryd.underlying30 rfl (size_of_crate Tryd.sizeCr _ QL.out) ?_))
    obtain ⟨W5, hW5⟩ : ∃ W5, (w4.alloc (.cells #[.int .u8 0, .int .i16 0, .int .u8 0, .int .i16 0, .int .u8 0, .int .i16 0, .int .u8 0, .int .i16 0, .int .u8 0, .int .i16 0, .int .u8 0, .int .i16 0, .int .u8 0, .int .i16 0, .int .u8 0, .int .i16 0, .int .u8 0, .int .i16 0, .int .u8 0, .int .i16 0, .int .u8 0, .int .i16 0, .int .u8 0, .int .i16 0] 30)).setRow w4.heap.size (ccells Z).toArray = W5 := ⟨_, rfl⟩
    rw [hW5] at n3 nb ⊢
    have n8 := N8.out
    rw [hW5] at n8
    have N3 := Lib.hid n3
    have NL : Hid (w4.heap.size ≠ w.heap.size + 1) := by have := L3.out.lt; exact (by omega : w4.heap.size ≠ w.heap.size + 1)
    clear n3 hW5 N7 N8 L3 HB4
    refine wp_region_held_drew (S := fun w' => Below w.heap.size w w' ∧ CBlk w' w4.heap.size 30 Z) (by kernel_rfl) ⟨nb.drew, n8.drew⟩ (fun hHeld => ?_)
    clear nb n8
    refine' wpAnyH_take (i := 0) (v := _) rfl (by kernel_rfl) (by kernel_rfl) (by kernel_rfl) (fun _ _ _ h => h) (yieldsIf_load_mid (by rfl) 30 (.tmp 7) rfl w4.heap.size 0 rfl (ccells Z) _ (fun w h => CBlk.range h.2) Tryd.underlying30 rfl (size_of_crate Tryd.sizeCr _ QL.out)) (by assumption) ?_
    try simp only [Act.put, List.getElem_toArray, List.getElem_cons_zero, List.getElem_cons_succ, List.setIfInBounds_toArray, List.set_cons_zero, List.set_cons_succ]
    refine wpAnyH_take (i := 1) (v := v2) rfl (by kernel_rfl) (by kernel_rfl) (by kernel_rfl) (fun _ _ _ h => h) (Or.inl ⟨by rfl, fun w' h => by go_simp⟩) (by assumption) ?_
    try simp only [Act.put, List.getElem_toArray, List.getElem_cons_zero, List.getElem_cons_succ, List.setIfInBounds_toArray, List.set_cons_zero, List.set_cons_succ]
    have n3 : CBlk W5.drew (w.heap.size + 1) 30 noB := N3.out.drew
    obtain ⟨D0, hD0⟩ : ∃ D0, W5.drew = D0 := ⟨_, rfl⟩
    rw [hD0] at hHeld n3 ⊢
    have M3 := Lib.hid n3
    clear hD0 n3 N3
    refine wpAnyH_ready (rs := [2]) (by kernel_rfl) (by simp) ?_
    refine AllReadyH.cons rfl (fun K hK => ?_) AllReadyH.nil
    refine if_wanted rfl ?_
    go_simp
    refine (HCE.out _ (HE.out.below hHeld.1 (Nat.le_refl _))).mono ?_
    rintro e w6 ⟨rfl, rfl⟩
    dsimp only
    refine hK.out _ _ hHeld (fun hHeld => ?_)
    clear hK K
    try simp only [Act.put, List.getElem_toArray, List.getElem_cons_zero, List.getElem_cons_succ, List.setIfInBounds_toArray, List.set_cons_zero, List.set_cons_succ]
    obtain ⟨cd, hcd⟩ : ∃ cd, mvG bs xs = cd := ⟨_, rfl⟩
    rw [hcd] at HC ⊢
    clear hcd HCE
    refine wpAnyH_ready (rs := [3]) (by kernel_rfl) (by simp) ?_
    refine AllReadyH.cons rfl (fun K hK => ?_) AllReadyH.nil
    refine if_wanted rfl (wp_store_row 30 (.tmp 4) (.tmp 27) rfl (w.heap.size + 1) (ccells Z).toArray rfl rfl 30 _ M3.out (size_of_crate Tryd.sizeCr _ QL.out) (by show (ccells noB).toArray.size = _; rw [ccells_size _ QL.out]; rfl) (ccells_one _) ?_)
    refine hK.out _ _ ⟨Below.setRow hHeld.1 _ _ (by omega), hHeld.2.rowOff NL.out _⟩ (fun hHeld => ?_)
    clear hK K
    try simp only [Act.put, List.getElem_toArray, List.getElem_cons_zero, List.getElem_cons_succ, List.setIfInBounds_toArray, List.set_cons_zero, List.set_cons_succ]
    refine wpAnyH_ready (rs := [4]) (by kernel_rfl) (by simp) ?_
    refine AllReadyH.cons rfl (fun K hK => ?_) AllReadyH.nil
    refine if_wanted rfl ?_
    refine wp_assign0 (v := .int .i64 cd) rfl rfl ?_
    refine hK.out _ _ hHeld (fun hHeld => ?_)
    clear hK K
    try simp only [Act.put, List.getElem_toArray, List.getElem_cons_zero, List.getElem_cons_succ, List.setIfInBounds_toArray, List.set_cons_zero, List.set_cons_succ]
    refine wpAnyH_done (by kernel_rfl) ?_ _
    try simp only [Act.put, List.getElem_toArray, List.getElem_cons_zero, List.getElem_cons_succ, List.setIfInBounds_toArray, List.set_cons_zero, List.set_cons_succ]
    go_wp2
    exact bodyPost_ret (v := ccV Z cd) (results_ctS (v2 := .int .i64 cd) rfl _ (by rfl) _ _ 30 _ (0, 0) _ rfl (M3.out.setRow (Y := Z)) Tryd.underlying30 rfl (size_of_crate Tryd.sizeCr _ QL.out)) rfl ⟨by rw [HC.out, HN.out], hHeld.1⟩

end Go.Proofs.YtaigimdehlclfaaDoor
