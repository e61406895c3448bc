/-
  The contract of the program's FillFrom. Condition: the crates' lengths, that their numbers fit their kinds, and that the sentinel errors lie as the row lists them.
-/
import Derived.Test.YtjiihdljchaeiaeDoorFb
import Derived.Test.YtjiihdljchaeiaeDoorQn
import Derived.Test.YtjiihdljchaeiaeDoorIb
import Derived.Test.YtjiihdljchaeiaeDoorFi
import Derived.Test.YtjiihdljchaeiaeDoorFF
import Derived.RangeFuncBox
namespace Go.Proofs.YtjiihdljchaeiaeDoor
open Go.ChangeShapes Go.WideShapes Go.ChangeAt Go.RowKit Go.Deep Go.Shelf
attribute [local go_sem] Oper.semAt_some

theorem isFree_fitsF (n₀ : Nat) (w0 : World) : Fits Tryd.prog n₀ w0 30 #[] eB := fun b W _ _ => isFree_any b.1 b.2 W
theorem cblk_keepO {A B : World} {row : Option Nat} {g : Nat} {t : TypeId} {X : List Bot} (h : CBlk A g t X) (hg : A.grownBy B row) (hr : ∀ r, row = some r → ∃ o : Obj, A.heap[r]? = some o ∧ o.isCells = false) : CBlk B g t X := by
  have hs' : A.heap[g]? = some (.cells (ccells X).toArray t (0, 0)) := h
  exact (hg.block g h.lt (fun e => by obtain ⟨o, ho, hc⟩ := hr g e.symm; rw [hs'] at ho; cases ho; cases hc)).trans hs'
theorem KeepB.setCell {Bf g : Nat} (W : World) (hne : Bf ≠ g) (j : Nat) (u : Value) : KeepB Bf W (W.setCell ⟨g, j, none⟩ u) := ⟨by simp, Below.heap_setCell W ⟨g, j, none⟩ u Bf hne⟩
theorem pl_snoc_pre {bs : List Bot} {pre : List (Pl bs nE)} {x : Pl bs nE} (h : (pre ++ [x]) <+: plTo bs nE 12) : pre <+: plTo bs nE 12 := List.IsPrefix.trans ⟨[x], rfl⟩ h
theorem pl_snoc_at {bs : List Bot} {pre : List (Pl bs nE)} {x : Pl bs nE} (h : (pre ++ [x]) <+: plTo bs nE 12) : pre.length < (usedN bs nE 12).length ∧ (usedN bs nE 12).getD pre.length 0 = x.1 := by
  obtain ⟨t, ht⟩ := h
  unfold usedN
  rw [← ht]
  refine ⟨by simp, ?_⟩
  simp [List.getD_eq_getElem?_getD]
theorem pl_bot {bs : List Bot} (hl : bs.length = 12) (x : Pl bs nE) : x.1 < 12 := by
  have := x.2
  cases h : bs[x.1]? with
  | none => rw [h] at this; simp at this
  | some b => have := (List.getElem?_eq_some_iff.1 h).1; omega
/-- Where the loop stands: crates that the first places give. -/
def FillAt (a b : List Bot) (pre : List (Pl b nE)) (X Y : List Bot) : Prop :=
  pre <+: plTo b nE 12 → X = fillA a b (usedN a eB 12) (usedN b nE 12) pre.length ∧ Y = fillB b (usedN b nE 12) pre.length ∧ pre.length ≤ (usedN a eB 12).length
theorem FillAt.le {a b : List Bot} {pre : List (Pl b nE)} (h : pre <+: plTo b nE 12) : pre.length ≤ (usedN b nE 12).length := by
  have := h.length_le
  simpa [usedN] using this
theorem FillAt.step {a b X Y : List Bot} {pre : List (Pl b nE)} {x : Pl b nE} (ha : a.length = 12) (h : FillAt a b pre X Y) {k : Nat} (hk : fp eB X = k) {c : Bot} (hc : Y[x.1]? = some c) : FillAt a b (pre ++ [x]) (X.set k c) (Y.set x.1 (0, 0)) := by
  intro hp
  obtain ⟨h1, h2, h3⟩ := h (pl_snoc_pre hp)
  obtain ⟨q1, q2⟩ := pl_snoc_at hp
  have hlt : pre.length < (usedN a eB 12).length := by
    by_cases e : pre.length = (usedN a eB 12).length
    · have := fp_full (a := a) (b := b) ha e (by omega)
      rw [← h1, hk] at this; omega
    · omega
  have hf := fp_fill (a := a) (b := b) ha hlt (by omega)
  rw [← h1, hk] at hf
  have hf' : k = (usedN a eB 12).getD pre.length 0 := by omega
  have hn := fillB_next (b := b) q1
  rw [← h2, q2, hc] at hn
  have hn' : c = b.getD x.1 (0, 0) := by simpa using hn
  rw [List.length_append, List.length_singleton]
  refine ⟨?_, ?_, by omega⟩
  · rw [fillA, ← h1, q2, ← hf', hn']
  · rw [fillB, ← h2, q2]
theorem FillAt.full {a b X Y : List Bot} {pre : List (Pl b nE)} {x : Pl b nE} (ha : a.length = 12) (h : FillAt a b pre X Y) (hk : fp eB X = -1) (hp : (pre ++ [x]) <+: plTo b nE 12) : X = fillA a b (usedN a eB 12) (usedN b nE 12) (minN a b) ∧ Y = fillB b (usedN b nE 12) (minN a b) := by
  obtain ⟨h1, h2, h3⟩ := h (pl_snoc_pre hp)
  obtain ⟨q1, q2⟩ := pl_snoc_at hp
  have : pre.length = (usedN a eB 12).length := by
    by_cases e : pre.length < (usedN a eB 12).length
    · have := fp_fill (a := a) (b := b) ha e (by omega)
      rw [← h1, hk] at this; omega
    · omega
  have hm : minN a b = pre.length := by unfold minN; omega
  rw [hm]; exact ⟨h1, h2⟩
theorem FillAt.all {a b X Y : List Bot} (h : FillAt a b (plTo b nE 12) X Y) : X = fillA a b (usedN a eB 12) (usedN b nE 12) (minN a b) ∧ Y = fillB b (usedN b nE 12) (minN a b) := by
  obtain ⟨h1, h2, h3⟩ := h (List.prefix_refl _)
  have hm : minN a b = (plTo b nE 12).length := by
    have : (usedN b nE 12).length = (plTo b nE 12).length := by simp [usedN]
    unfold minN; omega
  rw [hm]; exact ⟨h1, h2⟩

set_option maxRecDepth 100000 in
set_option maxHeartbeats 2000000 in
theorem implFill_bad (a b : List Bot) (ha : WfC a) (hb : WfC b) (hok : (okC a && okC b) = false) (ad : Nat → Addr) (w : World) (hE : EW 7 w ad) : Calls Tryd.prog 19 #[.agg (ccells a).toArray, .agg (ccells b).toArray] w fun e w' => e = .returned (fiV noB noB 1) ∧ Below w.heap.size w w' := by
  have HA := Lib.hid ha
  have HB := Lib.hid hb
  have HE := Lib.hid hE
  clear ha hb hE
  have h1 : CBlk ((((w.alloc (.cells (ccells a).toArray 31)).alloc (.cells (ccells b).toArray 31)).alloc (.cells #[.int .u8 0, .int .i16 0, .int .u8 0, .int .i16 0, .int .u8 0, .int .i16 0, .int .u8 0, .int .i16 0, .int .u8 0, .int .i16 0, .int .u8 0, .int .i16 0, .int .u8 0, .int .i16 0, .int .u8 0, .int .i16 0, .int .u8 0, .int .i16 0, .int .u8 0, .int .i16 0, .int .u8 0, .int .i16 0, .int .u8 0, .int .i16 0] 31)).alloc (.cells #[.int .u8 0, .int .i16 0, .int .u8 0, .int .i16 0, .int .u8 0, .int .i16 0, .int .u8 0, .int .i16 0, .int .u8 0, .int .i16 0, .int .u8 0, .int .i16 0, .int .u8 0, .int .i16 0, .int .u8 0, .int .i16 0, .int .u8 0, .int .i16 0, .int .u8 0, .int .i16 0, .int .u8 0, .int .i16 0, .int .u8 0, .int .i16 0] 31)) w.heap.size 31 a := (((CBlk.new w 31 a).alloc _).alloc _).alloc _
  have h2 : CBlk ((((w.alloc (.cells (ccells a).toArray 31)).alloc (.cells (ccells b).toArray 31)).alloc (.cells #[.int .u8 0, .int .i16 0, .int .u8 0, .int .i16 0, .int .u8 0, .int .i16 0, .int .u8 0, .int .i16 0, .int .u8 0, .int .i16 0, .int .u8 0, .int .i16 0, .int .u8 0, .int .i16 0, .int .u8 0, .int .i16 0, .int .u8 0, .int .i16 0, .int .u8 0, .int .i16 0, .int .u8 0, .int .i16 0, .int .u8 0, .int .i16 0] 31)).alloc (.cells #[.int .u8 0, .int .i16 0, .int .u8 0, .int .i16 0, .int .u8 0, .int .i16 0, .int .u8 0, .int .i16 0, .int .u8 0, .int .i16 0, .int .u8 0, .int .i16 0, .int .u8 0, .int .i16 0, .int .u8 0, .int .i16 0, .int .u8 0, .int .i16 0, .int .u8 0, .int .i16 0, .int .u8 0, .int .i16 0, .int .u8 0, .int .i16 0] 31)) (w.heap.size + 1) 31 b := by
    refine (CBlk.alloc ?_ _).alloc _
    exact CBlk.new' (by simp) rfl
  have h3 : CBlk ((((w.alloc (.cells (ccells a).toArray 31)).alloc (.cells (ccells b).toArray 31)).alloc (.cells #[.int .u8 0, .int .i16 0, .int .u8 0, .int .i16 0, .int .u8 0, .int .i16 0, .int .u8 0, .int .i16 0, .int .u8 0, .int .i16 0, .int .u8 0, .int .i16 0, .int .u8 0, .int .i16 0, .int .u8 0, .int .i16 0, .int .u8 0, .int .i16 0, .int .u8 0, .int .i16 0, .int .u8 0, .int .i16 0, .int .u8 0, .int .i16 0] 31)).alloc (.cells #[.int .u8 0, .int .i16 0, .int .u8 0, .int .i16 0, .int .u8 0, .int .i16 0, .int .u8 0, .int .i16 0, .int .u8 0, .int .i16 0, .int .u8 0, .int .i16 0, .int .u8 0, .int .i16 0, .int .u8 0, .int .i16 0, .int .u8 0, .int .i16 0, .int .u8 0, .int .i16 0, .int .u8 0, .int .i16 0, .int .u8 0, .int .i16 0] 31)) (w.heap.size + 1 + 1) 31 noB := by
    refine CBlk.alloc ?_ _
    exact CBlk.new' (by simp) rfl
  have h4 : CBlk ((((w.alloc (.cells (ccells a).toArray 31)).alloc (.cells (ccells b).toArray 31)).alloc (.cells #[.int .u8 0, .int .i16 0, .int .u8 0, .int .i16 0, .int .u8 0, .int .i16 0, .int .u8 0, .int .i16 0, .int .u8 0, .int .i16 0, .int .u8 0, .int .i16 0, .int .u8 0, .int .i16 0, .int .u8 0, .int .i16 0, .int .u8 0, .int .i16 0, .int .u8 0, .int .i16 0, .int .u8 0, .int .i16 0, .int .u8 0, .int .i16 0] 31)).alloc (.cells #[.int .u8 0, .int .i16 0, .int .u8 0, .int .i16 0, .int .u8 0, .int .i16 0, .int .u8 0, .int .i16 0, .int .u8 0, .int .i16 0, .int .u8 0, .int .i16 0, .int .u8 0, .int .i16 0, .int .u8 0, .int .i16 0, .int .u8 0, .int .i16 0, .int .u8 0, .int .i16 0, .int .u8 0, .int .i16 0, .int .u8 0, .int .i16 0] 31)) (w.heap.size + 1 + 1 + 1) 31 noB := CBlk.new' (by simp) rfl
  have h5 : Below w.heap.size w ((((w.alloc (.cells (ccells a).toArray 31)).alloc (.cells (ccells b).toArray 31)).alloc (.cells #[.int .u8 0, .int .i16 0, .int .u8 0, .int .i16 0, .int .u8 0, .int .i16 0, .int .u8 0, .int .i16 0, .int .u8 0, .int .i16 0, .int .u8 0, .int .i16 0, .int .u8 0, .int .i16 0, .int .u8 0, .int .i16 0, .int .u8 0, .int .i16 0, .int .u8 0, .int .i16 0, .int .u8 0, .int .i16 0, .int .u8 0, .int .i16 0] 31)).alloc (.cells #[.int .u8 0, .int .i16 0, .int .u8 0, .int .i16 0, .int .u8 0, .int .i16 0, .int .u8 0, .int .i16 0, .int .u8 0, .int .i16 0, .int .u8 0, .int .i16 0, .int .u8 0, .int .i16 0, .int .u8 0, .int .i16 0, .int .u8 0, .int .i16 0, .int .u8 0, .int .i16 0, .int .u8 0, .int .i16 0, .int .u8 0, .int .i16 0] 31)) := (by repeat (first | exact Below.refl _ _ | refine Below.drew ?_ | refine Below.alloc ?_ (by simp <;> omega) _ | refine Below.setCell ?_ (by simp <;> omega) _))
  have h6 : (((((w.alloc (.cells (ccells a).toArray 31)).alloc (.cells (ccells b).toArray 31)).alloc (.cells #[.int .u8 0, .int .i16 0, .int .u8 0, .int .i16 0, .int .u8 0, .int .i16 0, .int .u8 0, .int .i16 0, .int .u8 0, .int .i16 0, .int .u8 0, .int .i16 0, .int .u8 0, .int .i16 0, .int .u8 0, .int .i16 0, .int .u8 0, .int .i16 0, .int .u8 0, .int .i16 0, .int .u8 0, .int .i16 0, .int .u8 0, .int .i16 0] 31)).alloc (.cells #[.int .u8 0, .int .i16 0, .int .u8 0, .int .i16 0, .int .u8 0, .int .i16 0, .int .u8 0, .int .i16 0, .int .u8 0, .int .i16 0, .int .u8 0, .int .i16 0, .int .u8 0, .int .i16 0, .int .u8 0, .int .i16 0, .int .u8 0, .int .i16 0, .int .u8 0, .int .i16 0, .int .u8 0, .int .i16 0, .int .u8 0, .int .i16 0] 31))).heap.size = w.heap.size + 1 + 1 + 1 + 1 := by simp
  have H1 := Lib.hid h1
  have H2 := Lib.hid h2
  have H3 := Lib.hid h3
  have H4 := Lib.hid h4
  have H5 := Lib.hid h5
  clear h1 h2 h3 h4 h5
  go_enter Tryd.func19, Tryd.ntmps19
  go_wp2_with (first
    | (refine wpList_load_row rfl 31 (.tmp 2) rfl w.heap.size rfl 31 _ (0, 0) _ H1.out Tryd.underlying31 rfl (size_of_crate Tryd.sizeCr _ HA.out.1) ?_)
    | (refine wpList_load_row rfl 31 (.tmp 3) rfl (w.heap.size + 1) rfl 31 _ (0, 0) _ H2.out Tryd.underlying31 rfl (size_of_crate Tryd.sizeCr _ HB.out.1) ?_)
    | (refine wpList_twoCrates rfl 66 31 (.tmp 11) (.tmp 12) rfl a b HA.out.1 HB.out.1 rfl rfl Tryd.underlying66 Tryd.sizeCr Tryd.zeroCr ?_))
  obtain ⟨W0, hW0⟩ : ∃ W0, ((((w.alloc (.cells (ccells a).toArray 31)).alloc (.cells (ccells b).toArray 31)).alloc (.cells #[.int .u8 0, .int .i16 0, .int .u8 0, .int .i16 0, .int .u8 0, .int .i16 0, .int .u8 0, .int .i16 0, .int .u8 0, .int .i16 0, .int .u8 0, .int .i16 0, .int .u8 0, .int .i16 0, .int .u8 0, .int .i16 0, .int .u8 0, .int .i16 0, .int .u8 0, .int .i16 0, .int .u8 0, .int .i16 0, .int .u8 0, .int .i16 0] 31)).alloc (.cells #[.int .u8 0, .int .i16 0, .int .u8 0, .int .i16 0, .int .u8 0, .int .i16 0, .int .u8 0, .int .i16 0, .int .u8 0, .int .i16 0, .int .u8 0, .int .i16 0, .int .u8 0, .int .i16 0, .int .u8 0, .int .i16 0, .int .u8 0, .int .i16 0, .int .u8 0, .int .i16 0, .int .u8 0, .int .i16 0, .int .u8 0, .int .i16 0] 31)) = W0 := ⟨_, rfl⟩
  rw [hW0] at H1 H2 H3 H4 H5 h6 ⊢
  have q1 : CBlk (W0.alloc (.cells (ccells (a ++ b)).toArray 31)) (w.heap.size + 1 + 1 + 1 + 1) 31 (a ++ b) := CBlk.new' h6.symm rfl
  have q5 : Below w.heap.size w (W0.alloc (.cells (ccells (a ++ b)).toArray 31)) := H5.out.alloc H5.out.size _
  have rd := rd_two (B := (W0.alloc (.cells (ccells (a ++ b)).toArray 31)).heap.size) (⟨a, HA.out⟩ : Crt) (⟨b, HB.out⟩ : Crt) q1 (by simp [h6])
  have cc := checkCrates_any [(⟨a, HA.out⟩ : Crt), (⟨b, HB.out⟩ : Crt)] _ 2 ad _ (by simp) rd (HE.out.below q5 (Nat.le_refl _))
  have hall : okL [(⟨a, HA.out⟩ : Crt), (⟨b, HB.out⟩ : Crt)] = (okC a && okC b) := by simp [okL]
  rw [hall] at cc
  refine cc.mono ?_
  rintro e w1 ⟨rfl, hb1⟩
  have hb2 : Below W0.heap.size W0 w1 := ((Below.refl _ W0).alloc (Nat.le_refl _) _).trans (hb1.mono (by simp))
  have J5 : Hid (Below w.heap.size w w1) := H5.out.trans (hb2.mono H5.out.size)
  have J1 : Hid (CBlk w1 w.heap.size 31 a) := H1.out.below hb2 H1.out.lt
  have J2 : Hid (CBlk w1 (w.heap.size + 1) 31 b) := H2.out.below hb2 H2.out.lt
  have J3 : Hid (CBlk w1 (w.heap.size + 1 + 1) 31 noB) := H3.out.below hb2 H3.out.lt
  have J4 : Hid (CBlk w1 (w.heap.size + 1 + 1 + 1) 31 noB) := H4.out.below hb2 H4.out.lt
  have hsz : w.heap.size + 1 + 1 + 1 + 1 ≤ w1.heap.size := by rw [← h6]; exact hb2.size
  clear hb1 hb2 H1 H2 H3 H4 H5 h6 q1 q5 rd cc hall hW0
  have H1 := J1
  have H2 := J2
  have H3 := J3
  have H4 := J4
  have H5 := J5
  clear J1 J2 J3 J4 J5
  rw [hok]
  have e1 : chkV ad false = .iface 88 (.pointer (some (ad 5))) := rfl
  rw [e1]
  clear hok e1
  go_wp2_with fail
  refine (codeOf_5 (HE.out.below H5.out (Nat.le_refl _))).mono ?_
  rintro e w3' ⟨rfl, rfl⟩
  have M4 : Hid (CBlk (w1.setRow (w.heap.size + 1 + 1) (ccells noB).toArray) (w.heap.size + 1 + 1 + 1) 31 noB) := H4.out.rowOff (by omega) _
  go_wp2_with (first
    | (refine wpList_store_row rfl 31 (.tmp 4) (.tmp 17) rfl (w.heap.size + 1 + 1) (ccells noB).toArray rfl rfl 31 _ H3.out (size_of_crate Tryd.sizeCr _ rfl) rfl (ccells_one _) ?_)
    | (refine wpList_store_row rfl 31 (.tmp 5) (.tmp 18) rfl (w.heap.size + 1 + 1 + 1) (ccells noB).toArray rfl rfl 31 _ M4.out (size_of_crate Tryd.sizeCr _ rfl) rfl (ccells_one _) ?_))
  exact bodyPost_ret (v := fiV noB noB 1) (results_cc3 (v3 := .int .i64 1) rfl _ (by rfl) _ _ _ 31 31 _ _ (0, 0) (0, 0) _ rfl rfl ((CBlk.setRow (Y := noB) H3.out).rowOff (by omega) _) (CBlk.setRow (Y := noB) M4.out) Tryd.underlying31 rfl (size_of_crate Tryd.sizeCr _ rfl) (size_of_crate Tryd.sizeCr _ rfl)) rfl ⟨rfl, Below.setRow (Below.setRow H5.out _ _ (by omega)) _ _ (by omega)⟩

set_option maxRecDepth 100000 in
set_option maxHeartbeats 2000000 in
theorem implFill_ok (a b : List Bot) (ha : WfC a) (hb : WfC b) (hok : (okC a && okC b) = true) (ad : Nat → Addr) (w : World) (hE : EW 7 w ad) : Calls Tryd.prog 19 #[.agg (ccells a).toArray, .agg (ccells b).toArray] w fun e w' => e = .returned (fiV (fillA a b (usedN a eB 12) (usedN b nE 12) (minN a b)) (fillB b (usedN b nE 12) (minN a b)) 0) ∧ Below w.heap.size w w' := by
  have HA := Lib.hid ha
  have HB := Lib.hid hb
  have HE := Lib.hid hE
  clear ha hb hE
  have h1 : CBlk ((((w.alloc (.cells (ccells a).toArray 31)).alloc (.cells (ccells b).toArray 31)).alloc (.cells #[.int .u8 0, .int .i16 0, .int .u8 0, .int .i16 0, .int .u8 0, .int .i16 0, .int .u8 0, .int .i16 0, .int .u8 0, .int .i16 0, .int .u8 0, .int .i16 0, .int .u8 0, .int .i16 0, .int .u8 0, .int .i16 0, .int .u8 0, .int .i16 0, .int .u8 0, .int .i16 0, .int .u8 0, .int .i16 0, .int .u8 0, .int .i16 0] 31)).alloc (.cells #[.int .u8 0, .int .i16 0, .int .u8 0, .int .i16 0, .int .u8 0, .int .i16 0, .int .u8 0, .int .i16 0, .int .u8 0, .int .i16 0, .int .u8 0, .int .i16 0, .int .u8 0, .int .i16 0, .int .u8 0, .int .i16 0, .int .u8 0, .int .i16 0, .int .u8 0, .int .i16 0, .int .u8 0, .int .i16 0, .int .u8 0, .int .i16 0] 31)) w.heap.size 31 a := (((CBlk.new w 31 a).alloc _).alloc _).alloc _
  have h2 : CBlk ((((w.alloc (.cells (ccells a).toArray 31)).alloc (.cells (ccells b).toArray 31)).alloc (.cells #[.int .u8 0, .int .i16 0, .int .u8 0, .int .i16 0, .int .u8 0, .int .i16 0, .int .u8 0, .int .i16 0, .int .u8 0, .int .i16 0, .int .u8 0, .int .i16 0, .int .u8 0, .int .i16 0, .int .u8 0, .int .i16 0, .int .u8 0, .int .i16 0, .int .u8 0, .int .i16 0, .int .u8 0, .int .i16 0, .int .u8 0, .int .i16 0] 31)).alloc (.cells #[.int .u8 0, .int .i16 0, .int .u8 0, .int .i16 0, .int .u8 0, .int .i16 0, .int .u8 0, .int .i16 0, .int .u8 0, .int .i16 0, .int .u8 0, .int .i16 0, .int .u8 0, .int .i16 0, .int .u8 0, .int .i16 0, .int .u8 0, .int .i16 0, .int .u8 0, .int .i16 0, .int .u8 0, .int .i16 0, .int .u8 0, .int .i16 0] 31)) (w.heap.size + 1) 31 b := by
    refine (CBlk.alloc ?_ _).alloc _
    exact CBlk.new' (by simp) rfl
  have h3 : CBlk ((((w.alloc (.cells (ccells a).toArray 31)).alloc (.cells (ccells b).toArray 31)).alloc (.cells #[.int .u8 0, .int .i16 0, .int .u8 0, .int .i16 0, .int .u8 0, .int .i16 0, .int .u8 0, .int .i16 0, .int .u8 0, .int .i16 0, .int .u8 0, .int .i16 0, .int .u8 0, .int .i16 0, .int .u8 0, .int .i16 0, .int .u8 0, .int .i16 0, .int .u8 0, .int .i16 0, .int .u8 0, .int .i16 0, .int .u8 0, .int .i16 0] 31)).alloc (.cells #[.int .u8 0, .int .i16 0, .int .u8 0, .int .i16 0, .int .u8 0, .int .i16 0, .int .u8 0, .int .i16 0, .int .u8 0, .int .i16 0, .int .u8 0, .int .i16 0, .int .u8 0, .int .i16 0, .int .u8 0, .int .i16 0, .int .u8 0, .int .i16 0, .int .u8 0, .int .i16 0, .int .u8 0, .int .i16 0, .int .u8 0, .int .i16 0] 31)) (w.heap.size + 1 + 1) 31 noB := by
    refine CBlk.alloc ?_ _
    exact CBlk.new' (by simp) rfl
  have h4 : CBlk ((((w.alloc (.cells (ccells a).toArray 31)).alloc (.cells (ccells b).toArray 31)).alloc (.cells #[.int .u8 0, .int .i16 0, .int .u8 0, .int .i16 0, .int .u8 0, .int .i16 0, .int .u8 0, .int .i16 0, .int .u8 0, .int .i16 0, .int .u8 0, .int .i16 0, .int .u8 0, .int .i16 0, .int .u8 0, .int .i16 0, .int .u8 0, .int .i16 0, .int .u8 0, .int .i16 0, .int .u8 0, .int .i16 0, .int .u8 0, .int .i16 0] 31)).alloc (.cells #[.int .u8 0, .int .i16 0, .int .u8 0, .int .i16 0, .int .u8 0, .int .i16 0, .int .u8 0, .int .i16 0, .int .u8 0, .int .i16 0, .int .u8 0, .int .i16 0, .int .u8 0, .int .i16 0, .int .u8 0, .int .i16 0, .int .u8 0, .int .i16 0, .int .u8 0, .int .i16 0, .int .u8 0, .int .i16 0, .int .u8 0, .int .i16 0] 31)) (w.heap.size + 1 + 1 + 1) 31 noB := CBlk.new' (by simp) rfl
  have h5 : Below w.heap.size w ((((w.alloc (.cells (ccells a).toArray 31)).alloc (.cells (ccells b).toArray 31)).alloc (.cells #[.int .u8 0, .int .i16 0, .int .u8 0, .int .i16 0, .int .u8 0, .int .i16 0, .int .u8 0, .int .i16 0, .int .u8 0, .int .i16 0, .int .u8 0, .int .i16 0, .int .u8 0, .int .i16 0, .int .u8 0, .int .i16 0, .int .u8 0, .int .i16 0, .int .u8 0, .int .i16 0, .int .u8 0, .int .i16 0, .int .u8 0, .int .i16 0] 31)).alloc (.cells #[.int .u8 0, .int .i16 0, .int .u8 0, .int .i16 0, .int .u8 0, .int .i16 0, .int .u8 0, .int .i16 0, .int .u8 0, .int .i16 0, .int .u8 0, .int .i16 0, .int .u8 0, .int .i16 0, .int .u8 0, .int .i16 0, .int .u8 0, .int .i16 0, .int .u8 0, .int .i16 0, .int .u8 0, .int .i16 0, .int .u8 0, .int .i16 0] 31)) := (by repeat (first | exact Below.refl _ _ | refine Below.drew ?_ | refine Below.alloc ?_ (by simp <;> omega) _ | refine Below.setCell ?_ (by simp <;> omega) _))
  have h6 : (((((w.alloc (.cells (ccells a).toArray 31)).alloc (.cells (ccells b).toArray 31)).alloc (.cells #[.int .u8 0, .int .i16 0, .int .u8 0, .int .i16 0, .int .u8 0, .int .i16 0, .int .u8 0, .int .i16 0, .int .u8 0, .int .i16 0, .int .u8 0, .int .i16 0, .int .u8 0, .int .i16 0, .int .u8 0, .int .i16 0, .int .u8 0, .int .i16 0, .int .u8 0, .int .i16 0, .int .u8 0, .int .i16 0, .int .u8 0, .int .i16 0] 31)).alloc (.cells #[.int .u8 0, .int .i16 0, .int .u8 0, .int .i16 0, .int .u8 0, .int .i16 0, .int .u8 0, .int .i16 0, .int .u8 0, .int .i16 0, .int .u8 0, .int .i16 0, .int .u8 0, .int .i16 0, .int .u8 0, .int .i16 0, .int .u8 0, .int .i16 0, .int .u8 0, .int .i16 0, .int .u8 0, .int .i16 0, .int .u8 0, .int .i16 0] 31))).heap.size = w.heap.size + 1 + 1 + 1 + 1 := by simp
  have H1 := Lib.hid h1
  have H2 := Lib.hid h2
  have H3 := Lib.hid h3
  have H4 := Lib.hid h4
  have H5 := Lib.hid h5
  clear h1 h2 h3 h4 h5
  refine (callsIn_wide (n := 9)).1 ?_
  refine callsIn_of_wp_marks Tryd.func19 rfl trivial ?_ rfl
  simp only [Tryd.ntmps19, List.size_toArray, List.length_cons, List.length_nil, Nat.reduceAdd, Nat.reduceSub, Array.replicate_succ, Array.replicate_zero, List.push_toArray, List.append_toArray, List.nil_append, List.cons_append]
  refine wpIn_wide.2 ?_
  go_wp2_with (first
    | (refine wpList_load_row rfl 31 (.tmp 2) rfl w.heap.size rfl 31 _ (0, 0) _ H1.out Tryd.underlying31 rfl (size_of_crate Tryd.sizeCr _ HA.out.1) ?_)
    | (refine wpList_load_row rfl 31 (.tmp 3) rfl (w.heap.size + 1) rfl 31 _ (0, 0) _ H2.out Tryd.underlying31 rfl (size_of_crate Tryd.sizeCr _ HB.out.1) ?_)
    | (refine wpList_twoCrates rfl 66 31 (.tmp 11) (.tmp 12) rfl a b HA.out.1 HB.out.1 rfl rfl Tryd.underlying66 Tryd.sizeCr Tryd.zeroCr ?_))
  obtain ⟨W0, hW0⟩ : ∃ W0, ((((w.alloc (.cells (ccells a).toArray 31)).alloc (.cells (ccells b).toArray 31)).alloc (.cells #[.int .u8 0, .int .i16 0, .int .u8 0, .int .i16 0, .int .u8 0, .int .i16 0, .int .u8 0, .int .i16 0, .int .u8 0, .int .i16 0, .int .u8 0, .int .i16 0, .int .u8 0, .int .i16 0, .int .u8 0, .int .i16 0, .int .u8 0, .int .i16 0, .int .u8 0, .int .i16 0, .int .u8 0, .int .i16 0, .int .u8 0, .int .i16 0] 31)).alloc (.cells #[.int .u8 0, .int .i16 0, .int .u8 0, .int .i16 0, .int .u8 0, .int .i16 0, .int .u8 0, .int .i16 0, .int .u8 0, .int .i16 0, .int .u8 0, .int .i16 0, .int .u8 0, .int .i16 0, .int .u8 0, .int .i16 0, .int .u8 0, .int .i16 0, .int .u8 0, .int .i16 0, .int .u8 0, .int .i16 0, .int .u8 0, .int .i16 0] 31)) = W0 := ⟨_, rfl⟩
  rw [hW0] at H1 H2 H3 H4 H5 h6 ⊢
  have q1 : CBlk (W0.alloc (.cells (ccells (a ++ b)).toArray 31)) (w.heap.size + 1 + 1 + 1 + 1) 31 (a ++ b) := CBlk.new' h6.symm rfl
  have q5 : Below w.heap.size w (W0.alloc (.cells (ccells (a ++ b)).toArray 31)) := H5.out.alloc H5.out.size _
  have rd := rd_two (B := (W0.alloc (.cells (ccells (a ++ b)).toArray 31)).heap.size) (⟨a, HA.out⟩ : Crt) (⟨b, HB.out⟩ : Crt) q1 (by simp [h6])
  have cc := checkCrates_any [(⟨a, HA.out⟩ : Crt), (⟨b, HB.out⟩ : Crt)] _ 2 ad _ (by simp) rd (HE.out.below q5 (Nat.le_refl _))
  have hall : okL [(⟨a, HA.out⟩ : Crt), (⟨b, HB.out⟩ : Crt)] = (okC a && okC b) := by simp [okL]
  rw [hall] at cc
  refine cc.mono ?_
  rintro e w1 ⟨rfl, hb1⟩
  have hb2 : Below W0.heap.size W0 w1 := ((Below.refl _ W0).alloc (Nat.le_refl _) _).trans (hb1.mono (by simp))
  have J5 : Hid (Below w.heap.size w w1) := H5.out.trans (hb2.mono H5.out.size)
  have J1 : Hid (CBlk w1 w.heap.size 31 a) := H1.out.below hb2 H1.out.lt
  have J2 : Hid (CBlk w1 (w.heap.size + 1) 31 b) := H2.out.below hb2 H2.out.lt
  have J3 : Hid (CBlk w1 (w.heap.size + 1 + 1) 31 noB) := H3.out.below hb2 H3.out.lt
  have J4 : Hid (CBlk w1 (w.heap.size + 1 + 1 + 1) 31 noB) := H4.out.below hb2 H4.out.lt
  have hsz : w.heap.size + 1 + 1 + 1 + 1 ≤ w1.heap.size := by rw [← h6]; exact hb2.size
  clear hb1 hb2 H1 H2 H3 H4 H5 h6 q1 q5 rd cc hall hW0
  have H1 := J1
  have H2 := J2
  have H3 := J3
  have H4 := J4
  have H5 := J5
  clear J1 J2 J3 J4 J5
  rw [hok]
  have e1 : chkV ad true = .nilIface := rfl
  rw [e1]
  clear hok e1
  go_wp2_with (refine wpList_load_row rfl 31 (.tmp 3) rfl (w.heap.size + 1) rfl 31 _ (0, 0) _ H2.out Tryd.underlying31 rfl (size_of_crate Tryd.sizeCr _ HB.out.1) ?_)
  refine (placesWith_any b _ ⟨_, _, rfl⟩ _).mono ?_
  rintro e w2 ⟨rfl, hw2⟩
  have hb2 : Below w1.heap.size w1 w2 := by rw [hw2]; exact (by repeat (first | exact Below.refl _ _ | refine Below.drew ?_ | refine Below.alloc ?_ (by simp <;> omega) _ | refine Below.setCell ?_ (by simp <;> omega) _))
  have hs2 : w2.heap.size = w1.heap.size + 1 + 1 := by rw [hw2]; simp
  have c0 : CBlk w2 w1.heap.size 31 b := by rw [hw2]; exact (CBlk.new w1 _ b).alloc _
  have cf : Boxed w2 (w1.heap.size + 1) 59 (.func (.func 35) #[] #[]) := by
    have q := Boxed.new (w1.alloc (.cells (ccells b).toArray 31)) 59 (.func (.func 35) #[] #[])
    simp only [World.size_alloc] at q
    rw [hw2]; exact q
  have k1 : CBlk w2 w.heap.size 31 a := H1.out.below hb2 H1.out.lt
  have k2 : CBlk w2 (w.heap.size + 1) 31 b := H2.out.below hb2 H2.out.lt
  have k3 : CBlk w2 (w.heap.size + 1 + 1) 31 noB := H3.out.below hb2 H3.out.lt
  have k4 : CBlk w2 (w.heap.size + 1 + 1 + 1) 31 noB := H4.out.below hb2 H4.out.lt
  have k5 : Below w.heap.size w w2 := H5.out.trans (hb2.mono H5.out.size)
  clear hw2 hb2 H1 H2 H3 H4 H5
  go_wp2_with fail
  refine (wpIn_wide (n := 9)).1 ?_
  refine wpIn_rangeFunc_ownF rfl (by omega) (gf := 43) (lb := #[.pointer (some ⟨w1.heap.size, 0, none⟩), .pointer (some ⟨w1.heap.size + 1, 0, none⟩)]) rfl trivial (enters_of Tryd.func43 (by kernel_rfl) rfl)
    (places_stopsB b HB.out nE 35 #[] (enters_of Tryd.func35 (by kernel_rfl) rfl) 8 (by omega) w1.heap.size (w1.heap.size + 1) w2 (fun b W _ => isBottle_any b.1 b.2 W) c0 (by omega) cf.cell)
    (fun h k => KeepB.trans h k) (keepB_b (by omega)) (Below.refl _ _) (fun _ => rfl)
    (fun pre W => (∃ X Y, WfC X ∧ WfC Y ∧ CBlk W w.heap.size 31 X ∧ CBlk W (w.heap.size + 1) 31 Y ∧ CBlk W (w.heap.size + 1 + 1) 31 noB ∧ CBlk W (w.heap.size + 1 + 1 + 1) 31 noB ∧ Boxed W (w1.heap.size + 1) 59 (.func (.func 35) #[] #[]) ∧ FillAt a b pre X Y) ∧ Below w.heap.size w W)
    (fun c pre W => (∃ X Y, c = .exit 0 ∧ WfC X ∧ WfC Y ∧ CBlk W w.heap.size 31 X ∧ CBlk W (w.heap.size + 1) 31 Y ∧ CBlk W (w.heap.size + 1 + 1) 31 noB ∧ CBlk W (w.heap.size + 1 + 1 + 1) 31 noB ∧ (pre <+: plTo b nE 12 → X = fillA a b (usedN a eB 12) (usedN b nE 12) (minN a b) ∧ Y = fillB b (usedN b nE 12) (minN a b))) ∧ Below w.heap.size w W)
    (OwnFrom.and (Own.from (fun s A B row hs hg hr => by
      obtain ⟨X, Y, hx, hy, q1, q2, q3, q4, q5, q6⟩ := hs
      exact ⟨X, Y, hx, hy, cblk_keepO q1 hg hr, cblk_keepO q2 hg hr, cblk_keepO q3 hg hr, cblk_keepO q4 hg hr, (boxed_own (β := Unit) _ _ (fun _ => _)) () _ _ _ q5 hg hr, q6⟩) _) (ownFrom_below (by omega) (by omega)))
    (fun c => OwnFrom.and (Own.from (fun s A B row hs hg hr => by
      obtain ⟨X, Y, hc, hx, hy, q1, q2, q3, q4, q6⟩ := hs
      exact ⟨X, Y, hc, hx, hy, cblk_keepO q1 hg hr, cblk_keepO q2 hg hr, cblk_keepO q3 hg hr, cblk_keepO q4 hg hr, q6⟩) _) (ownFrom_below (by omega) (by omega)))
    ⟨⟨a, b, HA.out, HB.out, k1, k2, k3, k4, cf, fun _ => ⟨rfl, rfl, by simp⟩⟩, k5⟩
    (fun x => { tmps := #[.agg (ccells a).toArray, .agg (ccells b).toArray, .pointer (some ⟨w.heap.size, 0, none⟩), .pointer (some ⟨w.heap.size + 1, 0, none⟩), .pointer (some ⟨w.heap.size + 1 + 1, 0, none⟩), .pointer (some ⟨w.heap.size + 1 + 1 + 1, 0, none⟩), .int .i64 0, .nilIface, .int .i64 (x.1 : Int), undef, undef, .agg (ccells a).toArray, .agg (ccells b).toArray, .slice (some ⟨w.heap.size + 1 + 1 + 1 + 1, 0, none⟩) 2 2, .nilIface, .nilIface, .bool false, undef, undef, undef, undef, .agg (ccells b).toArray,
      .func (.func 43) #[] #[.pointer (some ⟨w1.heap.size, 0, none⟩), .pointer (some ⟨w1.heap.size + 1, 0, none⟩)], .int .i64 (x.1 : Int), undef, undef, undef, undef, undef, undef, undef, undef, undef, undef, undef, undef, undef, undef, undef, undef, undef], defers := [] }) ?assign ?body ?done ?stop
  case assign =>
    intro l x W K hK
    gi_wp2
    exact hK
  case body =>
    rintro l pre ⟨j, hj⟩ W ⟨⟨X, Y, hx, hy, q1, q2, q3, q4, q5, q6⟩, hBW⟩ _
    have hj12 : j < 12 := pl_bot HB.out.1 ⟨j, hj⟩
    obtain ⟨y1, y2, hyj, hy1, hy2⟩ := hy.at_ hj12
    have HX := Lib.hid hx
    have HY := Lib.hid hy
    have Q1 := Lib.hid q1
    have Q2 := Lib.hid q2
    have Q3 := Lib.hid q3
    have Q4 := Lib.hid q4
    have Q5 := Lib.hid q5
    have Q6 := Lib.hid q6
    have QB := Lib.hid hBW
    have YJ := Lib.hid hyj
    have HJ : Hid ((b[j]?.any nE) = true) := hj
    have hEW := Lib.hid ((HE.out.below hBW (Nat.le_refl _)).less (m := 5) (by omega))
    have hsW : w.heap.size + 1 + 1 + 1 + 1 ≤ W.heap.size := by have := q4.lt; omega
    have hs3 : w1.heap.size + 1 < W.heap.size := q5.lt
    clear hx hy q1 q2 q3 q4 q5 q6 hBW hyj c0 cf k1 k2 k3 k4 k5
    dsimp only
    gi_wp2_with (refine wpListIn_load_rowC rfl 31 (.tmp 2) rfl w.heap.size rfl 31 _ (0, 0) _ Q1.out Tryd.underlying31 rfl (size_of_crate Tryd.sizeCr _ HX.out.1) ?_)
    refine ⟨trivial, ?_⟩
    refine (CallsIn.inRound l (callsIn_wide.2 (callsIn_wide.1 (firstPlace_in 6 (Nat.le_refl _) X HX.out eB 30 #[] (enters_of Tryd.func30 (by kernel_rfl) rfl) ad _ hEW.out (isFree_fitsF _ _))))).mono ?_
    rintro e w3 ⟨rfl, hb1⟩
    have HB1 := Lib.hid hb1
    have R1 : Hid (CBlk w3 w.heap.size 31 X) := Q1.out.below hb1 Q1.out.lt
    have R2 : Hid (CBlk w3 (w.heap.size + 1) 31 Y) := Q2.out.below hb1 Q2.out.lt
    have R3 : Hid (CBlk w3 (w.heap.size + 1 + 1) 31 noB) := Q3.out.below hb1 Q3.out.lt
    have R4 : Hid (CBlk w3 (w.heap.size + 1 + 1 + 1) 31 noB) := Q4.out.below hb1 Q4.out.lt
    have R5 : Hid (Boxed w3 (w1.heap.size + 1) 59 (.func (.func 35) #[] #[])) := (hb1.block _ hs3).trans (show W.heap[w1.heap.size + 1]? = _ from Q5.out)
    have RB : Hid (Below w.heap.size w w3) := QB.out.trans (hb1.mono QB.out.size)
    clear hb1 Q1 Q2 Q3 Q4 Q5 QB hEW
    rcases fp_cases eB X with ⟨k, c, hkc, -, -, hf⟩ | ⟨-, hf⟩
    · rw [fpV_hit hf]
      have hk12 : k < 12 := by have := (List.getElem?_eq_some_iff.1 hkc).1; rw [HX.out.1] at this; exact this
      obtain ⟨xa, ya, hxa, _, _⟩ := HX.out.at_ hk12
      have a1 := R1.out.kind' hxa
      have a2 := R1.out.year' hxa
      have a3 := R1.out.frozen (k * 2)
      have a4 := R1.out.frozen (k * 2 + 1)
      have b1 := R2.out.kind' YJ.out
      have b2 := R2.out.year' YJ.out
      have b3 := R2.out.frozen (j * 2)
      have b4 := R2.out.frozen (j * 2 + 1)
      have hk0 : (0 : Int) ≤ k := by omega
      have hk1 : (k : Int) < 12 := by omega
      have hj0 : (0 : Int) ≤ j := by omega
      have hj1 : (j : Int) < 12 := by omega
      have HF := Lib.hid hf
      have S1 : Hid (CBlk ((w3.setCell ⟨w.heap.size, k * 2, none⟩ (.int .u8 y1)).setCell ⟨w.heap.size, k * 2 + 1, none⟩ (.int .i16 y2)) w.heap.size 31 (X.set k (y1, y2))) := CBlk.set R1.out k (by rw [HX.out.1]; exact hk12) (y1, y2)
      have S2 : Hid (CBlk ((w3.setCell ⟨w.heap.size, k * 2, none⟩ (.int .u8 y1)).setCell ⟨w.heap.size, k * 2 + 1, none⟩ (.int .i16 y2)) (w.heap.size + 1) 31 Y) := (R2.out.other (by omega) _ _).other (by omega) _ _
      clear hf hkc hxa
      gi_wp2
      refine ⟨?_, ?_, ⟨X.set k (y1, y2), Y.set j (0, 0), wfC_set HX.out _ ⟨hy1.1, hy1.2, hy2.1, hy2.2⟩, wfC_set HY.out _ (by simp [wfB]), ?_, ?_, ?_, ?_, ?_, ?_⟩, ?_⟩
      · exact (keepsOthers_of_below HB1.out).trans ((((KeepsOthers.setCell _ _ _).trans (KeepsOthers.setCell _ _ _)).trans (KeepsOthers.setCell _ _ _)).trans (KeepsOthers.setCell _ _ _))
      · exact (KeepB.of HB1.out hs3).trans ((((KeepB.setCell _ (by omega) _ _).trans (KeepB.setCell _ (by omega) _ _)).trans (KeepB.setCell _ (by omega) _ _)).trans (KeepB.setCell _ (by omega) _ _))
      · exact (S1.out.other (by omega) _ _).other (by omega) _ _
      · exact CBlk.set S2.out j (by rw [HY.out.1]; exact hj12) (0, 0)
      · exact (((R3.out.other (by omega) _ _).other (by omega) _ _).other (by omega) _ _).other (by omega) _ _
      · exact (((R4.out.other (by omega) _ _).other (by omega) _ _).other (by omega) _ _).other (by omega) _ _
      · have t1 := KeepB.trans (KeepB.trans (KeepB.trans (KeepB.setCell (Bf := w1.heap.size + 1) (g := w.heap.size) w3 (by omega) (k * 2) (.int .u8 y1)) (KeepB.setCell (g := w.heap.size) _ (by omega) (k * 2 + 1) (.int .i16 y2))) (KeepB.setCell (g := w.heap.size + 1) _ (by omega) (j * 2) (.int .u8 0))) (KeepB.setCell (g := w.heap.size + 1) _ (by omega) (j * 2 + 1) (.int .i16 0))
        exact t1.2.trans (show w3.heap[w1.heap.size + 1]? = _ from R5.out)
      · exact FillAt.step (x := ⟨j, HJ.out⟩) HA.out.1 Q6.out HF.out YJ.out
      · exact (((RB.out.setCell (p := ⟨w.heap.size, k * 2, none⟩) (Nat.le_refl _) _).setCell (p := ⟨w.heap.size, k * 2 + 1, none⟩) (Nat.le_refl _) _).setCell (p := ⟨w.heap.size + 1, j * 2, none⟩) (by show w.heap.size ≤ w.heap.size + 1; omega) _).setCell (p := ⟨w.heap.size + 1, j * 2 + 1, none⟩) (by show w.heap.size ≤ w.heap.size + 1; omega) _
    · have ee : errV (ad 4) = .iface 88 (.pointer (some (ad 4))) := rfl
      rw [fpV_none hf, ee]
      clear ee
      have HF := Lib.hid hf
      clear hf
      gi_wp2
      exact ⟨keepsOthers_of_below HB1.out, ⟨X, Y, rfl, HX.out, HY.out, R1.out, R2.out, R3.out, R4.out, fun hp => FillAt.full (x := ⟨j, HJ.out⟩) HA.out.1 Q6.out HF.out hp⟩, RB.out⟩
  case done =>
    rintro D ys W hD rfl ⟨⟨X, Y, hx, hy, q1, q2, q3, q4, q5, q6⟩, hBW⟩ hK
    have hm := FillAt.all q6
    have MX := Lib.hid hm
    have R1 := Lib.hid q1
    have R2 := Lib.hid q2
    have C3 := Lib.hid q3
    have C4 := Lib.hid q4
    have QB := Lib.hid hBW
    have HK := Lib.hid hK
    have LX := Lib.hid hx.1
    have LY := Lib.hid hy.1
    clear hm q1 q2 q3 q4 q6 hBW hK hx hy c0 cf k1 k2 k3 k4 k5
    dsimp only
    go_wp2_with fail
    refine wp_region_held_drew (S := fun w' => CBlk w' w.heap.size 31 X ∧ CBlk w' (w.heap.size + 1) 31 Y) (by kernel_rfl) ⟨R1.out, R2.out⟩ (fun hHeld => ?_)
    refine wpAnyH_ready (rs := [0, 1]) (by kernel_rfl) (by simp) ?_
    refine AllReadyH.cons rfl (fun K hK => ?_) ?_
    · skip
      refine if_wanted rfl (wp_load_row 31 (.tmp 2) rfl w.heap.size rfl 31 _ (0, 0) _ (R1.out.drew) Tryd.underlying31 rfl (size_of_crate Tryd.sizeCr _ LX.out) ?_)
      refine hK.out _ _ ⟨R1.out, R2.out⟩ (fun hHeld => ?_)
      clear hK K hHeld
      try simp only [Act.put, List.getElem_toArray, List.getElem_cons_zero, List.getElem_cons_succ, List.setIfInBounds_toArray, List.set_cons_zero, List.set_cons_succ]
      refine wpAnyH_ready (rs := [1, 2]) (by kernel_rfl) (by simp) ?_
      refine AllReadyH.cons rfl (fun K hK => ?_) ?_
      · skip
        refine if_wanted rfl (wp_load_row 31 (.tmp 3) rfl (w.heap.size + 1) rfl 31 _ (0, 0) _ (R2.out.drew) Tryd.underlying31 rfl (size_of_crate Tryd.sizeCr _ LY.out) ?_)
        refine hK.out _ _ ⟨R1.out, R2.out⟩ (fun hHeld => ?_)
        clear hK K hHeld
        try simp only [Act.put, List.getElem_toArray, List.getElem_cons_zero, List.getElem_cons_succ, List.setIfInBounds_toArray, List.set_cons_zero, List.set_cons_succ]
        refine wpAnyH_ready (rs := [2]) (by kernel_rfl) (by simp) ?_
        refine AllReadyH.cons rfl (fun K hK => ?_) AllReadyH.nil
        refine if_wanted rfl (wp_store_row 31 (.tmp 4) (.tmp 39) rfl (w.heap.size + 1 + 1) (ccells X).toArray rfl rfl 31 _ (C3.out.drew) (size_of_crate Tryd.sizeCr _ LX.out) (by show (ccells noB).toArray.size = _; rw [ccells_size _ LX.out]; rfl) (ccells_one _) ?_)
        have S1 : Hid (CBlk (W.drew.setRow (w.heap.size + 1 + 1) (ccells X).toArray) w.heap.size 31 X) := (R1.out.drew).rowOff (by omega) _
        have S2 : Hid (CBlk (W.drew.setRow (w.heap.size + 1 + 1) (ccells X).toArray) (w.heap.size + 1) 31 Y) := (R2.out.drew).rowOff (by omega) _
        have S3 : Hid (CBlk (W.drew.setRow (w.heap.size + 1 + 1) (ccells X).toArray) (w.heap.size + 1 + 1) 31 X) := CBlk.setRow (Y := X) C3.out.drew
        have S4 : Hid (CBlk (W.drew.setRow (w.heap.size + 1 + 1) (ccells X).toArray) (w.heap.size + 1 + 1 + 1) 31 noB) := (C4.out.drew).rowOff (by omega) _
        have S5 : Hid (Below w.heap.size w (W.drew.setRow (w.heap.size + 1 + 1) (ccells X).toArray)) := Below.setRow QB.out.drew _ _ (by omega)
        refine hK.out _ _ ⟨S1.out, S2.out⟩ (fun hHeld => ?_)
        clear hK K hHeld
        try simp only [Act.put, List.getElem_toArray, List.getElem_cons_zero, List.getElem_cons_succ, List.setIfInBounds_toArray, List.set_cons_zero, List.set_cons_succ]
        refine wpAnyH_ready (rs := [3]) (by kernel_rfl) (by simp) ?_
        refine AllReadyH.cons rfl (fun K hK => ?_) AllReadyH.nil
        refine if_wanted rfl (wp_store_row 31 (.tmp 5) (.tmp 40) rfl (w.heap.size + 1 + 1 + 1) (ccells Y).toArray rfl rfl 31 _ S4.out (size_of_crate Tryd.sizeCr _ LY.out) (by show (ccells noB).toArray.size = _; rw [ccells_size _ LY.out]; rfl) (ccells_one _) ?_)
        refine hK.out _ _ ⟨S1.out.rowOff (by omega) _, S2.out.rowOff (by omega) _⟩ (fun hHeld => ?_)
        clear hK K
        try simp only [Act.put, List.getElem_toArray, List.getElem_cons_zero, List.getElem_cons_succ, List.setIfInBounds_toArray, List.set_cons_zero, List.set_cons_succ]
        refine wpAnyH_ready (rs := [4]) (by kernel_rfl) (by simp) ?_
        refine AllReadyH.cons rfl (fun K hK => ?_) AllReadyH.nil
        refine if_wanted rfl ?_
        refine wp_assign0 rfl rfl ?_
        refine hK.out _ _ hHeld (fun hHeld => ?_)
        clear hK K
        refine wpAnyH_done (by kernel_rfl) ?_ _
        try simp only [Act.put, List.getElem_toArray, List.getElem_cons_zero, List.getElem_cons_succ, List.setIfInBounds_toArray, List.set_cons_zero, List.set_cons_succ]
        have hk3 := S3.out.rowOff (B' := w.heap.size + 1 + 1 + 1) (by omega) (ccells Y).toArray
        have hk4 := CBlk.setRow (Y := Y) S4.out
        have hk5 := Below.setRow S5.out (w.heap.size + 1 + 1 + 1) (ccells Y).toArray (by omega)
        have hkD := (setRow_other (W.drew.setRow (w.heap.size + 1 + 1) (ccells X).toArray) (w.heap.size + 1 + 1 + 1) D (ccells Y).toArray (by omega)).trans ((setRow_other W.drew (w.heap.size + 1 + 1) D (ccells X).toArray (by omega)).trans HK.out)
        clear hHeld
        go_wp2
        refine ⟨by simp, .inl ⟨_, _, rfl, run_takeDeferred hkD, ?_⟩⟩
        have hp3 : CBlk (((W.drew.setRow (w.heap.size + 1 + 1) (ccells X).toArray).setRow (w.heap.size + 1 + 1 + 1) (ccells Y).toArray).putObj D (.deferred none)) (w.heap.size + 1 + 1) 31 X := (World.putObj_heap_other (by omega)).trans hk3
        have hp4 : CBlk (((W.drew.setRow (w.heap.size + 1 + 1) (ccells X).toArray).setRow (w.heap.size + 1 + 1 + 1) (ccells Y).toArray).putObj D (.deferred none)) (w.heap.size + 1 + 1 + 1) 31 Y := (World.putObj_heap_other (by omega)).trans hk4
        refine ⟨fiV X Y 0, results_cc3 (v3 := .int .i64 0) rfl _ (by rfl) _ _ _ 31 31 _ _ (0, 0) (0, 0) _ rfl rfl hp3 hp4 Tryd.underlying31 rfl (size_of_crate Tryd.sizeCr _ LX.out) (size_of_crate Tryd.sizeCr _ LY.out), by rw [MX.out.1, MX.out.2], hk5.trans (belowK_b (w := w) (Nat.le_refl _) _ D _ _ (by omega) hkD rfl rfl)⟩
      refine AllReadyH.cons rfl (fun K hK => ?_) AllReadyH.nil
      refine if_wanted rfl (wp_store_row 31 (.tmp 4) (.tmp 39) rfl (w.heap.size + 1 + 1) (ccells X).toArray rfl rfl 31 _ (C3.out.drew) (size_of_crate Tryd.sizeCr _ LX.out) (by show (ccells noB).toArray.size = _; rw [ccells_size _ LX.out]; rfl) (ccells_one _) ?_)
      have S1 : Hid (CBlk (W.drew.setRow (w.heap.size + 1 + 1) (ccells X).toArray) w.heap.size 31 X) := (R1.out.drew).rowOff (by omega) _
      have S2 : Hid (CBlk (W.drew.setRow (w.heap.size + 1 + 1) (ccells X).toArray) (w.heap.size + 1) 31 Y) := (R2.out.drew).rowOff (by omega) _
      have S3 : Hid (CBlk (W.drew.setRow (w.heap.size + 1 + 1) (ccells X).toArray) (w.heap.size + 1 + 1) 31 X) := CBlk.setRow (Y := X) C3.out.drew
      have S4 : Hid (CBlk (W.drew.setRow (w.heap.size + 1 + 1) (ccells X).toArray) (w.heap.size + 1 + 1 + 1) 31 noB) := (C4.out.drew).rowOff (by omega) _
      have S5 : Hid (Below w.heap.size w (W.drew.setRow (w.heap.size + 1 + 1) (ccells X).toArray)) := Below.setRow QB.out.drew _ _ (by omega)
      refine hK.out _ _ ⟨S1.out, S2.out⟩ (fun hHeld => ?_)
      clear hK K hHeld
      try simp only [Act.put, List.getElem_toArray, List.getElem_cons_zero, List.getElem_cons_succ, List.setIfInBounds_toArray, List.set_cons_zero, List.set_cons_succ]
      refine wpAnyH_ready (rs := [1]) (by kernel_rfl) (by simp) ?_
      refine AllReadyH.cons rfl (fun K hK => ?_) AllReadyH.nil
      refine if_wanted rfl (wp_load_row 31 (.tmp 3) rfl (w.heap.size + 1) rfl 31 _ (0, 0) _ (S2.out) Tryd.underlying31 rfl (size_of_crate Tryd.sizeCr _ LY.out) ?_)
      refine hK.out _ _ ⟨S1.out, S2.out⟩ (fun hHeld => ?_)
      clear hK K hHeld
      try simp only [Act.put, List.getElem_toArray, List.getElem_cons_zero, List.getElem_cons_succ, List.setIfInBounds_toArray, List.set_cons_zero, List.set_cons_succ]
      refine wpAnyH_ready (rs := [3]) (by kernel_rfl) (by simp) ?_
      refine AllReadyH.cons rfl (fun K hK => ?_) AllReadyH.nil
      refine if_wanted rfl (wp_store_row 31 (.tmp 5) (.tmp 40) rfl (w.heap.size + 1 + 1 + 1) (ccells Y).toArray rfl rfl 31 _ S4.out (size_of_crate Tryd.sizeCr _ LY.out) (by show (ccells noB).toArray.size = _; rw [ccells_size _ LY.out]; rfl) (ccells_one _) ?_)
      refine hK.out _ _ ⟨S1.out.rowOff (by omega) _, S2.out.rowOff (by omega) _⟩ (fun hHeld => ?_)
      clear hK K
      try simp only [Act.put, List.getElem_toArray, List.getElem_cons_zero, List.getElem_cons_succ, List.setIfInBounds_toArray, List.set_cons_zero, List.set_cons_succ]
      refine wpAnyH_ready (rs := [4]) (by kernel_rfl) (by simp) ?_
      refine AllReadyH.cons rfl (fun K hK => ?_) AllReadyH.nil
      refine if_wanted rfl ?_
      refine wp_assign0 rfl rfl ?_
      refine hK.out _ _ hHeld (fun hHeld => ?_)
      clear hK K
      refine wpAnyH_done (by kernel_rfl) ?_ _
      try simp only [Act.put, List.getElem_toArray, List.getElem_cons_zero, List.getElem_cons_succ, List.setIfInBounds_toArray, List.set_cons_zero, List.set_cons_succ]
      have hk3 := S3.out.rowOff (B' := w.heap.size + 1 + 1 + 1) (by omega) (ccells Y).toArray
      have hk4 := CBlk.setRow (Y := Y) S4.out
      have hk5 := Below.setRow S5.out (w.heap.size + 1 + 1 + 1) (ccells Y).toArray (by omega)
      have hkD := (setRow_other (W.drew.setRow (w.heap.size + 1 + 1) (ccells X).toArray) (w.heap.size + 1 + 1 + 1) D (ccells Y).toArray (by omega)).trans ((setRow_other W.drew (w.heap.size + 1 + 1) D (ccells X).toArray (by omega)).trans HK.out)
      clear hHeld
      go_wp2
      refine ⟨by simp, .inl ⟨_, _, rfl, run_takeDeferred hkD, ?_⟩⟩
      have hp3 : CBlk (((W.drew.setRow (w.heap.size + 1 + 1) (ccells X).toArray).setRow (w.heap.size + 1 + 1 + 1) (ccells Y).toArray).putObj D (.deferred none)) (w.heap.size + 1 + 1) 31 X := (World.putObj_heap_other (by omega)).trans hk3
      have hp4 : CBlk (((W.drew.setRow (w.heap.size + 1 + 1) (ccells X).toArray).setRow (w.heap.size + 1 + 1 + 1) (ccells Y).toArray).putObj D (.deferred none)) (w.heap.size + 1 + 1 + 1) 31 Y := (World.putObj_heap_other (by omega)).trans hk4
      refine ⟨fiV X Y 0, results_cc3 (v3 := .int .i64 0) rfl _ (by rfl) _ _ _ 31 31 _ _ (0, 0) (0, 0) _ rfl rfl hp3 hp4 Tryd.underlying31 rfl (size_of_crate Tryd.sizeCr _ LX.out) (size_of_crate Tryd.sizeCr _ LY.out), by rw [MX.out.1, MX.out.2], hk5.trans (belowK_b (w := w) (Nat.le_refl _) _ D _ _ (by omega) hkD rfl rfl)⟩
    refine AllReadyH.cons rfl (fun K hK => ?_) AllReadyH.nil
    refine if_wanted rfl (wp_load_row 31 (.tmp 3) rfl (w.heap.size + 1) rfl 31 _ (0, 0) _ (R2.out.drew) Tryd.underlying31 rfl (size_of_crate Tryd.sizeCr _ LY.out) ?_)
    refine hK.out _ _ ⟨R1.out, R2.out⟩ (fun hHeld => ?_)
    clear hK K hHeld
    try simp only [Act.put, List.getElem_toArray, List.getElem_cons_zero, List.getElem_cons_succ, List.setIfInBounds_toArray, List.set_cons_zero, List.set_cons_succ]
    refine wpAnyH_ready (rs := [0]) (by kernel_rfl) (by simp) ?_
    refine AllReadyH.cons rfl (fun K hK => ?_) AllReadyH.nil
    refine if_wanted rfl (wp_load_row 31 (.tmp 2) rfl w.heap.size rfl 31 _ (0, 0) _ (R1.out.drew) Tryd.underlying31 rfl (size_of_crate Tryd.sizeCr _ LX.out) ?_)
    refine hK.out _ _ ⟨R1.out, R2.out⟩ (fun hHeld => ?_)
    clear hK K hHeld
    try simp only [Act.put, List.getElem_toArray, List.getElem_cons_zero, List.getElem_cons_succ, List.setIfInBounds_toArray, List.set_cons_zero, List.set_cons_succ]
    refine wpAnyH_ready (rs := [2]) (by kernel_rfl) (by simp) ?_
    refine AllReadyH.cons rfl (fun K hK => ?_) AllReadyH.nil
    refine if_wanted rfl (wp_store_row 31 (.tmp 4) (.tmp 39) rfl (w.heap.size + 1 + 1) (ccells X).toArray rfl rfl 31 _ (C3.out.drew) (size_of_crate Tryd.sizeCr _ LX.out) (by show (ccells noB).toArray.size = _; rw [ccells_size _ LX.out]; rfl) (ccells_one _) ?_)
    have S1 : Hid (CBlk (W.drew.setRow (w.heap.size + 1 + 1) (ccells X).toArray) w.heap.size 31 X) := (R1.out.drew).rowOff (by omega) _
    have S2 : Hid (CBlk (W.drew.setRow (w.heap.size + 1 + 1) (ccells X).toArray) (w.heap.size + 1) 31 Y) := (R2.out.drew).rowOff (by omega) _
    have S3 : Hid (CBlk (W.drew.setRow (w.heap.size + 1 + 1) (ccells X).toArray) (w.heap.size + 1 + 1) 31 X) := CBlk.setRow (Y := X) C3.out.drew
    have S4 : Hid (CBlk (W.drew.setRow (w.heap.size + 1 + 1) (ccells X).toArray) (w.heap.size + 1 + 1 + 1) 31 noB) := (C4.out.drew).rowOff (by omega) _
    have S5 : Hid (Below w.heap.size w (W.drew.setRow (w.heap.size + 1 + 1) (ccells X).toArray)) := Below.setRow QB.out.drew _ _ (by omega)
    refine hK.out _ _ ⟨S1.out, S2.out⟩ (fun hHeld => ?_)
    clear hK K hHeld
    try simp only [Act.put, List.getElem_toArray, List.getElem_cons_zero, List.getElem_cons_succ, List.setIfInBounds_toArray, List.set_cons_zero, List.set_cons_succ]
    refine wpAnyH_ready (rs := [3]) (by kernel_rfl) (by simp) ?_
    refine AllReadyH.cons rfl (fun K hK => ?_) AllReadyH.nil
    refine if_wanted rfl (wp_store_row 31 (.tmp 5) (.tmp 40) rfl (w.heap.size + 1 + 1 + 1) (ccells Y).toArray rfl rfl 31 _ S4.out (size_of_crate Tryd.sizeCr _ LY.out) (by show (ccells noB).toArray.size = _; rw [ccells_size _ LY.out]; rfl) (ccells_one _) ?_)
    refine hK.out _ _ ⟨S1.out.rowOff (by omega) _, S2.out.rowOff (by omega) _⟩ (fun hHeld => ?_)
    clear hK K
    try simp only [Act.put, List.getElem_toArray, List.getElem_cons_zero, List.getElem_cons_succ, List.setIfInBounds_toArray, List.set_cons_zero, List.set_cons_succ]
    refine wpAnyH_ready (rs := [4]) (by kernel_rfl) (by simp) ?_
    refine AllReadyH.cons rfl (fun K hK => ?_) AllReadyH.nil
    refine if_wanted rfl ?_
    refine wp_assign0 rfl rfl ?_
    refine hK.out _ _ hHeld (fun hHeld => ?_)
    clear hK K
    refine wpAnyH_done (by kernel_rfl) ?_ _
    try simp only [Act.put, List.getElem_toArray, List.getElem_cons_zero, List.getElem_cons_succ, List.setIfInBounds_toArray, List.set_cons_zero, List.set_cons_succ]
    have hk3 := S3.out.rowOff (B' := w.heap.size + 1 + 1 + 1) (by omega) (ccells Y).toArray
    have hk4 := CBlk.setRow (Y := Y) S4.out
    have hk5 := Below.setRow S5.out (w.heap.size + 1 + 1 + 1) (ccells Y).toArray (by omega)
    have hkD := (setRow_other (W.drew.setRow (w.heap.size + 1 + 1) (ccells X).toArray) (w.heap.size + 1 + 1 + 1) D (ccells Y).toArray (by omega)).trans ((setRow_other W.drew (w.heap.size + 1 + 1) D (ccells X).toArray (by omega)).trans HK.out)
    clear hHeld
    go_wp2
    refine ⟨by simp, .inl ⟨_, _, rfl, run_takeDeferred hkD, ?_⟩⟩
    have hp3 : CBlk (((W.drew.setRow (w.heap.size + 1 + 1) (ccells X).toArray).setRow (w.heap.size + 1 + 1 + 1) (ccells Y).toArray).putObj D (.deferred none)) (w.heap.size + 1 + 1) 31 X := (World.putObj_heap_other (by omega)).trans hk3
    have hp4 : CBlk (((W.drew.setRow (w.heap.size + 1 + 1) (ccells X).toArray).setRow (w.heap.size + 1 + 1 + 1) (ccells Y).toArray).putObj D (.deferred none)) (w.heap.size + 1 + 1 + 1) 31 Y := (World.putObj_heap_other (by omega)).trans hk4
    refine ⟨fiV X Y 0, results_cc3 (v3 := .int .i64 0) rfl _ (by rfl) _ _ _ 31 31 _ _ (0, 0) (0, 0) _ rfl rfl hp3 hp4 Tryd.underlying31 rfl (size_of_crate Tryd.sizeCr _ LX.out) (size_of_crate Tryd.sizeCr _ LY.out), by rw [MX.out.1, MX.out.2], hk5.trans (belowK_b (w := w) (Nat.le_refl _) _ D _ _ (by omega) hkD rfl rfl)⟩
  case stop =>
    rintro D c pre W hD hpre ⟨⟨X, Y, rfl, hx, hy, q1, q2, q3, q4, q6⟩, hBW⟩ hK
    have hm := q6 hpre
    have MX := Lib.hid hm
    have R1 := Lib.hid q1
    have R2 := Lib.hid q2
    have C3 := Lib.hid q3
    have C4 := Lib.hid q4
    have QB := Lib.hid hBW
    have HK := Lib.hid hK
    have LX := Lib.hid hx.1
    have LY := Lib.hid hy.1
    clear hm q1 q2 q3 q4 q6 hBW hK hx hy c0 cf k1 k2 k3 k4 k5
    refine wpIn_wide.2 ?_
    dsimp only
    go_wp2_with fail
    refine wp_region_held_drew (S := fun w' => CBlk w' w.heap.size 31 X ∧ CBlk w' (w.heap.size + 1) 31 Y) (by kernel_rfl) ⟨R1.out, R2.out⟩ (fun hHeld => ?_)
    refine wpAnyH_ready (rs := [0, 1]) (by kernel_rfl) (by simp) ?_
    refine AllReadyH.cons rfl (fun K hK => ?_) ?_
    · skip
      refine if_wanted rfl (wp_load_row 31 (.tmp 2) rfl w.heap.size rfl 31 _ (0, 0) _ (R1.out.drew) Tryd.underlying31 rfl (size_of_crate Tryd.sizeCr _ LX.out) ?_)
      refine hK.out _ _ ⟨R1.out, R2.out⟩ (fun hHeld => ?_)
      clear hK K hHeld
      try simp only [Act.put, List.getElem_toArray, List.getElem_cons_zero, List.getElem_cons_succ, List.setIfInBounds_toArray, List.set_cons_zero, List.set_cons_succ]
      refine wpAnyH_ready (rs := [1, 2]) (by kernel_rfl) (by simp) ?_
      refine AllReadyH.cons rfl (fun K hK => ?_) ?_
      · skip
        refine if_wanted rfl (wp_load_row 31 (.tmp 3) rfl (w.heap.size + 1) rfl 31 _ (0, 0) _ (R2.out.drew) Tryd.underlying31 rfl (size_of_crate Tryd.sizeCr _ LY.out) ?_)
        refine hK.out _ _ ⟨R1.out, R2.out⟩ (fun hHeld => ?_)
        clear hK K hHeld
        try simp only [Act.put, List.getElem_toArray, List.getElem_cons_zero, List.getElem_cons_succ, List.setIfInBounds_toArray, List.set_cons_zero, List.set_cons_succ]
        refine wpAnyH_ready (rs := [2]) (by kernel_rfl) (by simp) ?_
        refine AllReadyH.cons rfl (fun K hK => ?_) AllReadyH.nil
        refine if_wanted rfl (wp_store_row 31 (.tmp 4) (.tmp 39) rfl (w.heap.size + 1 + 1) (ccells X).toArray rfl rfl 31 _ (C3.out.drew) (size_of_crate Tryd.sizeCr _ LX.out) (by show (ccells noB).toArray.size = _; rw [ccells_size _ LX.out]; rfl) (ccells_one _) ?_)
        have S1 : Hid (CBlk (W.drew.setRow (w.heap.size + 1 + 1) (ccells X).toArray) w.heap.size 31 X) := (R1.out.drew).rowOff (by omega) _
        have S2 : Hid (CBlk (W.drew.setRow (w.heap.size + 1 + 1) (ccells X).toArray) (w.heap.size + 1) 31 Y) := (R2.out.drew).rowOff (by omega) _
        have S3 : Hid (CBlk (W.drew.setRow (w.heap.size + 1 + 1) (ccells X).toArray) (w.heap.size + 1 + 1) 31 X) := CBlk.setRow (Y := X) C3.out.drew
        have S4 : Hid (CBlk (W.drew.setRow (w.heap.size + 1 + 1) (ccells X).toArray) (w.heap.size + 1 + 1 + 1) 31 noB) := (C4.out.drew).rowOff (by omega) _
        have S5 : Hid (Below w.heap.size w (W.drew.setRow (w.heap.size + 1 + 1) (ccells X).toArray)) := Below.setRow QB.out.drew _ _ (by omega)
        refine hK.out _ _ ⟨S1.out, S2.out⟩ (fun hHeld => ?_)
        clear hK K hHeld
        try simp only [Act.put, List.getElem_toArray, List.getElem_cons_zero, List.getElem_cons_succ, List.setIfInBounds_toArray, List.set_cons_zero, List.set_cons_succ]
        refine wpAnyH_ready (rs := [3]) (by kernel_rfl) (by simp) ?_
        refine AllReadyH.cons rfl (fun K hK => ?_) AllReadyH.nil
        refine if_wanted rfl (wp_store_row 31 (.tmp 5) (.tmp 40) rfl (w.heap.size + 1 + 1 + 1) (ccells Y).toArray rfl rfl 31 _ S4.out (size_of_crate Tryd.sizeCr _ LY.out) (by show (ccells noB).toArray.size = _; rw [ccells_size _ LY.out]; rfl) (ccells_one _) ?_)
        refine hK.out _ _ ⟨S1.out.rowOff (by omega) _, S2.out.rowOff (by omega) _⟩ (fun hHeld => ?_)
        clear hK K
        try simp only [Act.put, List.getElem_toArray, List.getElem_cons_zero, List.getElem_cons_succ, List.setIfInBounds_toArray, List.set_cons_zero, List.set_cons_succ]
        refine wpAnyH_ready (rs := [4]) (by kernel_rfl) (by simp) ?_
        refine AllReadyH.cons rfl (fun K hK => ?_) AllReadyH.nil
        refine if_wanted rfl ?_
        refine wp_assign0 rfl rfl ?_
        refine hK.out _ _ hHeld (fun hHeld => ?_)
        clear hK K
        refine wpAnyH_done (by kernel_rfl) ?_ _
        try simp only [Act.put, List.getElem_toArray, List.getElem_cons_zero, List.getElem_cons_succ, List.setIfInBounds_toArray, List.set_cons_zero, List.set_cons_succ]
        have hk3 := S3.out.rowOff (B' := w.heap.size + 1 + 1 + 1) (by omega) (ccells Y).toArray
        have hk4 := CBlk.setRow (Y := Y) S4.out
        have hk5 := Below.setRow S5.out (w.heap.size + 1 + 1 + 1) (ccells Y).toArray (by omega)
        have hkD := (setRow_other (W.drew.setRow (w.heap.size + 1 + 1) (ccells X).toArray) (w.heap.size + 1 + 1 + 1) D (ccells Y).toArray (by omega)).trans ((setRow_other W.drew (w.heap.size + 1 + 1) D (ccells X).toArray (by omega)).trans HK.out)
        clear hHeld
        go_wp2
        refine ⟨by simp, .inl ⟨_, _, rfl, run_takeDeferred hkD, ?_⟩⟩
        have hp3 : CBlk (((W.drew.setRow (w.heap.size + 1 + 1) (ccells X).toArray).setRow (w.heap.size + 1 + 1 + 1) (ccells Y).toArray).putObj D (.deferred none)) (w.heap.size + 1 + 1) 31 X := (World.putObj_heap_other (by omega)).trans hk3
        have hp4 : CBlk (((W.drew.setRow (w.heap.size + 1 + 1) (ccells X).toArray).setRow (w.heap.size + 1 + 1 + 1) (ccells Y).toArray).putObj D (.deferred none)) (w.heap.size + 1 + 1 + 1) 31 Y := (World.putObj_heap_other (by omega)).trans hk4
        refine ⟨fiV X Y 0, results_cc3 (v3 := .int .i64 0) rfl _ (by rfl) _ _ _ 31 31 _ _ (0, 0) (0, 0) _ rfl rfl hp3 hp4 Tryd.underlying31 rfl (size_of_crate Tryd.sizeCr _ LX.out) (size_of_crate Tryd.sizeCr _ LY.out), by rw [MX.out.1, MX.out.2], hk5.trans (belowK_b (w := w) (Nat.le_refl _) _ D _ _ (by omega) hkD rfl rfl)⟩
      refine AllReadyH.cons rfl (fun K hK => ?_) AllReadyH.nil
      refine if_wanted rfl (wp_store_row 31 (.tmp 4) (.tmp 39) rfl (w.heap.size + 1 + 1) (ccells X).toArray rfl rfl 31 _ (C3.out.drew) (size_of_crate Tryd.sizeCr _ LX.out) (by show (ccells noB).toArray.size = _; rw [ccells_size _ LX.out]; rfl) (ccells_one _) ?_)
      have S1 : Hid (CBlk (W.drew.setRow (w.heap.size + 1 + 1) (ccells X).toArray) w.heap.size 31 X) := (R1.out.drew).rowOff (by omega) _
      have S2 : Hid (CBlk (W.drew.setRow (w.heap.size + 1 + 1) (ccells X).toArray) (w.heap.size + 1) 31 Y) := (R2.out.drew).rowOff (by omega) _
      have S3 : Hid (CBlk (W.drew.setRow (w.heap.size + 1 + 1) (ccells X).toArray) (w.heap.size + 1 + 1) 31 X) := CBlk.setRow (Y := X) C3.out.drew
      have S4 : Hid (CBlk (W.drew.setRow (w.heap.size + 1 + 1) (ccells X).toArray) (w.heap.size + 1 + 1 + 1) 31 noB) := (C4.out.drew).rowOff (by omega) _
      have S5 : Hid (Below w.heap.size w (W.drew.setRow (w.heap.size + 1 + 1) (ccells X).toArray)) := Below.setRow QB.out.drew _ _ (by omega)
      refine hK.out _ _ ⟨S1.out, S2.out⟩ (fun hHeld => ?_)
      clear hK K hHeld
      try simp only [Act.put, List.getElem_toArray, List.getElem_cons_zero, List.getElem_cons_succ, List.setIfInBounds_toArray, List.set_cons_zero, List.set_cons_succ]
      refine wpAnyH_ready (rs := [1]) (by kernel_rfl) (by simp) ?_
      refine AllReadyH.cons rfl (fun K hK => ?_) AllReadyH.nil
      refine if_wanted rfl (wp_load_row 31 (.tmp 3) rfl (w.heap.size + 1) rfl 31 _ (0, 0) _ (S2.out) Tryd.underlying31 rfl (size_of_crate Tryd.sizeCr _ LY.out) ?_)
      refine hK.out _ _ ⟨S1.out, S2.out⟩ (fun hHeld => ?_)
      clear hK K hHeld
      try simp only [Act.put, List.getElem_toArray, List.getElem_cons_zero, List.getElem_cons_succ, List.setIfInBounds_toArray, List.set_cons_zero, List.set_cons_succ]
      refine wpAnyH_ready (rs := [3]) (by kernel_rfl) (by simp) ?_
      refine AllReadyH.cons rfl (fun K hK => ?_) AllReadyH.nil
      refine if_wanted rfl (wp_store_row 31 (.tmp 5) (.tmp 40) rfl (w.heap.size + 1 + 1 + 1) (ccells Y).toArray rfl rfl 31 _ S4.out (size_of_crate Tryd.sizeCr _ LY.out) (by show (ccells noB).toArray.size = _; rw [ccells_size _ LY.out]; rfl) (ccells_one _) ?_)
      refine hK.out _ _ ⟨S1.out.rowOff (by omega) _, S2.out.rowOff (by omega) _⟩ (fun hHeld => ?_)
      clear hK K
      try simp only [Act.put, List.getElem_toArray, List.getElem_cons_zero, List.getElem_cons_succ, List.setIfInBounds_toArray, List.set_cons_zero, List.set_cons_succ]
      refine wpAnyH_ready (rs := [4]) (by kernel_rfl) (by simp) ?_
      refine AllReadyH.cons rfl (fun K hK => ?_) AllReadyH.nil
      refine if_wanted rfl ?_
      refine wp_assign0 rfl rfl ?_
      refine hK.out _ _ hHeld (fun hHeld => ?_)
      clear hK K
      refine wpAnyH_done (by kernel_rfl) ?_ _
      try simp only [Act.put, List.getElem_toArray, List.getElem_cons_zero, List.getElem_cons_succ, List.setIfInBounds_toArray, List.set_cons_zero, List.set_cons_succ]
      have hk3 := S3.out.rowOff (B' := w.heap.size + 1 + 1 + 1) (by omega) (ccells Y).toArray
      have hk4 := CBlk.setRow (Y := Y) S4.out
      have hk5 := Below.setRow S5.out (w.heap.size + 1 + 1 + 1) (ccells Y).toArray (by omega)
      have hkD := (setRow_other (W.drew.setRow (w.heap.size + 1 + 1) (ccells X).toArray) (w.heap.size + 1 + 1 + 1) D (ccells Y).toArray (by omega)).trans ((setRow_other W.drew (w.heap.size + 1 + 1) D (ccells X).toArray (by omega)).trans HK.out)
      clear hHeld
      go_wp2
      refine ⟨by simp, .inl ⟨_, _, rfl, run_takeDeferred hkD, ?_⟩⟩
      have hp3 : CBlk (((W.drew.setRow (w.heap.size + 1 + 1) (ccells X).toArray).setRow (w.heap.size + 1 + 1 + 1) (ccells Y).toArray).putObj D (.deferred none)) (w.heap.size + 1 + 1) 31 X := (World.putObj_heap_other (by omega)).trans hk3
      have hp4 : CBlk (((W.drew.setRow (w.heap.size + 1 + 1) (ccells X).toArray).setRow (w.heap.size + 1 + 1 + 1) (ccells Y).toArray).putObj D (.deferred none)) (w.heap.size + 1 + 1 + 1) 31 Y := (World.putObj_heap_other (by omega)).trans hk4
      refine ⟨fiV X Y 0, results_cc3 (v3 := .int .i64 0) rfl _ (by rfl) _ _ _ 31 31 _ _ (0, 0) (0, 0) _ rfl rfl hp3 hp4 Tryd.underlying31 rfl (size_of_crate Tryd.sizeCr _ LX.out) (size_of_crate Tryd.sizeCr _ LY.out), by rw [MX.out.1, MX.out.2], hk5.trans (belowK_b (w := w) (Nat.le_refl _) _ D _ _ (by omega) hkD rfl rfl)⟩
    refine AllReadyH.cons rfl (fun K hK => ?_) AllReadyH.nil
    refine if_wanted rfl (wp_load_row 31 (.tmp 3) rfl (w.heap.size + 1) rfl 31 _ (0, 0) _ (R2.out.drew) Tryd.underlying31 rfl (size_of_crate Tryd.sizeCr _ LY.out) ?_)
    refine hK.out _ _ ⟨R1.out, R2.out⟩ (fun hHeld => ?_)
    clear hK K hHeld
    try simp only [Act.put, List.getElem_toArray, List.getElem_cons_zero, List.getElem_cons_succ, List.setIfInBounds_toArray, List.set_cons_zero, List.set_cons_succ]
    refine wpAnyH_ready (rs := [0]) (by kernel_rfl) (by simp) ?_
    refine AllReadyH.cons rfl (fun K hK => ?_) AllReadyH.nil
    refine if_wanted rfl (wp_load_row 31 (.tmp 2) rfl w.heap.size rfl 31 _ (0, 0) _ (R1.out.drew) Tryd.underlying31 rfl (size_of_crate Tryd.sizeCr _ LX.out) ?_)
    refine hK.out _ _ ⟨R1.out, R2.out⟩ (fun hHeld => ?_)
    clear hK K hHeld
    try simp only [Act.put, List.getElem_toArray, List.getElem_cons_zero, List.getElem_cons_succ, List.setIfInBounds_toArray, List.set_cons_zero, List.set_cons_succ]
    refine wpAnyH_ready (rs := [2]) (by kernel_rfl) (by simp) ?_
    refine AllReadyH.cons rfl (fun K hK => ?_) AllReadyH.nil
    refine if_wanted rfl (wp_store_row 31 (.tmp 4) (.tmp 39) rfl (w.heap.size + 1 + 1) (ccells X).toArray rfl rfl 31 _ (C3.out.drew) (size_of_crate Tryd.sizeCr _ LX.out) (by show (ccells noB).toArray.size = _; rw [ccells_size _ LX.out]; rfl) (ccells_one _) ?_)
    have S1 : Hid (CBlk (W.drew.setRow (w.heap.size + 1 + 1) (ccells X).toArray) w.heap.size 31 X) := (R1.out.drew).rowOff (by omega) _
    have S2 : Hid (CBlk (W.drew.setRow (w.heap.size + 1 + 1) (ccells X).toArray) (w.heap.size + 1) 31 Y) := (R2.out.drew).rowOff (by omega) _
    have S3 : Hid (CBlk (W.drew.setRow (w.heap.size + 1 + 1) (ccells X).toArray) (w.heap.size + 1 + 1) 31 X) := CBlk.setRow (Y := X) C3.out.drew
    have S4 : Hid (CBlk (W.drew.setRow (w.heap.size + 1 + 1) (ccells X).toArray) (w.heap.size + 1 + 1 + 1) 31 noB) := (C4.out.drew).rowOff (by omega) _
    have S5 : Hid (Below w.heap.size w (W.drew.setRow (w.heap.size + 1 + 1) (ccells X).toArray)) := Below.setRow QB.out.drew _ _ (by omega)
    refine hK.out _ _ ⟨S1.out, S2.out⟩ (fun hHeld => ?_)
    clear hK K hHeld
    try simp only [Act.put, List.getElem_toArray, List.getElem_cons_zero, List.getElem_cons_succ, List.setIfInBounds_toArray, List.set_cons_zero, List.set_cons_succ]
    refine wpAnyH_ready (rs := [3]) (by kernel_rfl) (by simp) ?_
    refine AllReadyH.cons rfl (fun K hK => ?_) AllReadyH.nil
    refine if_wanted rfl (wp_store_row 31 (.tmp 5) (.tmp 40) rfl (w.heap.size + 1 + 1 + 1) (ccells Y).toArray rfl rfl 31 _ S4.out (size_of_crate Tryd.sizeCr _ LY.out) (by show (ccells noB).toArray.size = _; rw [ccells_size _ LY.out]; rfl) (ccells_one _) ?_)
    refine hK.out _ _ ⟨S1.out.rowOff (by omega) _, S2.out.rowOff (by omega) _⟩ (fun hHeld => ?_)
    clear hK K
    try simp only [Act.put, List.getElem_toArray, List.getElem_cons_zero, List.getElem_cons_succ, List.setIfInBounds_toArray, List.set_cons_zero, List.set_cons_succ]
    refine wpAnyH_ready (rs := [4]) (by kernel_rfl) (by simp) ?_
    refine AllReadyH.cons rfl (fun K hK => ?_) AllReadyH.nil
    refine if_wanted rfl ?_
    refine wp_assign0 rfl rfl ?_
    refine hK.out _ _ hHeld (fun hHeld => ?_)
    clear hK K
    refine wpAnyH_done (by kernel_rfl) ?_ _
    try simp only [Act.put, List.getElem_toArray, List.getElem_cons_zero, List.getElem_cons_succ, List.setIfInBounds_toArray, List.set_cons_zero, List.set_cons_succ]
    have hk3 := S3.out.rowOff (B' := w.heap.size + 1 + 1 + 1) (by omega) (ccells Y).toArray
    have hk4 := CBlk.setRow (Y := Y) S4.out
    have hk5 := Below.setRow S5.out (w.heap.size + 1 + 1 + 1) (ccells Y).toArray (by omega)
    have hkD := (setRow_other (W.drew.setRow (w.heap.size + 1 + 1) (ccells X).toArray) (w.heap.size + 1 + 1 + 1) D (ccells Y).toArray (by omega)).trans ((setRow_other W.drew (w.heap.size + 1 + 1) D (ccells X).toArray (by omega)).trans HK.out)
    clear hHeld
    go_wp2
    refine ⟨by simp, .inl ⟨_, _, rfl, run_takeDeferred hkD, ?_⟩⟩
    have hp3 : CBlk (((W.drew.setRow (w.heap.size + 1 + 1) (ccells X).toArray).setRow (w.heap.size + 1 + 1 + 1) (ccells Y).toArray).putObj D (.deferred none)) (w.heap.size + 1 + 1) 31 X := (World.putObj_heap_other (by omega)).trans hk3
    have hp4 : CBlk (((W.drew.setRow (w.heap.size + 1 + 1) (ccells X).toArray).setRow (w.heap.size + 1 + 1 + 1) (ccells Y).toArray).putObj D (.deferred none)) (w.heap.size + 1 + 1 + 1) 31 Y := (World.putObj_heap_other (by omega)).trans hk4
    refine ⟨fiV X Y 0, results_cc3 (v3 := .int .i64 0) rfl _ (by rfl) _ _ _ 31 31 _ _ (0, 0) (0, 0) _ rfl rfl hp3 hp4 Tryd.underlying31 rfl (size_of_crate Tryd.sizeCr _ LX.out) (size_of_crate Tryd.sizeCr _ LY.out), by rw [MX.out.1, MX.out.2], hk5.trans (belowK_b (w := w) (Nat.le_refl _) _ D _ _ (by omega) hkD rfl rfl)⟩
end Go.Proofs.YtjiihdljchaeiaeDoor
