/-
  The contracts of DifferIn itself, of the model and of the program. Condition: the crates' lengths, that their numbers fit their kinds; the sentinel errors lie as the row lists them (the program's).
-/
import Derived.Test.YtidfddemcjjgdaaDoorDf
namespace Go.Proofs.YtidfddemcjjgdaaDoor
open Go.ChangeShapes Go.WideShapes Go.ChangeAt Go.RowKit Go.Deep

def diL (cs bs : List Bot) : List Nat := if (okC cs && okC bs) = true then dfN cs bs 12 else []
def diC (cs bs : List Bot) : Int := if (okC cs && okC bs) = true then 0 else 1
theorem diL_len (cs bs : List Bot) : (diL cs bs).length ≤ 12 := by
  unfold diL; split
  · exact dfN_length _ _ _
  · simp
theorem di_no {cs bs : List Bot} (h : (okC cs && okC bs) = false) : diL cs bs = [] ∧ diC cs bs = 1 := by simp [diL, diC, h]
theorem di_ok {cs bs : List Bot} (h : (okC cs && okC bs) = true) : diL cs bs = dfN cs bs 12 ∧ diC cs bs = 0 := by
  unfold diL diC; rw [if_pos h, if_pos h]; exact ⟨rfl, rfl⟩

set_option maxRecDepth 100000 in
set_option maxHeartbeats 2000000 in
theorem specDiffer_any (cs bs : List Bot) (hwa : WfC cs) (hwb : WfC bs) (w : World) : Calls Tryd.prog 25 #[.agg (ccells cs).toArray, .agg (ccells bs).toArray] w
    fun e w' => ∃ v, e = .returned (.tuple #[v, .int .i64 (diC cs bs)]) ∧ w'.ownsRow w.heap.size 2 1 v (diL cs bs).length (nats (diL cs bs)) ∧ Below w.heap.size w w' := by
  have HW := Lib.hid hwa
  have HW2 := Lib.hid hwb
  clear hwa hwb
  have h1 : CBlk ((w.alloc (.cells (ccells cs).toArray 31)).alloc (.cells (ccells bs).toArray 31)) w.heap.size 31 cs := (CBlk.new w _ cs).alloc _
  have h2 : CBlk ((w.alloc (.cells (ccells cs).toArray 31)).alloc (.cells (ccells bs).toArray 31)) (w.heap.size + 1) 31 bs := CBlk.new' (by simp) rfl
  have hb : Below w.heap.size w ((w.alloc (.cells (ccells cs).toArray 31)).alloc (.cells (ccells bs).toArray 31)) := (by repeat (first | exact Below.refl _ _ | refine Below.drew ?_ | refine Below.alloc ?_ (by simp <;> omega) _ | refine Below.setCell ?_ (by simp <;> omega) _))
  obtain ⟨W0, hW0⟩ : ∃ W0, ((w.alloc (.cells (ccells cs).toArray 31)).alloc (.cells (ccells bs).toArray 31)) = W0 := ⟨_, rfl⟩
  rw [hW0] at h1 h2 hb
  have H1 := Lib.hid h1
  have H2 := Lib.hid h2
  have H3 := Lib.hid hb
  clear h1 h2 hb
  go_enter Tryd.func25, Tryd.ntmps25
  go_wp2_with fail
  clear hW0
  refine (l01Ok_any cs HW.out _ _ H1.out).mono ?_
  rintro e w1 ⟨rfl, hb⟩
  have J1 : Hid (CBlk w1 w.heap.size 31 cs) := H1.out.below hb H1.out.lt
  have J2 : Hid (CBlk w1 (w.heap.size + 1) 31 bs) := H2.out.below hb H2.out.lt
  have J3 : Hid (Below w.heap.size w w1) := H3.out.trans (hb.mono H3.out.size)
  clear hb H1 H2 H3
  cases hv : okC cs
  · have HN := Lib.hid (di_no (cs := cs) (bs := bs) (by rw [hv]; rfl))
    clear hv
    go_wp2
    go_ret2
    refine ⟨_, by rw [HN.out.2]; first | done | rfl, ?_, J3.out.alloc J3.out.size _⟩
    rw [HN.out.1]
    exact ⟨rfl, .inr ⟨w1.heap.size, 0, #[], rfl, J3.out.size, heap_alloc_new w1 _, Nat.le_refl _, by unfold maxLen; omega, rfl, rfl⟩⟩
  · have Hv := Lib.hid hv
    clear hv
    go_wp2_with fail
    refine (l01Ok_any bs HW2.out _ _ J2.out).mono ?_
    rintro e w2 ⟨rfl, hb⟩
    have I1 : Hid (CBlk w2 w.heap.size 31 cs) := J1.out.below hb J1.out.lt
    have I2 : Hid (CBlk w2 (w.heap.size + 1) 31 bs) := J2.out.below hb J2.out.lt
    have I3 : Hid (Below w.heap.size w w2) := J3.out.trans (hb.mono J3.out.size)
    clear hb J1 J2 J3
    cases hv2 : okC bs
    · have HN := Lib.hid (di_no (cs := cs) (bs := bs) (by rw [hv2, Bool.and_false]))
      clear hv2
      go_wp2
      go_ret2
      refine ⟨_, by rw [HN.out.2]; first | done | rfl, ?_, I3.out.alloc I3.out.size _⟩
      rw [HN.out.1]
      exact ⟨rfl, .inr ⟨w2.heap.size, 0, #[], rfl, I3.out.size, heap_alloc_new w2 _, Nat.le_refl _, by unfold maxLen; omega, rfl, rfl⟩⟩
    · have HN := Lib.hid (di_ok (cs := cs) (bs := bs) (by rw [Hv.out, hv2]; rfl))
      clear hv2
      go_wp2_with fail
      refine (l03Differ_any cs bs HW.out HW2.out _ _ _ I1.out I2.out).mono ?_
      rintro e w3 ⟨v, rfl, hr, hb⟩
      have HR := Lib.hid hr
      have K3 : Hid (Below w.heap.size w w3) := I3.out.trans (hb.mono I3.out.size)
      clear hr hb
      go_wp2
      go_ret2
      refine ⟨v, by rw [HN.out.2]; first | done | rfl, ?_, K3.out⟩
      rw [HN.out.1]
      exact own_base2 HR.out I3.out.size

set_option maxRecDepth 100000 in
set_option maxHeartbeats 2000000 in
theorem implDiffer_any (cs bs : List Bot) (hwa : WfC cs) (hwb : WfC bs) (ad : Nat → Addr) (w : World) (hE : EW 7 w ad) : Calls Tryd.prog 26 #[.agg (ccells cs).toArray, .agg (ccells bs).toArray] w
    fun e w' => ∃ v, e = .returned (.tuple #[v, .int .i64 (diC cs bs)]) ∧ w'.ownsRow w.heap.size 2 1 v (diL cs bs).length (nats (diL cs bs)) ∧ Below w.heap.size w w' := by
  have HE := Lib.hid hE
  clear hE
  have HW := Lib.hid hwa
  have HW2 := Lib.hid hwb
  clear hwa hwb
  have h1 : CBlk ((w.alloc (.cells (ccells cs).toArray 31)).alloc (.cells (ccells bs).toArray 31)) w.heap.size 31 cs := (CBlk.new w _ cs).alloc _
  have h2 : CBlk ((w.alloc (.cells (ccells cs).toArray 31)).alloc (.cells (ccells bs).toArray 31)) (w.heap.size + 1) 31 bs := CBlk.new' (by simp) rfl
  have hb : Below w.heap.size w ((w.alloc (.cells (ccells cs).toArray 31)).alloc (.cells (ccells bs).toArray 31)) := (by repeat (first | exact Below.refl _ _ | refine Below.drew ?_ | refine Below.alloc ?_ (by simp <;> omega) _ | refine Below.setCell ?_ (by simp <;> omega) _))
  obtain ⟨W0, hW0⟩ : ∃ W0, ((w.alloc (.cells (ccells cs).toArray 31)).alloc (.cells (ccells bs).toArray 31)) = W0 := ⟨_, rfl⟩
  rw [hW0] at h1 h2 hb
  have H1 := Lib.hid h1
  have H2 := Lib.hid h2
  have H3 := Lib.hid hb
  clear h1 h2 hb
  go_enter Tryd.func26, Tryd.ntmps26
  go_wp2_with (first
    | (refine wpList_load_row rfl 31 (.tmp 2) rfl w.heap.size rfl 31 _ (0, 0) _ H1.out Tryd.underlying31 rfl (size_of_crate Tryd.sizeCr _ HW.out.1) ?_)
    | (refine wpList_load_row rfl 31 (.tmp 3) rfl (w.heap.size + 1) rfl 31 _ (0, 0) _ H2.out Tryd.underlying31 rfl (size_of_crate Tryd.sizeCr _ HW2.out.1) ?_)
    | (refine wpList_twoCrates rfl 61 31 (.tmp 7) (.tmp 8) rfl cs bs HW.out.1 HW2.out.1 rfl rfl Tryd.underlying61 Tryd.sizeCr Tryd.zeroCr ?_))
  clear hW0
  have hA : Below W0.heap.size W0 (W0.alloc (.cells (ccells (cs ++ bs)).toArray 31)) := (Below.refl _ W0).alloc (Nat.le_refl _) _
  have hBA := H3.out.trans (hA.mono H3.out.size)
  have hrd := rd_two (B := (W0.alloc (.cells (ccells (cs ++ bs)).toArray 31)).heap.size) ⟨cs, HW.out⟩ ⟨bs, HW2.out⟩ (CBlk.new W0 31 (cs ++ bs)) (by simp)
  refine (checkCrates_any [⟨cs, HW.out⟩, ⟨bs, HW2.out⟩] _ _ ad _ (by simp) hrd (HE.out.below hBA (Nat.le_refl _))).mono ?_
  rintro e w1 ⟨rfl, hb⟩
  have hb := hA.trans (hb.mono hA.size)
  have J1 : Hid (CBlk w1 w.heap.size 31 cs) := H1.out.below hb H1.out.lt
  have J2 : Hid (CBlk w1 (w.heap.size + 1) 31 bs) := H2.out.below hb H2.out.lt
  have J3 : Hid (Below w.heap.size w w1) := H3.out.trans (hb.mono H3.out.size)
  clear hb hA hBA hrd H1 H2 H3
  have hok : okL [(⟨cs, HW.out⟩ : Crt), ⟨bs, HW2.out⟩] = (okC cs && okC bs) := by simp [okL]
  rw [hok]
  clear hok
  cases hv : (okC cs && okC bs)
  · have HN := Lib.hid (di_no hv)
    have e1 : chkV ad false = .iface 202 (.pointer (some (ad 5))) := rfl
    rw [e1]
    clear hv e1
    go_wp2_with fail
    refine (codeOf_5 (HE.out.below J3.out (Nat.le_refl _))).mono ?_
    rintro e w2 ⟨rfl, rfl⟩
    go_wp2
    go_ret2
    refine ⟨_, by rw [HN.out.2]; first | done | rfl, ?_, J3.out⟩
    rw [HN.out.1]
    exact ⟨rfl, .inl ⟨rfl, rfl⟩⟩
  · have HN := Lib.hid (di_ok hv)
    have e1 : chkV ad true = .nilIface := rfl
    rw [e1]
    clear hv e1
    go_wp2_with (first
      | (refine wpList_load_row rfl 31 (.tmp 2) rfl w.heap.size rfl 31 _ (0, 0) _ J1.out Tryd.underlying31 rfl (size_of_crate Tryd.sizeCr _ HW.out.1) ?_)
      | (refine wpList_load_row rfl 31 (.tmp 3) rfl (w.heap.size + 1) rfl 31 _ (0, 0) _ J2.out Tryd.underlying31 rfl (size_of_crate Tryd.sizeCr _ HW2.out.1) ?_))
    refine (differIn_any cs bs HW.out HW2.out _).mono ?_
    rintro e w3 ⟨v, rfl, hr, hb⟩
    have HR := Lib.hid hr
    have K3 : Hid (Below w.heap.size w w3) := J3.out.trans (hb.mono J3.out.size)
    clear hr hb
    go_wp2
    go_ret2
    refine ⟨v, by rw [HN.out.2]; first | done | rfl, ?_, K3.out⟩
    rw [HN.out.1]
    exact own_base2 HR.out J3.out.size
end Go.Proofs.YtidfddemcjjgdaaDoor
