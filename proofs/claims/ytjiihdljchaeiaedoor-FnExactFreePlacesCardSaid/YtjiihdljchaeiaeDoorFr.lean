/-
  The contracts of FreePlaces, of the model and of the program. Condition: the crate's length, that its numbers fit their kinds; the sentinel errors lie as the row lists them (the program's).
-/
import Derived.Test.YtjiihdljchaeiaeDoorCo
import Derived.Test.YtjiihdljchaeiaeDoorQ
import Derived.Test.YtjiihdljchaeiaeDoorFF
namespace Go.Proofs.YtjiihdljchaeiaeDoor
open Go.ChangeShapes Go.WideShapes Go.ChangeAt Go.RowKit

/-- All places without a bottle of a valid crate. -/
def frL (bs : List Bot) : List Nat := if okC bs = true then usedN bs eB 12 else []
def frC (bs : List Bot) : Int := if okC bs = true then 0 else 1
theorem frL_len (bs : List Bot) : (frL bs).length ≤ 12 := by
  unfold frL; split
  · exact usedN_length _ _ _
  · simp
theorem own_base {W : World} {base base' : Nat} {e : TypeId} {size : Nat} {v : Value} {k : Nat} {xs : List Value} (h : W.ownsRow base e size v k xs) (hb : base' ≤ base) : W.ownsRow base' e size v k xs := by
  refine ⟨h.1, ?_⟩
  rcases h.2 with hn | ⟨g, cap, cur, hv, hbg, rest⟩
  · exact .inl hn
  · exact .inr ⟨g, cap, cur, hv, Nat.le_trans hb hbg, rest⟩
theorem own_keep {W W' : World} {base : Nat} {e : TypeId} {size : Nat} {v : Value} {k : Nat} {xs : List Value} (h : W.ownsRow base e size v k xs) (hb : Below W.heap.size W W') : W'.ownsRow base e size v k xs := h.kept (grown_of_below hb) (Classical.em _)

theorem specFree_any (bs : List Bot) (hwf : WfC bs) (w : World) : Calls Tryd.prog 7 #[.agg (ccells bs).toArray] w
    fun e w' => ∃ v, e = .returned (.tuple #[v, .int .i64 (frC bs)]) ∧ w'.ownsRow w.heap.size 2 1 v (frL bs).length (nats (frL bs)) ∧ Below w.heap.size w w' := by
  have HW := Lib.hid hwf
  have H1 := Lib.hid (CBlk.new w 31 bs)
  have HB0 : Hid (Below w.heap.size w (w.alloc (.cells (ccells bs).toArray 31))) := (Below.refl _ w).alloc (Nat.le_refl _) _
  clear hwf
  go_enter Tryd.func7, Tryd.ntmps7
  go_wp2_with fail
  refine (l01Ok_any bs HW.out _ _ H1.out).mono ?_
  rintro e w1 ⟨rfl, hb1⟩
  have HB1 : Hid (Below w.heap.size w w1) := HB0.out.trans (hb1.mono HB0.out.size)
  have K1 : Hid (CBlk w1 w.heap.size 31 bs) := H1.out.below hb1 H1.out.lt
  clear hb1 H1 HB0
  cases hv : okC bs
  · have Hv := Lib.hid hv
    clear hv
    go_wp2
    go_ret2
    refine ⟨_, by rw [frC, Hv.out]; rfl, ?_, HB1.out.alloc HB1.out.size _⟩
    rw [frL, Hv.out]
    exact ⟨rfl, .inr ⟨w1.heap.size, 0, #[], rfl, HB1.out.size, heap_alloc_new w1 _, Nat.le_refl _, by unfold maxLen; omega, rfl, rfl⟩⟩
  · have Hv := Lib.hid hv
    clear hv
    go_wp2_with fail
    refine (l01Empty_any bs HW.out _ _ K1.out).mono ?_
    rintro e w2 ⟨v, rfl, hr, hb2⟩
    have HR := Lib.hid hr
    have HB2 : Hid (Below w.heap.size w w2) := HB1.out.trans (hb2.mono HB1.out.size)
    clear hr hb2
    go_wp2
    go_ret2
    refine ⟨v, by rw [frC, Hv.out]; rfl, ?_, HB2.out⟩
    rw [frL, Hv.out]
    exact own_base HR.out HB1.out.size

theorem isFree_fits0 (n₀ : Nat) (w0 : World) : Fits Tryd.prog n₀ w0 30 #[] eB := fun b W _ _ => isFree_any b.1 b.2 W

set_option maxHeartbeats 1000000 in
theorem implFree_any (bs : List Bot) (hwf : WfC bs) (ad : Nat → Addr) (w : World) (hE : EW 7 w ad) : Calls Tryd.prog 9 #[.agg (ccells bs).toArray] w
    fun e w' => ∃ v, e = .returned (.tuple #[v, .int .i64 (frC bs)]) ∧ w'.ownsRow w.heap.size 2 1 v (frL bs).length (nats (frL bs)) ∧ Below w.heap.size w w' := by
  have HW := Lib.hid hwf
  have HE := Lib.hid hE
  clear hwf hE
  have H1 := Lib.hid (CBlk.new w 31 bs)
  have HB0 : Hid (Below w.heap.size w (w.alloc (.cells (ccells bs).toArray 31))) := (Below.refl _ w).alloc (Nat.le_refl _) _
  go_enter Tryd.func9, Tryd.ntmps9
  go_wp2_with (first
    | (refine wpList_load_row rfl 31 (.tmp 1) rfl w.heap.size rfl 31 _ (0, 0) _ H1.out Tryd.underlying31 rfl (size_of_crate Tryd.sizeCr _ HW.out.1) ?_)
    | (refine wpList_oneCrate rfl 66 31 (.tmp 5) rfl bs HW.out.1 rfl Tryd.underlying66 Tryd.sizeCr Tryd.zeroCr ?_))
  obtain ⟨W0, hW0⟩ : ∃ W0, (w.alloc (.cells (ccells bs).toArray 31)).alloc (.cells (ccells bs).toArray 31) = W0 := ⟨_, rfl⟩
  have hB0 : Below w.heap.size w W0 := by rw [← hW0]; exact (by repeat (first | exact Below.refl _ _ | refine Below.drew ?_ | refine Below.alloc ?_ (by simp <;> omega) _ | refine Below.setCell ?_ (by simp <;> omega) _))
  have k0 : CBlk W0 w.heap.size 31 bs := by rw [← hW0]; exact CBlk.alloc H1.out _
  have k1 : CBlk W0 (w.heap.size + 1) 31 bs := by rw [← hW0]; exact CBlk.new' (by simp) rfl
  rw [hW0]
  have HBW := Lib.hid hB0
  have K0 := Lib.hid k0
  have K1 := Lib.hid k1
  clear hW0 hB0 k0 k1 H1 HB0
  refine (checkOne_any bs HW.out _ _ ad _ K1.out (HE.out.below HBW.out (Nat.le_refl _))).mono ?_
  rintro e w1 ⟨rfl, hb1⟩
  have HB1 : Hid (Below w.heap.size w w1) := HBW.out.trans (hb1.mono HBW.out.size)
  have K2 : Hid (CBlk w1 w.heap.size 31 bs) := K0.out.below hb1 K0.out.lt
  clear hb1 K0 K1 HBW
  cases hv : okC bs
  · have Hv := Lib.hid hv
    have e1 : chkV ad false = .iface 88 (.pointer (some (ad 5))) := rfl
    rw [e1]
    clear hv e1
    go_wp2_with fail
    refine (codeOf_5 (HE.out.below HB1.out (Nat.le_refl _))).mono ?_
    rintro e w2 ⟨rfl, rfl⟩
    go_wp2
    go_ret2
    refine ⟨_, by rw [frC, Hv.out]; rfl, ?_, HB1.out⟩
    rw [frL, Hv.out]
    exact ⟨rfl, .inl ⟨rfl, rfl⟩⟩
  · have Hv := Lib.hid hv
    have e1 : chkV ad true = .nilIface := rfl
    rw [e1]
    clear hv e1
    go_wp2_with (refine wpList_load_row rfl 31 (.tmp 1) rfl w.heap.size rfl 31 _ (0, 0) _ K2.out Tryd.underlying31 rfl (size_of_crate Tryd.sizeCr _ HW.out.1) ?_)
    refine (placesWith_any bs _ ⟨_, _, rfl⟩ _).mono ?_
    rintro e w2 ⟨rfl, hw2⟩
    have hB2 : Below w1.heap.size w1 w2 := by rw [hw2]; exact (by repeat (first | exact Below.refl _ _ | refine Below.drew ?_ | refine Below.alloc ?_ (by simp <;> omega) _ | refine Below.setCell ?_ (by simp <;> omega) _))
    have k1 : CBlk w2 w1.heap.size 31 bs := by rw [hw2]; exact (CBlk.new w1 _ bs).alloc _
    have k2 : w2.cell? ⟨w1.heap.size + 1, 0, none⟩ = some (.func (.func 30) #[] #[]) := by
      have q := new_cell (w1.alloc (.cells (ccells bs).toArray 31)) (.func (.func 30) #[] #[]) 59
      simp only [World.size_alloc] at q
      rw [hw2]; exact q.1
    have HB2 : Hid (Below w.heap.size w w2) := HB1.out.trans (hB2.mono HB1.out.size)
    have K3 := Lib.hid k1
    have K4 := Lib.hid k2
    clear hw2 hB2 k1 k2
    go_wp2_with fail
    refine (collect_any bs HW.out eB 30 #[] (enters_of Tryd.func30 (by kernel_rfl) rfl) _ _ _ K3.out (block_lt_of_cell K4.out) K4.out (isFree_fits0 _ _)).mono ?_
    rintro e w3 ⟨v, rfl, hr, hb3⟩
    have HR := Lib.hid hr
    have HB3 : Hid (Below w.heap.size w w3) := HB2.out.trans (hb3.mono HB2.out.size)
    clear hr hb3
    go_wp2
    go_ret2
    refine ⟨v, by rw [frC, Hv.out]; rfl, ?_, HB3.out⟩
    rw [frL, Hv.out]
    exact own_base HR.out HB2.out.size
end Go.Proofs.YtjiihdljchaeiaeDoor
