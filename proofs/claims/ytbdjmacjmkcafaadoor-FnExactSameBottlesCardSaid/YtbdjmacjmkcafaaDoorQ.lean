/-
  The contracts of checkCrates at one crate. Condition: the sentinel errors lie as the row lists them.
-/
import Derived.Test.YtbdjmacjmkcafaaDoorJ
import Derived.Test.YtbdjmacjmkcafaaDoorE
import Derived.Great.BuildSlice
namespace Go.Proofs.YtbdjmacjmkcafaaDoor
open Go.ChangeShapes Go.WideShapes Go.ChangeAt Go.RowKit

/-- What a check of a crate answers. -/
def chkV (ad : Nat → Addr) (ok : Bool) : Value := if ok = true then .nilIface else .iface 77 (.pointer (some (ad 5)))

/-- A list of one crate, made for a call. -/
theorem wpList_oneCrate {P : Program} {ops : Array Oper} {rest : List Oper} {o : Oper} {a : Act} {w : World} {Q : Exit → Act → World → Prop} (hg : o.guard = none) (t e : TypeId) (x : Operand) (ho : o.op = .buildSlice t 1 #[(0, x)])
    (bs : List Bot) (hl : bs.length = 12) (hx : a.eval x = .agg (ccells bs).toArray) (hu : P.underlying t = some (.slice e)) (hsz : (P.info? e).map (·.size) = some 24) (hz : ((P.info? e).bind (·.zero)).map (fun z => z.cells.size) = some 24)
    (h : wpList P ops Q rest (a.put o.dst (.slice (some ⟨w.heap.size, 0, none⟩) 1 1)) (w.alloc (.cells (ccells bs).toArray e))) : wpList P ops Q (o :: rest) a w := by
  cases hie : P.info? e with
  | none => simp [hie] at hsz
  | some ie =>
    simp only [hie, Option.map_some, Option.some.injEq, Option.bind_some] at hsz hz
    cases hzz : ie.zero with
    | none => simp [hzz] at hz
    | some z =>
      refine wpList_buildSlice hg t e 1 _ ho _ ie z hu hie hzz (by rw [hsz]; omega) (by rw [hsz]; omega) ?_ h
      have hs : (Value.agg (ccells bs).toArray).cells.size = 24 := ccells_size bs hl
      have := Great.fill_whole (s := 24) (by omega) [Value.agg (ccells bs).toArray] ((Array.range (1 * ie.size)).map (z.cells[· % z.cells.size]!)) (by intro v hv; rw [List.mem_singleton.1 hv]; exact hs) (by simp [hsz])
      rw [hsz] at this ⊢
      simpa [hx, Value.cells] using this
theorem Tryd.zeroCr : ((Tryd.prog.info? 30).bind (·.zero)).map (fun z => z.cells.size) = some 24 := by kernel_rfl

set_option maxHeartbeats 1000000 in
theorem checkOne_any (bs : List Bot) (hwf : WfC bs) (B c : Nat) (ad : Nat → Addr) (w : World) (hB : CBlk w B 30 bs) (hE : EW 7 w ad) :
    Calls Tryd.prog 10 #[.slice (some ⟨B, 0, none⟩) 1 c] w fun e w' => e = .returned (chkV ad (okC bs)) ∧ Below w.heap.size w w' := by
  have HB := Lib.hid hB
  have HW := Lib.hid hwf
  have HE := Lib.hid hE
  clear hB hwf hE
  go_enter Tryd.func10, Tryd.ntmps10
  go_wp2_with fail
  refine wp_loop_rounds 2 ?_
  rw [rounds_succ]
  have H1 : Hid (CBlk (w.alloc (.cells (ccells noB).toArray 30)) w.heap.size 30 noB) := CBlk.new w 30 noB
  have H2 : Hid (CBlk ((w.alloc (.cells (ccells noB).toArray 30)).setRow w.heap.size (ccells bs).toArray) w.heap.size 30 bs) := CBlk.setRow H1.out
  have H3 : Hid (Below w.heap.size w ((w.alloc (.cells (ccells noB).toArray 30)).setRow w.heap.size (ccells bs).toArray)) := Below.setRow ((Below.refl _ w).alloc (Nat.le_refl _) _) _ _ (Nat.le_refl _)
  go_wp2_with (first
    | (refine wpList_load_row rfl 30 (.tmp 9) rfl B rfl 30 _ (0, 0) _ HB.out Tryd.underlying30 rfl (size_of_crate Tryd.sizeCr _ HW.out.1) ?_)
    | (refine wpList_store_row rfl 30 (.tmp 4) (.tmp 10) rfl w.heap.size _ rfl rfl 30 _ H1.out (size_of_crate Tryd.sizeCr _ HW.out.1) (by rw [ccells_size _ HW.out.1]; rfl) (ccells_one _) ?_)
    | (refine wpList_load_row rfl 30 (.tmp 4) rfl w.heap.size rfl 30 _ (0, 0) _ H2.out Tryd.underlying30 rfl (size_of_crate Tryd.sizeCr _ HW.out.1) ?_))
  refine (validCrate_any bs HW.out _).mono ?_
  rintro e w1 ⟨rfl, hb⟩
  have H4 : Hid (Below w.heap.size w w1) := H3.out.trans (hb.mono H3.out.size)
  have hc : w1.cell? ⟨0, 0, none⟩ = some (.iface 77 (.pointer (some (ad 5)))) := ((HE.out).below H4.out (Nat.le_refl _)).cell 5 (by omega)
  clear hb H1 H2 H3
  cases hv : okC bs
  · have Hv := Lib.hid hv
    clear hv
    go_wp2
    go_ret
    exact ⟨by rw [Hv.out]; rfl, H4.out⟩
  · have Hv := Lib.hid hv
    clear hv
    go_wp2
    rw [rounds_succ]
    go_wp2
    go_ret
    exact ⟨by rw [Hv.out]; rfl, H4.out⟩
end Go.Proofs.YtbdjmacjmkcafaaDoor
