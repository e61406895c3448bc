/-
  The contracts of BottlesIn, of the model and of the program. Condition: the crate's length, that its numbers fit their kinds; the sentinel errors lie as the row lists them (the program's).
-/
import Derived.Test.YtcdhmlalpjcidaaDoorVs
import Derived.Test.YtcdhmlalpjcidaaDoorEz
import Derived.Test.YtcdhmlalpjcidaaDoorKn
import Derived.Test.YtcdhmlalpjcidaaDoorJ
import Derived.Test.YtcdhmlalpjcidaaDoorE
import Derived.Great.BuildSlice
import Derived.Test.YtcdhmlalpjcidaaDoorAp
namespace Go.Proofs.YtcdhmlalpjcidaaDoor
open Go.ChangeShapes Go.WideShapes Go.ChangeAt Go.RowKit Go.Deep

theorem checkStack_any (xs : List Crt) (A : Option Addr) (c : Nat) (ad : Nat → Addr) (w : World) (hl : xs.length ≤ 1048576) (hr : Rd w w.heap.size kcells A xs) (hE : EW 7 w ad) :
    Calls Tryd.prog 60 #[.slice A xs.length c] w fun e w' => e = .returned (erV ad 5 (okS xs)) ∧ Below w.heap.size w w' := by
  have HE := Lib.hid hE
  have HR := Lib.hid hr
  clear hE hr
  go_enter Tryd.func60, Tryd.ntmps60
  go_wp2_with fail
  refine (validStack_any xs A c _ hl HR.out).mono ?_
  rintro e w1 ⟨rfl, hb⟩
  have HB := Lib.hid hb
  have c5 : w1.cell? ⟨6, 0, none⟩ = some (.iface 173 (.pointer (some (ad 5)))) := (HE.out.below hb (Nat.le_refl _)).cell 5 (by omega)
  clear hb
  cases hv : okS xs
  · have Hv := Lib.hid hv
    clear hv
    go_wp2
    go_ret
    exact ⟨by rw [Hv.out]; rfl, HB.out⟩
  · have Hv := Lib.hid hv
    clear hv
    go_wp2
    go_ret
    exact ⟨by rw [Hv.out]; rfl, HB.out⟩

end Go.Proofs.YtcdhmlalpjcidaaDoor

namespace Go.Proofs.YtcdhmlalpjcidaaDoor
open Go.ChangeShapes Go.WideShapes Go.ChangeAt Go.RowKit

/-- What a check of a crate answers. -/
def chkV (ad : Nat → Addr) (ok : Bool) : Value := if ok = true then .nilIface else .iface 173 (.pointer (some (ad 5)))

/-- A list of one crate, made for a call. -/
theorem wpList_oneCrate {P : Program} {ops : Array Oper} {rest : List Oper} {o : Oper} {a : Act} {w : World} {Q : Exit → Act → World → Prop} (hg : o.guard = none) (t e : TypeId) (x : Operand) (ho : o.op = .buildSlice t 1 #[(0, x)])
    (bs : List Bot) (hl : bs.length = 12) (hx : a.eval x = .agg (ccells bs).toArray) (hu : P.underlying t = some (.slice e)) (hsz : (P.info? e).map (·.size) = some 24) (hz : ((P.info? e).bind (·.zero)).map (fun z => z.cells.size) = some 24)
    (h : wpList P ops Q rest (a.put o.dst (.slice (some ⟨w.heap.size, 0, none⟩) 1 1)) (w.alloc (.cells (ccells bs).toArray e))) : wpList P ops Q (o :: rest) a w := by
  cases hie : P.info? e with
  | none => simp [hie] at hsz
  | some ie =>
    simp only [hie, Option.map_some, Option.some.injEq, Option.bind_some] at hsz hz
    cases hzz : ie.zero with
    | none => simp [hzz] at hz
    | some z =>
      refine wpList_buildSlice hg t e 1 _ ho _ ie z hu hie hzz (by rw [hsz]; omega) (by rw [hsz]; omega) ?_ h
      have hs : (Value.agg (ccells bs).toArray).cells.size = 24 := ccells_size bs hl
      have := Great.fill_whole (s := 24) (by omega) [Value.agg (ccells bs).toArray] ((Array.range (1 * ie.size)).map (z.cells[· % z.cells.size]!)) (by intro v hv; rw [List.mem_singleton.1 hv]; exact hs) (by simp [hsz])
      rw [hsz] at this ⊢
      simpa [hx, Value.cells] using this
theorem Tryd.zeroCr : ((Tryd.prog.info? 30).bind (·.zero)).map (fun z => z.cells.size) = some 24 := by kernel_rfl

end Go.Proofs.YtcdhmlalpjcidaaDoor

namespace Go.Proofs.YtcdhmlalpjcidaaDoor
open Go.ChangeShapes Go.WideShapes Go.ChangeAt Go.RowKit

/-- All bottles of a valid crate. -/
def biL (bs : List Bot) : List Bot := if okC bs = true then allB bs 12 else []
def biC (bs : List Bot) : Int := if okC bs = true then 0 else 1
theorem biL_len (bs : List Bot) : (biL bs).length ≤ 12 := by
  unfold biL; split
  · exact allB_length _ _
  · simp
theorem own_keep {W W' : World} {base : Nat} {e : TypeId} {size : Nat} {v : Value} {k : Nat} {xs : List Value} (h : W.ownsRow base e size v k xs) (hb : Below W.heap.size W W') : W'.ownsRow base e size v k xs := h.kept (grown_of_below hb) (Classical.em _)

end Go.Proofs.YtcdhmlalpjcidaaDoor
