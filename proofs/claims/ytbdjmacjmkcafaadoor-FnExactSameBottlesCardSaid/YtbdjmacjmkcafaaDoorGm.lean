/-
  The contract of maps.Equal at maps of bottles to numbers. Condition: both maps are owned.
-/
import Derived.Test.YtbdjmacjmkcafaaDoorIp
import Derived.Lib.SlMapEqual
import Derived.Maps.RangeWalk
import Derived.Maps.OwnSet
namespace Go.Proofs.YtbdjmacjmkcafaaDoor
open Go.ChangeShapes Go.WideShapes Go.ChangeAt Go.RowKit Go.Deep Go.Maps

def eqD (x y : DataW Unit) : Bool := match x, y with | .lit (.int .i64 a), .lit (.int .i64 b) => decide (a = b) | _, _ => false

theorem keyB_inv2 {v : Value} {l : Lit} (h : keyOf Tryd.prog 28 v = some l) : ∃ b : Bot, v = .agg #[.int .u8 b.1, .int .i16 b.2] := by
  obtain ⟨xs, L, rfl, hL, -⟩ := keyOf_top (by rw [Tryd.underlying28]) h
  rw [Tryd.tsize] at hL
  obtain ⟨b, hb, hc⟩ := klits_bottle_inv (P := Tryd.prog) (d := 113 + 1) Tryd.underlying28 Tryd.underlying5 Tryd.underlying22 rfl rfl (by kernel_rfl) (by kernel_rfl) Tryd.cellsIB hL
  have e : xs = #[.int .u8 b.1, .int .i16 b.2] := by
    apply Array.ext'
    rw [hc]; rfl
  exact ⟨b, by rw [e]⟩
theorem neqD (W : World) (x y : Value) (xd yd : DataW Unit) (xp yp : List MemPlace) (hx : plainElem Tryd.prog 2 x = some (xd, xp)) (hy : plainElem Tryd.prog 2 y = some (yd, yp)) :
    ∃ a b, x = .int .i64 a ∧ y = .int .i64 b ∧ xd = .lit (.int .i64 a) ∧ yd = .lit (.int .i64 b) ∧ eqD xd yd = decide (a = b) := by
  obtain ⟨a, rfl, h1, _⟩ := plainElem_int_inv Tryd.underlying2 hx
  obtain ⟨b, rfl, h2, _⟩ := plainElem_int_inv Tryd.underlying2 hy
  obtain rfl : xd = .lit (.int .i64 a) := by simpa using (congrArg Prod.fst h1)
  obtain rfl : yd = .lit (.int .i64 b) := by simpa using (congrArg Prod.fst h2)
  exact ⟨a, b, rfl, rfl, rfl, rfl, rfl⟩

set_option maxRecDepth 100000 in
set_option maxHeartbeats 8000000 in
theorem mapsEqual_any (b1 b2 n1 n2 : Nat) (D1 D2 : DataW Unit) (w : World) (h1 : OwnsB w b1 n1 D1) (h2 : OwnsB w b2 n2 D2) :
    Calls Tryd.prog 19 #[.map (some b1), .map (some b2)] w fun e w' => e = .returned (.bool (Lib.equalFuncD eqD D1 D2)) ∧ Below w.heap.size w w' := by
  have l1 := fun ty => h1.len (t := 50) Tryd.underlying50 ty
  have l2 := fun ty => h2.len (t := 50) Tryd.underlying50 ty
  obtain ⟨es1, rfl, hap, hkeys⟩ := h1.entries (Keyed.of_law Tryd.lawB)
  generalize hres : Lib.equalFuncD eqD (.map es1) D2 = res
  have RES : Hid (Lib.equalFuncD eqD (.map es1) D2 = res) := hres
  clear hres
  by_cases hsz : Maps.size (.map es1 : DataW Unit) = Maps.size D2
  rotate_left
  · have hne : ¬ ((Maps.size (.map es1 : DataW Unit) : Int) = (Maps.size D2 : Int)) := fun e => hsz (by exact_mod_cast e)
    go_enter Tryd.func19, Tryd.ntmps19
    go_wp2
    go_ret
    exact ⟨by rw [← RES.out, sizes_false hsz]; rfl, Below.refl _ _⟩
  go_enter Tryd.func19, Tryd.ntmps19
  go_wp2_with (at_range; refine wpList_range_own _ rfl (.tmp 14) 50 rfl 28 2 (Keyed.of_law Tryd.lawB) Tryd.underlying50 (plainElem Tryd.prog 2) b1 n1 _ rfl h1 ?_; intro w0 hrg0 hg0 hs0)
  go_frame
  have h20 : OwnsB w0 b2 n2 D2 := h2.kept hg0 (by simp)
  have hb0 : Below w.heap.size w w0 := (Below.refl _ _).grown hg0 (Nat.le_refl _) (fun j hj => by cases hj)
  have HRG0 := Lib.hid hrg0
  have H20 := Lib.hid h20
  have HB0 := Lib.hid hb0
  clear hrg0 h20 hb0 hg0 hs0 l1 l2
  go_loopw [8] (fun _ wr => ∃ left cnt, wr.ranges Tryd.prog 28 (plainElem Tryd.prog 2) b1 w.heap.size n1 (.map es1) left cnt ∧ OwnsB wr b2 n2 D2 ∧ Below w.heap.size w wr ∧ GoodAt eqD es1 D2 left) (fun _ wr => wr.rangeLeft b1 w.heap.size)
  case atStart => exact ⟨_, _, HRG0.out, H20.out, HB0.out, good_start hkeys D2⟩
  case round =>
    clear HRG0 H20 HB0
    obtain ⟨left, cnt, q1, q2, q3, q4⟩ := hrel
    have R1 := Lib.hid q1
    have R2 := Lib.hid q2
    have R3 := Lib.hid q3
    have R4 := Lib.hid q4
    have R1x := Lib.hid q1.left_eq
    clear q1 q2 q3 q4
    go_wp2_with (at_next; refine wpList_next_ranges _ rfl (.tmp 15) rfl 28 (Keyed.of_law Tryd.lawB) (plainElem Tryd.prog 2) (fun (X : Bot) => Value.agg #[.int .u8 X.1, .int .i16 X.2]) (fun (n : Int) => Value.int .i64 n) (fun key kl h => keyB_inv2 h) (fun v y h => by obtain ⟨a, e, _, _⟩ := plainElem_int_inv Tryd.underlying2 h; exact ⟨a, e⟩) b1 w.heap.size n1 (.map es1) left cnt rfl R1.out ?_ ?_)
    · intro h0 hl0
      go_wp2
      go_ret
      exact ⟨by rw [← RES.out, all_good R4.out hl0 hsz]; rfl, R3.out⟩
    · intro kx ky cv kl y ps w1 cnt1 hkey hlk hv hat hrg1 hclt hg1 hs1 hen
      have hyv : y = .lit (.int .i64 cv) := by
        obtain ⟨a, e, h1', _⟩ := plainElem_int_inv Tryd.underlying2 hv
        simp only [Value.int.injEq, true_and] at e
        subst e
        simpa using congrArg Prod.fst h1'
      subst hyv
      have g2 : OwnsB w1 b2 n2 D2 := R2.out.kept hg1 (fun e => by have := Option.some.inj e; have := h2.lt; omega)
      have g3 : Below w.heap.size w w1 := R3.out.grown hg1 R3.out.size (fun j hj => by cases hj; exact Nat.le_refl _)
      have K1 := Lib.hid (hrg1.alloc (.cells #[.int .u8 kx, .int .i16 ky] 28))
      have K2 : Hid (OwnsB (w1.alloc (.cells #[.int .u8 kx, .int .i16 ky] 28)) b2 n2 D2) := g2.alloc _
      have K3 : Hid (Below w.heap.size w (w1.alloc (.cells #[.int .u8 kx, .int .i16 ky] 28))) := g3.alloc g3.size _
      have HAT := Lib.hid hat
      have HCL := Lib.hid hclt
      clear hat hrg1 g2 g3 hclt hv hg1 hs1 hlk R1 R2 R3
      cases hh : Maps.has D2 kl
      · have hbad : Lib.goodD eqD D2 (kl, .lit (.int .i64 cv)) = false := by unfold Lib.goodD; rw [hh]; rfl
        go_wp2_with (at_lookup; refine wpList_lookup_own_ok _ rfl (.tmp 22) (.tmp 23) 50 rfl 28 2 (Keyed.of_law Tryd.lawB) Tryd.underlying50 (plainElem Tryd.prog 2) (Tryd.zeroI64 _) (.lit (.int .i64 0)) [] (plainElem_int Tryd.underlying2 (by decide)) b2 n2 D2 rfl K2.out _ kl rfl hkey ?_; intro v2 ps2 hv2; obtain ⟨a2, rfl, ha2, -⟩ := plainElem_int_inv Tryd.underlying2 hv2; rw [hh]; go_frame)
        go_ret
        exact ⟨by rw [← RES.out, bad_false hap hkeys HAT.out hbad]; rfl, K3.out⟩
      · cases he : eqD (.lit (.int .i64 cv)) (D2.atKey kl (.lit (.int .i64 0)))
        · have hbad : Lib.goodD eqD D2 (kl, .lit (.int .i64 cv)) = false := by unfold Lib.goodD; rw [hh, atKey_indep hh .nil (.lit (.int .i64 0)), he]; rfl
          go_wp2_with (at_lookup; refine wpList_lookup_own_ok _ rfl (.tmp 22) (.tmp 23) 50 rfl 28 2 (Keyed.of_law Tryd.lawB) Tryd.underlying50 (plainElem Tryd.prog 2) (Tryd.zeroI64 _) (.lit (.int .i64 0)) [] (plainElem_int Tryd.underlying2 (by decide)) b2 n2 D2 rfl K2.out _ kl rfl hkey ?_; intro v2 ps2 hv2; obtain ⟨a2, rfl, ha2, -⟩ := plainElem_int_inv Tryd.underlying2 hv2; rw [hh]; have hd : D2.atKey kl (.lit (.int .i64 0)) = .lit (.int .i64 a2) := congrArg Prod.fst ha2; rw [hd] at he; have hcv : ¬ cv = a2 := (by simpa [eqD] using he); have hcw : (cv != a2) = true := (by rw [bne_iff_ne]; exact hcv); go_frame)
          go_ret
          exact ⟨by rw [← RES.out, bad_false hap hkeys HAT.out hbad]; rfl, K3.out⟩
        · have hgood : Lib.goodD eqD D2 (kl, .lit (.int .i64 cv)) = true := by unfold Lib.goodD; rw [hh, atKey_indep hh .nil (.lit (.int .i64 0)), he]; rfl
          go_wp2_with (at_lookup; refine wpList_lookup_own_ok _ rfl (.tmp 22) (.tmp 23) 50 rfl 28 2 (Keyed.of_law Tryd.lawB) Tryd.underlying50 (plainElem Tryd.prog 2) (Tryd.zeroI64 _) (.lit (.int .i64 0)) [] (plainElem_int Tryd.underlying2 (by decide)) b2 n2 D2 rfl K2.out _ kl rfl hkey ?_; intro v2 ps2 hv2; obtain ⟨a2, rfl, ha2, -⟩ := plainElem_int_inv Tryd.underlying2 hv2; rw [hh]; have hd : D2.atKey kl (.lit (.int .i64 0)) = .lit (.int .i64 a2) := congrArg Prod.fst ha2; rw [hd] at he; have hcv : cv = a2 := (by simpa [eqD] using he); subst hcv; go_frame)
          go_roundw
          case rel => exact ⟨_, cnt1, K1.out, K2.out, K3.out, good_step hap hkeys HAT.out R4.out hgood⟩
          case measure => rw [K1.out.left_eq, R1x.out]; exact HCL.out
end Go.Proofs.YtbdjmacjmkcafaaDoor
