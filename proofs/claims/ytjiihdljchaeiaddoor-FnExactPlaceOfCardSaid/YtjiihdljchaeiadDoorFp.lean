/-
  The first place at which a test holds; the contract of the model's l01First. No condition but the crate's length and that its numbers fit their kinds.
-/
import Derived.Test.YtjiihdljchaeiadDoorV
import Derived.Deep.RegionHeld3
import Derived.WalkSmall
namespace Go.Proofs.YtjiihdljchaeiadDoor
open Go.ChangeShapes Go.WideShapes Go.ChangeAt Go.RowKit Go.Deep

/-- Nothing fits before place k. -/
def FpTo (f : Bot → Bool) (bs : List Bot) (k : Nat) : Prop := ∀ j b, j < k → bs[j]? = some b → f b = false
theorem FpTo.step {f : Bot → Bool} {bs : List Bot} {k : Nat} (h : FpTo f bs k) {b : Bot} (hb : bs[k]? = some b) (ho : f b = false) : FpTo f bs (k + 1) := by
  intro j c hj hc
  by_cases e : j = k
  · subst e; rw [hb] at hc; cases hc; exact ho
  · exact h j c (by omega) hc
/-- The first place that fits; -1 if there is none. -/
def fp (f : Bot → Bool) (bs : List Bot) : Int := match bs.findIdx? f with | some k => k | none => -1
theorem fp_hit {f : Bot → Bool} {bs : List Bot} {k : Nat} {b : Bot} (h : FpTo f bs k) (hb : bs[k]? = some b) (hf : f b = true) : fp f bs = k := by
  have : bs.findIdx? f = some k := by
    rw [List.findIdx?_eq_some_iff_getElem]
    obtain ⟨hlt, he⟩ := List.getElem?_eq_some_iff.1 hb
    refine ⟨hlt, by rw [he]; exact hf, fun j hj => ?_⟩
    have := h j _ hj (List.getElem?_eq_getElem (by omega))
    simp [this]
  simp [fp, this]
theorem fp_none {f : Bot → Bool} {bs : List Bot} (h : FpTo f bs bs.length) : fp f bs = -1 := by
  have : bs.findIdx? f = none := by
    rw [List.findIdx?_eq_none_iff]
    intro x hx
    obtain ⟨j, hj, rfl⟩ := List.mem_iff_getElem.1 hx
    exact h j _ hj (List.getElem?_eq_getElem hj)
  simp [fp, this]
theorem fp_cases (f : Bot → Bool) (bs : List Bot) : (∃ k b, bs[k]? = some b ∧ f b = true ∧ FpTo f bs k ∧ fp f bs = k) ∨ (FpTo f bs bs.length ∧ fp f bs = -1) := by
  cases h : bs.findIdx? f with
  | some k =>
    rw [List.findIdx?_eq_some_iff_getElem] at h
    obtain ⟨hlt, hf, hj⟩ := h
    have hT : FpTo f bs k := fun j b hjk hb => by
      obtain ⟨hl, he⟩ := List.getElem?_eq_some_iff.1 hb
      have := hj j hjk
      rw [he] at this; simpa using this
    exact .inl ⟨k, bs[k], List.getElem?_eq_getElem hlt, hf, hT, fp_hit hT (List.getElem?_eq_getElem hlt) hf⟩
  | none =>
    rw [List.findIdx?_eq_none_iff] at h
    have hT : FpTo f bs bs.length := fun j b _ hb => h b (List.mem_of_getElem? hb)
    exact .inr ⟨hT, fp_none hT⟩
/-- Are two bottles alike? -/
def eqB (p b : Bot) : Bool := decide (b.1 = p.1) && decide (b.2 = p.2)

set_option maxRecDepth 100000 in
set_option maxHeartbeats 1000000 in
theorem l01First_any (bs : List Bot) (hwf : WfC bs) (p q : Int) (B : Nat) (w : World) (hB : CBlk w B 28 bs) : Calls Tryd.prog 30 #[.pointer (some ⟨B, 0, none⟩), .agg #[.int .u8 p, .int .i16 q]] w fun e w' => e = .returned (.int .i64 (fp (eqB (p, q)) bs)) ∧ Below w.heap.size w w' := by
  have HB := Lib.hid hB
  have HW := Lib.hid hwf
  clear hB hwf
  go_enter Tryd.func30, Tryd.ntmps30
  go_wp2_with fail
  have G1 : Hid (CBlk (w.alloc (.cells #[.int .u8 p, .int .i16 q] 26)) w.heap.size 26 [(p, q)]) := CBlk.new' rfl rfl
  go_loopw [5] (fun i wr => ∃ k : Nat, k ≤ 12 ∧ i = .int .i64 k ∧ FpTo (eqB (p, q)) bs k ∧ CBlk wr w.heap.size 26 [(p, q)] ∧ Below w.heap.size w wr) (fun i _ => 12 - (intOf i).toNat)
  case atStart => exact ⟨0, by omega, rfl, fun j b h => by omega, G1.out, (by repeat (first | exact Below.refl _ _ | refine Below.drew ?_ | refine Below.alloc ?_ (by simp <;> omega) _ | refine Below.setCell ?_ (by simp <;> omega) _))⟩
  case round =>
    obtain ⟨k, hk, rfl, hT, hP, hb⟩ := hrel
    have HT := Lib.hid hT
    have HP := Lib.hid hP
    have Hb := Lib.hid hb
    clear hT hP hb
    by_cases hlt : k < 12
    · obtain ⟨k1, y1, hbk, wk, wy⟩ := HW.out.at_ hlt
      have Hk := Lib.hid hbk
      clear hbk
      have e1 := (HB.out.below Hb.out HB.out.lt).kind' Hk.out
      have e2 := (HB.out.below Hb.out HB.out.lt).year' Hk.out
      have b0 : wr.cell? ⟨w.heap.size, 0, none⟩ = some (.int .u8 p) := HP.out.cell 0
      have b1 : wr.cell? ⟨w.heap.size, 1, none⟩ = some (.int .i16 q) := HP.out.cell 1
      have hl0 : (0 : Int) ≤ k := by omega
      have hl1 : (k : Int) < 12 := by omega
      by_cases hx : k1 = p
      · by_cases hy : y1 = q
        · subst hx; subst hy
          go_wp2_with fail
          go_region_held3 (fun w' => w'.cell? ⟨B, k * 2, none⟩ = some (.int .u8 k1) ∧ w'.cell? ⟨B, k * 2 + 1, none⟩ = some (.int .i16 y1) ∧ w'.cell? ⟨w.heap.size, 0, none⟩ = some (.int .u8 k1) ∧ w'.cell? ⟨w.heap.size, 1, none⟩ = some (.int .i16 y1)) (go_keep) (fail)
          go_wp2
          go_ret
          exact ⟨ret_i64 (fp_hit HT.out Hk.out (by simp [eqB])).symm, Hb.out.drew⟩
        · subst hx
          have hy' : (y1 == q) = false := by simpa using hy
          go_wp2_with fail
          go_region_held3 (fun w' => w'.cell? ⟨B, k * 2, none⟩ = some (.int .u8 k1) ∧ w'.cell? ⟨B, k * 2 + 1, none⟩ = some (.int .i16 y1) ∧ w'.cell? ⟨w.heap.size, 0, none⟩ = some (.int .u8 k1) ∧ w'.cell? ⟨w.heap.size, 1, none⟩ = some (.int .i16 q)) (go_keep) (fail)
          go_wp2
          go_roundw
          case rel => exact ⟨k + 1, by omega, by go_num, HT.out.step Hk.out (by simp [eqB]; omega), HP.out, Hb.out.drew⟩
          case measure => simp [intOf]; omega
      · have hx' : (k1 == p) = false := by simpa using hx
        go_wp2_with fail
        go_region_held3 (fun w' => w'.cell? ⟨B, k * 2, none⟩ = some (.int .u8 k1) ∧ w'.cell? ⟨B, k * 2 + 1, none⟩ = some (.int .i16 y1) ∧ w'.cell? ⟨w.heap.size, 0, none⟩ = some (.int .u8 p) ∧ w'.cell? ⟨w.heap.size, 1, none⟩ = some (.int .i16 q)) (go_keep) (fail)
        go_wp2
        go_roundw
        case rel => exact ⟨k + 1, by omega, by go_num, HT.out.step Hk.out (by simp [eqB]; omega), HP.out, Hb.out.drew⟩
        case measure => simp [intOf]; omega
    · obtain rfl : k = 12 := by omega
      go_wp2
      go_ret
      exact ⟨ret_i64 (fp_none (by rw [HW.out.1]; exact HT.out)).symm, Hb.out⟩
end Go.Proofs.YtjiihdljchaeiadDoor
