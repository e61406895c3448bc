/-
  What draws choices from bytes: its contracts: numbers within bounds, whatever the bytes. Condition: at most 4096 bytes, which lie below what the call has made.
-/
import Derived.Test.YtlagnocglkoomaaDoorYr
import Derived.Test.YtlagnocglkoomaaDoorGk
import Derived.Deep.QuietTactic
import Derived.BigQuiet
import Derived.Laws.Bits64
namespace Go.Proofs.YtlagnocglkoomaaDoor
open Go.ChangeShapes Go.WideShapes Go.ChangeAt Go.RowKit Go.Deep

/-- The source: the bytes, how many have been asked for, a number. -/
def SrcB (w : World) (B : Nat) (A : Option Addr) (n c k : Nat) : Prop := ∃ (j : Nat) (s : Int), j ≤ k ∧ (0 ≤ s ∧ s < 18446744073709551616) ∧ Blk w B 63 #[.slice A n c, .int .i64 j, .int .u64 s]
theorem SrcB.keep {w w' : World} {B : Nat} {A : Option Addr} {n c k : Nat} (h : SrcB w B A n c k) (hb : Below w.heap.size w w') : SrcB w' B A n c k := by
  obtain ⟨j, s, h1, h2, h3⟩ := h
  exact ⟨j, s, h1, h2, h3.keep hb⟩
theorem SrcB.lt {w : World} {B : Nat} {A : Option Addr} {n c k : Nat} (h : SrcB w B A n c k) : B < w.heap.size := by
  obtain ⟨j, s, h1, h2, h3⟩ := h
  exact h3.lt
theorem SrcB.more {w : World} {B : Nat} {A : Option Addr} {n c k k' : Nat} (h : SrcB w B A n c k) (hk : k ≤ k') : SrcB w B A n c k' := by
  obtain ⟨j, s, h1, h2, h3⟩ := h
  exact ⟨j, s, by omega, h2, h3⟩
/-- A number that is drawn; only the source changes. -/
def DrawnW (w : World) (B : Nat) (A : Option Addr) (n c k : Nat) (lo hi : Int) (e : Ending) (w' : World) : Prop := ∃ r : Int, (lo ≤ r ∧ r ≤ hi) ∧ e = .returned (.int .i64 r) ∧ SrcB w' B A n c k ∧ w.grownBy w' (some B)
theorem gk_drewK {w w' : World} {row : Option Nat} (h : w.grownBy w' row) : w.grownBy w'.drew row := ⟨h.os, h.tape, h.output, h.size, h.block⟩
theorem gk_transK {a b c : World} {row : Option Nat} (h : a.grownBy b row) (k : b.grownBy c row) : a.grownBy c row :=
  ⟨k.os.trans h.os, k.tape.trans h.tape, k.output.trans h.output, Nat.le_trans h.size k.size, fun q hq hne => (k.block q (Nat.lt_of_lt_of_le hq h.size) hne).trans (h.block q hq hne)⟩
theorem gk_rd {T : Type} {w w' : World} {B : Nat} {cells : T → List Value} {A : Option Addr} {xs : List T} (hr : Rd w B cells A xs) (hg : w.grownBy w' (some B)) (hB : B ≤ w.heap.size) : Rd w' B cells A xs := fun hn => by
  obtain ⟨b, o, e, hb, h⟩ := hr hn
  refine ⟨b, o, e, hb, fun j v hv => ?_⟩
  exact hg.cell (h j v hv) (by intro e2; have := Option.some.inj e2; dsimp only at this; omega)
theorem u64_b (x : Int) : 0 ≤ IntKind.u64.wrap x ∧ IntKind.u64.wrap x < 18446744073709551616 := by
  unfold IntKind.wrap
  simp [IntKind.bits, IntKind.signed]
  omega
theorem and255 (x : Int) (hx : 0 ≤ x ∧ x < 18446744073709551616) : 0 ≤ bits BinOp.and IntKind.u64 (x / 1099511627776) 255 ∧ bits BinOp.and IntKind.u64 (x / 1099511627776) 255 ≤ 255 := by
  have h := bits_mask .u64 63 (by decide) (fun n h0 h1 => by rw [IntKind.wrap_u64]; omega) 8 (by decide) (x / 1099511627776) (by omega) (by omega)
  have e : ((2 : Int) ^ 8 - 1) = 255 := by decide
  have e2 : ((2 : Int) ^ 8) = 256 := by decide
  rw [e, e2] at h
  rw [h]
  omega
theorem src_end {w : World} {B n c j k : Nat} {A : Option Addr} {s s' : Int} (hj : j ≤ k) (hs' : 0 ≤ s' ∧ s' < 18446744073709551616) (hK : Blk w B 63 #[.slice A n c, .int .i64 j, .int .u64 s]) :
    SrcB ((w.setCell ⟨B, 1, none⟩ (.int .i64 ((j : Int) + 1))).setCell ⟨B, 2, none⟩ (.int .u64 s')).drew.drew.drew B A n c (k + 1) ∧ w.grownBy ((w.setCell ⟨B, 1, none⟩ (.int .i64 ((j : Int) + 1))).setCell ⟨B, 2, none⟩ (.int .u64 s')).drew.drew.drew (some B) := by
  refine ⟨⟨j + 1, s', by omega, hs', ?_⟩, gk_drewK (gk_drewK (gk_drewK (gk_set (gk_set (gk_refl w (some B)) _) _)))⟩
  exact ((((hK.set_ 1 (.int .i64 ((j : Int) + 1))).set_ 2 (.int .u64 s')).drew).drew).drew

theorem src_end2 {w : World} {B n c j k : Nat} {A : Option Addr} {s s' : Int} (hj : j ≤ k) (hs' : 0 ≤ s' ∧ s' < 18446744073709551616) (hK : Blk w B 63 #[.slice A n c, .int .i64 j, .int .u64 s]) :
    SrcB ((w.setCell ⟨B, 1, none⟩ (.int .i64 ((j : Int) + 1))).setCell ⟨B, 2, none⟩ (.int .u64 s')).drew.drew B A n c (k + 1) ∧ w.grownBy ((w.setCell ⟨B, 1, none⟩ (.int .i64 ((j : Int) + 1))).setCell ⟨B, 2, none⟩ (.int .u64 s')).drew.drew (some B) := by
  refine ⟨⟨j + 1, s', by omega, hs', ?_⟩, gk_drewK (gk_drewK (gk_set (gk_set (gk_refl w (some B)) _) _))⟩
  exact (((hK.set_ 1 (.int .i64 ((j : Int) + 1))).set_ 2 (.int .u64 s')).drew).drew

set_option maxRecDepth 100000 in
set_option maxHeartbeats 4000000 in
theorem l00From_any (A : Option Addr) (n c : Nat) (w : World) : Calls Tryd.prog 18 #[.slice A n c] w fun e w' => e = .returned (.pointer (some ⟨w.heap.size, 0, none⟩)) ∧ SrcB w' w.heap.size A n c 0 ∧ Below w.heap.size w w' := by
  go_enter Tryd.func18, Tryd.ntmps18
  go_wp2
  go_ret
  exact ⟨rfl, ⟨0, 0, Nat.le_refl _, by omega, Blk.new w _ _⟩, (Below.refl _ w).alloc (Nat.le_refl _) _⟩

set_option maxRecDepth 100000 in
set_option maxHeartbeats 4000000 in
theorem next_any (xs : List Int) (hxs : ∀ x ∈ xs, wfY x) (hl : xs.length ≤ 4096) (A : Option Addr) (c B k : Nat) (hk : k ≤ 1000000) (w : World) (hr : Rd w B ycells A xs) (hs : SrcB w B A xs.length c k) :
    Calls Tryd.prog 54 #[.pointer (some ⟨B, 0, none⟩)] w (DrawnW w B A xs.length c (k + 1) 0 255) := by
  obtain ⟨j, s, hj, ⟨hs0, hs1⟩, hK⟩ := hs
  have HK := Lib.hid hK
  have HXs := Lib.hid hxs
  have c0 : w.cell? ⟨B, 0, none⟩ = some (.slice A xs.length c) := hK.cell 0
  have c1 : w.cell? ⟨B, 1, none⟩ = some (.int .i64 j) := hK.cell 1
  have c2 : w.cell? ⟨B, 2, none⟩ = some (.int .u64 s) := hK.cell 2
  have f1 : w.frozen? ⟨B, 1, none⟩ = false := hK.frozen 1
  have f2 : w.frozen? ⟨B, 2, none⟩ = false := hK.frozen 2
  have hj0 : (0 : Int) ≤ (j : Int) := Int.natCast_nonneg _
  have hj9 : (j : Int) ≤ 1000000 := by omega
  have hn0 : (0 : Int) ≤ (xs.length : Int) := Int.natCast_nonneg _
  by_cases hlt : j < xs.length
  · obtain ⟨x, hx⟩ : ∃ x, xs[j]? = some x := ⟨_, List.getElem?_eq_getElem hlt⟩
    obtain ⟨b, o, rfl, hb, hrow⟩ := hr.at_ ycells_length hx
    have c3 := rowY hrow
    have hwx := hxs x (List.mem_of_getElem? hx)
    obtain ⟨q0, q1⟩ := hwx
    have hj8 : (j : Int) < xs.length := by omega
    have hne : b ≠ B := by omega
    have hw1 : IntKind.i64.wrap x = x := IntWalk.i64_in _ ⟨by omega, by omega⟩
    have hw2 : wrap64 x = x := IntWalk.wrap64_in _ ⟨by omega, by omega⟩
    clear hK hxs hrow hx hr
    go_enter Tryd.func54, Tryd.ntmps54
    go_wp2_with fail
    go_region_held3 (fun w' => w'.cell? ⟨B, 1, none⟩ = some (.int .i64 j) ∧ w'.cell? ⟨B, 0, none⟩ = some (.slice (some ⟨b, o, none⟩) xs.length c)) (go_keep) (fail)
    go_wp2_with fail
    go_region_held3 (fun w' => w'.cell? ⟨B, 1, none⟩ = some (.int .i64 j) ∧ w'.cell? ⟨B, 0, none⟩ = some (.slice (some ⟨b, o, none⟩) xs.length c) ∧ w'.cell? ⟨b, o + j, none⟩ = some (.int .u8 x)) (go_keep) (fail)
    go_wp2_with fail
    obtain ⟨s', hs'⟩ : ∃ v, IntKind.u64.wrap (IntKind.u64.wrap (IntKind.u64.wrap (s * 6364136223846793005) + x) + 1442695040888963407) = v := ⟨_, rfl⟩
    have HS' : Hid (0 ≤ s' ∧ s' < 18446744073709551616) := by show _ ∧ _; rw [← hs']; exact u64_b _
    rw [hs']
    clear hs' c1 c2 hw1 hw2
    have c1 : ((w.setCell ⟨B, 1, none⟩ (.int .i64 ((j : Int) + 1))).setCell ⟨B, 2, none⟩ (.int .u64 s')).cell? ⟨B, 1, none⟩ = some (.int .i64 ((j : Int) + 1)) := by
      have := (src_end (Nat.le_refl j) HS'.out HK.out)
      have h1 := ((HK.out.set_ 1 (.int .i64 ((j : Int) + 1))).set_ 2 (.int .u64 s')).cell 1
      exact h1
    have c0' : ((w.setCell ⟨B, 1, none⟩ (.int .i64 ((j : Int) + 1))).setCell ⟨B, 2, none⟩ (.int .u64 s')).cell? ⟨B, 0, none⟩ = some (.slice (some ⟨b, o, none⟩) xs.length c) := ((HK.out.set_ 1 (.int .i64 ((j : Int) + 1))).set_ 2 (.int .u64 s')).cell 0
    have HEnd := Lib.hid (src_end (Nat.le_refl j) HS'.out HK.out)
    have hj7 : (j : Int) + 1 ≤ xs.length := by omega
    obtain ⟨W2, hW2⟩ : ∃ v, (w.setCell ⟨B, 1, none⟩ (.int .i64 ((j : Int) + 1))).setCell ⟨B, 2, none⟩ (.int .u64 s') = v := ⟨_, rfl⟩
    rw [hW2] at c1 c0' HEnd ⊢
    clear hW2 c0 f1 f2
    go_region_held3 (fun w' => w'.cell? ⟨B, 1, none⟩ = some (.int .i64 ((j : Int) + 1)) ∧ w'.cell? ⟨B, 0, none⟩ = some (.slice (some ⟨b, o, none⟩) xs.length c)) (go_keep) (fail)
    go_wp2
    go_ret
    exact ⟨x, ⟨q0, q1⟩, rfl, HEnd.out.1.more (by omega), HEnd.out.2⟩
  · have hj8 : ¬ ((j : Int) < xs.length) := by omega
    have hj7 : ¬ ((j : Int) + 1 ≤ xs.length) := by omega
    clear hK hxs hr HXs
    go_enter Tryd.func54, Tryd.ntmps54
    go_wp2_with fail
    go_region_held3 (fun w' => w'.cell? ⟨B, 1, none⟩ = some (.int .i64 j) ∧ w'.cell? ⟨B, 0, none⟩ = some (.slice A xs.length c)) (go_keep) (fail)
    go_wp2_with fail
    obtain ⟨s', hs'⟩ : ∃ v, IntKind.u64.wrap (IntKind.u64.wrap (IntKind.u64.wrap (s * 6364136223846793005)) + 1442695040888963407) = v := ⟨_, rfl⟩
    have HS' : Hid (0 ≤ s' ∧ s' < 18446744073709551616) := by show _ ∧ _; rw [← hs']; exact u64_b _
    rw [hs']
    clear hs' c1 c2
    have c1 : ((w.setCell ⟨B, 1, none⟩ (.int .i64 ((j : Int) + 1))).setCell ⟨B, 2, none⟩ (.int .u64 s')).cell? ⟨B, 1, none⟩ = some (.int .i64 ((j : Int) + 1)) := ((HK.out.set_ 1 (.int .i64 ((j : Int) + 1))).set_ 2 (.int .u64 s')).cell 1
    have c0' : ((w.setCell ⟨B, 1, none⟩ (.int .i64 ((j : Int) + 1))).setCell ⟨B, 2, none⟩ (.int .u64 s')).cell? ⟨B, 0, none⟩ = some (.slice A xs.length c) := ((HK.out.set_ 1 (.int .i64 ((j : Int) + 1))).set_ 2 (.int .u64 s')).cell 0
    have c2' : ((w.setCell ⟨B, 1, none⟩ (.int .i64 ((j : Int) + 1))).setCell ⟨B, 2, none⟩ (.int .u64 s')).cell? ⟨B, 2, none⟩ = some (.int .u64 s') := ((HK.out.set_ 1 (.int .i64 ((j : Int) + 1))).set_ 2 (.int .u64 s')).cell 2
    have HEnd := Lib.hid (src_end2 (Nat.le_refl j) HS'.out HK.out)
    obtain ⟨W2, hW2⟩ : ∃ v, (w.setCell ⟨B, 1, none⟩ (.int .i64 ((j : Int) + 1))).setCell ⟨B, 2, none⟩ (.int .u64 s') = v := ⟨_, rfl⟩
    rw [hW2] at c1 c0' c2' HEnd ⊢
    clear hW2 c0 f1 f2
    obtain ⟨hs0', hs1'⟩ := HS'.out
    go_region_held3 (fun w' => w'.cell? ⟨B, 1, none⟩ = some (.int .i64 ((j : Int) + 1)) ∧ w'.cell? ⟨B, 0, none⟩ = some (.slice A xs.length c)) (go_keep) (fail)
    go_wp2
    obtain ⟨r0, r1⟩ := and255 s' ⟨by omega, by omega⟩
    obtain ⟨r, hr⟩ : ∃ r, bits BinOp.and IntKind.u64 (s' / 1099511627776) 255 = r := ⟨_, rfl⟩
    rw [hr] at r0 r1 ⊢
    clear hr
    rw [IntWalk.wrap64_in r ⟨by omega, by omega⟩]
    go_ret
    exact ⟨r, ⟨r0, r1⟩, rfl, HEnd.out.1.more (by omega), HEnd.out.2⟩

set_option maxRecDepth 100000 in
set_option maxHeartbeats 4000000 in
theorem pick_any (m : Int) (hm : m ≤ 2000) (xs : List Int) (hxs : ∀ x ∈ xs, wfY x) (hl : xs.length ≤ 4096) (A : Option Addr) (c B k : Nat) (hk : k ≤ 900000) (w : World) (hr : Rd w B ycells A xs) (hs : SrcB w B A xs.length c k) :
    Calls Tryd.prog 39 #[.pointer (some ⟨B, 0, none⟩), .int .i64 m] w (DrawnW w B A xs.length c (k + 2) 0 (if m ≤ 1 then 0 else m - 1)) := by
  have HR := Lib.hid hr
  have HS := Lib.hid hs
  clear hr hs
  by_cases h1 : m ≤ 1
  · rw [if_pos h1]
    go_enter Tryd.func39, Tryd.ntmps39
    go_wp2
    go_ret
    exact ⟨0, ⟨by omega, by omega⟩, rfl, HS.out.more (by omega), gk_refl _ _⟩
  rw [if_neg h1]
  have HN := Lib.hid (next_any xs hxs hl A c B k (by omega) w HR.out HS.out)
  go_enter Tryd.func39, Tryd.ntmps39
  go_wp2_with fail
  refine HN.out.mono ?_
  rintro e w1 ⟨r, ⟨r0, r1⟩, rfl, hS1, hg1⟩
  have HS1 := Lib.hid hS1
  have HG1 := Lib.hid hg1
  have HR1 : Hid (Rd w1 B ycells A xs) := gk_rd HR.out hg1 (Nat.le_of_lt HS.out.lt)
  clear hS1 hg1 HN
  by_cases h2 : 200 < m
  · have HN := Lib.hid (next_any xs hxs hl A c B (k + 1) (by omega) w1 HR1.out HS1.out)
    go_wp2_with fail
    refine HN.out.mono ?_
    rintro e w2 ⟨r2, ⟨r20, r21⟩, rfl, hS2, hg2⟩
    have HS2 := Lib.hid hS2
    have HG2 : Hid (w.grownBy w2 (some B)) := gk_transK HG1.out hg2
    have e0 : 0 ≤ (r * 256 + r2) % m := Int.emod_nonneg _ (by omega)
    have e1 : (r * 256 + r2) % m < m := Int.emod_lt_of_pos _ (by omega)
    have HE : Hid (0 ≤ (r * 256 + r2) % m ∧ (r * 256 + r2) % m ≤ m - 1) := ⟨e0, by omega⟩
    have e2 : (r * 256 + r2).tmod m = (r * 256 + r2) % m := Int.tmod_eq_emod_of_nonneg (by omega)
    obtain ⟨z, hz⟩ : ∃ z, (r * 256 + r2) % m = z := ⟨_, rfl⟩
    have hz2 : (r * 256 + r2).tmod m = z := e2.trans hz
    rw [hz] at HE
    obtain ⟨z0, z1⟩ := HE.out
    clear hS2 hg2 HN e0 e1 e2
    go_wp2
    first
      | (rw [hz]; go_ret; exact ⟨z, ⟨z0, z1⟩, rfl, HS2.out, HG2.out⟩)
      | (go_ret; exact ⟨z, ⟨z0, z1⟩, by first | rfl | (simp only [hz, hz2]; rfl) | (rw [← hz]; rfl), HS2.out, HG2.out⟩)
  · have e0 : 0 ≤ r % m := Int.emod_nonneg _ (by omega)
    have e1 : r % m < m := Int.emod_lt_of_pos _ (by omega)
    obtain ⟨z, hz⟩ : ∃ z, r % m = z := ⟨_, rfl⟩
    rw [hz] at e0 e1
    go_wp2
    first
      | (rw [hz]; go_ret; exact ⟨z, ⟨e0, by omega⟩, rfl, HS1.out.more (by omega), HG1.out⟩)
      | (go_ret; exact ⟨z, ⟨e0, by omega⟩, by first | rfl | (simp only [hz]; rfl) | (rw [← hz]; rfl), HS1.out.more (by omega), HG1.out⟩)
end Go.Proofs.YtlagnocglkoomaaDoor
