/-
  NeverTurned: the contracts, of the model and of the program. Condition: the walkers' numbers fit their kinds; the sentinel errors lie as the row lists them (the program's).
-/
import Derived.Test.YtjiihdljchaeiacDoorYh
import Derived.Test.YtjiihdljchaeiacDoorYu
namespace Go.Proofs.YtjiihdljchaeiacDoor
open Go.ChangeShapes Go.WideShapes Go.ChangeAt Go.RowKit Go.Deep

def vsA (n : Nat) (x : Wal) (k : Nat) : Int := (vis n x).getD k 0
theorem vsA_in {n : Nat} {x : Wal} (hc : 1 ≤ x.co ∧ x.co ≤ 60) (k : Nat) : 0 ≤ vsA n x k ∧ vsA n x k ≤ 60 := by
  have := visTo_in n x.st.toNat x.sp.toNat x.co.toNat k
  unfold vsA vis
  omega
def vz (n : Nat) (k : Nat) (x : Wal) : Bool := decide (vsA n x k = 0)
def neT (l : List Wal) (n : Nat) : Nat → List Int
  | 0 => []
  | k + 1 => if l.all (vz n k) = true then neT l n k ++ [(k : Int)] else neT l n k
theorem neT_len (l : List Wal) (n : Nat) : ∀ k, (neT l n k).length ≤ k
  | 0 => by simp [neT]
  | k + 1 => by
    have := neT_len l n k
    rw [neT]; split
    · rw [List.length_append]; simp; omega
    · omega
def tiT (l : List Wal) (n k : Nat) : Nat → Int
  | 0 => 0
  | i + 1 => tiT l n k i + vsA n (l.getD i ⟨0, 1, 0, 0, 0, 0⟩) k
theorem tiT_succ {l : List Wal} {n k i : Nat} {x : Wal} (h : l[i]? = some x) : tiT l n k (i + 1) = tiT l n k i + vsA n x k := by
  rw [tiT, List.getD_eq_getElem?_getD, h]; rfl
theorem tiT_in {l : List Wal} {n k : Nat} (hv : ∀ x ∈ l, 1 ≤ x.co ∧ x.co ≤ 60) : ∀ i, i ≤ l.length → (0 ≤ tiT l n k i ∧ tiT l n k i ≤ 60 * i) ∧ (tiT l n k i = 0 ↔ AllTo (vz n k) l i)
  | 0, _ => by simp [tiT, AllTo]
  | i + 1, hi => by
    obtain ⟨ih1, ih2⟩ := tiT_in (n := n) (k := k) hv i (by omega)
    have hx : l[i]? = some l[i] := List.getElem?_eq_getElem (by omega)
    have h1 := vsA_in (n := n) (hv _ (List.getElem_mem (by omega : i < l.length))) k
    rw [tiT_succ hx]
    refine ⟨by omega, ?_, ?_⟩
    · intro h0
      have := ih2.1 (by omega)
      exact this.step hx (by simp [vz]; omega)
    · intro h0
      have h2 : AllTo (vz n k) l i := fun j y hj hy => h0 j y (by omega) hy
      have h3 : vsA n l[i] k = 0 := by simpa [vz] using h0 i _ (by omega) hx
      have := ih2.2 h2
      omega
theorem tiT_all {l : List Wal} {n k : Nat} (hv : ∀ x ∈ l, 1 ≤ x.co ∧ x.co ≤ 60) : decide (tiT l n k l.length = 0) = l.all (vz n k) := by
  have h := (tiT_in (n := n) (k := k) hv l.length (Nat.le_refl _)).2
  rw [Bool.eq_iff_iff, decide_eq_true_eq, h]
  constructor
  · intro h; exact h.all
  · intro h j x _ hx
    exact List.all_eq_true.1 h x (List.mem_of_getElem? hx)
def neC (n : Int) (l : List Wal) : Int := akV n l true
def neL (n : Int) (l : List Wal) : List Int := if neC n l = 0 then neT l n.toNat n.toNat else []
theorem neL_len (n : Int) (l : List Wal) : (neL n l).length ≤ 60 := by
  unfold neL
  split
  · have h : neC n l = 0 := by assumption
    have := (vsOk_out (akV_yes h).1).1
    have := neT_len l n.toNat n.toNat
    omega
  · simp
theorem akN_inv {n : Int} {l : List Wal} {f : Bool} (h : vsOk n l = false) : akV n l f = 1 := by simp [akV, h]
theorem akN_ok {n : Int} {l : List Wal} (h : vsOk n l = true) : akV n l true = 0 := by simp [akV, h]
theorem nil_ownI (w : World) (b : Nat) : w.ownsRow b 2 1 (.slice none 0 0) ([] : List Int).length (([] : List Int).flatMap icells) := ⟨rfl, .inl ⟨rfl, rfl⟩⟩
theorem empty_ownN (w : World) (b : Nat) (hb : b ≤ w.heap.size) : (w.alloc (.cells #[] 2)).ownsRow b 2 1 (.slice (some ⟨w.heap.size, 0, none⟩) 0 0) ([] : List Int).length (([] : List Int).flatMap icells) :=
  ⟨rfl, .inr ⟨w.heap.size, 0, #[], rfl, hb, heap_alloc_new w _, Nat.le_refl _, by unfold maxLen; omega, by simp, by simp⟩⟩

set_option maxHeartbeats 1000000 in
theorem neClosure_any (n : Nat) (s : KW) (k : Nat) (hk : k < n) (h60 : n ≤ 60) (B : Nat) (w : World) (hb : w.cell? ⟨B, 0, none⟩ = some (.int .i64 k)) (hs : okW n w s) :
    Calls Tryd.prog 33 #[.agg (kcw n s).toArray, .pointer (some ⟨B, 0, none⟩)] w fun e w' => e = .returned (.bool (!vz n k s.1)) ∧ Below w.heap.size w w' := by
  obtain ⟨⟨fi, ev, st, sp, co, tu⟩, g⟩ := s
  show Calls Tryd.prog 33 #[.agg #[.int .i16 fi, .int .i16 ev, .int .i16 st, .int .i16 sp, .int .i16 co, .int .i8 tu, .int .i64 fi, .int .i64 ev, .slice (some ⟨g, 0, none⟩) n n], .pointer (some ⟨B, 0, none⟩)] w _
  have hv : (vis n ⟨fi, ev, st, sp, co, tu⟩)[k]? = some (vsA n ⟨fi, ev, st, sp, co, tu⟩ k) := by
    rw [vsA, List.getD_eq_getElem?_getD, List.getElem?_eq_getElem (by rw [vis_len]; exact hk)]; rfl
  have hB : Below w.heap.size w (w.alloc (.cells #[.int .i16 fi, .int .i16 ev, .int .i16 st, .int .i16 sp, .int .i16 co, .int .i8 tu, .int .i64 fi, .int .i64 ev, .slice (some ⟨g, 0, none⟩) n n] 66)) := (Below.refl _ w).alloc (Nat.le_refl _) _
  have c1 : w.cell? ⟨g, k, none⟩ = some (.int .i64 (vsA n ⟨fi, ev, st, sp, co, tu⟩ k)) := icells_cell hs hv
  have c1' := (hB.cell (p := ⟨g, k, none⟩) (block_lt_of_cell c1)).trans c1
  have c2' := (hB.cell (p := ⟨B, 0, none⟩) (block_lt_of_cell hb)).trans hb
  have hK : Blk (w.alloc (.cells #[.int .i16 fi, .int .i16 ev, .int .i16 st, .int .i16 sp, .int .i16 co, .int .i8 tu, .int .i64 fi, .int .i64 ev, .slice (some ⟨g, 0, none⟩) n n] 66)) w.heap.size 66 #[.int .i16 fi, .int .i16 ev, .int .i16 st, .int .i16 sp, .int .i16 co, .int .i8 tu, .int .i64 fi, .int .i64 ev, .slice (some ⟨g, 0, none⟩) n n] := Blk.new w _ _
  have c3 : (w.alloc (.cells #[.int .i16 fi, .int .i16 ev, .int .i16 st, .int .i16 sp, .int .i16 co, .int .i8 tu, .int .i64 fi, .int .i64 ev, .slice (some ⟨g, 0, none⟩) n n] 66)).cell? ⟨w.heap.size, 8, none⟩ = some (.slice (some ⟨g, 0, none⟩) n n) := Blk.cell hK 8
  obtain ⟨W1, hW1⟩ : ∃ W1, w.alloc (.cells #[.int .i16 fi, .int .i16 ev, .int .i16 st, .int .i16 sp, .int .i16 co, .int .i8 tu, .int .i64 fi, .int .i64 ev, .slice (some ⟨g, 0, none⟩) n n] 66) = W1 := ⟨_, rfl⟩
  rw [hW1] at hB c1' c2' c3
  have HB := Lib.hid hB
  obtain ⟨a, ha⟩ : ∃ a, vsA n ⟨fi, ev, st, sp, co, tu⟩ k = a := ⟨_, rfl⟩
  have HA := Lib.hid ha
  rw [ha] at c1'
  have hk0 : (0 : Int) ≤ (k : Int) := Int.natCast_nonneg _
  have hk8 : (k : Int) < n := by omega
  have hin := visTo_in n st.toNat sp.toNat co.toNat k
  have ha0 : 0 ≤ a := by rw [← ha]; exact hin.1
  clear hv hK hB c1 ha hs hb hin
  by_cases hz : a = 0
  · subst hz
    have E : Hid (vz n k ⟨fi, ev, st, sp, co, tu⟩ = true) := decide_eq_true HA.out
    go_enter Tryd.func33, Tryd.ntmps33
    go_wp2
    go_ret
    exact ⟨by (rw [E.out]; first | done | rfl), HB.out⟩
  · have hp : 0 < a := by omega
    have E : Hid (vz n k ⟨fi, ev, st, sp, co, tu⟩ = false) := decide_eq_false (by rw [HA.out]; exact hz)
    go_enter Tryd.func33, Tryd.ntmps33
    go_wp2
    go_ret
    exact ⟨by (rw [E.out]; first | done | rfl), HB.out⟩

set_option maxHeartbeats 2000000 in
theorem indexK_any (n : Nat) (ks : List KW) (k : Nat) (hk : k < n) (h60 : n ≤ 60) (A : Option Addr) (c B : Nat) (w : World) (hl : ks.length ≤ 8) (hr : Rd w w.heap.size (kcw n) A ks) (hb : w.cell? ⟨B, 0, none⟩ = some (.int .i64 k)) (hs : ∀ s ∈ ks, okW n w s) :
    Calls Tryd.prog 53 #[.slice A ks.length c, .func (.func 33) #[] #[.pointer (some ⟨B, 0, none⟩)]] w fun e w' => ∃ i : Int, e = .returned (.int .i64 i) ∧ (decide (i < 0)) = ks.all (fun s => vz n k s.1) ∧ -1 ≤ i ∧ i ≤ ks.length ∧ Below w.heap.size w w' := by
  have HR := Lib.hid hr
  have HC := Lib.hid hb
  have HS := Lib.hid hs
  have hBl := block_lt_of_cell hb
  clear hr hb hs
  have hn0 : (0 : Int) ≤ (ks.length : Int) := Int.natCast_nonneg _
  go_enter Tryd.func53, Tryd.ntmps53
  go_wp2_with fail
  go_loopw [8] (fun i wr => ∃ (j : Nat), j ≤ ks.length ∧ i = .int .i64 j ∧ AllTo (fun s : KW => vz n k s.1) ks j ∧ Below w.heap.size w wr) (fun i _ => ks.length - (intOf i).toNat)
  case atStart => exact ⟨0, by omega, rfl, AllTo.zero _ _, Below.refl _ _⟩
  case round =>
    obtain ⟨j, hj, rfl, hT, hB⟩ := hrel
    have HT := Lib.hid hT
    have HB := Lib.hid hB
    clear hT hB
    by_cases hlt : j < ks.length
    · obtain ⟨x, hx⟩ : ∃ x, ks[j]? = some x := ⟨_, List.getElem?_eq_getElem hlt⟩
      obtain ⟨b, o, rfl, hbl, hrow⟩ := (HR.out.below (Nat.le_refl _) HB.out).at_ (kcw_length n) hx
      have HX := Lib.hid hx
      have HRow := Lib.hid hrow
      have hk0 : (0 : Int) ≤ (j : Int) := Int.natCast_nonneg _
      have hk8 : (j : Int) < ks.length := by omega
      clear hx hrow
      go_wp2_with (refine wpList_load_mid rfl 66 (.tmp 14) rfl b (o + j * 9) rfl (kcw n x) _ HRow.out Tryd.underlying66 rfl Tryd.sizeWKS ?_)
      refine (neClosure_any n x k hk h60 B _ ((HB.out.cell (p := ⟨B, 0, none⟩) hBl).trans HC.out) ((HS.out x (List.mem_of_getElem? HX.out)).keep HB.out)).mono ?_
      rintro e w1 ⟨rfl, hb1⟩
      have HB1 : Hid (Below w.heap.size w w1) := HB.out.trans (hb1.mono HB.out.size)
      clear hb1
      cases hv : vz n k x.1
      · have HV := Lib.hid hv
        clear hv
        go_wp2
        go_ret
        exact ⟨j, rfl, by rw [all_no HX.out HV.out]; simp, by omega, by omega, HB1.out⟩
      · have HV := Lib.hid hv
        clear hv
        go_wp2
        go_roundw
        case rel => exact ⟨j + 1, by omega, by go_num, HT.out.step HX.out HV.out, HB1.out⟩
        case measure => simp [intOf]; omega
    · obtain rfl : j = ks.length := by omega
      go_wp2
      go_ret
      exact ⟨-1, rfl, by rw [HT.out.all]; rfl, by omega, by omega, HB.out⟩
set_option maxHeartbeats 1000000 in
theorem containsK_any (n : Nat) (ks : List KW) (k : Nat) (hk : k < n) (h60 : n ≤ 60) (A : Option Addr) (c B : Nat) (w : World) (hl : ks.length ≤ 8) (hr : Rd w w.heap.size (kcw n) A ks) (hb : w.cell? ⟨B, 0, none⟩ = some (.int .i64 k)) (hs : ∀ s ∈ ks, okW n w s) :
    Calls Tryd.prog 32 #[.slice A ks.length c, .func (.func 33) #[] #[.pointer (some ⟨B, 0, none⟩)]] w fun e w' => e = .returned (.bool (!ks.all (fun s => vz n k s.1))) ∧ Below w.heap.size w w' := by
  have HR := Lib.hid hr
  have HC := Lib.hid hb
  have HS := Lib.hid hs
  clear hr hb hs
  go_enter Tryd.func32, Tryd.ntmps32
  go_wp2_with fail
  refine (indexK_any n ks k hk h60 A c B w hl HR.out HC.out HS.out).mono ?_
  rintro e w1 ⟨i, rfl, hi, hi0, hi1, hb⟩
  have HB := Lib.hid hb
  have HI := Lib.hid hi
  clear hb hi
  go_wp2
  go_ret
  exact ⟨ret_bool (by rw [← HI.out, ← decide_not]; rw [decide_eq_decide]; omega), HB.out⟩
end Go.Proofs.YtjiihdljchaeiacDoor
