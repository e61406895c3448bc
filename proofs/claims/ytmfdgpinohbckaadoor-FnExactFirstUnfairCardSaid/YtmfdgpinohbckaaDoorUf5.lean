/-
  firstUnfair: the program's contract. Condition: both lists read, their numbers fit; the sentinel errors lie as the row lists them.
-/
import Derived.Test.YtmfdgpinohbckaaDoorUf4
namespace Go.Proofs.YtmfdgpinohbckaaDoor
open Go.RowKit Go.Shelf Go.ChangeShapes Go.WideShapes Go.ChangeAt Go.Deep
attribute [local go_sem] Oper.semAt_some

def ueV (ad : Nat → Addr) : Option Nat → Value
  | none => .iface 165 (.pointer (some (ad 4)))
  | some _ => .nilIface
theorem wf_stored {x : Wnt} (h : wfW x) : -32768 ≤ x.2 ∧ x.2 ≤ 32767 := h.2
theorem take_rev {ls : List Wnt} {k : Nat} {x : Wnt} (h : ls[k]? = some x) : (ls.take (k + 1)).reverse = x :: (ls.take k).reverse := by
  obtain ⟨h1, h2⟩ := List.getElem?_eq_some_iff.1 h
  rw [List.take_succ_eq_append_getElem h1, h2, List.reverse_append]; rfl

theorem any_leT (s : Int) {L : List Wnt} {b : Bot} {d : Int} (h : leT L b d) (n : Int) : L.any (fun o => ufE s o (b, n)) = decide (d + s < n) := by
  rw [Bool.eq_iff_iff, List.any_eq_true, decide_eq_true_iff]
  constructor
  · rintro ⟨o, ho, hu⟩
    simp only [ufE, Bool.and_eq_true, decide_eq_true_eq] at hu
    have := h.2 o ho (Prod.ext hu.1.1 hu.1.2)
    omega
  · intro hd
    obtain ⟨o, ho, e1, e2⟩ := h.1
    exact ⟨o, ho, by simp [ufE, e1, e2, hd]⟩
theorem any_noT (s : Int) {L : List Wnt} {b : Bot} (h : ∀ o ∈ L, o.1 ≠ b) (n : Int) : L.any (fun o => ufE s o (b, n)) = false := by
  rw [List.any_eq_false]
  intro o ho hu
  simp only [ufE, Bool.and_eq_true, decide_eq_true_eq] at hu
  exact h o ho (Prod.ext hu.1.1 hu.1.2)

set_option maxRecDepth 100000 in
set_option maxHeartbeats 8000000 in
theorem firstUnfair_any (ts : List Wnt) (hwt : ∀ x ∈ ts, wfW x) (ls : List Wnt) (hwl : ∀ x ∈ ls, wfW x) (s : Int) (hs : 0 ≤ s ∧ s ≤ 2000) (A B : Option Addr) (c d : Nat) (ad : Nat → Addr) (w : World) (hlt : ts.length ≤ 1048576) (hll : ls.length ≤ 1048576) (hr : Rd w w.heap.size wcells A ts) (hb : Rd w w.heap.size wcells B ls) (hE : EW 7 w ad) :
    Calls Tryd.prog 59 #[.slice A ts.length c, .slice B ls.length d, .int .i64 s] w fun e w' => e = .returned (.tuple #[.int .i64 (((uqL s ls (bwL ts hwt hlt ts.length)).1.getD 0 : Nat) : Int), ueV ad (uqL s ls (bwL ts hwt hlt ts.length)).1]) ∧ Below w.heap.size w w' := by
  have HR := Lib.hid hr
  have HRb := Lib.hid hb
  have HWl := Lib.hid hwl
  have HE := Lib.hid hE
  have HS := Lib.hid hs
  clear hr hb hwl hE hs
  have hmm := @run_makeMap Tryd.prog
  refine (callsIn_wide (n := 9)).1 ?_
  refine callsIn_of_wp_marks Tryd.func59 rfl trivial ?_ rfl
  simp only [Tryd.ntmps59, List.size_toArray, List.length_cons, List.length_nil, Nat.reduceAdd, Nat.reduceSub, Array.replicate_succ, Array.replicate_zero, List.push_toArray, List.append_toArray, List.nil_append, List.cons_append]
  refine wpIn_wide.2 ?_
  go_wp2_with fail
  clear hmm
  go_loopw [20] (fun i wr => ∃ k n : Nat, ∃ D : DataW Unit, k ≤ ls.length ∧ i = .int .i64 k ∧ n ≤ k ∧ OwnsT wr (w.heap.size + 1) n D ∧ HoldsT D (ls.take k).reverse ∧ Boxed wr w.heap.size 2 (.int .i64 s) ∧ Boxed wr (w.heap.size + 1 + 1) 124 (.map (some (w.heap.size + 1))) ∧ Below w.heap.size w wr) (fun i _ => ls.length - (intOf i).toNat)
  case atStart =>
    refine ⟨0, 0, .map [], Nat.zero_le _, rfl, Nat.le_refl _, ?_, HoldsT.empty, ?_, ?_, ((((Below.refl _ w).alloc (Nat.le_refl _) _).alloc (by simp) _).alloc (by simp; omega) _)⟩
    · have : OwnsT ((w.alloc (.cells #[.int .i64 s] 2)).alloc (.map #[] 0)) (w.alloc (.cells #[.int .i64 s] 2)).heap.size 0 (.map []) := World.ownsMap_made _ _ _ _
      rw [World.size_alloc] at this
      exact this.alloc _
    · exact ((Boxed.new w _ _).alloc _).alloc _
    · have := Boxed.new ((w.alloc (.cells #[.int .i64 s] 2)).alloc (.map #[] 0)) 124 (.map (some (w.heap.size + 1)))
      simp only [World.size_alloc] at this
      exact this
  case round =>
    obtain ⟨k, n, D, hk, rfl, hn, q1, q2, q3, q4, q5⟩ := hrel
    obtain ⟨wa, rfl⟩ : ∃ u, u = wr := ⟨_, rfl⟩
    have hk0 : (0 : Int) ≤ (k : Int) := Int.natCast_nonneg _
    have cM := q4.cell
    by_cases hlt2 : k < ls.length
    · have hk8 : (k : Int) < ls.length := by omega
      obtain ⟨⟨⟨k1, y1⟩, n1⟩, hx⟩ : ∃ x, ls[k]? = some x := ⟨_, List.getElem?_eq_getElem hlt2⟩
      obtain ⟨bA, oA, rfl, hbA, hrow⟩ := (HRb.out.below (Nat.le_refl _) q5).at_ wcells_length hx
      obtain ⟨p1, p2, p3⟩ := rowW hrow
      have HNo := Lib.hid (noteOldest_any k1 y1 n1 (HWl.out _ (List.mem_of_getElem? hx)) (w.heap.size + 1) n D (ls.take k).reverse (wa.alloc (.cells #[.int .u8 k1, .int .i16 y1, .int .i16 n1] 30)) (by unfold maxLen; omega) (q1.alloc _) q2)
      have HT := Lib.hid (take_rev hx)
      have Q3 := Lib.hid (q3.alloc (.cells #[.int .u8 k1, .int .i16 y1, .int .i16 n1] 30))
      have Q4 := Lib.hid (q4.alloc (.cells #[.int .u8 k1, .int .i16 y1, .int .i16 n1] 30))
      have Q5 := Lib.hid (q5.alloc q5.size (.cells #[.int .u8 k1, .int .i16 y1, .int .i16 n1] 30))
      have HN := Lib.hid hn
      have hlq := q4.lt
      clear hx hrow q1 q2 q3 q4 q5 hn
      go_wp2_with fail
      refine HNo.out.mono ?_
      rintro e w9 ⟨⟨v, rfl⟩, n', D', h1, h2, h3, h4⟩
      have R1 := Lib.hid h1
      have R2 := Lib.hid h2
      have R3 := Lib.hid h3
      have R4 := Lib.hid (Q3.out.kept h4 (by simp))
      have R5 := Lib.hid (Q4.out.kept h4 (by simp))
      have R6 := Lib.hid (Q5.out.grown h4 Q5.out.size (fun j hj => by cases hj; omega))
      clear h1 h2 h3 h4 HNo Q3 Q4 Q5 cM p1 p2 p3
      go_wp2
      go_roundw
      case rel => exact ⟨k + 1, n', D', by omega, by go_num, by have := R1.out; have := HN.out; omega, R2.out, by rw [HT.out]; exact R3.out, R4.out, R5.out, R6.out⟩
      case measure => simp [intOf]; omega
    · obtain rfl : k = ls.length := by omega
      rw [List.take_length] at q2
      have e4 : wa.cell? ⟨5, 0, none⟩ = some (.iface 165 (.pointer (some (ad 4)))) := (HE.out.below q5 (Nat.le_refl _)).cell 4 (by omega)
      have hge : 5 < wa.heap.size := block_lt_of_cell e4
      have g1 : Boxed ((wa.alloc (.cells #[.int .i64 0] 2)).alloc (.cells #[ueV ad none] 67)) wa.heap.size 2 (.int .i64 0) := (Boxed.new wa _ _).alloc _
      have g2 : Boxed ((wa.alloc (.cells #[.int .i64 0] 2)).alloc (.cells #[ueV ad none] 67)) (wa.heap.size + 1) 67 (ueV ad none) := by
        have := Boxed.new (wa.alloc (.cells #[.int .i64 0] 2)) 67 (ueV ad none)
        rw [World.size_alloc] at this
        exact this
      have g3 : Below w.heap.size w ((wa.alloc (.cells #[.int .i64 0] 2)).alloc (.cells #[ueV ad none] 67)) := (q5.alloc q5.size _).alloc (by have := q5.size; simp; omega) _
      have g4 := (q1.alloc (.cells #[.int .i64 0] 2)).alloc (.cells #[ueV ad none] 67)
      have g5 := (q3.alloc (.cells #[.int .i64 0] 2)).alloc (.cells #[ueV ad none] 67)
      have g6 := (q4.alloc (.cells #[.int .i64 0] 2)).alloc (.cells #[ueV ad none] 67)
      have hsz : w.heap.size + 1 + 1 < wa.heap.size := q4.lt
      have hs1 : ((wa.alloc (.cells #[.int .i64 0] 2)).alloc (.cells #[ueV ad none] 67)).heap.size = wa.heap.size + 2 := by simp
      obtain ⟨W1, hW1⟩ : ∃ W1, (wa.alloc (.cells #[.int .i64 0] 2)).alloc (.cells #[ueV ad none] 67) = W1 := ⟨_, rfl⟩
      rw [hW1] at g1 g2 g3 g4 g5 g6 hs1
      have G1 := Lib.hid g1
      have G2 := Lib.hid g2
      have G3 := Lib.hid g3
      have G4 := Lib.hid g4
      have G5 := Lib.hid g5
      have G6 := Lib.hid g6
      have Q2 := Lib.hid q2
      have HN : Hid (n ≤ 1048576) := Nat.le_trans hn hll
      clear g1 g2 g3 g4 g5 g6 q1 q2 q3 q4 q5 hn
      dsimp only [ueV] at hW1
      go_wp2_with fail
      clear hW1 e4 hge
      refine (backward_any A ts.length c _).mono ?_
      rintro e w9 ⟨rfl, hw9⟩
      have g0 : Boxed w9 W1.heap.size 44 (.slice A ts.length c) := by rw [hw9]; exact Boxed.new _ _ _
      have g1 : Boxed w9 wa.heap.size 2 (.int .i64 0) := by rw [hw9]; exact G1.out.alloc _
      have g2 : Boxed w9 (wa.heap.size + 1) 67 (ueV ad none) := by rw [hw9]; exact G2.out.alloc _
      have g3 : Below w.heap.size w w9 := by rw [hw9]; exact G3.out.alloc G3.out.size _
      have g4 : OwnsT w9 (w.heap.size + 1) n D := by rw [hw9]; exact G4.out.alloc _
      have g5 : Boxed w9 w.heap.size 2 (.int .i64 s) := by rw [hw9]; exact G5.out.alloc _
      have g6 : Boxed w9 (w.heap.size + 1 + 1) 124 (.map (some (w.heap.size + 1))) := by rw [hw9]; exact G6.out.alloc _
      have hs9 : w9.heap.size = wa.heap.size + 3 := by rw [hw9, World.size_alloc, hs1]
      rw [hs1] at g0 ⊢
      clear hw9 G1 G2 G3 G4 G5 G6 hs1
      go_wp2_with fail
      refine (wpIn_wide (n := 9)).1 ?_
      refine wpIn_rangeFunc_ownH rfl (by omega) (gf := 101) (lb := #[.pointer (some ⟨wa.heap.size + 2, 0, none⟩)]) rfl trivial (enters_of Tryd.func101 (by kernel_rfl) rfl)
        (backS_stops Fence.wide 8 trivial rfl (by omega) (wa.heap.size + 2) w.heap.size A c ts hwt hlt w9 (by omega) (by omega) g0.cell (HR.out.below (Nat.le_refl _) g3))
        (fun h k => KeepS.trans h k) (keepS_b (by omega) (by omega)) (Below.refl _ _) (fun _ => rfl)
        (fun pre W => (∃ n D, n ≤ 1048576 + pre.length ∧ OwnsT W (w.heap.size + 1) n D ∧ HoldsT D (uqL s ls pre).2 ∧ Boxed W w.heap.size 2 (.int .i64 s) ∧ Boxed W (w.heap.size + 1 + 1) 124 (.map (some (w.heap.size + 1))) ∧ Boxed W wa.heap.size 2 (.int .i64 (((uqL s ls pre).1.getD 0 : Nat) : Int)) ∧ Boxed W (wa.heap.size + 1) 67 (ueV ad (uqL s ls pre).1) ∧ Boxed W (wa.heap.size + 2) 44 (.slice A ts.length c)) ∧ Below w.heap.size w W)
        (fun _ _ _ => False)
        (OwnFrom.and (fun pre X Y row hs hg hr => by
          obtain ⟨n, D, a1, a2, a3, a4, a5, a6, a7, a8⟩ := hs
          have hno : ∀ b, b < w9.heap.size → some b ≠ row := fun b hb e => by have := (hr _ e.symm).1; omega
          exact ⟨n, D, a1, a2.kept hg (hno _ (by omega)), a3, a4.kept hg (hno _ (by omega)), a5.kept hg (hno _ (by omega)), a6.kept hg (hno _ (by omega)), a7.kept hg (hno _ (by omega)), a8.kept hg (hno _ (by omega))⟩) (ownFrom_below (Nat.le_refl _) (by omega)))
        (fun _ _ _ _ _ hs _ _ => hs)
        ⟨⟨n, D, by have := HN.out; simp; omega, g4, Q2.out, g5, g6, g1, g2, g0⟩, g3⟩
        (fun x a' W => ∃ Bx, wa.heap.size + 2 < Bx ∧ Blk W Bx 30 #[.int .u8 x.1.2.1.1, .int .i16 x.1.2.1.2, .int .i16 x.1.2.2] ∧ a' = { tmps := #[.slice A ts.length c, .slice B ls.length d, .int .i64 s, undef, undef, .pointer (some ⟨w.heap.size, 0, none⟩), .int .i64 0, .nilIface, .pointer (some ⟨w.heap.size + 1 + 1, 0, none⟩), undef, u10, .pointer (some ⟨wa.heap.size, 0, none⟩), .pointer (some ⟨wa.heap.size + 1, 0, none⟩), .int .i64 (x.1.1 : Int), .pointer (some ⟨Bx, 0, none⟩), undef, undef,
          .map (some (w.heap.size + 1)), .slice B ls.length d, .int .i64 ls.length, .int .i64 ls.length, .bool false, u22, u23, u24, u25, u26, u27, .iface 165 (.pointer (some (ad 4))), .slice A ts.length c, .func (.func 101) #[] #[.pointer (some ⟨wa.heap.size + 2, 0, none⟩)], .int .i64 (x.1.1 : Int), .agg #[.int .u8 x.1.2.1.1, .int .i16 x.1.2.1.2, .int .i16 x.1.2.2],
          undef, undef, undef, undef, undef, undef, undef, undef, undef, undef, undef, undef, undef, undef, undef, undef, undef, undef, undef, undef, undef, undef, undef], defers := [] })
        (fun x a' _ X Y row hs hg hr => by
          obtain ⟨Bx, h1, h2, h3⟩ := hs
          exact ⟨Bx, h1, (hg.block Bx (Array.getElem?_eq_some_iff.1 h2).1 (fun e => by obtain ⟨-, o, ho, hc⟩ := hr _ e.symm; rw [show X.heap[Bx]? = _ from h2] at ho; cases ho; cases hc)).trans h2, h3⟩)
        ?assign ?body ?done ?stop
      case assign =>
        rintro l pre ⟨⟨i, ⟨⟨k1, y1⟩, n1⟩⟩, hx⟩ W K ⟨⟨n, D, a1, a2, a3, a4, a5, a6, a7, a8⟩, hB⟩ hK
        dsimp only [ubE]
        gi_wp2
        exact hK _ _ ((KeepsOthers.alloc _ _).from _) ⟨(Below.refl _ W).alloc hB.size _, (World.grownBy_alloc W _ none).block _ a8.lt (by simp)⟩ ⟨⟨n, D, a1, a2.alloc _, a3, a4.alloc _, a5.alloc _, a6.alloc _, a7.alloc _, a8.alloc _⟩, hB.alloc hB.size _⟩ ⟨W.heap.size, a8.lt, Blk.new W _ _, rfl⟩
      case body =>
        rintro l pre ⟨⟨i, ⟨⟨k1, y1⟩, n1⟩⟩, hx, hi⟩ a' W hl - ⟨⟨n, D, a1, a2, a3, a4, a5, a6, a7, a8⟩, hB⟩ ⟨Bx, hBx, bX, rfl⟩ hlen
        dsimp only at bX ⊢
        obtain ⟨st, hst⟩ : ∃ st, uqL s ls pre = st := ⟨_, rfl⟩
        rw [hst] at a3 a6 a7
        have hsn : uqL s ls (pre ++ [⟨(i, ((k1, y1), n1)), hx, hi⟩]) = (if st.2.any (fun o => ufE s o ((k1, y1), n1)) then some i else st.1, ((k1, y1), n1) :: st.2) := by rw [uqL_snoc, hst]; rfl
        have hnm : n < maxLen := by unfold maxLen; omega
        have x0 := bX.cell 0
        have x1 := bX.cell 1
        have x2 := bX.cell 2
        have cS := a4.cell
        have cM := a5.cell
        have fF := a6.frozen
        have fE := a7.frozen
        have cF := a6.cell
        have cE := a7.cell
        have hd := hx.2
        dsimp only at hd
        have HNo : Hid (∀ W', OwnsT W' (w.heap.size + 1) n D → Calls Tryd.prog 85 #[.map (some (w.heap.size + 1)), .agg #[.int .u8 k1, .int .i16 y1, .int .i16 n1]] W' fun e w' => (∃ v, e = .returned v) ∧ ∃ n' D', n' ≤ n + 1 ∧ OwnsT w' (w.heap.size + 1) n' D' ∧ HoldsT D' (((k1, y1), n1) :: st.2) ∧ W'.grownBy w' (some (w.heap.size + 1))) :=
          fun W' h => noteOldest_any k1 y1 n1 hx (w.heap.size + 1) n D st.2 W' hnm h a3
        have hlk := look_T a2 a3 hx.1
        have HP : Hid (pre.length + 1 = (pre ++ [(⟨(i, ((k1, y1), n1)), hx, hi⟩ : UB)]).length) := by show _ = _; simp
        generalize (⟨(i, ((k1, y1), n1)), hx, hi⟩ : UB) = xx at hsn HP ⊢
        have A1 := Lib.hid a1
        have A2 := Lib.hid a2
        have A4 := Lib.hid a4
        have A5 := Lib.hid a5
        have A6 := Lib.hid a6
        have A7 := Lib.hid a7
        have A8 := Lib.hid a8
        have BX := Lib.hid bX
        have HB := Lib.hid hB
        have SN := Lib.hid hsn
        have hs0 := HS.out
        have hw1 : IntKind.i64.wrap n1 = n1 := IntWalk.i64_in _ ⟨by omega, by omega⟩
        have hw2 : wrap64 n1 = n1 := IntWalk.wrap64_in _ ⟨by omega, by omega⟩
        dsimp only at hlk
        rcases hlk with ⟨d0, hd0, hl0, hrun⟩ | ⟨hno, hrun⟩
        · have hany := any_leT s hl0 n1
          obtain ⟨z, hz⟩ : ∃ z, d0 + s = z := ⟨_, rfl⟩
          have hzb : -32768 ≤ z ∧ z ≤ 40000 := by omega
          have hw5 : IntKind.i64.wrap z = z := IntWalk.i64_in _ ⟨by omega, by omega⟩
          have hw6 : wrap64 z = z := IntWalk.wrap64_in _ ⟨by omega, by omega⟩
          rw [hz] at hany
          clear a1 a2 a3 a4 a5 a6 a7 a8 bX hB hl0 hsn hst hx hd hd0 hzb hs0 hnm hi g0 g1 g2 g3 g4 g5 g6
          by_cases hlt5 : z < n1
          · have hA : Hid (st.2.any (fun o => ufE s o ((k1, y1), n1)) = true) := by show _ = _; rw [hany]; exact decide_eq_true hlt5
            clear hany
            gi_wp2_with fail
            have kg1 := grownBy_setCell' W wa.heap.size (.int .i64 (i : Int))
            have kg2 := grownBy_setCell' (W.setCell ⟨wa.heap.size, 0, none⟩ (.int .i64 (i : Int))) (wa.heap.size + 1) .nilIface
            have hsE := A8.out.lt
            have hO : OwnsT ((W.setCell ⟨wa.heap.size, 0, none⟩ (.int .i64 (i : Int))).setCell ⟨wa.heap.size + 1, 0, none⟩ .nilIface) (w.heap.size + 1) n D := (A2.out.setCell (a := ⟨wa.heap.size, 0, none⟩) (by show w.heap.size + 1 ≠ wa.heap.size; omega) _).setCell (a := ⟨wa.heap.size + 1, 0, none⟩) (by show w.heap.size + 1 ≠ wa.heap.size + 1; omega) _
            refine ⟨trivial, ?_⟩
            refine (CallsIn.inRound l (callsIn_wide.2 (HNo.out _ hO))).mono ?_
            rintro e w8 ⟨⟨v, rfl⟩, n', D', h1, h2, h3, h4⟩
            have SN2 : uqL s ls (pre ++ [xx]) = (some i, ((k1, y1), n1) :: st.2) := by rw [SN.out, hA.out]; rfl
            have kk : ∀ {B : Nat} {t : TypeId} {u : Value}, Boxed W B t u → B ≠ wa.heap.size → B ≠ wa.heap.size + 1 → B ≠ w.heap.size + 1 → Boxed w8 B t u := fun h e1 e2 e3 => ((h.kept kg1 (fun e => e1 (Option.some.inj e))).kept kg2 (fun e => e2 (Option.some.inj e))).kept h4 (fun e => e3 (Option.some.inj e))
            have b1 : Boxed w8 wa.heap.size 2 (.int .i64 (i : Int)) := ((A6.out.set _).kept kg2 (fun e => by have := Option.some.inj e; omega)).kept h4 (fun e => by have := Option.some.inj e; omega)
            have b2 : Boxed w8 (wa.heap.size + 1) 67 .nilIface := ((A7.out.kept kg1 (fun e => by have := Option.some.inj e; omega)).set _).kept h4 (fun e => by have := Option.some.inj e; omega)
            have b3 := kk A4.out (by omega) (by omega) (by omega)
            have b4 := kk A5.out (by omega) (by omega) (by omega)
            have b5 := kk A8.out (by omega) (by omega) (by omega)
            have hb8 : Below w.heap.size W w8 := (((Below.refl w.heap.size W).grown kg1 HB.out.size (fun j e => by cases e; omega)).grown kg2 (by have := kg1.size; have := HB.out.size; omega) (fun j e => by cases e; omega)).grown h4 (by have := kg1.size; have := kg2.size; have := HB.out.size; omega) (fun j e => by cases e; omega)
            have hk8 : KeepsFrom w9.heap.size W w8 := ((KeepsFrom.of_grownBy kg1 (fun j e => by cases e; omega)).trans (KeepsFrom.of_grownBy kg2 (fun j e => by cases e; omega))).trans (KeepsFrom.of_grownBy h4 (fun j e => by cases e; omega))
            have hs8 : w8.heap[wa.heap.size + 2]? = W.heap[wa.heap.size + 2]? := b5.trans A8.out.symm
            clear kg1 kg2 hO HNo h4 kk cS cM cF cE fF fE x0 x1 x2 hrun
            gi_wp2
            exact ⟨hk8, ⟨hb8, hs8⟩, ⟨n', D', by have := HP.out; have := A1.out; omega, h2, by rw [SN2]; exact h3, b3, b4, by rw [SN2]; exact b1, by rw [SN2]; exact b2, b5⟩, HB.out.trans hb8⟩
          · have hA : Hid (st.2.any (fun o => ufE s o ((k1, y1), n1)) = false) := by show _ = _; rw [hany]; exact decide_eq_false hlt5
            clear hany
            gi_wp2_with fail
            refine ⟨trivial, ?_⟩
            refine (CallsIn.inRound l (callsIn_wide.2 (HNo.out _ A2.out))).mono ?_
            rintro e w8 ⟨⟨v, rfl⟩, n', D', h1, h2, h3, h4⟩
            have hsE := A8.out.lt
            have SN2 : uqL s ls (pre ++ [xx]) = (st.1, ((k1, y1), n1) :: st.2) := by rw [SN.out, hA.out]; rfl
            have b1 := A6.out.kept h4 (fun e => by have := Option.some.inj e; omega)
            have b2 := A7.out.kept h4 (fun e => by have := Option.some.inj e; omega)
            have b3 := A4.out.kept h4 (fun e => by have := Option.some.inj e; omega)
            have b4 := A5.out.kept h4 (fun e => by have := Option.some.inj e; omega)
            have b5 := A8.out.kept h4 (fun e => by have := Option.some.inj e; omega)
            have hb8 : Below w.heap.size W w8 := (Below.refl w.heap.size W).grown h4 HB.out.size (fun j e => by cases e; omega)
            have hk8 : KeepsFrom w9.heap.size W w8 := KeepsFrom.of_grownBy h4 (fun j e => by cases e; omega)
            have hs8 : w8.heap[wa.heap.size + 2]? = W.heap[wa.heap.size + 2]? := b5.trans A8.out.symm
            clear HNo h4 cS cM cF cE fF fE x0 x1 x2 hrun
            gi_wp2
            exact ⟨hk8, ⟨hb8, hs8⟩, ⟨n', D', by have := HP.out; have := A1.out; omega, h2, by rw [SN2]; exact h3, b3, b4, by rw [SN2]; exact b1, by rw [SN2]; exact b2, b5⟩, HB.out.trans hb8⟩
        · have hA : Hid (st.2.any (fun o => ufE s o ((k1, y1), n1)) = false) := any_noT s hno n1
          clear a1 a2 a3 a4 a5 a6 a7 a8 bX hB hno hsn hst hx hd hs0 hnm hi g0 g1 g2 g3 g4 g5 g6
          gi_wp2_with fail
          refine ⟨trivial, ?_⟩
          refine (CallsIn.inRound l (callsIn_wide.2 (HNo.out _ A2.out))).mono ?_
          rintro e w8 ⟨⟨v, rfl⟩, n', D', h1, h2, h3, h4⟩
          have hsE := A8.out.lt
          have SN2 : uqL s ls (pre ++ [xx]) = (st.1, ((k1, y1), n1) :: st.2) := by rw [SN.out, hA.out]; rfl
          have b1 := A6.out.kept h4 (fun e => by have := Option.some.inj e; omega)
          have b2 := A7.out.kept h4 (fun e => by have := Option.some.inj e; omega)
          have b3 := A4.out.kept h4 (fun e => by have := Option.some.inj e; omega)
          have b4 := A5.out.kept h4 (fun e => by have := Option.some.inj e; omega)
          have b5 := A8.out.kept h4 (fun e => by have := Option.some.inj e; omega)
          have hb8 : Below w.heap.size W w8 := (Below.refl w.heap.size W).grown h4 HB.out.size (fun j e => by cases e; omega)
          have hk8 : KeepsFrom w9.heap.size W w8 := KeepsFrom.of_grownBy h4 (fun j e => by cases e; omega)
          have hs8 : w8.heap[wa.heap.size + 2]? = W.heap[wa.heap.size + 2]? := b5.trans A8.out.symm
          clear HNo h4 cS cM cF cE fF fE x0 x1 x2 hrun
          gi_wp2
          exact ⟨hk8, ⟨hb8, hs8⟩, ⟨n', D', by have := HP.out; have := A1.out; omega, h2, by rw [SN2]; exact h3, b3, b4, by rw [SN2]; exact b1, by rw [SN2]; exact b2, b5⟩, HB.out.trans hb8⟩
      case done =>
        rintro D ys W hD rfl ⟨⟨n, D', a1, a2, a3, a4, a5, a6, a7, a8⟩, hB⟩ hK
        obtain ⟨st, hst⟩ : ∃ st, (uqL s ls (bwL ts hwt hlt ts.length)).1 = st := ⟨_, rfl⟩
        rw [hst] at a6 a7
        have HST := Lib.hid hst
        have cF := a6.cell
        have cE := a7.cell
        have HB := Lib.hid hB
        have HK := Lib.hid hK
        clear a1 a2 a3 a4 a5 a6 a7 a8 hB hK hst g0 g1 g2 g3 g4 g5 g6
        dsimp only
        go_wp2_with fail
        go_region
        all_goals go_wp2
        have HKd : W.drew.heap[D]? = some (.deferred (some [])) := HK.out
        refine ⟨by simp, .inl ⟨_, _, rfl, run_takeDeferred HKd, ?_⟩⟩
        exact ⟨_, results_tmp2 rfl _ _ _, by rw [HST.out]; first | done | rfl, HB.out.drew.trans (belowK_b (w := w) (Nat.le_refl _) W.drew D _ _ (by omega) HKd rfl rfl)⟩
      case stop =>
        rintro D c pre W _ _ h _
        exact h.elim
end Go.Proofs.YtmfdgpinohbckaaDoor
