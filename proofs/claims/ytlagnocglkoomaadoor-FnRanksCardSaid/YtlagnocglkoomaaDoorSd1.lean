/-
  SumOrder: sorting samples by their sums of ranks, the program's contracts. Condition: at most eight samples.
-/
import Derived.Test.YtlagnocglkoomaaDoorSd0
import Derived.Test.YtlagnocglkoomaaDoorOr1
import Derived.Test.YtlagnocglkoomaaDoorIo
import Derived.Test.YtlagnocglkoomaaDoorTr3
import Derived.Deep.RegionHeld3
namespace Go.Proofs.YtlagnocglkoomaaDoor
open Go.ChangeShapes Go.WideShapes Go.ChangeAt Go.RowKit Go.Deep

theorem OI.below {w w' : World} {g cap B : Nat} {Z : List Int} (h : OI w g Z cap) (hb : Below B w w') (hg : g < B) : OI w' g Z cap := by
  obtain ⟨cur, h1, h2⟩ := h
  exact ⟨cur, (hb.block g hg).trans h1, h2⟩
theorem keptS {wb W W' : World} {g k m : Nat} {v1 v2 : Value} (hg : g < wb.heap.size) (h0 : Below wb.heap.size wb W) (hb : Below W.heap.size W W') (h1 : W.cell? ⟨g, k, none⟩ = some v1) (h2 : W.cell? ⟨g, m, none⟩ = some v2) :
    W'.cell? ⟨g, k, none⟩ = some v1 ∧ W'.cell? ⟨g, m, none⟩ = some v2 ∧ Below wb.heap.size wb W' :=
  have lg := Nat.lt_of_lt_of_le hg h0.size
  ⟨(hb.cell lg).trans h1, (hb.cell lg).trans h2, h0.trans (hb.mono h0.size)⟩
theorem soS_at {s : List Int} {a : Nat} (h : a < s.length) : s[a]? = some (s.getD a 0) := by
  rw [List.getD_eq_getElem?_getD, List.getElem?_eq_getElem h]; rfl

set_option maxRecDepth 100000 in
set_option maxHeartbeats 2000000 in
theorem bySums_any (s : List Int) (h8 : s.length ≤ 8) (hs : ∀ x ∈ s, 0 ≤ x ∧ x ≤ 204) (a b : Nat) (ha : a < s.length) (hb : b < s.length) (Bs N0 : Nat) (A : Option Addr) (c : Nat) (w : World) (hc : w.cell? ⟨Bs, 0, none⟩ = some (.slice A s.length c)) (hr : Rd w N0 icells A s) :
    Calls Tryd.prog 25 #[.int .i64 a, .int .i64 b, .pointer (some ⟨Bs, 0, none⟩)] w fun e w' => e = .returned (.int .i64 (s.getD a 0 - s.getD b 0)) ∧ Below w.heap.size w w' := by
  have hx := soS_at ha
  have hy := soS_at hb
  obtain ⟨x, hx0⟩ : ∃ x, s.getD a 0 = x := ⟨_, rfl⟩
  obtain ⟨y, hy0⟩ : ∃ y, s.getD b 0 = y := ⟨_, rfl⟩
  rw [hx0] at hx ⊢
  rw [hy0] at hy ⊢
  have x1 := hs x (List.mem_of_getElem? hx)
  have y1 := hs y (List.mem_of_getElem? hy)
  obtain ⟨b3, o3, rfl, hbl, hrow⟩ := hr.at_ icells_length hx
  obtain ⟨b4, o4, eA, hbl4, hrow4⟩ := hr.at_ icells_length hy
  obtain ⟨rfl, rfl⟩ : b3 = b4 ∧ o3 = o4 := by simpa using eA
  have e1 := rowI hrow
  have e2 := rowI hrow4
  have ha0 : (0 : Int) ≤ (a : Int) := Int.natCast_nonneg _
  have hb0 : (0 : Int) ≤ (b : Int) := Int.natCast_nonneg _
  have ha8 : (a : Int) < s.length := by omega
  have hb8 : (b : Int) < s.length := by omega
  have u1 : IntKind.i64.wrap (x - y) = x - y := IntWalk.i64_in _ ⟨by omega, by omega⟩
  have u2 : wrap64 (x - y) = x - y := IntWalk.wrap64_in _ ⟨by omega, by omega⟩
  clear hx hy hx0 hy0 hrow hrow4 eA hbl hbl4 hr hs x1 y1
  have HB : Hid (Below w.heap.size w w.drew) := (Below.refl _ _).drew
  go_enter Tryd.func25, Tryd.ntmps25
  go_wp2_with fail
  go_region
  go_wp2
  go_ret
  exact ⟨by first | rfl | simp [u1, u2], by first | exact HB.out | exact Below.refl _ _⟩

set_option maxRecDepth 100000 in
set_option maxHeartbeats 2000000 in
theorem byOrd_any (d : Int) (hd : -1000 ≤ d ∧ d ≤ 1000) (a b : Nat) (Bo Bs : Nat) (w : World) (hc : w.cell? ⟨Bo, 0, none⟩ = some (.func (.func 25) #[] #[.pointer (some ⟨Bs, 0, none⟩)]))
    (HC : Calls Tryd.prog 25 #[.int .i64 a, .int .i64 b, .pointer (some ⟨Bs, 0, none⟩)] w fun e w' => e = .returned (.int .i64 d) ∧ Below w.heap.size w w') :
    Calls Tryd.prog 49 #[.int .i64 a, .int .i64 b, .pointer (some ⟨Bo, 0, none⟩)] w fun e w' => e = .returned (.int .i64 d) ∧ Below w.heap.size w w' := by
  have HC := Lib.hid HC
  have u1 : IntKind.i64.wrap d = d := IntWalk.i64_in _ ⟨by omega, by omega⟩
  have u2 : wrap64 d = d := IntWalk.wrap64_in _ ⟨by omega, by omega⟩
  go_enter Tryd.func49, Tryd.ntmps49
  go_wp2_with fail
  refine HC.out.mono ?_
  rintro e w1 ⟨rfl, hb⟩
  have HB := Lib.hid hb
  clear hb HC
  go_wp2
  go_ret
  exact ⟨by first | rfl | simp [u1, u2], HB.out⟩

set_option maxRecDepth 100000 in
set_option maxHeartbeats 4000000 in
theorem insCmp_any (s : List Int) (N : Nat) (hN : N ≤ 8) (hsl : s.length = N) (hs : ∀ x ∈ s, 0 ≤ x ∧ x ≤ 204) (Bo g cap : Nat) (w : World) (h : OI w g (iota N) cap)
    (HCf : ∀ (a b : Nat), a < N → b < N → ∀ (W : World), Below g w W → Calls Tryd.prog 49 #[.int .i64 a, .int .i64 b, .pointer (some ⟨Bo, 0, none⟩)] W fun e w' => e = .returned (.int .i64 (s.getD a 0 - s.getD b 0)) ∧ Below W.heap.size W w') :
    Calls Tryd.prog 64 #[.slice (some ⟨g, 0, none⟩) N cap, .int .i64 0, .int .i64 N, .func (.func 49) #[] #[.pointer (some ⟨Bo, 0, none⟩)]] w fun e w' => (∃ v, e = .returned v) ∧ OI w' g (soL s N) cap ∧ Below g w w' := by
  have H := Lib.hid h
  have HCf := Lib.hid HCf
  have HSb : Hid (∀ a : Nat, 0 ≤ s.getD a 0 ∧ s.getD a 0 ≤ 204) := fun a => by
    by_cases e : a < s.length
    · exact hs _ (List.mem_of_getElem? (soS_at e))
    · rw [List.getD_eq_getElem?_getD, List.getElem?_eq_none (by omega)]
      exact ⟨by decide, by decide⟩
  clear h hs hsl
  have hxl : (0 : Int) ≤ (N : Int) := Int.natCast_nonneg _
  go_enter Tryd.func64, Tryd.ntmps64
  go_wp2_with fail
  go_loopw [8] (fun i wr => ∃ (k : Nat) (Z : List Int), 1 ≤ k ∧ (k : Int) ≤ N + 1 ∧ i = .int .i64 k ∧ soO s N Z k ∧ OI wr g Z cap ∧ Below g w wr) (fun i _ => N + 1 - (intOf i).toNat)
  case atStart => exact ⟨1, iota N, by omega, by omega, rfl, soO.start s N, H.out, Below.refl _ _⟩
  case round =>
    clear H
    obtain ⟨k, Z, hk1, hk2, rfl, q2, q3, q4⟩ := hrel
    obtain ⟨wa, rfl⟩ : ∃ u, u = wr := ⟨_, rfl⟩
    have Q2 := Lib.hid q2
    have Q3 := Lib.hid q3
    have Q4 := Lib.hid q4
    clear q2 q3 q4
    have hk0 : (0 : Int) ≤ (k : Int) := Int.natCast_nonneg _
    by_cases hlt : k < N
    · have hk8 : (k : Int) < N := by omega
      have HI0 := Lib.hid (Q2.out.begin hlt)
      go_wp2_with fail
      go_loopw [9] (fun j w2 => ∃ (kk : Nat) (Z2 : List Int), kk ≤ k ∧ j = .int .i64 kk ∧ soI s N Z2 k kk ∧ OI w2 g Z2 cap ∧ Below g w w2) (fun j _ => (intOf j).toNat)
      case atStart => exact ⟨k, Z, Nat.le_refl _, rfl, HI0.out, Q3.out, Q4.out⟩
      case round =>
        clear HI0 Q2 Q3 Q4
        obtain ⟨kk, Z2, hkk, rfl, q2, q3, q4⟩ := hrel
        obtain ⟨wb, rfl⟩ : ∃ u, u = wr := ⟨_, rfl⟩
        have Q2 := Lib.hid q2
        have Q3 := Lib.hid q3
        have Q4 := Lib.hid q4
        have hgl := q3.lt
        have hZl := q2.len
        have hK0 : (0 : Int) ≤ (kk : Int) := Int.natCast_nonneg _
        have hK8 : (kk : Int) < N := by omega
        have hb := q2.at_
        clear q2 q3 q4
        by_cases hz : kk = 0
        · subst hz
          have HD := Lib.hid (Q2.out.done (by omega) (.inl rfl))
          clear hb hZl
          go_wp2_with fail
          go_region
          go_wp2
          go_roundw
          case rel => exact ⟨k + 1, Z2, by omega, by omega, by go_num, HD.out, by first | exact Q3.out | exact Q3.out.below (Below.refl _ _).drew hgl, by first | exact Q4.out | exact Q4.out.drew⟩
          case measure => simp [intOf]; omega
        · obtain ⟨m, hm⟩ : ∃ m, m + 1 = kk := ⟨kk - 1, by omega⟩
          obtain ⟨a', ha⟩ : ∃ q, Z2[m]? = some q := ⟨_, List.getElem?_eq_getElem (by omega)⟩
          have hab := Q2.out.mem ha
          obtain ⟨a, rfl⟩ : ∃ a : Nat, a' = (a : Int) := ⟨a'.toNat, by omega⟩
          have haN : a < N := by omega
          have c1 := Q3.out.cell ha
          have c2 := Q3.out.cell hb
          have hM0 : (0 : Int) ≤ (m : Int) := Int.natCast_nonneg _
          have hM8 : (m : Int) < N := by omega
          have hKp : (0 : Int) < (kk : Int) := by omega
          have hKn : 0 < kk := by omega
          have hKs : (kk : Int) - 1 = m := by omega
          have hKw : IntKind.i64.wrap (m : Int) = m := IntWalk.i64_in _ ⟨by omega, by omega⟩
          have hKw2 : wrap64 (m : Int) = m := IntWalk.wrap64_in _ ⟨by omega, by omega⟩
          have hs0 : Below wb.heap.size wb wb := Below.refl _ _
          have ha' : Z2[kk - 1]? = some (a : Int) := by rw [← hm]; exact ha
          have hLs := Q2.out.less (by omega) hKn hkk ha'
          rw [Int.toNat_natCast] at hLs
          have HAB := Lib.hid ha'
          have HM : Hid (m = kk - 1) := by show _ = _; omega
          have hmk : m ≠ kk := by omega
          have HCa : Hid (∀ (W : World), Below wb.heap.size wb W → Calls Tryd.prog 49 #[.int .i64 k, .int .i64 a, .pointer (some ⟨Bo, 0, none⟩)] W fun e w' => e = .returned (.int .i64 (s.getD k 0 - s.getD a 0)) ∧ Below W.heap.size W w') := fun W hW => HCf.out k a hlt haN W (Q4.out.trans (hW.mono (Nat.le_of_lt hgl)))
          have b1 := HSb.out k
          have b2 := HSb.out a
          obtain ⟨x, hx⟩ : ∃ x, s.getD k 0 = x := ⟨_, rfl⟩
          obtain ⟨y, hy⟩ : ∃ y, s.getD a 0 = y := ⟨_, rfl⟩
          rw [hx] at hLs HCa b1
          rw [hy] at hLs HCa b2
          obtain ⟨d, hd⟩ : ∃ d, x - y = d := ⟨_, rfl⟩
          rw [hd] at HCa
          clear ha hb hz hm ha' hab hx hy hZl
          by_cases hneg : x < y
          · have hneg2 : d < 0 := by omega
            have hk2 : soK s (k : Int) < soK s (a : Int) := by
              rw [decide_eq_true hneg] at hLs
              exact of_decide_eq_true hLs.symm
            have HSt : Hid (soI s N (swp Z2 kk a k) k m) := by show soI _ _ _ _ _; rw [HM.out]; exact Q2.out.swap hKn hkk hlt HAB.out hk2
            clear hk2 hLs hd hneg b1 b2
            go_wp2_with fail
            go_region_held3 (fun w' => w'.cell? ⟨g, kk, none⟩ = some (.int .i64 k) ∧ w'.cell? ⟨g, m, none⟩ = some (.int .i64 a) ∧ Below wb.heap.size wb w') ((refine ⟨?_, ?_, ?_⟩ <;> (first | assumption | exact Below.drew ‹_› | (simp [*]; done))))
              (first
                | (go_at_call 49; refine (HCa.out _ (by first | assumption | exact Below.drew (by assumption))).mono ?_; rintro e w3 ⟨rfl, hb⟩; obtain ⟨r0, r1, r2⟩ := keptS (g := g) (k := kk) (m := m) hgl (by first | assumption | exact Below.drew (by assumption)) hb (by assumption) (by assumption)))
            have HR : Hid (Below wb.heap.size wb w3) := (by assumption : Below wb.heap.size wb w3)
            have D1 : OI w3 g Z2 cap := Q3.out.below HR.out hgl
            have D3 : Below g w w3 := Q4.out.trans (HR.out.mono (Nat.le_of_lt hgl))
            have p1 : w3.cell? ⟨g, kk, none⟩ = some (.int .i64 k) := D1.cell Q2.out.at_
            have p2 : w3.cell? ⟨g, m, none⟩ = some (.int .i64 a) := D1.cell (by rw [HM.out]; exact HAB.out)
            have f1 := D1.frozen kk
            have f2 := D1.frozen m
            have m1 : OI ((w3.setCell ⟨g, kk, none⟩ (.int .i64 a)).setCell ⟨g, m, none⟩ (.int .i64 k)) g (swp Z2 kk a k) cap := by
              have := (D1.set kk a).set m k
              rw [swp, ← HM.out]; exact this
            have mb : Below g w ((w3.setCell ⟨g, kk, none⟩ (.int .i64 a)).setCell ⟨g, m, none⟩ (.int .i64 k)) := (D3.setCell (p := ⟨g, kk, none⟩) (Nat.le_refl _) _).setCell (p := ⟨g, m, none⟩) (Nat.le_refl _) _
            have m2 : OI ((w3.drew.setCell ⟨g, kk, none⟩ (.int .i64 a)).setCell ⟨g, m, none⟩ (.int .i64 k)) g (swp Z2 kk a k) cap := m1
            have mb2 : Below g w ((w3.drew.setCell ⟨g, kk, none⟩ (.int .i64 a)).setCell ⟨g, m, none⟩ (.int .i64 k)) := (D3.drew.setCell (p := ⟨g, kk, none⟩) (Nat.le_refl _) _).setCell (p := ⟨g, m, none⟩) (Nat.le_refl _) _
            have M1 := Lib.hid m1
            have M2 := Lib.hid m2
            have MB := Lib.hid mb
            have MB2 := Lib.hid mb2
            clear D1 D3 m1 m2 mb mb2 c1 c2 hs0 hneg2 HR
            go_wp2_with fail
            go_region
            go_wp2
            go_roundw
            case rel => exact ⟨m, swp Z2 kk a k, by omega, by go_num, HSt.out, by first | exact M1.out | exact M2.out, by first | exact MB.out | exact MB.out.drew | exact MB2.out⟩
            case measure => simp [intOf]; omega
          · have hneg2 : ¬ d < 0 := by omega
            have hk2 : ¬ soK s (k : Int) < soK s (a : Int) := by
              rw [decide_eq_false hneg] at hLs
              exact of_decide_eq_false hLs.symm
            have HD : Hid (soO s N Z2 (k + 1)) := Q2.out.done hkk (.inr (fun x hx => by
              obtain rfl := Option.some.inj (HAB.out.symm.trans hx)
              exact hk2))
            clear hk2 hLs hd hneg b1 b2
            go_wp2_with fail
            go_region_held3 (fun w' => w'.cell? ⟨g, kk, none⟩ = some (.int .i64 k) ∧ w'.cell? ⟨g, m, none⟩ = some (.int .i64 a) ∧ Below wb.heap.size wb w') ((refine ⟨?_, ?_, ?_⟩ <;> (first | assumption | exact Below.drew ‹_› | (simp [*]; done))))
              (first
                | (go_at_call 49; refine (HCa.out _ (by first | assumption | exact Below.drew (by assumption))).mono ?_; rintro e w3 ⟨rfl, hb⟩; obtain ⟨r0, r1, r2⟩ := keptS (g := g) (k := kk) (m := m) hgl (by first | assumption | exact Below.drew (by assumption)) hb (by assumption) (by assumption)))
            have HR : Hid (Below wb.heap.size wb w3) := (by assumption : Below wb.heap.size wb w3)
            go_wp2
            go_roundw
            case rel => exact ⟨k + 1, Z2, by omega, by omega, by go_num, HD.out, Q3.out.below HR.out hgl, Q4.out.trans (HR.out.mono (Nat.le_of_lt hgl))⟩
            case measure => simp [intOf]; omega
    · have hge : ¬ (k : Int) < N := by omega
      have HA : Hid (Z = soL s N) := Q2.out.all (by omega) (by omega)
      go_wp2
      go_end0
      exact ⟨⟨_, rfl⟩, by rw [← HA.out]; exact Q3.out, Q4.out⟩

set_option maxRecDepth 100000 in
set_option maxHeartbeats 4000000 in
theorem stableCmp_any (s : List Int) (N : Nat) (hN : N ≤ 8) (Bo g cap : Nat) (w : World)
    (HI : Calls Tryd.prog 64 #[.slice (some ⟨g, 0, none⟩) N cap, .int .i64 0, .int .i64 N, .func (.func 49) #[] #[.pointer (some ⟨Bo, 0, none⟩)]] w fun e w' => (∃ v, e = .returned v) ∧ OI w' g (soL s N) cap ∧ Below g w w') :
    Calls Tryd.prog 48 #[.slice (some ⟨g, 0, none⟩) N cap, .func (.func 49) #[] #[.pointer (some ⟨Bo, 0, none⟩)]] w fun e w' => (∃ v, e = .returned v) ∧ OI w' g (soL s N) cap ∧ Below g w w' := by
  have HI := Lib.hid HI
  have hxl : (0 : Int) ≤ (N : Int) := Int.natCast_nonneg _
  have hx20 : ¬ (20 : Int) ≤ (N : Int) := by omega
  have hx20' : ¬ (20 : Int) < (N : Int) := by omega
  have HS : Calls Tryd.prog 60 #[.slice (some ⟨g, 0, none⟩) N cap, .int .i64 N, .func (.func 49) #[] #[.pointer (some ⟨Bo, 0, none⟩)]] w fun e w' => (∃ v, e = .returned v) ∧ OI w' g (soL s N) cap ∧ Below g w w' := by
    go_enter Tryd.func60, Tryd.ntmps60
    go_wp2_with fail
    refine wp_loop_rounds 1 ?_
    rw [rounds_succ]
    go_wp2_with fail
    refine HI.out.mono ?_
    rintro e w1 ⟨⟨v, rfl⟩, h1, h2⟩
    have H1 := Lib.hid h1
    have H2 := Lib.hid h2
    clear h1 h2 HI
    go_wp2_with fail
    refine wp_loop_rounds 1 ?_
    rw [rounds_succ]
    go_wp2
    go_end0
    exact ⟨⟨_, rfl⟩, H1.out, H2.out⟩
  have HS := Lib.hid HS
  clear HI
  go_enter Tryd.func48, Tryd.ntmps48
  go_wp2_with fail
  refine HS.out.mono ?_
  rintro e w1 ⟨⟨v, rfl⟩, h1, h2⟩
  have H1 := Lib.hid h1
  have H2 := Lib.hid h2
  clear h1 h2 HS
  go_wp2
  go_end0
  exact ⟨⟨_, rfl⟩, H1.out, H2.out⟩
end Go.Proofs.YtlagnocglkoomaaDoor
