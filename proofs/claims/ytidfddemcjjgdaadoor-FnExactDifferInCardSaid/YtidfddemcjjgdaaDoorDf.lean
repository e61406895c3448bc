/-
  The contracts of DifferIn, of the model and of the program. Condition: the crates' lengths, that their numbers fit their kinds; the sentinel errors lie as the row lists them (the program's).
-/
import Derived.Test.YtidfddemcjjgdaaDoorNa
import Derived.Test.YtidfddemcjjgdaaDoorQn
import Derived.Test.YtidfddemcjjgdaaDoorBt
import Derived.Deep.RegionHeld3
namespace Go.Proofs.YtidfddemcjjgdaaDoor
open Go.ChangeShapes Go.WideShapes Go.ChangeAt Go.RowKit Go.Deep

/-- The places below k in which two crates differ. -/
def dfN (cs bs : List Bot) : Nat → List Nat
  | 0 => []
  | k + 1 => if cs[k]? = bs[k]? then dfN cs bs k else dfN cs bs k ++ [k]
theorem dfN_same {cs bs : List Bot} {k : Nat} (h : cs[k]? = bs[k]?) : dfN cs bs (k + 1) = dfN cs bs k := by simp [dfN, h]
theorem dfN_diff {cs bs : List Bot} {k : Nat} (h : ¬ cs[k]? = bs[k]?) : dfN cs bs (k + 1) = dfN cs bs k ++ [k] := by simp [dfN, h]
theorem dfN_length (cs bs : List Bot) (k : Nat) : (dfN cs bs k).length ≤ k := by
  induction k with
  | zero => simp [dfN]
  | succ k ih => unfold dfN; split <;> (try simp) <;> omega
theorem own_base2 {W : World} {base base' : Nat} {e : TypeId} {size : Nat} {v : Value} {k : Nat} {xs : List Value} (h : W.ownsRow base e size v k xs) (hb : base' ≤ base) : W.ownsRow base' e size v k xs := by
  refine ⟨h.1, ?_⟩
  rcases h.2 with hn | ⟨g, cap, cur, hv, hbg, rest⟩
  · exact .inl hn
  · exact .inr ⟨g, cap, cur, hv, Nat.le_trans hb hbg, rest⟩

set_option maxHeartbeats 4000000 in
set_option maxRecDepth 100000 in
theorem l03Differ_any (cs bs : List Bot) (hwa : WfC cs) (hwb : WfC bs) (A B : Nat) (w : World) (hA : CBlk w A 31 cs) (hB : CBlk w B 31 bs) :
    Calls Tryd.prog 70 #[.pointer (some ⟨A, 0, none⟩), .pointer (some ⟨B, 0, none⟩)] w fun e w' => ∃ v, e = .returned v ∧ w'.ownsRow w.heap.size 2 1 v (dfN cs bs 12).length (nats (dfN cs bs 12)) ∧ Below w.heap.size w w' := by
  have HA := Lib.hid hA
  have HB := Lib.hid hB
  have HW := Lib.hid hwa
  have HW2 := Lib.hid hwb
  clear hA hB hwa hwb
  go_enter Tryd.func70, Tryd.ntmps70
  obtain ⟨i0, hi, hz0, hz1, hz2⟩ := info_parts Tryd.info64
  have HI := Lib.hid hi
  have HZ0 := Lib.hid hz0
  have HZ1 := Lib.hid hz1
  have HZ2 := Lib.hid hz2
  clear hi hz0 hz1 hz2
  go_wp2_with fail
  go_loopw [5, 6] (fun v i wr => ∃ k : Nat, k ≤ 12 ∧ i = .int .i64 k ∧ wr.ownsRow w.heap.size 2 1 v (dfN cs bs k).length (nats (dfN cs bs k)) ∧ Below w.heap.size w wr) (fun _ i _ => 12 - (intOf i).toNat)
  case atStart =>
    refine ⟨0, by omega, rfl, ⟨rfl, .inr ⟨w.heap.size, 0, #[], rfl, Nat.le_refl _, heap_alloc_new w _, Nat.le_refl _, by unfold maxLen; omega, rfl, rfl⟩⟩, (by repeat (first | exact Below.refl _ _ | refine Below.drew ?_ | refine Below.alloc ?_ (by simp <;> omega) _ | refine Below.setCell ?_ (by simp <;> omega) _))⟩
  case round =>
    obtain ⟨k, hk, rfl, hown, hb⟩ := hrel
    have HO := Lib.hid hown
    have Hb := Lib.hid hb
    clear hown hb
    by_cases hlt : k < 12
    · obtain ⟨k1, y1, hbk, wk, wy⟩ := HW.out.at_ hlt
      obtain ⟨k2, y2, hbk2, wk2, wy2⟩ := HW2.out.at_ hlt
      have Hk := Lib.hid hbk
      have Hk2 := Lib.hid hbk2
      clear hbk hbk2
      have e1 := (HA.out.below Hb.out HA.out.lt).kind' Hk.out
      have e2 := (HA.out.below Hb.out HA.out.lt).year' Hk.out
      have e3 := (HB.out.below Hb.out HB.out.lt).kind' Hk2.out
      have e4 := (HB.out.below Hb.out HB.out.lt).year' Hk2.out
      have hl0 : (0 : Int) ≤ k := by omega
      have hl1 : (k : Int) < 12 := by omega
      by_cases hx : k1 = k2
      · by_cases hy : y1 = y2
        · subst hx; subst hy
          have HD : Hid (cs[k]? = bs[k]?) := by show cs[k]? = bs[k]?; rw [Hk.out, Hk2.out]
          go_wp2_with fail
          go_region_held3 (fun w' => w'.cell? ⟨A, k * 2, none⟩ = some (.int .u8 k1) ∧ w'.cell? ⟨A, k * 2 + 1, none⟩ = some (.int .i16 y1) ∧ w'.cell? ⟨B, k * 2, none⟩ = some (.int .u8 k1) ∧ w'.cell? ⟨B, k * 2 + 1, none⟩ = some (.int .i16 y1)) (go_keep) (fail)
          go_wp2
          go_roundw
          case rel => exact ⟨k + 1, by omega, by go_num, by rw [dfN_same HD.out]; exact HO.out.kept (grown_of_below (Below.refl _ wr).drew) (Classical.em _), Hb.out.drew⟩
          case measure => simp [intOf]; omega
        · subst hx
          have HD : Hid (¬ cs[k]? = bs[k]?) := by show ¬ cs[k]? = bs[k]?; rw [Hk.out, Hk2.out]; simp [hy]
          have hy' : (y1 == y2) = false := by simpa using hy
          go_wp2_with fail
          go_region_held3 (fun w' => w'.cell? ⟨A, k * 2, none⟩ = some (.int .u8 k1) ∧ w'.cell? ⟨A, k * 2 + 1, none⟩ = some (.int .i16 y1) ∧ w'.cell? ⟨B, k * 2, none⟩ = some (.int .u8 k1) ∧ w'.cell? ⟨B, k * 2 + 1, none⟩ = some (.int .i16 y2)) (go_keep) (fail)
          have hlen := dfN_length cs bs k
          obtain ⟨w1, hw1⟩ : ∃ w1, wr.drew = w1 := ⟨_, rfl⟩
          have hB1 : Below w.heap.size w w1 := by rw [← hw1]; exact Hb.out.drew
          have hO1 := HO.out.kept (grown_of_below (Below.refl _ wr).drew) (Classical.em _)
          have hw2 : Below wr.heap.size wr w1 := by rw [← hw1]; exact (Below.refl _ _).drew
          rw [hw1] at hO1 ⊢
          have HB1 := Lib.hid hB1
          have HO1 := Lib.hid hO1
          have HW2 := Lib.hid hw2
          clear hB1 hO1 hw1 hw2 HO e1 e2 e3 e4
          go_wp2_with (at_builtin; refine wpList_append_own _ rfl (.tmp 23) (.tmp 25) 46 rfl w.heap.size 2 i0 (.int .i64 0) 1 8 Tryd.underlying46 HI.out HZ0.out HZ1.out HZ2.out rfl (by decide) _ _ _ rfl (HO1.out.alloc _) ⟨w1.heap.size, 0, none⟩ 1 1 [.int .i64 k] rfl rfl ?c1 ?c2 ?c3 ?c4 ?c5 ?_)
          case c1 => exact cell_one_new _ _ _
          case c2 => simp [Value.oneCell']
          case c3 => unfold maxLen; omega
          case c4 => omega
          case c5 => have := HB1.out.size; simp; omega
          intro v' w2 hown' hgrow _
          have HO2 := Lib.hid hown'
          have HB2 : Hid (Below w.heap.size w w2) := (HB1.out.alloc HB1.out.size _).grown hgrow (by have := HB1.out.size; simp; omega) (fun r e => (HO1.out.lt r e).1)
          clear hown' hgrow
          go_wp2
          go_roundw
          case rel => exact ⟨k + 1, by omega, by go_num, by rw [dfN_diff HD.out, nats_snoc, List.length_append]; exact HO2.out, HB2.out⟩
          case measure => simp [intOf]; omega
      · have HD : Hid (¬ cs[k]? = bs[k]?) := by show ¬ cs[k]? = bs[k]?; rw [Hk.out, Hk2.out]; simp [hx]
        have hx' : (k1 == k2) = false := by simpa using hx
        go_wp2_with fail
        go_region_held3 (fun w' => w'.cell? ⟨A, k * 2, none⟩ = some (.int .u8 k1) ∧ w'.cell? ⟨A, k * 2 + 1, none⟩ = some (.int .i16 y1) ∧ w'.cell? ⟨B, k * 2, none⟩ = some (.int .u8 k2) ∧ w'.cell? ⟨B, k * 2 + 1, none⟩ = some (.int .i16 y2)) (go_keep) (fail)
        have hlen := dfN_length cs bs k
        obtain ⟨w1, hw1⟩ : ∃ w1, wr.drew = w1 := ⟨_, rfl⟩
        have hB1 : Below w.heap.size w w1 := by rw [← hw1]; exact Hb.out.drew
        have hO1 := HO.out.kept (grown_of_below (Below.refl _ wr).drew) (Classical.em _)
        have hw2 : Below wr.heap.size wr w1 := by rw [← hw1]; exact (Below.refl _ _).drew
        rw [hw1] at hO1 ⊢
        have HB1 := Lib.hid hB1
        have HO1 := Lib.hid hO1
        have HW2 := Lib.hid hw2
        clear hB1 hO1 hw1 hw2 HO e1 e2 e3 e4
        go_wp2_with (at_builtin; refine wpList_append_own _ rfl (.tmp 23) (.tmp 25) 46 rfl w.heap.size 2 i0 (.int .i64 0) 1 8 Tryd.underlying46 HI.out HZ0.out HZ1.out HZ2.out rfl (by decide) _ _ _ rfl (HO1.out.alloc _) ⟨w1.heap.size, 0, none⟩ 1 1 [.int .i64 k] rfl rfl ?c1 ?c2 ?c3 ?c4 ?c5 ?_)
        case c1 => exact cell_one_new _ _ _
        case c2 => simp [Value.oneCell']
        case c3 => unfold maxLen; omega
        case c4 => omega
        case c5 => have := HB1.out.size; simp; omega
        intro v' w2 hown' hgrow _
        have HO2 := Lib.hid hown'
        have HB2 : Hid (Below w.heap.size w w2) := (HB1.out.alloc HB1.out.size _).grown hgrow (by have := HB1.out.size; simp; omega) (fun r e => (HO1.out.lt r e).1)
        clear hown' hgrow
        go_wp2
        go_roundw
        case rel => exact ⟨k + 1, by omega, by go_num, by rw [dfN_diff HD.out, nats_snoc, List.length_append]; exact HO2.out, HB2.out⟩
        case measure => simp [intOf]; omega
    · obtain rfl : k = 12 := by omega
      go_wp2
      go_ret
      exact ⟨_, rfl, HO.out, Hb.out⟩

set_option maxHeartbeats 4000000 in
set_option maxRecDepth 100000 in
theorem differIn_any (cs bs : List Bot) (hwa : WfC cs) (hwb : WfC bs) (w : World) :
    Calls Tryd.prog 71 #[.agg (ccells cs).toArray, .agg (ccells bs).toArray] w fun e w' => ∃ v, e = .returned v ∧ w'.ownsRow w.heap.size 2 1 v (dfN cs bs 12).length (nats (dfN cs bs 12)) ∧ Below w.heap.size w w' := by
  have HW := Lib.hid hwa
  have HW2 := Lib.hid hwb
  clear hwa hwb
  have h1 : CBlk ((w.alloc (.cells (ccells cs).toArray 31)).alloc (.cells (ccells bs).toArray 31)) w.heap.size 31 cs := (CBlk.new w _ cs).alloc _
  have h2 : CBlk ((w.alloc (.cells (ccells cs).toArray 31)).alloc (.cells (ccells bs).toArray 31)) (w.heap.size + 1) 31 bs := CBlk.new' (by simp) rfl
  have hb : Below w.heap.size w ((w.alloc (.cells (ccells cs).toArray 31)).alloc (.cells (ccells bs).toArray 31)) := (by repeat (first | exact Below.refl _ _ | refine Below.drew ?_ | refine Below.alloc ?_ (by simp <;> omega) _ | refine Below.setCell ?_ (by simp <;> omega) _))
  obtain ⟨W0, hW0⟩ : ∃ W0, ((w.alloc (.cells (ccells cs).toArray 31)).alloc (.cells (ccells bs).toArray 31)) = W0 := ⟨_, rfl⟩
  rw [hW0] at h1 h2 hb
  have H1 := Lib.hid h1
  have H2 := Lib.hid h2
  have H3 := Lib.hid hb
  clear h1 h2 hb
  go_enter Tryd.func71, Tryd.ntmps71
  obtain ⟨i0, hi, hz0, hz1, hz2⟩ := info_parts Tryd.info64
  have HI := Lib.hid hi
  have HZ0 := Lib.hid hz0
  have HZ1 := Lib.hid hz1
  have HZ2 := Lib.hid hz2
  clear hi hz0 hz1 hz2
  go_wp2_with fail
  clear hW0
  go_loopw [5, 7] (fun v i wr => ∃ k : Nat, k ≤ 12 ∧ i = .int .i64 k ∧ wr.ownsRow W0.heap.size 2 1 v (dfN cs bs k).length (nats (dfN cs bs k)) ∧ Below W0.heap.size W0 wr) (fun _ i _ => 12 - (intOf i).toNat)
  case atStart =>
    exact ⟨0, by omega, rfl, ⟨rfl, .inl ⟨rfl, rfl⟩⟩, Below.refl _ _⟩
  case round =>
    obtain ⟨k, hk, rfl, hown, hb⟩ := hrel
    have HO := Lib.hid hown
    have Hb := Lib.hid hb
    clear hown hb
    by_cases hlt : k < 12
    · obtain ⟨k1, y1, hbk, wk, wy⟩ := HW.out.at_ hlt
      obtain ⟨k2, y2, hbk2, wk2, wy2⟩ := HW2.out.at_ hlt
      have Hk := Lib.hid hbk
      have Hk2 := Lib.hid hbk2
      clear hbk hbk2
      have e1 := (H1.out.below Hb.out H1.out.lt).kind' Hk.out
      have e2 := (H1.out.below Hb.out H1.out.lt).year' Hk.out
      have e3 := (H2.out.below Hb.out H2.out.lt).kind' Hk2.out
      have e4 := (H2.out.below Hb.out H2.out.lt).year' Hk2.out
      have hl0 : (0 : Int) ≤ k := by omega
      have hl1 : (k : Int) < 12 := by omega
      by_cases hx : k1 = k2
      · by_cases hy : y1 = y2
        · subst hx; subst hy
          have HD : Hid (cs[k]? = bs[k]?) := by show cs[k]? = bs[k]?; rw [Hk.out, Hk2.out]
          go_wp2_with fail
          go_region_held3 (fun w' => w'.cell? ⟨w.heap.size, k * 2, none⟩ = some (.int .u8 k1) ∧ w'.cell? ⟨w.heap.size, k * 2 + 1, none⟩ = some (.int .i16 y1) ∧ w'.cell? ⟨(w.heap.size + 1), k * 2, none⟩ = some (.int .u8 k1) ∧ w'.cell? ⟨(w.heap.size + 1), k * 2 + 1, none⟩ = some (.int .i16 y1)) (go_keep) (fail)
          go_wp2
          go_roundw
          case rel => exact ⟨k + 1, by omega, by go_num, by rw [dfN_same HD.out]; exact HO.out.kept (grown_of_below (Below.refl _ wr).drew) (Classical.em _), Hb.out.drew⟩
          case measure => simp [intOf]; omega
        · subst hx
          have HD : Hid (¬ cs[k]? = bs[k]?) := by show ¬ cs[k]? = bs[k]?; rw [Hk.out, Hk2.out]; simp [hy]
          have hy' : (y1 == y2) = false := by simpa using hy
          go_wp2_with fail
          go_region_held3 (fun w' => w'.cell? ⟨w.heap.size, k * 2, none⟩ = some (.int .u8 k1) ∧ w'.cell? ⟨w.heap.size, k * 2 + 1, none⟩ = some (.int .i16 y1) ∧ w'.cell? ⟨(w.heap.size + 1), k * 2, none⟩ = some (.int .u8 k1) ∧ w'.cell? ⟨(w.heap.size + 1), k * 2 + 1, none⟩ = some (.int .i16 y2)) (go_keep) (fail)
          have hlen := dfN_length cs bs k
          obtain ⟨w1, hw1⟩ : ∃ w1, wr.drew = w1 := ⟨_, rfl⟩
          have hB1 : Below W0.heap.size W0 w1 := by rw [← hw1]; exact Hb.out.drew
          have hO1 := HO.out.kept (grown_of_below (Below.refl _ wr).drew) (Classical.em _)
          have hw2 : Below wr.heap.size wr w1 := by rw [← hw1]; exact (Below.refl _ _).drew
          rw [hw1] at hO1 ⊢
          have HB1 := Lib.hid hB1
          have HO1 := Lib.hid hO1
          have HW2 := Lib.hid hw2
          clear hB1 hO1 hw1 hw2 HO e1 e2 e3 e4
          go_wp2_with (at_builtin; refine wpList_append_own _ rfl (.tmp 17) (.tmp 19) 46 rfl W0.heap.size 2 i0 (.int .i64 0) 1 8 Tryd.underlying46 HI.out HZ0.out HZ1.out HZ2.out rfl (by decide) _ _ _ rfl (HO1.out.alloc _) ⟨w1.heap.size, 0, none⟩ 1 1 [.int .i64 k] rfl rfl ?c1 ?c2 ?c3 ?c4 ?c5 ?_)
          case c1 => exact cell_one_new _ _ _
          case c2 => simp [Value.oneCell']
          case c3 => unfold maxLen; omega
          case c4 => omega
          case c5 => have := HB1.out.size; simp; omega
          intro v' w2 hown' hgrow _
          have HO2 := Lib.hid hown'
          have HB2 : Hid (Below W0.heap.size W0 w2) := (HB1.out.alloc HB1.out.size _).grown hgrow (by have := HB1.out.size; simp; omega) (fun r e => (HO1.out.lt r e).1)
          clear hown' hgrow
          go_wp2
          go_roundw
          case rel => exact ⟨k + 1, by omega, by go_num, by rw [dfN_diff HD.out, nats_snoc, List.length_append]; exact HO2.out, HB2.out⟩
          case measure => simp [intOf]; omega
      · have HD : Hid (¬ cs[k]? = bs[k]?) := by show ¬ cs[k]? = bs[k]?; rw [Hk.out, Hk2.out]; simp [hx]
        have hx' : (k1 == k2) = false := by simpa using hx
        go_wp2_with fail
        go_region_held3 (fun w' => w'.cell? ⟨w.heap.size, k * 2, none⟩ = some (.int .u8 k1) ∧ w'.cell? ⟨w.heap.size, k * 2 + 1, none⟩ = some (.int .i16 y1) ∧ w'.cell? ⟨(w.heap.size + 1), k * 2, none⟩ = some (.int .u8 k2) ∧ w'.cell? ⟨(w.heap.size + 1), k * 2 + 1, none⟩ = some (.int .i16 y2)) (go_keep) (fail)
        have hlen := dfN_length cs bs k
        obtain ⟨w1, hw1⟩ : ∃ w1, wr.drew = w1 := ⟨_, rfl⟩
        have hB1 : Below W0.heap.size W0 w1 := by rw [← hw1]; exact Hb.out.drew
        have hO1 := HO.out.kept (grown_of_below (Below.refl _ wr).drew) (Classical.em _)
        have hw2 : Below wr.heap.size wr w1 := by rw [← hw1]; exact (Below.refl _ _).drew
        rw [hw1] at hO1 ⊢
        have HB1 := Lib.hid hB1
        have HO1 := Lib.hid hO1
        have HW2 := Lib.hid hw2
        clear hB1 hO1 hw1 hw2 HO e1 e2 e3 e4
        go_wp2_with (at_builtin; refine wpList_append_own _ rfl (.tmp 17) (.tmp 19) 46 rfl W0.heap.size 2 i0 (.int .i64 0) 1 8 Tryd.underlying46 HI.out HZ0.out HZ1.out HZ2.out rfl (by decide) _ _ _ rfl (HO1.out.alloc _) ⟨w1.heap.size, 0, none⟩ 1 1 [.int .i64 k] rfl rfl ?c1 ?c2 ?c3 ?c4 ?c5 ?_)
        case c1 => exact cell_one_new _ _ _
        case c2 => simp [Value.oneCell']
        case c3 => unfold maxLen; omega
        case c4 => omega
        case c5 => have := HB1.out.size; simp; omega
        intro v' w2 hown' hgrow _
        have HO2 := Lib.hid hown'
        have HB2 : Hid (Below W0.heap.size W0 w2) := (HB1.out.alloc HB1.out.size _).grown hgrow (by have := HB1.out.size; simp; omega) (fun r e => (HO1.out.lt r e).1)
        clear hown' hgrow
        go_wp2
        go_roundw
        case rel => exact ⟨k + 1, by omega, by go_num, by rw [dfN_diff HD.out, nats_snoc, List.length_append]; exact HO2.out, HB2.out⟩
        case measure => simp [intOf]; omega
    · obtain rfl : k = 12 := by omega
      go_wp2
      go_ret
      exact ⟨_, rfl, own_base2 HO.out H3.out.size, H3.out.trans (Hb.out.mono H3.out.size)⟩
end Go.Proofs.YtidfddemcjjgdaaDoor
