/-
  The contracts of the model's l01Used and l01Tip. No condition but the crate's length and that its numbers fit their kinds.
-/
import Derived.Test.YtjiihdljchaeiafDoorM
import Derived.Test.YtjiihdljchaeiafDoorV
import Derived.OwnWalk
import Derived.Laws.AppendOwn
import Derived.Laws.MakeOwn
import Derived.Maps.AppendAt
namespace Go.Proofs.YtjiihdljchaeiafDoor
open Go.ChangeShapes Go.WideShapes Go.ChangeAt Go.RowKit

theorem Tryd.info64 : (Tryd.prog.info? 2).map (fun i => (i.zero, i.size, i.bytes)) = some (some (.int .i64 0), 1, 8) := by kernel_rfl
def nats (xs : List Nat) : List Value := xs.map fun (j : Nat) => .int .i64 (j : Int)
theorem nats_snoc (xs : List Nat) (k : Nat) : nats (xs ++ [k]) = nats xs ++ [.int .i64 (k : Int)] := by simp [nats]

set_option maxHeartbeats 2000000 in
set_option maxRecDepth 100000 in
theorem l01Used_any (bs : List Bot) (hwf : WfC bs) (B : Nat) (w : World) (hB : CBlk w B 30 bs) :
    Calls Tryd.prog 21 #[.pointer (some ⟨B, 0, none⟩)] w fun e w' => ∃ v, e = .returned v ∧ w'.ownsRow w.heap.size 2 1 v (usedN bs (fun b => !eB b) 12).length (nats (usedN bs (fun b => !eB b) 12)) ∧ Below w.heap.size w w' := by
  have HB := Lib.hid hB
  have HW := Lib.hid hwf
  clear hB hwf
  go_enter Tryd.func21, Tryd.ntmps21
  obtain ⟨i0, hi, hz0, hz1, hz2⟩ := info_parts Tryd.info64
  have HI := Lib.hid hi
  have HZ0 := Lib.hid hz0
  have HZ1 := Lib.hid hz1
  have HZ2 := Lib.hid hz2
  clear hi hz0 hz1 hz2
  go_wp2_with fail
  go_loopw [3, 4] (fun v i wr => ∃ k : Nat, k ≤ 12 ∧ i = .int .i64 k ∧ wr.ownsRow w.heap.size 2 1 v (usedN bs (fun b => !eB b) k).length (nats (usedN bs (fun b => !eB b) k)) ∧ Below w.heap.size w wr) (fun _ i _ => 12 - (intOf i).toNat)
  case atStart =>
    refine ⟨0, by omega, rfl, ⟨rfl, .inr ⟨w.heap.size, 0, #[], rfl, Nat.le_refl _, heap_alloc_new w _, Nat.le_refl _, by unfold maxLen; omega, rfl, rfl⟩⟩, (by repeat (first | exact Below.refl _ _ | refine Below.drew ?_ | refine Below.alloc ?_ (by simp <;> omega) _ | refine Below.setCell ?_ (by simp <;> omega) _))⟩
  case round =>
    obtain ⟨k, hk, rfl, hown, hb⟩ := hrel
    have HO := Lib.hid hown
    have Hb := Lib.hid hb
    clear hown hb
    by_cases hlt : k < 12
    · obtain ⟨k1, y1, hbk, wk, wy⟩ := HW.out.at_ hlt
      have Hk := Lib.hid hbk
      clear hbk
      have e1 := (HB.out.below Hb.out HB.out.lt).kind' Hk.out
      have e2 := (HB.out.below Hb.out HB.out.lt).year' Hk.out
      go_wp2_with fail
      refine (l01Free_any _ _ _).mono ?_
      rintro e w1 ⟨rfl, hb1⟩
      have Hb1 := Lib.hid hb1
      have HB1 : Hid (Below w.heap.size w w1) := Hb.out.trans (hb1.mono Hb.out.size)
      have HO1 : Hid (w1.ownsRow w.heap.size 2 1 _ (usedN bs (fun b => !eB b) k).length (nats (usedN bs (fun b => !eB b) k))) := HO.out.kept (grown_of_below hb1) (Classical.em _)
      clear hb1 e1 e2
      cases hE : eB (k1, y1)
      · have HE : Hid ((bs[k]?.any fun b => !eB b) = true) := by show (bs[k]?.any fun b => !eB b) = true; rw [Hk.out]; simp [hE]
        clear hE
        have hlen := usedN_length bs (fun b => !eB b) k
        go_wp2_with (at_builtin; refine wpList_append_own _ rfl (.tmp 17) (.tmp 19) 48 rfl w.heap.size 2 i0 (.int .i64 0) 1 8 Tryd.underlying48 HI.out HZ0.out HZ1.out HZ2.out rfl (by decide) _ _ _ rfl (HO1.out.alloc _) ⟨w1.heap.size, 0, none⟩ 1 1 [.int .i64 k] rfl rfl ?c1 ?c2 ?c3 ?c4 ?c5 ?_)
        case c1 => exact cell_one_new _ _ _
        case c2 => simp [Value.oneCell']
        case c3 => unfold maxLen; omega
        case c4 => omega
        case c5 => have := HB1.out.size; simp; omega
        intro v' w2 hown' hgrow _
        have HO2 := Lib.hid hown'
        have HB2 : Hid (Below w.heap.size w w2) := (HB1.out.alloc HB1.out.size _).grown hgrow (by have := HB1.out.size; simp; omega) (fun r e => (HO1.out.lt r e).1)
        clear hown' hgrow
        go_wp2
        go_roundw
        case rel => exact ⟨k + 1, by omega, by go_num, by rw [usedN_yes HE.out, nats_snoc, List.length_append]; exact HO2.out, HB2.out⟩
        case measure => simp [intOf]; omega
      · have HE : Hid ((bs[k]?.any fun b => !eB b) = false) := by show (bs[k]?.any fun b => !eB b) = false; rw [Hk.out]; simp [hE]
        clear hE
        go_wp2
        go_roundw
        case rel => exact ⟨k + 1, by omega, by go_num, by rw [usedN_no HE.out]; exact HO1.out, HB1.out⟩
        case measure => simp [intOf]; omega
    · obtain rfl : k = 12 := by omega
      go_wp2
      go_ret
      exact ⟨_, rfl, HO.out, Hb.out⟩

theorem take_snocN (xs : List Nat) (k : Nat) (h : k < xs.length) : xs.take (k + 1) = xs.take k ++ [xs[k]] := by
  rw [List.take_succ_eq_append_getElem h]
theorem ret2_i64 {a b a' b' : Int} (h : a = a') (h' : b = b') : Ending.returned (.tuple #[.int .i64 a, .int .i64 b]) = .returned (.tuple #[.int .i64 a', .int .i64 b']) := by rw [h, h']
theorem tip_take (xs : List Nat) (h : ∀ p ∈ xs, p < 12) (hl : xs.length ≤ 12) (k : Nat) : -36 ≤ eastL (xs.take k) ∧ eastL (xs.take k) ≤ 36 ∧ -36 ≤ southL (xs.take k) ∧ southL (xs.take k) ≤ 36 := by
  have := tip_bounds (xs.take k) (fun p hp => h p (List.mem_of_mem_take hp))
  have hlen : (xs.take k).length ≤ 12 := Nat.le_trans (List.length_take_le' _ _) hl
  omega

set_option maxRecDepth 100000 in
set_option maxHeartbeats 2000000 in
theorem l01Tip_any (xs : List Nat) (hp : ∀ p ∈ xs, p < 12) (hl : xs.length ≤ 12) (base : Nat) (v : Value) (w : World) (ho : w.ownsRow base 2 1 v xs.length (nats xs)) :
    Calls Tryd.prog 20 #[v] w fun e w' => e = .returned (.tuple #[.int .i64 (eastL xs), .int .i64 (southL xs)]) ∧ w = w' := by
  have HP := Lib.hid hp
  have HLl := Lib.hid hl
  have hcase := ho.2
  rcases hcase with ⟨rfl, hn⟩ | ⟨g, cap, cur, rfl, -, -, -, -, -, -⟩
  · obtain rfl := List.length_eq_zero_iff.1 hn
    clear ho hn hp hl
    go_enter Tryd.func20, Tryd.ntmps20
    go_wp2
    refine wp_loop_rounds 1 ?_
    rw [rounds_succ]
    go_wp2
    go_ret2
    exact ⟨rfl, rfl⟩
  · have HO := Lib.hid ho
    clear ho hp
    obtain ⟨n, hn⟩ : ∃ n, xs.length = n := ⟨_, rfl⟩
    have Hn := Lib.hid hn
    rw [hn]
    rw [hn] at hl
    clear hn
    go_enter Tryd.func20, Tryd.ntmps20
    go_wp2_with fail
    go_loop [4, 5, 6] (fun e s i => ∃ k : Nat, k ≤ n ∧ i = .int .i64 k ∧ e = .int .i64 (eastL (xs.take k)) ∧ s = .int .i64 (southL (xs.take k))) (fun _ _ i => n - (intOf i).toNat)
    case atStart => exact ⟨0, by omega, rfl, rfl, rfl⟩
    case round =>
      obtain ⟨k, hk, rfl, rfl, rfl⟩ := hrel
      by_cases hlt : k < n
      · have hkx : k < xs.length := by rw [Hn.out]; exact hlt
        obtain ⟨p, hpx⟩ : ∃ p, xs[k] = p := ⟨_, rfl⟩
        have hp12 : p < 12 := by rw [← hpx]; exact HP.out _ (List.getElem_mem hkx)
        have hc : w.cell? ⟨g, k, none⟩ = some (.int .i64 (p : Int)) := by
          rw [HO.out.cellAt k (by rw [Hn.out]; omega)]
          simp [nats, hkx, hpx]
        obtain ⟨b1, b2, b3, b4⟩ := tip_take xs HP.out HLl.out k
        obtain ⟨E, hE⟩ : ∃ E, eastL (xs.take k) = E := ⟨_, rfl⟩
        obtain ⟨S, hS⟩ : ∃ S, southL (xs.take k) = S := ⟨_, rfl⟩
        rw [hE] at b1 b2 ⊢
        rw [hS] at b3 b4 ⊢
        have HEe : Hid (eastL (xs.take (k + 1)) = E + (2 * ((p : Int) % 4) - 3)) := by show eastL (xs.take (k + 1)) = _; rw [take_snocN xs k hkx, eastL_snoc, hE, hpx]
        have HSs : Hid (southL (xs.take (k + 1)) = S + ((p : Int) / 4 - 1)) := by show southL (xs.take (k + 1)) = _; rw [take_snocN xs k hkx, southL_snoc, hS, hpx]
        clear hE hS hpx hkx
        go_wp2
        go_round
        case rel => exact ⟨k + 1, by omega, by go_num, by rw [HEe.out], by rw [HSs.out]⟩
        case measure => simp [intOf]; omega
      · obtain rfl : k = n := by omega
        have HT : Hid (xs.take k = xs) := by show xs.take k = xs; rw [← Hn.out]; exact List.take_length
        go_wp2
        go_ret2
        exact ⟨ret2_i64 (by rw [HT.out]) (by rw [HT.out]), rfl⟩
end Go.Proofs.YtjiihdljchaeiafDoor
