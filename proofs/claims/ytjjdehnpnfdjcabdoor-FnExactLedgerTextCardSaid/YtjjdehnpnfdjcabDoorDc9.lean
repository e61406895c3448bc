/-
  The contract of the model's Decimal. Condition: a number from 0 to 1000000.
-/
import Derived.Test.YtjjdehnpnfdjcabDoorL
import Derived.Test.YtjjdehnpnfdjcabDoorW0
import Derived.Test.YtjjdehnpnfdjcabDoorFlat
import Derived.Lib.ItoaNum
import Derived.Laws.BytesArg
import Derived.Deep.RegionHeld3
import Derived.Lib.Hide
namespace Go.Proofs.YtjjdehnpnfdjcabDoor
open Go.ChangeShapes Go.WideShapes Go.ChangeAt Go.RowKit Go.Deep

/-- The text of a number. -/
def decS (n : Nat) : ByteArray := ⟨(Lib.decDigits n).toArray⟩
theorem strOne (n : Nat) : strOfNums [48 + ((n % 10 : Nat) : Int)] = ⟨[UInt8.ofNat (48 + n % 10)].toArray⟩ := by
  have : (48 + ((n % 10 : Nat) : Int)).toNat = 48 + n % 10 := by omega
  simp only [strOfNums, List.map_cons, List.map_nil, this]
theorem conv_one (W : World) (g : Nat) (z : Int) (h : W.cell? ⟨g, 0, none⟩ = some (.int .u8 z)) : (convert 65 9 (.slice (some ⟨g, 0, none⟩) 1 1)).run Tryd.prog W = .ok (.string (strOfNums [z])) W :=
  run_convert_bytes_arg W _ _ Tryd.underlying65 Tryd.underlying5 g 0 1 1 [z] rfl (fun i hi => by
    obtain rfl : i = 0 := by omega
    exact h) _ Tryd.underlying9

theorem decLen (n : Nat) : (Lib.decDigits n).length ≤ n + 1 := by
  induction n using Nat.strongRecOn with
  | ind n ih =>
    rw [Lib.decDigits]
    split
    · simp
    · have := ih (n / 10) (by omega)
      simp only [List.length_append, List.length_cons, List.length_nil]
      omega
theorem decS_size (n : Nat) : (decS n).size ≤ n + 1 := decLen n

theorem decimal_one (n : Nat) (hn : n < 10) (w : World) : Calls Tryd.prog 48 #[.int .i64 n] w fun e w' => e = .returned (.string (decS n)) ∧ Below w.heap.size w w' := by
  have h1 : (n : Int) < 10 := by omega
  have h0 : (0 : Int) ≤ n := by omega
  have h2 : (n : Int) % 10 = n := by omega
  have h3 : Int.tmod (n : Int) 10 = n := by rw [Int.tmod_eq_emod_of_nonneg h0]; exact h2
  have hc := conv_one
  go_enter Tryd.func48, Tryd.ntmps48
  go_wp2
  go_ret
  refine ⟨?_, (by repeat (first | exact Below.refl _ _ | refine Below.drew ?_ | refine Below.alloc ?_ (by simp <;> omega) _ | refine Below.setCell ?_ (by simp <;> omega) _))⟩
  have := strOne n
  rw [Nat.mod_eq_of_lt hn] at this
  rw [this, decS, Lib.decDigits_one hn]
  rfl

set_option maxRecDepth 100000 in
set_option maxHeartbeats 2000000 in
theorem decimal_step (n : Nat) (hn : 10 ≤ n) (hm : n ≤ 1000000) (ih : ∀ w, Calls Tryd.prog 48 #[.int .i64 ((n / 10 : Nat) : Int)] w fun e w' => e = .returned (.string (decS (n / 10))) ∧ Below w.heap.size w w') (w : World) :
    Calls Tryd.prog 48 #[.int .i64 n] w fun e w' => e = .returned (.string (decS n)) ∧ Below w.heap.size w w' := by
  have h1 : ¬ ((n : Int) < 10) := by omega
  have h1' : (10 : Int) ≤ n := by omega
  have h0 : (0 : Int) ≤ n := by omega
  obtain ⟨q, hq⟩ : ∃ q, n / 10 = q := ⟨_, rfl⟩
  obtain ⟨r, hr⟩ : ∃ r, n % 10 = r := ⟨_, rfl⟩
  rw [hq] at ih
  have h2 : (n : Int) % 10 = r := by omega
  have h3 : Int.tmod (n : Int) 10 = r := by rw [Int.tmod_eq_emod_of_nonneg h0]; exact h2
  have h4 : (n : Int) / 10 = q := by omega
  have h5 : Int.tdiv (n : Int) 10 = q := by rw [Int.tdiv_eq_ediv_of_nonneg h0]; exact h4
  have h6 : (r : Int) < 10 := by omega
  have h7 : (0 : Int) ≤ r := by omega
  have h8 : (q : Int) ≤ 100000 := by omega
  have h9 : (0 : Int) ≤ q := by omega
  have hw1 : IntKind.i64.wrap (q : Int) = q := IntWalk.i64_in _ ⟨by omega, by omega⟩
  have hw2 : IntKind.i64.wrap (48 + (r : Int)) = 48 + r := IntWalk.i64_in _ ⟨by omega, by omega⟩
  have hw3 : IntKind.u8.wrap (48 + (r : Int)) = 48 + r := IntWalk.u8_in _ ⟨by omega, by omega⟩
  have hsz : (decS q).size + (strOfNums [48 + (r : Int)]).size ≤ 9223372036854775807 := by
    have := decS_size q
    have e : (strOfNums [48 + (r : Int)]).size = 1 := strOfNums_size _
    omega
  have hcs : decS q ++ strOfNums [48 + (r : Int)] = decS n := by
    have e1 := strOne n
    rw [hr] at e1
    have e2 : decS n = decS q ++ ⟨[UInt8.ofNat (48 + r)].toArray⟩ := by
      rw [decS, Lib.decDigits, dif_neg (by omega), hq, hr]
      apply ByteArray.ext
      simp [decS]
    rw [e1, e2]
  have HQ := Lib.hid hq
  have HR := Lib.hid hr
  have IH := Lib.hid ih
  clear hq hr ih
  go_enter Tryd.func48, Tryd.ntmps48
  go_wp2_with fail
  refine wp_region_held_drew (S := fun w' => Below w.heap.size w w') (by kernel_rfl) (Below.refl _ _).drew (fun hHeld => ?_)
  refine wpAnyH_take (i := 0) (v := .int .i64 n) rfl (by kernel_rfl) (by kernel_rfl) (by kernel_rfl) (fun _ _ _ h => h) (Or.inl ⟨by rfl, fun w _ => by go_simp⟩) (by assumption) ?_
  try simp only [Act.put, List.getElem_toArray, List.getElem_cons_zero, List.getElem_cons_succ, List.setIfInBounds_toArray, List.set_cons_zero, List.set_cons_succ]
  refine wpAnyH_take (i := 1) (v := .int .i64 q) rfl (by kernel_rfl) (by kernel_rfl) (by kernel_rfl) (fun _ _ _ h => h) (Or.inl ⟨by rfl, fun w _ => by go_simp⟩) (by assumption) ?_
  try simp only [Act.put, List.getElem_toArray, List.getElem_cons_zero, List.getElem_cons_succ, List.setIfInBounds_toArray, List.set_cons_zero, List.set_cons_succ]
  refine wpAnyH_take (i := 3) (v := .int .i64 n) rfl (by kernel_rfl) (by kernel_rfl) (by kernel_rfl) (fun _ _ _ h => h) (Or.inl ⟨by rfl, fun w _ => by go_simp⟩) (by assumption) ?_
  try simp only [Act.put, List.getElem_toArray, List.getElem_cons_zero, List.getElem_cons_succ, List.setIfInBounds_toArray, List.set_cons_zero, List.set_cons_succ]
  refine wpAnyH_take (i := 4) (v := .int .i64 r) rfl (by kernel_rfl) (by kernel_rfl) (by kernel_rfl) (fun _ _ _ h => h) (Or.inl ⟨by rfl, fun w _ => by go_simp⟩) (by assumption) ?_
  try simp only [Act.put, List.getElem_toArray, List.getElem_cons_zero, List.getElem_cons_succ, List.setIfInBounds_toArray, List.set_cons_zero, List.set_cons_succ]
  refine wpAnyH_take (i := 5) (v := .int .i64 (48 + r)) rfl (by kernel_rfl) (by kernel_rfl) (by kernel_rfl) (fun _ _ _ h => h) (Or.inl ⟨by rfl, fun w _ => by go_simp⟩) (by assumption) ?_
  try simp only [Act.put, List.getElem_toArray, List.getElem_cons_zero, List.getElem_cons_succ, List.setIfInBounds_toArray, List.set_cons_zero, List.set_cons_succ]
  refine wpAnyH_take (i := 6) (v := .int .u8 (48 + r)) rfl (by kernel_rfl) (by kernel_rfl) (by kernel_rfl) (fun _ _ _ h => h) (Or.inl ⟨by rfl, fun w _ => by go_simp⟩) (by assumption) ?_
  try simp only [Act.put, List.getElem_toArray, List.getElem_cons_zero, List.getElem_cons_succ, List.setIfInBounds_toArray, List.set_cons_zero, List.set_cons_succ]
  obtain ⟨D0, hD0⟩ : ∃ D0, w.drew = D0 := ⟨_, rfl⟩
  rw [hD0] at hHeld ⊢
  clear hD0
  refine wpAnyH_ready (rs := [2, 7]) (by kernel_rfl) (by simp) ?_
  refine AllReadyH.cons rfl (fun K hK => ?_) ?_
  · skip
    refine if_wanted rfl ?_
    go_simp
    refine (IH.out _).mono ?_
    rintro e x1 ⟨rfl, hb⟩
    have hH2 : Below w.heap.size w x1 := hHeld.trans (hb.mono hHeld.size)
    clear hb hHeld
    dsimp only
    refine hK.out _ _ hH2 (fun hHeld => ?_)
    clear hK K hH2
    try simp only [Act.put, List.getElem_toArray, List.getElem_cons_zero, List.getElem_cons_succ, List.setIfInBounds_toArray, List.set_cons_zero, List.set_cons_succ]
    refine wpAnyH_ready (rs := [7]) (by kernel_rfl) (by simp) ?_
    refine AllReadyH.cons rfl (fun K hK => ?_) AllReadyH.nil
    refine if_wanted rfl ?_
    go_simp
    have bn : Blk (x1.alloc (.cells #[.int .u8 (48 + (r : Int))] 5)) x1.heap.size 5 #[.int .u8 (48 + (r : Int))] := Blk.new _ _ _
    have hH2 : Below w.heap.size w (x1.alloc (.cells #[.int .u8 (48 + (r : Int))] 5)) := hHeld.alloc hHeld.size _
    obtain ⟨x2, hx⟩ : ∃ x, x1.alloc (.cells #[.int .u8 (48 + (r : Int))] 5) = x := ⟨_, rfl⟩
    obtain ⟨N, hN⟩ : ∃ N, x1.heap.size = N := ⟨_, rfl⟩
    rw [hx] at hH2 bn ⊢
    rw [hN] at bn ⊢
    have BN := Lib.hid bn
    clear bn hx hN hHeld
    refine hK.out _ _ hH2 (fun hHeld => ?_)
    clear hK K hH2
    try simp only [Act.put, List.getElem_toArray, List.getElem_cons_zero, List.getElem_cons_succ, List.setIfInBounds_toArray, List.set_cons_zero, List.set_cons_succ]
    refine wpAnyH_ready (rs := [8]) (by kernel_rfl) (by simp) ?_
    refine AllReadyH.cons rfl (fun K hK => ?_) AllReadyH.nil
    refine if_wanted rfl ?_
    have hcell : x2.cell? ⟨N, 0, none⟩ = some (.int .u8 (48 + (r : Int))) := BN.out.cell 0
    have hcv := conv_one x2 N (48 + (r : Int)) hcell
    clear hcell
    go_simp
    clear hcv
    refine hK.out _ _ hHeld (fun hHeld => ?_)
    clear hK K
    try simp only [Act.put, List.getElem_toArray, List.getElem_cons_zero, List.getElem_cons_succ, List.setIfInBounds_toArray, List.set_cons_zero, List.set_cons_succ]
    refine wpAnyH_take (i := 9) (v := .string (decS n)) rfl (by kernel_rfl) (by kernel_rfl) (by kernel_rfl) (fun _ _ _ h => h) (Or.inl ⟨by rfl, fun w _ => by go_simp⟩) (by assumption) ?_
    try simp only [Act.put, List.getElem_toArray, List.getElem_cons_zero, List.getElem_cons_succ, List.setIfInBounds_toArray, List.set_cons_zero, List.set_cons_succ]
    refine wpAnyH_ready (rs := [10]) (by kernel_rfl) (by simp) ?_
    refine AllReadyH.cons rfl (fun K hK => ?_) AllReadyH.nil
    refine if_wanted rfl ?_
    refine wp_assign0 rfl rfl ?_
    refine hK.out _ _ hHeld (fun hHeld => ?_)
    clear hK K
    try simp only [Act.put, List.getElem_toArray, List.getElem_cons_zero, List.getElem_cons_succ, List.setIfInBounds_toArray, List.set_cons_zero, List.set_cons_succ]
    refine wpAnyH_done (by kernel_rfl) ?_ _
    have HF := Lib.hid hHeld
    clear hHeld
    go_wp2
    go_ret
    exact ⟨rfl, HF.out⟩
  refine AllReadyH.cons rfl (fun K hK => ?_) AllReadyH.nil
  refine if_wanted rfl ?_
  go_simp
  have bn : Blk (D0.alloc (.cells #[.int .u8 (48 + (r : Int))] 5)) D0.heap.size 5 #[.int .u8 (48 + (r : Int))] := Blk.new _ _ _
  have hH2 : Below w.heap.size w (D0.alloc (.cells #[.int .u8 (48 + (r : Int))] 5)) := hHeld.alloc hHeld.size _
  obtain ⟨x4, hx⟩ : ∃ x, D0.alloc (.cells #[.int .u8 (48 + (r : Int))] 5) = x := ⟨_, rfl⟩
  obtain ⟨N, hN⟩ : ∃ N, D0.heap.size = N := ⟨_, rfl⟩
  rw [hx] at hH2 bn ⊢
  rw [hN] at bn ⊢
  have BN := Lib.hid bn
  clear bn hx hN hHeld
  refine hK.out _ _ hH2 (fun hHeld => ?_)
  clear hK K hH2
  try simp only [Act.put, List.getElem_toArray, List.getElem_cons_zero, List.getElem_cons_succ, List.setIfInBounds_toArray, List.set_cons_zero, List.set_cons_succ]
  refine wpAnyH_ready (rs := [2, 8]) (by kernel_rfl) (by simp) ?_
  refine AllReadyH.cons rfl (fun K hK => ?_) ?_
  · skip
    refine if_wanted rfl ?_
    go_simp
    refine (IH.out _).mono ?_
    rintro e x5 ⟨rfl, hb⟩
    have hH2 : Below w.heap.size w x5 := hHeld.trans (hb.mono hHeld.size)
    have BN2 : Hid (Blk x5 N 5 #[.int .u8 (48 + (r : Int))]) := BN.out.keep hb
    clear BN
    have BN := BN2
    clear BN2
    clear hb hHeld
    dsimp only
    refine hK.out _ _ hH2 (fun hHeld => ?_)
    clear hK K hH2
    try simp only [Act.put, List.getElem_toArray, List.getElem_cons_zero, List.getElem_cons_succ, List.setIfInBounds_toArray, List.set_cons_zero, List.set_cons_succ]
    refine wpAnyH_ready (rs := [8]) (by kernel_rfl) (by simp) ?_
    refine AllReadyH.cons rfl (fun K hK => ?_) AllReadyH.nil
    refine if_wanted rfl ?_
    have hcell : x5.cell? ⟨N, 0, none⟩ = some (.int .u8 (48 + (r : Int))) := BN.out.cell 0
    have hcv := conv_one x5 N (48 + (r : Int)) hcell
    clear hcell
    go_simp
    clear hcv
    refine hK.out _ _ hHeld (fun hHeld => ?_)
    clear hK K
    try simp only [Act.put, List.getElem_toArray, List.getElem_cons_zero, List.getElem_cons_succ, List.setIfInBounds_toArray, List.set_cons_zero, List.set_cons_succ]
    refine wpAnyH_take (i := 9) (v := .string (decS n)) rfl (by kernel_rfl) (by kernel_rfl) (by kernel_rfl) (fun _ _ _ h => h) (Or.inl ⟨by rfl, fun w _ => by go_simp⟩) (by assumption) ?_
    try simp only [Act.put, List.getElem_toArray, List.getElem_cons_zero, List.getElem_cons_succ, List.setIfInBounds_toArray, List.set_cons_zero, List.set_cons_succ]
    refine wpAnyH_ready (rs := [10]) (by kernel_rfl) (by simp) ?_
    refine AllReadyH.cons rfl (fun K hK => ?_) AllReadyH.nil
    refine if_wanted rfl ?_
    refine wp_assign0 rfl rfl ?_
    refine hK.out _ _ hHeld (fun hHeld => ?_)
    clear hK K
    try simp only [Act.put, List.getElem_toArray, List.getElem_cons_zero, List.getElem_cons_succ, List.setIfInBounds_toArray, List.set_cons_zero, List.set_cons_succ]
    refine wpAnyH_done (by kernel_rfl) ?_ _
    have HF := Lib.hid hHeld
    clear hHeld
    go_wp2
    go_ret
    exact ⟨rfl, HF.out⟩
  refine AllReadyH.cons rfl (fun K hK => ?_) AllReadyH.nil
  refine if_wanted rfl ?_
  have hcell : x4.cell? ⟨N, 0, none⟩ = some (.int .u8 (48 + (r : Int))) := BN.out.cell 0
  have hcv := conv_one x4 N (48 + (r : Int)) hcell
  clear hcell
  go_simp
  clear hcv
  refine hK.out _ _ hHeld (fun hHeld => ?_)
  clear hK K
  try simp only [Act.put, List.getElem_toArray, List.getElem_cons_zero, List.getElem_cons_succ, List.setIfInBounds_toArray, List.set_cons_zero, List.set_cons_succ]
  refine wpAnyH_ready (rs := [2]) (by kernel_rfl) (by simp) ?_
  refine AllReadyH.cons rfl (fun K hK => ?_) AllReadyH.nil
  refine if_wanted rfl ?_
  go_simp
  refine (IH.out _).mono ?_
  rintro e x8 ⟨rfl, hb⟩
  have hH2 : Below w.heap.size w x8 := hHeld.trans (hb.mono hHeld.size)
  have BN2 : Hid (Blk x8 N 5 #[.int .u8 (48 + (r : Int))]) := BN.out.keep hb
  clear BN
  have BN := BN2
  clear BN2
  clear hb hHeld
  dsimp only
  refine hK.out _ _ hH2 (fun hHeld => ?_)
  clear hK K hH2
  try simp only [Act.put, List.getElem_toArray, List.getElem_cons_zero, List.getElem_cons_succ, List.setIfInBounds_toArray, List.set_cons_zero, List.set_cons_succ]
  refine wpAnyH_take (i := 9) (v := .string (decS n)) rfl (by kernel_rfl) (by kernel_rfl) (by kernel_rfl) (fun _ _ _ h => h) (Or.inl ⟨by rfl, fun w _ => by go_simp⟩) (by assumption) ?_
  try simp only [Act.put, List.getElem_toArray, List.getElem_cons_zero, List.getElem_cons_succ, List.setIfInBounds_toArray, List.set_cons_zero, List.set_cons_succ]
  refine wpAnyH_ready (rs := [10]) (by kernel_rfl) (by simp) ?_
  refine AllReadyH.cons rfl (fun K hK => ?_) AllReadyH.nil
  refine if_wanted rfl ?_
  refine wp_assign0 rfl rfl ?_
  refine hK.out _ _ hHeld (fun hHeld => ?_)
  clear hK K
  try simp only [Act.put, List.getElem_toArray, List.getElem_cons_zero, List.getElem_cons_succ, List.setIfInBounds_toArray, List.set_cons_zero, List.set_cons_succ]
  refine wpAnyH_done (by kernel_rfl) ?_ _
  have HF := Lib.hid hHeld
  clear hHeld
  go_wp2
  go_ret
  exact ⟨rfl, HF.out⟩

theorem decimal_any (n : Nat) : n ≤ 1000000 → ∀ w, Calls Tryd.prog 48 #[.int .i64 n] w fun e w' => e = .returned (.string (decS n)) ∧ Below w.heap.size w w' := by
  induction n using Nat.strongRecOn with
  | ind n ih =>
    intro hn w
    by_cases h : n < 10
    · exact decimal_one n h w
    · exact decimal_step n (by omega) hn (fun w => ih (n / 10) (by omega) (by omega) w) w
end Go.Proofs.YtjjdehnpnfdjcabDoor
