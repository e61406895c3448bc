/-
  Checks and their first error, whatever they answer; the contracts of checkPlace, checkSwap, checkManySwaps, checkSwaps. Condition: the sentinel errors lie as the row lists them; the numbers of the swaps fit their kinds.
-/
import Derived.Test.YtjjdehnpnfdjcaaDoorEz2
import Derived.Test.YtjjdehnpnfdjcaaDoorSmq
namespace Go.Proofs.YtjjdehnpnfdjcaaDoor
open Go.ChangeShapes Go.WideShapes Go.ChangeAt Go.RowKit Go.Deep

theorem checkPl_any (n : Int) (ad : Nat → Addr) (w : World) (hE : EW 2 w ad) :
    Calls Tryd.prog 40 #[.int .i64 n] w fun e w' => e = .returned (erV ad 0 (plI n)) ∧ w = w' := by
  have c0 : w.cell? ⟨1, 0, none⟩ = some (.iface 93 (.pointer (some (ad 0)))) := hE.cell 0 (by omega)
  clear hE
  by_cases h0 : n < 0
  · have hp : erV ad 0 (plI n) = .iface 93 (.pointer (some (ad 0))) := by rw [show plI n = false by simp [plI]; omega]; rfl
    rw [hp]
    clear hp
    go_enter Tryd.func40, Tryd.ntmps40
    go_wp2
    go_ret
    exact ⟨rfl, rfl⟩
  by_cases h1 : 12 ≤ n
  · have hp : erV ad 0 (plI n) = .iface 93 (.pointer (some (ad 0))) := by rw [show plI n = false by simp [plI]; omega]; rfl
    rw [hp]
    clear hp
    have h2 : 0 ≤ n := by omega
    go_enter Tryd.func40, Tryd.ntmps40
    go_wp2
    go_ret
    exact ⟨rfl, rfl⟩
  · have hp : erV ad 0 (plI n) = .nilIface := by rw [show plI n = true by simp [plI]; omega]; rfl
    rw [hp]
    clear hp
    have h2 : 0 ≤ n := by omega
    have h3 : n < 12 := by omega
    clear h0
    go_enter Tryd.func40, Tryd.ntmps40
    go_wp2
    go_ret
    exact ⟨rfl, rfl⟩
theorem first_can (ad : Nat → Addr) (x y : Int) : firstV (erV ad 0 (plI x)) (erV ad 0 (plI y)) = erV ad 0 (canS (x, y)) := by
  unfold canS
  cases plI x <;> rfl

set_option maxRecDepth 100000 in
set_option maxHeartbeats 1000000 in
theorem checkSwap_any (x y : Int) (hs : wfS (x, y)) (ad : Nat → Addr) (w : World) (hE : EW 2 w ad) :
    Calls Tryd.prog 34 #[.agg #[.int .i8 x, .int .i8 y]] w fun e w' => e = .returned (erV ad 0 (canS (x, y))) ∧ Below w.heap.size w w' := by
  obtain ⟨⟨x1, x2⟩, y1, y2⟩ := hs
  dsimp only at x1 x2 y1 y2
  rw [← first_can]
  have hp0 := erV_isE ad 0 (plI x)
  have hp1 := erV_isE ad 0 (plI y)
  have c0 := fun w hE => checkPl_any x ad w hE
  have c1 := fun w hE => checkPl_any y ad w hE
  obtain ⟨v0, hv0⟩ : ∃ v, erV ad 0 (plI x) = v := ⟨_, rfl⟩
  obtain ⟨v1, hv1⟩ : ∃ v, erV ad 0 (plI y) = v := ⟨_, rfl⟩
  rw [hv0] at hp0 ⊢
  rw [hv1] at hp1 ⊢
  simp only [hv0] at c0
  simp only [hv1] at c1
  clear hv0 hv1
  have C0 := Lib.hid c0
  have C1 := Lib.hid c1
  have P0 := Lib.hid hp0
  have P1 := Lib.hid hp1
  have hx : IntKind.i64.wrap x = x := IntWalk.i64_in _ ⟨by omega, by omega⟩
  have hy : IntKind.i64.wrap y = y := IntWalk.i64_in _ ⟨by omega, by omega⟩
  have h2 : Blk (w.alloc (.cells #[.int .i8 x, .int .i8 y] 47)) w.heap.size 47 #[.int .i8 x, .int .i8 y] := Blk.new _ _ _
  have hb : Below w.heap.size w (w.alloc (.cells #[.int .i8 x, .int .i8 y] 47)) := (by repeat (first | exact Below.refl _ _ | refine Below.drew ?_ | refine Below.alloc ?_ (by simp <;> omega) _ | refine Below.setCell ?_ (by simp <;> omega) _))
  obtain ⟨W1, hW1⟩ : ∃ W1, (w.alloc (.cells #[.int .i8 x, .int .i8 y] 47)) = W1 := ⟨_, rfl⟩
  rw [hW1] at h2 hb
  have H2 := Lib.hid h2
  have HB := Lib.hid hb
  have HE := Lib.hid (hE.below hb (Nat.le_refl _))
  clear h2 hb hE c0 c1 hp0 hp1
  go_enter Tryd.func34, Tryd.ntmps34
  go_wp2_with fail
  clear hW1
  refine wp_region_held_drew (S := fun w' => Below W1.heap.size W1 w') (by kernel_rfl) (Below.refl _ _).drew (fun hHeld => ?_)
  refine wpAnyH_take (i := 0) (v := .pointer (some ⟨w.heap.size, 0, none⟩)) rfl (by kernel_rfl) (by kernel_rfl) (by kernel_rfl) (fun _ _ _ h => h) (Or.inl ⟨by rfl, fun w' h => by go_simp⟩) (by assumption) ?_
  try simp only [Act.put, List.getElem_toArray, List.getElem_cons_zero, List.getElem_cons_succ, List.setIfInBounds_toArray, List.set_cons_zero, List.set_cons_succ]
  refine wpAnyH_take (i := 1) (v := .int .i8 x) rfl (by kernel_rfl) (by kernel_rfl) (by kernel_rfl) (fun _ _ _ h => h) (Or.inl ⟨by rfl, fun w' h => by have e3 : w'.cell? ⟨w.heap.size, 0, none⟩ = some (.int .i8 x) := (H2.out.below h H2.out.lt).cell 0; go_simp⟩) (by assumption) ?_
  try simp only [Act.put, List.getElem_toArray, List.getElem_cons_zero, List.getElem_cons_succ, List.setIfInBounds_toArray, List.set_cons_zero, List.set_cons_succ]
  refine wpAnyH_take (i := 2) (v := .int .i64 x) rfl (by kernel_rfl) (by kernel_rfl) (by kernel_rfl) (fun _ _ _ h => h) (Or.inl ⟨by rfl, fun w' h => by go_simp⟩) (by assumption) ?_
  try simp only [Act.put, List.getElem_toArray, List.getElem_cons_zero, List.getElem_cons_succ, List.setIfInBounds_toArray, List.set_cons_zero, List.set_cons_succ]
  refine wpAnyH_take (i := 4) (v := .pointer (some ⟨w.heap.size, 1, none⟩)) rfl (by kernel_rfl) (by kernel_rfl) (by kernel_rfl) (fun _ _ _ h => h) (Or.inl ⟨by rfl, fun w' h => by go_simp⟩) (by assumption) ?_
  try simp only [Act.put, List.getElem_toArray, List.getElem_cons_zero, List.getElem_cons_succ, List.setIfInBounds_toArray, List.set_cons_zero, List.set_cons_succ]
  refine wpAnyH_take (i := 5) (v := .int .i8 y) rfl (by kernel_rfl) (by kernel_rfl) (by kernel_rfl) (fun _ _ _ h => h) (Or.inl ⟨by rfl, fun w' h => by have e3 : w'.cell? ⟨w.heap.size, 1, none⟩ = some (.int .i8 y) := (H2.out.below h H2.out.lt).cell 1; go_simp⟩) (by assumption) ?_
  try simp only [Act.put, List.getElem_toArray, List.getElem_cons_zero, List.getElem_cons_succ, List.setIfInBounds_toArray, List.set_cons_zero, List.set_cons_succ]
  refine wpAnyH_take (i := 6) (v := .int .i64 y) rfl (by kernel_rfl) (by kernel_rfl) (by kernel_rfl) (fun _ _ _ h => h) (Or.inl ⟨by rfl, fun w' h => by go_simp⟩) (by assumption) ?_
  try simp only [Act.put, List.getElem_toArray, List.getElem_cons_zero, List.getElem_cons_succ, List.setIfInBounds_toArray, List.set_cons_zero, List.set_cons_succ]
  have hE2 : EW 2 W1.drew ad := HE.out.below (Below.refl _ _).drew (Nat.le_refl _)
  have hB2 : Below w.heap.size w W1.drew := HB.out.drew
  obtain ⟨W2, hW2⟩ : ∃ W2, W1.drew = W2 := ⟨_, rfl⟩
  rw [hW2] at hE2 hB2 hHeld ⊢
  have HE2 := Lib.hid hE2
  have HB2 := Lib.hid hB2
  have HS := Lib.hid hHeld
  clear hW2 hE2 hB2 HE HB H2
  refine wpAnyH_ready (rs := [3]) (by kernel_rfl) (by simp) ?_
  refine AllReadyH.cons rfl (fun K hK => ?_) AllReadyH.nil
  refine if_wanted rfl ?_
  go_simp
  refine (C0.out _ HE2.out).mono ?_
  rintro e w' ⟨rfl, rfl⟩
  dsimp only
  refine hK.out _ _ HS.out (fun hHeld => ?_)
  clear hK K
  try simp only [Act.put, List.getElem_toArray, List.getElem_cons_zero, List.getElem_cons_succ, List.setIfInBounds_toArray, List.set_cons_zero, List.set_cons_succ]
  refine wpAnyH_ready (rs := [7]) (by kernel_rfl) (by simp) ?_
  refine AllReadyH.cons rfl (fun K hK => ?_) AllReadyH.nil
  refine if_wanted rfl ?_
  go_simp
  refine (C1.out _ HE2.out).mono ?_
  rintro e w' ⟨rfl, rfl⟩
  dsimp only
  refine hK.out _ _ HS.out (fun hHeld => ?_)
  clear hK K
  try simp only [Act.put, List.getElem_toArray, List.getElem_cons_zero, List.getElem_cons_succ, List.setIfInBounds_toArray, List.set_cons_zero, List.set_cons_succ]
  refine wpAnyH_ready (rs := [8]) (by kernel_rfl) (by simp) ?_
  refine AllReadyH.cons rfl (fun K hK => ?_) AllReadyH.nil
  refine if_wanted rfl (wp_twoErrs (.tmp 6) (.tmp 10) rfl P0.out P1.out rfl rfl ?_)
  refine hK.out _ _ (HS.out.alloc HS.out.size _) (fun hHeld => ?_)
  clear hK K
  try simp only [Act.put, List.getElem_toArray, List.getElem_cons_zero, List.getElem_cons_succ, List.setIfInBounds_toArray, List.set_cons_zero, List.set_cons_succ]
  have q0 := new_cell2 W2 v0 v1 51
  obtain ⟨W3, hW3⟩ : ∃ W3, W2.alloc (.cells #[v0, v1] 51) = W3 := ⟨_, rfl⟩
  have hB3 : Below w.heap.size w W3 := by rw [← hW3]; exact HB2.out.alloc HB2.out.size _
  rw [hW3] at q0 hHeld ⊢
  have Q := Lib.hid q0
  have B3 := Lib.hid hHeld
  have HB3 := Lib.hid hB3
  clear q0 hW3 hB3 hHeld
  refine wpAnyH_ready (rs := [9]) (by kernel_rfl) (by simp) ?_
  refine AllReadyH.cons rfl (fun K hK => ?_) AllReadyH.nil
  refine if_wanted rfl ?_
  go_simp
  refine (first2_any P0.out P1.out _ _ _ Q.out.1 Q.out.2).mono ?_
  rintro e w' ⟨rfl, rfl⟩
  dsimp only
  refine hK.out _ _ B3.out (fun hHeld => ?_)
  clear hK K
  try simp only [Act.put, List.getElem_toArray, List.getElem_cons_zero, List.getElem_cons_succ, List.setIfInBounds_toArray, List.set_cons_zero, List.set_cons_succ]
  refine wpAnyH_ready (rs := [10]) (by kernel_rfl) (by simp) ?_
  refine AllReadyH.cons rfl (fun K hK => ?_) AllReadyH.nil
  refine if_wanted rfl ?_
  refine wp_assign0 rfl rfl ?_
  refine hK.out _ _ B3.out (fun hHeld => ?_)
  clear hK K
  refine wpAnyH_done (by kernel_rfl) ?_ _
  try simp only [Act.put, List.getElem_toArray, List.getElem_cons_zero, List.getElem_cons_succ, List.setIfInBounds_toArray, List.set_cons_zero, List.set_cons_succ]
  go_wp2
  go_ret
  exact ⟨rfl, HB3.out⟩

theorem checkMany_any (A : Option Addr) (n c : Nat) (ad : Nat → Addr) (w : World) (hE : EW 2 w ad) :
    Calls Tryd.prog 33 #[.slice A n c] w fun e w' => e = .returned (erV ad 1 (!decide (60 < n))) ∧ w = w' := by
  have c0 : w.cell? ⟨0, 0, none⟩ = some (.iface 93 (.pointer (some (ad 1)))) := hE.cell 1 (by omega)
  clear hE
  by_cases h : 60 < n
  · have hp : erV ad 1 (!decide (60 < n)) = .iface 93 (.pointer (some (ad 1))) := by rw [decide_eq_true h]; rfl
    rw [hp]
    clear hp
    have h2 : (60 : Int) < n := by omega
    go_enter Tryd.func33, Tryd.ntmps33
    go_wp2
    go_ret
    exact ⟨rfl, rfl⟩
  · have hp : erV ad 1 (!decide (60 < n)) = .nilIface := by rw [decide_eq_false h]; rfl
    rw [hp]
    clear hp
    have h2 : ¬ (60 : Int) < n := by omega
    go_enter Tryd.func33, Tryd.ntmps33
    go_wp2
    go_ret
    exact ⟨rfl, rfl⟩

/-- What checkSwaps answers. -/
def csV (ad : Nat → Addr) (xs : List Swp) : Value := if 60 < xs.length then errV (ad 1) else erV ad 0 (xs.all canS)
theorem csV_isE (ad : Nat → Addr) (xs : List Swp) : isE (csV ad xs) := by
  unfold csV
  split
  · exact .inr ⟨_, rfl⟩
  · exact erV_isE _ _ _

set_option maxRecDepth 100000 in
set_option maxHeartbeats 1000000 in
theorem checkSwaps_any (xs : List Swp) (hxs : ∀ x ∈ xs, wfS x) (A : Option Addr) (c : Nat) (ad : Nat → Addr) (w : World) (hl : xs.length ≤ 1048576) (hr : Rd w w.heap.size scells A xs) (hE : EW 2 w ad) :
    Calls Tryd.prog 21 #[.slice A xs.length c] w fun e w' => e = .returned (csV ad xs) ∧ Below w.heap.size w w' := by
  have HX := Lib.hid hxs
  have HR := Lib.hid hr
  have HE := Lib.hid hE
  clear hxs hr hE
  go_enter Tryd.func21, Tryd.ntmps21
  go_wp2_with fail
  refine (checkMany_any A xs.length c ad _ HE.out).mono ?_
  rintro e w1 ⟨rfl, rfl⟩
  by_cases hlong : 60 < xs.length
  · have hp : erV ad 1 (!decide (60 < xs.length)) = .iface 93 (.pointer (some (ad 1))) := by rw [decide_eq_true hlong]; rfl
    rw [hp]
    clear hp
    go_wp2
    go_ret
    exact ⟨by rw [csV, if_pos hlong]; rfl, Below.refl _ _⟩
  have hp : erV ad 1 (!decide (60 < xs.length)) = .nilIface := by rw [decide_eq_false hlong]; rfl
  rw [hp]
  clear hp
  go_wp2_with fail
  go_loopw [14] (fun i wr => ∃ k : Nat, k ≤ xs.length ∧ i = .int .i64 k ∧ CanTo xs k ∧ Below w.heap.size w wr) (fun i _ => xs.length - (intOf i).toNat)
  case atStart => exact ⟨0, by omega, rfl, fun j s h => by omega, Below.refl _ _⟩
  case round =>
    obtain ⟨k, hk, rfl, q1, q4⟩ := hrel
    have Q1 := Lib.hid q1
    have Q4 := Lib.hid q4
    clear q1 q4
    by_cases hlt : k < xs.length
    · obtain ⟨⟨x, y⟩, hx⟩ : ∃ x, xs[k]? = some x := ⟨_, List.getElem?_eq_getElem hlt⟩
      have hwx := HX.out _ (List.mem_of_getElem? hx)
      obtain ⟨b, o, rfl, hbl, hrow⟩ := (HR.out.below (Nat.le_refl _) Q4.out).at_ scells_length hx
      have e1 : wr.cell? ⟨b, o + k * 2, none⟩ = some (.int .i8 x) := hrow 0 _ rfl
      have e2 : wr.cell? ⟨b, o + k * 2 + 1, none⟩ = some (.int .i8 y) := hrow 1 _ rfl
      have hk0 : (0 : Int) ≤ (k : Int) := Int.natCast_nonneg _
      have hk8 : (k : Int) < xs.length := by omega
      have HXk := Lib.hid hx
      have HA : Hid (Below w.heap.size w (wr.alloc (.cells #[.int .i8 x, .int .i8 y] 47))) := Q4.out.alloc Q4.out.size _
      have HWx := Lib.hid hwx
      clear hx hrow hbl hwx
      go_wp2_with fail
      refine (checkSwap_any x y HWx.out ad _ (HE.out.below HA.out (Nat.le_refl _))).mono ?_
      rintro e w2 ⟨rfl, hb2⟩
      have P4 : Hid (Below w.heap.size w w2) := HA.out.trans (hb2.mono HA.out.size)
      clear hb2 e1 e2 HA
      cases hcan : canS (x, y)
      · have hc := can_no HXk.out hcan
        have HC := Lib.hid hc
        have e5 : erV ad 0 false = .iface 93 (.pointer (some (ad 0))) := rfl
        rw [e5]
        clear hc hcan e5
        go_wp2
        go_ret
        exact ⟨by rw [csV, if_neg hlong, HC.out]; rfl, P4.out⟩
      · have hcs := Lib.hid (Q1.out.step HXk.out hcan)
        have e5 : erV ad 0 true = .nilIface := rfl
        rw [e5]
        clear hcan e5
        go_wp2
        go_roundw
        case rel => exact ⟨k + 1, by omega, by go_num, hcs.out, P4.out⟩
        case measure => simp [intOf]; omega
    · obtain rfl : k = xs.length := by omega
      have HC : Hid (xs.all canS = true) := CanTo.all Q1.out
      go_wp2
      go_ret
      exact ⟨by rw [csV, if_neg hlong, HC.out]; rfl, Q4.out⟩
end Go.Proofs.YtjjdehnpnfdjcaaDoor
