/-
  SumOrder: the contracts, of the model and of the program. Condition: the sentinel errors lie as the row lists them (the program's).
-/
import Derived.Test.YtlagnocglkoomaaDoorSd1
import Derived.Test.YtlagnocglkoomaaDoorGk
import Derived.Maps.AppendAt
namespace Go.Proofs.YtlagnocglkoomaaDoor
open Go.ChangeShapes Go.WideShapes Go.ChangeAt Go.RowKit Go.Deep

def sdA (n : Int) (m : List (List Int)) : List Int := if mkOk n m = true then soL (rsA n m) n.toNat else []
theorem sdA_len (n : Int) (m : List (List Int)) : (sdA n m).length ≤ 8 := by
  unfold sdA
  split
  · have := (mkOk_iff.1 ‹_›).1
    rw [soL_len]; omega
  · simp
theorem sdA_no {n : Int} {m : List (List Int)} (h : mkOk n m = false) : sdA n m = [] := by simp [sdA, h]
theorem sdA_yes {n : Int} {m : List (List Int)} (h : mkOk n m = true) : sdA n m = soL (rsA n m) n.toNat := by simp [sdA, h]
def lenOfS : Value → Nat
  | .slice _ n _ => n
  | _ => 0
theorem has_ok {O : List Int} {x : Int} (h : decide (x ∈ O) = true) : x ∈ O := of_decide_eq_true h
theorem has_no {O : List Int} {x : Int} (h : decide (x ∈ O) = false) : x ∉ O := of_decide_eq_false h

set_option maxRecDepth 100000 in
set_option maxHeartbeats 4000000 in
theorem specSumOrder_any (n : Int) (m : List (List Int)) (A : Option Addr) (c : Nat) (w : World) (hl : m.length ≤ 1048576) (hx : ∀ xs ∈ m, xs.length ≤ 1048576) (hr : RdN w w.heap.size icells A m) :
    Calls Tryd.prog 11 #[.int .i64 n, .slice A m.length c] w fun e w' => ∃ v, e = .returned (.tuple #[v, .int .i64 (mkC n m)]) ∧ w'.ownsRow w.heap.size 2 1 v (sdA n m).length ((sdA n m).flatMap icells) ∧ Below w.heap.size w w' := by
  obtain ⟨i0, hi, hz0, hz1, hz2⟩ := info_parts Tryd.info64
  have HI := Lib.hid hi
  have HZ0 := Lib.hid hz0
  have HZ1 := Lib.hid hz1
  have HZ2 := Lib.hid hz2
  clear hi hz0 hz1 hz2
  obtain ⟨W, hW⟩ : ∃ W, w.alloc (.cells #[] 2) = W := ⟨_, rfl⟩
  have hB0 : Below w.heap.size w W := by rw [← hW]; exact (Below.refl _ _).alloc (Nat.le_refl _) _
  have hO0 : W.ownsRow w.heap.size 2 1 (.slice (some ⟨w.heap.size, 0, none⟩) 0 0) 0 (([] : List Int).flatMap icells) := by rw [← hW]; exact empty_ownI _ _ (Nat.le_refl _)
  have hlt0 : w.heap.size < W.heap.size := by rw [← hW]; simp
  have hRW := hr.keep hB0
  have HC := Lib.hid (l07Ok_any n m A c W hl hx hRW)
  have HR := Lib.hid hRW
  have HB0 := Lib.hid hB0
  have HO0 := Lib.hid hO0
  clear hx hr hRW hB0 hO0
  go_enter Tryd.func11, Tryd.ntmps11
  go_wp2_with fail
  refine HC.out.mono ?_
  rintro e w1 ⟨rfl, rfl⟩
  clear HC hW
  cases h0 : mkOk n m
  · have E := Lib.hid (mkC_no h0)
    have E2 := Lib.hid (sdA_no h0)
    clear h0
    go_wp2
    go_ret2
    refine ⟨_, by (rw [E.out.1]; first | done | rfl), ?_, HB0.out⟩
    rw [E2.out]
    exact HO0.out
  have E := Lib.hid (mkC_yes h0)
  have E2 := Lib.hid (sdA_yes h0)
  have HS := Lib.hid (l07Sums_any n m h0 A c _ HR.out)
  have hn := (mkOk_iff.1 h0).1
  obtain ⟨N, hN⟩ : ∃ N : Nat, n.toNat = N := ⟨_, rfl⟩
  have hnN : n = (N : Int) := by omega
  rw [hN] at HS E2
  subst hnN
  have hN8 : N ≤ 8 := by omega
  have hEs : rsA (N : Int) m = rsL N m m.length := by rw [E.out.2.1, Int.toNat_natCast]
  rw [← hEs] at HS
  have hLs : (rsA (N : Int) m).length = N := by rw [hEs, rsL_len]
  obtain ⟨s, hs⟩ : ∃ s, rsA (N : Int) m = s := ⟨_, rfl⟩
  rw [hs] at HS E2 hLs
  clear h0 hN hn hEs hs
  go_wp2_with fail
  refine HS.out.mono ?_
  rintro e w2 ⟨rfl, hS, hb⟩
  have HS2 := Lib.hid hS
  have HB2 := Lib.hid (HB0.out.trans (hb.mono HB0.out.size))
  have HO2 := Lib.hid (own_keep' HO0.out hb)
  have hWl : W.heap.size < w2.heap.size := hS.lt
  obtain ⟨gS, hgS⟩ : ∃ g, W.heap.size = g := ⟨_, rfl⟩
  rw [hgS] at HS2 hlt0 hWl ⊢
  clear hS hb HS HO0 hgS
  go_wp2_with fail
  go_loopw [6] (fun v wr => ∃ (t : Nat) (A1 : Option Addr) (c1 : Nat) (O R : List Int), v = .slice A1 t c1 ∧ O.length = t ∧ t ≤ N ∧ soT s N O R ∧ wr.ownsRow w.heap.size 2 1 (.slice A1 t c1) t (O.flatMap icells) ∧ (∀ r, A1.map (·.block) = some r → r ≠ gS) ∧ Rs wr gS 2 icells s ∧ Below w.heap.size w wr) (fun v _ => N - lenOfS v)
  case atStart => exact ⟨0, _, _, [], iota N, rfl, rfl, by omega, soT.start s N, HO2.out, fun r h => by simp at h; omega, HS2.out, HB2.out⟩
  case round =>
    clear HO2 HS2 HB2
    obtain ⟨t, A1, c1, O, R, rfl, hOt, htN, hT, hO, hne, hS, hB⟩ := hrel
    obtain ⟨wa, rfl⟩ : ∃ u, u = wr := ⟨_, rfl⟩
    have HT := Lib.hid hT
    have HO := Lib.hid hO
    have HNe := Lib.hid hne
    have HS := Lib.hid hS
    have HB := Lib.hid hB
    have hgl := hS.lt
    have HOt := Lib.hid hOt
    clear hT hO hne hS hB hOt
    have ht0 : (0 : Int) ≤ (t : Int) := Int.natCast_nonneg _
    by_cases hlt : t < N
    · have ht8 : (t : Int) < N := by omega
      have HM0 := Lib.hid (soM.start s O)
      have HRd : Hid (Rd wa wa.heap.size icells A1 O) := by
        have h1 := HO.out
        rw [← HOt.out] at h1
        exact own_rd2 icells_length h1
      have HRs : Hid (∀ k : Nat, k < N → wa.cell? ⟨gS, k, none⟩ = some (.int .i64 (s.getD k 0))) := fun k hk => by
        have h1 := rowI (range_row icells_length (Rs.range HS.out) (soS_at (show k < s.length by omega)))
        simpa using h1
      have HBa : Hid (Below wa.heap.size wa wa) := Below.refl _ _
      go_wp2_with fail
      go_loopw [8, 9] (fun b i wr2 => ∃ (k : Nat) (bb : Int), k ≤ N ∧ i = .int .i64 k ∧ b = .int .i64 bb ∧ soM s O k bb ∧ Below wa.heap.size wa wr2) (fun _ i _ => N - (intOf i).toNat)
      case atStart => exact ⟨0, -1, by omega, rfl, rfl, HM0.out, HBa.out⟩
      case round =>
        clear HM0 HBa
        obtain ⟨k, bb, hk, rfl, rfl, hM, hb2⟩ := hrel
        obtain ⟨wb, rfl⟩ : ∃ u, u = wr := ⟨_, rfl⟩
        have HM := Lib.hid hM
        have HB2 := Lib.hid hb2
        clear hM hb2
        have hk0 : (0 : Int) ≤ (k : Int) := Int.natCast_nonneg _
        by_cases hlt2 : k < N
        · have hk8 : (k : Int) < N := by omega
          have hgl2 : gS < wb.heap.size := Nat.lt_of_lt_of_le hgl HB2.out.size
          have HH : Hid (∀ W : World, Below wb.heap.size wb W → Calls Tryd.prog 29 #[.slice A1 t c1, .int .i64 k] W fun e w' => e = .returned (.bool (decide ((k : Int) ∈ O))) ∧ W = w') := fun W hW => by
            have h1 := l00Has_any O (k : Int) A1 c1 W (by rw [HOt.out]; omega) (HRd.out.keep (HB2.out.trans (hW.mono HB2.out.size)))
            rw [HOt.out] at h1
            exact h1
          cases hv : decide ((k : Int) ∈ O)
          · rw [hv] at HH
            have hni := has_no hv
            by_cases hbn : bb < 0
            · have HM2 := Lib.hid (HM.out.first hni hbn)
              clear hv hni
              go_wp2_with fail
              refine wp_region_held_drew (S := fun w' => Below wb.heap.size wb w') (by kernel_rfl) (Below.refl _ _).drew (fun hHeld => ?_)
              refine wpAnyH_take (i := 0) (v := .slice A1 t c1) rfl (by kernel_rfl) (by kernel_rfl) (by kernel_rfl) (fun _ _ _ h => h) (Or.inl ⟨by rfl, fun w' h => by go_simp⟩) (by assumption) ?_
              try simp only [Act.put, List.getElem_toArray, List.getElem_cons_zero, List.getElem_cons_succ, List.setIfInBounds_toArray, List.set_cons_zero, List.set_cons_succ]
              refine wpAnyH_take (i := 1) (v := .int .i64 k) rfl (by kernel_rfl) (by kernel_rfl) (by kernel_rfl) (fun _ _ _ h => h) (Or.inl ⟨by rfl, fun w' h => by go_simp⟩) (by assumption) ?_
              try simp only [Act.put, List.getElem_toArray, List.getElem_cons_zero, List.getElem_cons_succ, List.setIfInBounds_toArray, List.set_cons_zero, List.set_cons_succ]
              obtain ⟨D0, hD0⟩ : ∃ D0, wb.drew = D0 := ⟨_, rfl⟩
              rw [hD0] at hHeld ⊢
              clear hD0
              refine wpAnyH_ready (rs := [2]) (by kernel_rfl) (by simp) ?_
              refine AllReadyH.cons rfl (fun K hK => ?_) AllReadyH.nil
              refine if_wanted rfl ?_
              go_simp
              refine (HH.out D0 hHeld).mono ?_
              rintro e w3 ⟨rfl, rfl⟩
              dsimp only
              refine hK.out _ _ hHeld (fun hHeld => ?_)
              clear hK K
              try simp only [Act.put, List.getElem_toArray, List.getElem_cons_zero, List.getElem_cons_succ, List.setIfInBounds_toArray, List.set_cons_zero, List.set_cons_succ]
              refine wpAnyH_take (i := 3) (v := .bool true) rfl (by kernel_rfl) (by kernel_rfl) (by kernel_rfl) (fun _ _ _ h => h) (Or.inl ⟨by rfl, fun w' h => by (go_simp <;> omega)⟩) (by assumption) ?_
              try simp only [Act.put, List.getElem_toArray, List.getElem_cons_zero, List.getElem_cons_succ, List.setIfInBounds_toArray, List.set_cons_zero, List.set_cons_succ]
              refine wpAnyH_take (i := 4) (v := .bool true) rfl (by kernel_rfl) (by kernel_rfl) (by kernel_rfl) (fun _ _ _ h => h) (Or.inl ⟨by rfl, fun w' h => by (go_simp <;> omega)⟩) (by assumption) ?_
              try simp only [Act.put, List.getElem_toArray, List.getElem_cons_zero, List.getElem_cons_succ, List.setIfInBounds_toArray, List.set_cons_zero, List.set_cons_succ]
              refine wpAnyH_take (i := 5) (v := .int .i64 bb) rfl (by kernel_rfl) (by kernel_rfl) (by kernel_rfl) (fun _ _ _ h => h) (Or.inl ⟨by rfl, fun w' h => by go_simp⟩) (by assumption) ?_
              try simp only [Act.put, List.getElem_toArray, List.getElem_cons_zero, List.getElem_cons_succ, List.setIfInBounds_toArray, List.set_cons_zero, List.set_cons_succ]
              refine wpAnyH_take (i := 6) (v := .bool true) rfl (by kernel_rfl) (by kernel_rfl) (by kernel_rfl) (fun _ _ _ h => h) (Or.inl ⟨by rfl, fun w' h => by (go_simp <;> omega)⟩) (by assumption) ?_
              try simp only [Act.put, List.getElem_toArray, List.getElem_cons_zero, List.getElem_cons_succ, List.setIfInBounds_toArray, List.set_cons_zero, List.set_cons_succ]
              refine wpAnyH_take (i := 7) (v := .bool true) rfl (by kernel_rfl) (by kernel_rfl) (by kernel_rfl) (fun _ _ _ h => h) (Or.inl ⟨by rfl, fun w' h => by (go_simp <;> omega)⟩) (by assumption) ?_
              try simp only [Act.put, List.getElem_toArray, List.getElem_cons_zero, List.getElem_cons_succ, List.setIfInBounds_toArray, List.set_cons_zero, List.set_cons_succ]
              refine wpAnyH_take (i := 8) (v := undef) rfl (by kernel_rfl) (by kernel_rfl) (by kernel_rfl) (fun _ _ _ h => h) (Or.inr ⟨by rfl, rfl⟩) (by assumption) ?_
              try simp only [Act.put, List.getElem_toArray, List.getElem_cons_zero, List.getElem_cons_succ, List.setIfInBounds_toArray, List.set_cons_zero, List.set_cons_succ]
              refine wpAnyH_take (i := 9) (v := undef) rfl (by kernel_rfl) (by kernel_rfl) (by kernel_rfl) (fun _ _ _ h => h) (Or.inr ⟨by rfl, rfl⟩) (by assumption) ?_
              try simp only [Act.put, List.getElem_toArray, List.getElem_cons_zero, List.getElem_cons_succ, List.setIfInBounds_toArray, List.set_cons_zero, List.set_cons_succ]
              refine wpAnyH_take (i := 10) (v := undef) rfl (by kernel_rfl) (by kernel_rfl) (by kernel_rfl) (fun _ _ _ h => h) (Or.inr ⟨by rfl, rfl⟩) (by assumption) ?_
              try simp only [Act.put, List.getElem_toArray, List.getElem_cons_zero, List.getElem_cons_succ, List.setIfInBounds_toArray, List.set_cons_zero, List.set_cons_succ]
              refine wpAnyH_take (i := 11) (v := undef) rfl (by kernel_rfl) (by kernel_rfl) (by kernel_rfl) (fun _ _ _ h => h) (Or.inr ⟨by rfl, rfl⟩) (by assumption) ?_
              try simp only [Act.put, List.getElem_toArray, List.getElem_cons_zero, List.getElem_cons_succ, List.setIfInBounds_toArray, List.set_cons_zero, List.set_cons_succ]
              refine wpAnyH_take (i := 12) (v := undef) rfl (by kernel_rfl) (by kernel_rfl) (by kernel_rfl) (fun _ _ _ h => h) (Or.inr ⟨by rfl, rfl⟩) (by assumption) ?_
              try simp only [Act.put, List.getElem_toArray, List.getElem_cons_zero, List.getElem_cons_succ, List.setIfInBounds_toArray, List.set_cons_zero, List.set_cons_succ]
              refine wpAnyH_take (i := 13) (v := undef) rfl (by kernel_rfl) (by kernel_rfl) (by kernel_rfl) (fun _ _ _ h => h) (Or.inr ⟨by rfl, rfl⟩) (by assumption) ?_
              try simp only [Act.put, List.getElem_toArray, List.getElem_cons_zero, List.getElem_cons_succ, List.setIfInBounds_toArray, List.set_cons_zero, List.set_cons_succ]
              refine wpAnyH_take (i := 14) (v := undef) rfl (by kernel_rfl) (by kernel_rfl) (by kernel_rfl) (fun _ _ _ h => h) (Or.inr ⟨by rfl, rfl⟩) (by assumption) ?_
              try simp only [Act.put, List.getElem_toArray, List.getElem_cons_zero, List.getElem_cons_succ, List.setIfInBounds_toArray, List.set_cons_zero, List.set_cons_succ]
              refine wpAnyH_take (i := 15) (v := undef) rfl (by kernel_rfl) (by kernel_rfl) (by kernel_rfl) (fun _ _ _ h => h) (Or.inr ⟨by rfl, rfl⟩) (by assumption) ?_
              try simp only [Act.put, List.getElem_toArray, List.getElem_cons_zero, List.getElem_cons_succ, List.setIfInBounds_toArray, List.set_cons_zero, List.set_cons_succ]
              refine wpAnyH_take (i := 16) (v := undef) rfl (by kernel_rfl) (by kernel_rfl) (by kernel_rfl) (fun _ _ _ h => h) (Or.inr ⟨by rfl, rfl⟩) (by assumption) ?_
              try simp only [Act.put, List.getElem_toArray, List.getElem_cons_zero, List.getElem_cons_succ, List.setIfInBounds_toArray, List.set_cons_zero, List.set_cons_succ]
              refine wpAnyH_take (i := 17) (v := .bool true) rfl (by kernel_rfl) (by kernel_rfl) (by kernel_rfl) (fun _ _ _ h => h) (Or.inl ⟨by rfl, fun w' h => by (go_simp <;> omega)⟩) (by assumption) ?_
              try simp only [Act.put, List.getElem_toArray, List.getElem_cons_zero, List.getElem_cons_succ, List.setIfInBounds_toArray, List.set_cons_zero, List.set_cons_succ]
              refine wpAnyH_take (i := 18) (v := .bool true) rfl (by kernel_rfl) (by kernel_rfl) (by kernel_rfl) (fun _ _ _ h => h) (Or.inl ⟨by rfl, fun w' h => by (go_simp <;> omega)⟩) (by assumption) ?_
              try simp only [Act.put, List.getElem_toArray, List.getElem_cons_zero, List.getElem_cons_succ, List.setIfInBounds_toArray, List.set_cons_zero, List.set_cons_succ]
              refine wpAnyH_done (by kernel_rfl) ?_ _
              try simp only [Act.put, List.getElem_toArray, List.getElem_cons_zero, List.getElem_cons_succ, List.setIfInBounds_toArray, List.set_cons_zero, List.set_cons_succ]
              have hb := hHeld
              clear hHeld
              have HB4 := Lib.hid (HB2.out.trans (hb.mono HB2.out.size))
              clear hb
              go_wp2
              go_roundw
              case rel => exact ⟨k + 1, k, by omega, by go_num, rfl, HM2.out, HB4.out⟩
              case measure => simp [intOf]; omega
            · have hbk : bb < k := by rcases HM.out with ⟨h, -⟩ | ⟨h, -⟩ <;> omega
              obtain ⟨b, rfl⟩ : ∃ b : Nat, bb = (b : Int) := ⟨bb.toNat, by omega⟩
              have hb0 : (0 : Int) ≤ (b : Int) := Int.natCast_nonneg _
              have hb8 : (b : Int) < N := by omega
              have d1 := (HB2.out.cell (p := ⟨gS, k, none⟩) hgl).trans (HRs.out k hlt2)
              have d2 := (HB2.out.cell (p := ⟨gS, b, none⟩) hgl).trans (HRs.out b (by omega))
              by_cases hls : s.getD k 0 < s.getD b 0
              · have HM2 := Lib.hid (HM.out.less (by omega) hni hls)
                obtain ⟨x, hx⟩ : ∃ x, s.getD k 0 = x := ⟨_, rfl⟩
                obtain ⟨y, hy⟩ : ∃ y, s.getD b 0 = y := ⟨_, rfl⟩
                rw [hx] at d1 hls
                rw [hy] at d2 hls
                clear hv hni hx hy
                go_wp2_with fail
                refine wp_region_held_drew (S := fun w' => Below wb.heap.size wb w') (by kernel_rfl) (Below.refl _ _).drew (fun hHeld => ?_)
                refine wpAnyH_take (i := 0) (v := .slice A1 t c1) rfl (by kernel_rfl) (by kernel_rfl) (by kernel_rfl) (fun _ _ _ h => h) (Or.inl ⟨by rfl, fun w' h => by go_simp⟩) (by assumption) ?_
                try simp only [Act.put, List.getElem_toArray, List.getElem_cons_zero, List.getElem_cons_succ, List.setIfInBounds_toArray, List.set_cons_zero, List.set_cons_succ]
                refine wpAnyH_take (i := 1) (v := .int .i64 k) rfl (by kernel_rfl) (by kernel_rfl) (by kernel_rfl) (fun _ _ _ h => h) (Or.inl ⟨by rfl, fun w' h => by go_simp⟩) (by assumption) ?_
                try simp only [Act.put, List.getElem_toArray, List.getElem_cons_zero, List.getElem_cons_succ, List.setIfInBounds_toArray, List.set_cons_zero, List.set_cons_succ]
                obtain ⟨D0, hD0⟩ : ∃ D0, wb.drew = D0 := ⟨_, rfl⟩
                rw [hD0] at hHeld ⊢
                clear hD0
                refine wpAnyH_ready (rs := [2]) (by kernel_rfl) (by simp) ?_
                refine AllReadyH.cons rfl (fun K hK => ?_) AllReadyH.nil
                refine if_wanted rfl ?_
                go_simp
                refine (HH.out D0 hHeld).mono ?_
                rintro e w3 ⟨rfl, rfl⟩
                dsimp only
                refine hK.out _ _ hHeld (fun hHeld => ?_)
                clear hK K
                try simp only [Act.put, List.getElem_toArray, List.getElem_cons_zero, List.getElem_cons_succ, List.setIfInBounds_toArray, List.set_cons_zero, List.set_cons_succ]
                refine wpAnyH_take (i := 3) (v := .bool true) rfl (by kernel_rfl) (by kernel_rfl) (by kernel_rfl) (fun _ _ _ h => h) (Or.inl ⟨by rfl, fun w' h => by (go_simp <;> omega)⟩) (by assumption) ?_
                try simp only [Act.put, List.getElem_toArray, List.getElem_cons_zero, List.getElem_cons_succ, List.setIfInBounds_toArray, List.set_cons_zero, List.set_cons_succ]
                refine wpAnyH_take (i := 4) (v := .bool true) rfl (by kernel_rfl) (by kernel_rfl) (by kernel_rfl) (fun _ _ _ h => h) (Or.inl ⟨by rfl, fun w' h => by (go_simp <;> omega)⟩) (by assumption) ?_
                try simp only [Act.put, List.getElem_toArray, List.getElem_cons_zero, List.getElem_cons_succ, List.setIfInBounds_toArray, List.set_cons_zero, List.set_cons_succ]
                refine wpAnyH_take (i := 5) (v := .int .i64 b) rfl (by kernel_rfl) (by kernel_rfl) (by kernel_rfl) (fun _ _ _ h => h) (Or.inl ⟨by rfl, fun w' h => by go_simp⟩) (by assumption) ?_
                try simp only [Act.put, List.getElem_toArray, List.getElem_cons_zero, List.getElem_cons_succ, List.setIfInBounds_toArray, List.set_cons_zero, List.set_cons_succ]
                refine wpAnyH_take (i := 6) (v := .bool false) rfl (by kernel_rfl) (by kernel_rfl) (by kernel_rfl) (fun _ _ _ h => h) (Or.inl ⟨by rfl, fun w' h => by (go_simp <;> omega)⟩) (by assumption) ?_
                try simp only [Act.put, List.getElem_toArray, List.getElem_cons_zero, List.getElem_cons_succ, List.setIfInBounds_toArray, List.set_cons_zero, List.set_cons_succ]
                refine wpAnyH_take (i := 7) (v := .bool false) rfl (by kernel_rfl) (by kernel_rfl) (by kernel_rfl) (fun _ _ _ h => h) (Or.inl ⟨by rfl, fun w' h => by (go_simp <;> omega)⟩) (by assumption) ?_
                try simp only [Act.put, List.getElem_toArray, List.getElem_cons_zero, List.getElem_cons_succ, List.setIfInBounds_toArray, List.set_cons_zero, List.set_cons_succ]
                refine wpAnyH_take (i := 8) (v := .slice (some ⟨gS, 0, none⟩) N N) rfl (by kernel_rfl) (by kernel_rfl) (by kernel_rfl) (fun _ _ _ h => h) (Or.inl ⟨by rfl, fun w' h => by go_simp⟩) (by assumption) ?_
                try simp only [Act.put, List.getElem_toArray, List.getElem_cons_zero, List.getElem_cons_succ, List.setIfInBounds_toArray, List.set_cons_zero, List.set_cons_succ]
                refine wpAnyH_take (i := 9) (v := .int .i64 k) rfl (by kernel_rfl) (by kernel_rfl) (by kernel_rfl) (fun _ _ _ h => h) (Or.inl ⟨by rfl, fun w' h => by go_simp⟩) (by assumption) ?_
                try simp only [Act.put, List.getElem_toArray, List.getElem_cons_zero, List.getElem_cons_succ, List.setIfInBounds_toArray, List.set_cons_zero, List.set_cons_succ]
                refine wpAnyH_take (i := 10) (v := .pointer (some ⟨gS, k, none⟩)) rfl (by kernel_rfl) (by kernel_rfl) (by kernel_rfl) (fun _ _ _ h => h) (Or.inl ⟨by rfl, fun w' h => by go_simp⟩) (by assumption) ?_
                try simp only [Act.put, List.getElem_toArray, List.getElem_cons_zero, List.getElem_cons_succ, List.setIfInBounds_toArray, List.set_cons_zero, List.set_cons_succ]
                refine wpAnyH_take (i := 11) (v := .int .i64 x) rfl (by kernel_rfl) (by kernel_rfl) (by kernel_rfl) (fun _ _ _ h => h) (Or.inl ⟨by rfl, fun w' h => by have g1 := (h.cell (p := ⟨gS, k, none⟩) hgl2).trans d1; go_simp⟩) (by assumption) ?_
                try simp only [Act.put, List.getElem_toArray, List.getElem_cons_zero, List.getElem_cons_succ, List.setIfInBounds_toArray, List.set_cons_zero, List.set_cons_succ]
                refine wpAnyH_take (i := 12) (v := .slice (some ⟨gS, 0, none⟩) N N) rfl (by kernel_rfl) (by kernel_rfl) (by kernel_rfl) (fun _ _ _ h => h) (Or.inl ⟨by rfl, fun w' h => by go_simp⟩) (by assumption) ?_
                try simp only [Act.put, List.getElem_toArray, List.getElem_cons_zero, List.getElem_cons_succ, List.setIfInBounds_toArray, List.set_cons_zero, List.set_cons_succ]
                refine wpAnyH_take (i := 13) (v := .int .i64 b) rfl (by kernel_rfl) (by kernel_rfl) (by kernel_rfl) (fun _ _ _ h => h) (Or.inl ⟨by rfl, fun w' h => by go_simp⟩) (by assumption) ?_
                try simp only [Act.put, List.getElem_toArray, List.getElem_cons_zero, List.getElem_cons_succ, List.setIfInBounds_toArray, List.set_cons_zero, List.set_cons_succ]
                refine wpAnyH_take (i := 14) (v := .pointer (some ⟨gS, b, none⟩)) rfl (by kernel_rfl) (by kernel_rfl) (by kernel_rfl) (fun _ _ _ h => h) (Or.inl ⟨by rfl, fun w' h => by go_simp⟩) (by assumption) ?_
                try simp only [Act.put, List.getElem_toArray, List.getElem_cons_zero, List.getElem_cons_succ, List.setIfInBounds_toArray, List.set_cons_zero, List.set_cons_succ]
                refine wpAnyH_take (i := 15) (v := .int .i64 y) rfl (by kernel_rfl) (by kernel_rfl) (by kernel_rfl) (fun _ _ _ h => h) (Or.inl ⟨by rfl, fun w' h => by have g1 := (h.cell (p := ⟨gS, b, none⟩) hgl2).trans d2; go_simp⟩) (by assumption) ?_
                try simp only [Act.put, List.getElem_toArray, List.getElem_cons_zero, List.getElem_cons_succ, List.setIfInBounds_toArray, List.set_cons_zero, List.set_cons_succ]
                refine wpAnyH_take (i := 16) (v := .bool true) rfl (by kernel_rfl) (by kernel_rfl) (by kernel_rfl) (fun _ _ _ h => h) (Or.inl ⟨by rfl, fun w' h => by (go_simp <;> omega)⟩) (by assumption) ?_
                try simp only [Act.put, List.getElem_toArray, List.getElem_cons_zero, List.getElem_cons_succ, List.setIfInBounds_toArray, List.set_cons_zero, List.set_cons_succ]
                refine wpAnyH_take (i := 17) (v := .bool true) rfl (by kernel_rfl) (by kernel_rfl) (by kernel_rfl) (fun _ _ _ h => h) (Or.inl ⟨by rfl, fun w' h => by (go_simp <;> omega)⟩) (by assumption) ?_
                try simp only [Act.put, List.getElem_toArray, List.getElem_cons_zero, List.getElem_cons_succ, List.setIfInBounds_toArray, List.set_cons_zero, List.set_cons_succ]
                refine wpAnyH_take (i := 18) (v := .bool true) rfl (by kernel_rfl) (by kernel_rfl) (by kernel_rfl) (fun _ _ _ h => h) (Or.inl ⟨by rfl, fun w' h => by (go_simp <;> omega)⟩) (by assumption) ?_
                try simp only [Act.put, List.getElem_toArray, List.getElem_cons_zero, List.getElem_cons_succ, List.setIfInBounds_toArray, List.set_cons_zero, List.set_cons_succ]
                refine wpAnyH_done (by kernel_rfl) ?_ _
                try simp only [Act.put, List.getElem_toArray, List.getElem_cons_zero, List.getElem_cons_succ, List.setIfInBounds_toArray, List.set_cons_zero, List.set_cons_succ]
                have hb := hHeld
                clear hHeld
                have HB4 := Lib.hid (HB2.out.trans (hb.mono HB2.out.size))
                clear hb
                go_wp2
                go_roundw
                case rel => exact ⟨k + 1, k, by omega, by go_num, rfl, HM2.out, HB4.out⟩
                case measure => simp [intOf]; omega
              · have HM2 := Lib.hid (HM.out.stay (by omega) hni hls)
                obtain ⟨x, hx⟩ : ∃ x, s.getD k 0 = x := ⟨_, rfl⟩
                obtain ⟨y, hy⟩ : ∃ y, s.getD b 0 = y := ⟨_, rfl⟩
                rw [hx] at d1 hls
                rw [hy] at d2 hls
                clear hv hni hx hy
                go_wp2_with fail
                refine wp_region_held_drew (S := fun w' => Below wb.heap.size wb w') (by kernel_rfl) (Below.refl _ _).drew (fun hHeld => ?_)
                refine wpAnyH_take (i := 0) (v := .slice A1 t c1) rfl (by kernel_rfl) (by kernel_rfl) (by kernel_rfl) (fun _ _ _ h => h) (Or.inl ⟨by rfl, fun w' h => by go_simp⟩) (by assumption) ?_
                try simp only [Act.put, List.getElem_toArray, List.getElem_cons_zero, List.getElem_cons_succ, List.setIfInBounds_toArray, List.set_cons_zero, List.set_cons_succ]
                refine wpAnyH_take (i := 1) (v := .int .i64 k) rfl (by kernel_rfl) (by kernel_rfl) (by kernel_rfl) (fun _ _ _ h => h) (Or.inl ⟨by rfl, fun w' h => by go_simp⟩) (by assumption) ?_
                try simp only [Act.put, List.getElem_toArray, List.getElem_cons_zero, List.getElem_cons_succ, List.setIfInBounds_toArray, List.set_cons_zero, List.set_cons_succ]
                obtain ⟨D0, hD0⟩ : ∃ D0, wb.drew = D0 := ⟨_, rfl⟩
                rw [hD0] at hHeld ⊢
                clear hD0
                refine wpAnyH_ready (rs := [2]) (by kernel_rfl) (by simp) ?_
                refine AllReadyH.cons rfl (fun K hK => ?_) AllReadyH.nil
                refine if_wanted rfl ?_
                go_simp
                refine (HH.out D0 hHeld).mono ?_
                rintro e w3 ⟨rfl, rfl⟩
                dsimp only
                refine hK.out _ _ hHeld (fun hHeld => ?_)
                clear hK K
                try simp only [Act.put, List.getElem_toArray, List.getElem_cons_zero, List.getElem_cons_succ, List.setIfInBounds_toArray, List.set_cons_zero, List.set_cons_succ]
                refine wpAnyH_take (i := 3) (v := .bool true) rfl (by kernel_rfl) (by kernel_rfl) (by kernel_rfl) (fun _ _ _ h => h) (Or.inl ⟨by rfl, fun w' h => by (go_simp <;> omega)⟩) (by assumption) ?_
                try simp only [Act.put, List.getElem_toArray, List.getElem_cons_zero, List.getElem_cons_succ, List.setIfInBounds_toArray, List.set_cons_zero, List.set_cons_succ]
                refine wpAnyH_take (i := 4) (v := .bool true) rfl (by kernel_rfl) (by kernel_rfl) (by kernel_rfl) (fun _ _ _ h => h) (Or.inl ⟨by rfl, fun w' h => by (go_simp <;> omega)⟩) (by assumption) ?_
                try simp only [Act.put, List.getElem_toArray, List.getElem_cons_zero, List.getElem_cons_succ, List.setIfInBounds_toArray, List.set_cons_zero, List.set_cons_succ]
                refine wpAnyH_take (i := 5) (v := .int .i64 b) rfl (by kernel_rfl) (by kernel_rfl) (by kernel_rfl) (fun _ _ _ h => h) (Or.inl ⟨by rfl, fun w' h => by go_simp⟩) (by assumption) ?_
                try simp only [Act.put, List.getElem_toArray, List.getElem_cons_zero, List.getElem_cons_succ, List.setIfInBounds_toArray, List.set_cons_zero, List.set_cons_succ]
                refine wpAnyH_take (i := 6) (v := .bool false) rfl (by kernel_rfl) (by kernel_rfl) (by kernel_rfl) (fun _ _ _ h => h) (Or.inl ⟨by rfl, fun w' h => by (go_simp <;> omega)⟩) (by assumption) ?_
                try simp only [Act.put, List.getElem_toArray, List.getElem_cons_zero, List.getElem_cons_succ, List.setIfInBounds_toArray, List.set_cons_zero, List.set_cons_succ]
                refine wpAnyH_take (i := 7) (v := .bool false) rfl (by kernel_rfl) (by kernel_rfl) (by kernel_rfl) (fun _ _ _ h => h) (Or.inl ⟨by rfl, fun w' h => by (go_simp <;> omega)⟩) (by assumption) ?_
                try simp only [Act.put, List.getElem_toArray, List.getElem_cons_zero, List.getElem_cons_succ, List.setIfInBounds_toArray, List.set_cons_zero, List.set_cons_succ]
                refine wpAnyH_take (i := 8) (v := .slice (some ⟨gS, 0, none⟩) N N) rfl (by kernel_rfl) (by kernel_rfl) (by kernel_rfl) (fun _ _ _ h => h) (Or.inl ⟨by rfl, fun w' h => by go_simp⟩) (by assumption) ?_
                try simp only [Act.put, List.getElem_toArray, List.getElem_cons_zero, List.getElem_cons_succ, List.setIfInBounds_toArray, List.set_cons_zero, List.set_cons_succ]
                refine wpAnyH_take (i := 9) (v := .int .i64 k) rfl (by kernel_rfl) (by kernel_rfl) (by kernel_rfl) (fun _ _ _ h => h) (Or.inl ⟨by rfl, fun w' h => by go_simp⟩) (by assumption) ?_
                try simp only [Act.put, List.getElem_toArray, List.getElem_cons_zero, List.getElem_cons_succ, List.setIfInBounds_toArray, List.set_cons_zero, List.set_cons_succ]
                refine wpAnyH_take (i := 10) (v := .pointer (some ⟨gS, k, none⟩)) rfl (by kernel_rfl) (by kernel_rfl) (by kernel_rfl) (fun _ _ _ h => h) (Or.inl ⟨by rfl, fun w' h => by go_simp⟩) (by assumption) ?_
                try simp only [Act.put, List.getElem_toArray, List.getElem_cons_zero, List.getElem_cons_succ, List.setIfInBounds_toArray, List.set_cons_zero, List.set_cons_succ]
                refine wpAnyH_take (i := 11) (v := .int .i64 x) rfl (by kernel_rfl) (by kernel_rfl) (by kernel_rfl) (fun _ _ _ h => h) (Or.inl ⟨by rfl, fun w' h => by have g1 := (h.cell (p := ⟨gS, k, none⟩) hgl2).trans d1; go_simp⟩) (by assumption) ?_
                try simp only [Act.put, List.getElem_toArray, List.getElem_cons_zero, List.getElem_cons_succ, List.setIfInBounds_toArray, List.set_cons_zero, List.set_cons_succ]
                refine wpAnyH_take (i := 12) (v := .slice (some ⟨gS, 0, none⟩) N N) rfl (by kernel_rfl) (by kernel_rfl) (by kernel_rfl) (fun _ _ _ h => h) (Or.inl ⟨by rfl, fun w' h => by go_simp⟩) (by assumption) ?_
                try simp only [Act.put, List.getElem_toArray, List.getElem_cons_zero, List.getElem_cons_succ, List.setIfInBounds_toArray, List.set_cons_zero, List.set_cons_succ]
                refine wpAnyH_take (i := 13) (v := .int .i64 b) rfl (by kernel_rfl) (by kernel_rfl) (by kernel_rfl) (fun _ _ _ h => h) (Or.inl ⟨by rfl, fun w' h => by go_simp⟩) (by assumption) ?_
                try simp only [Act.put, List.getElem_toArray, List.getElem_cons_zero, List.getElem_cons_succ, List.setIfInBounds_toArray, List.set_cons_zero, List.set_cons_succ]
                refine wpAnyH_take (i := 14) (v := .pointer (some ⟨gS, b, none⟩)) rfl (by kernel_rfl) (by kernel_rfl) (by kernel_rfl) (fun _ _ _ h => h) (Or.inl ⟨by rfl, fun w' h => by go_simp⟩) (by assumption) ?_
                try simp only [Act.put, List.getElem_toArray, List.getElem_cons_zero, List.getElem_cons_succ, List.setIfInBounds_toArray, List.set_cons_zero, List.set_cons_succ]
                refine wpAnyH_take (i := 15) (v := .int .i64 y) rfl (by kernel_rfl) (by kernel_rfl) (by kernel_rfl) (fun _ _ _ h => h) (Or.inl ⟨by rfl, fun w' h => by have g1 := (h.cell (p := ⟨gS, b, none⟩) hgl2).trans d2; go_simp⟩) (by assumption) ?_
                try simp only [Act.put, List.getElem_toArray, List.getElem_cons_zero, List.getElem_cons_succ, List.setIfInBounds_toArray, List.set_cons_zero, List.set_cons_succ]
                refine wpAnyH_take (i := 16) (v := .bool false) rfl (by kernel_rfl) (by kernel_rfl) (by kernel_rfl) (fun _ _ _ h => h) (Or.inl ⟨by rfl, fun w' h => by (go_simp <;> omega)⟩) (by assumption) ?_
                try simp only [Act.put, List.getElem_toArray, List.getElem_cons_zero, List.getElem_cons_succ, List.setIfInBounds_toArray, List.set_cons_zero, List.set_cons_succ]
                refine wpAnyH_take (i := 17) (v := .bool false) rfl (by kernel_rfl) (by kernel_rfl) (by kernel_rfl) (fun _ _ _ h => h) (Or.inl ⟨by rfl, fun w' h => by (go_simp <;> omega)⟩) (by assumption) ?_
                try simp only [Act.put, List.getElem_toArray, List.getElem_cons_zero, List.getElem_cons_succ, List.setIfInBounds_toArray, List.set_cons_zero, List.set_cons_succ]
                refine wpAnyH_take (i := 18) (v := .bool false) rfl (by kernel_rfl) (by kernel_rfl) (by kernel_rfl) (fun _ _ _ h => h) (Or.inl ⟨by rfl, fun w' h => by (go_simp <;> omega)⟩) (by assumption) ?_
                try simp only [Act.put, List.getElem_toArray, List.getElem_cons_zero, List.getElem_cons_succ, List.setIfInBounds_toArray, List.set_cons_zero, List.set_cons_succ]
                refine wpAnyH_done (by kernel_rfl) ?_ _
                try simp only [Act.put, List.getElem_toArray, List.getElem_cons_zero, List.getElem_cons_succ, List.setIfInBounds_toArray, List.set_cons_zero, List.set_cons_succ]
                have hb := hHeld
                clear hHeld
                have HB4 := Lib.hid (HB2.out.trans (hb.mono HB2.out.size))
                clear hb
                go_wp2
                go_roundw
                case rel => exact ⟨k + 1, b, by omega, by go_num, rfl, HM2.out, HB4.out⟩
                case measure => simp [intOf]; omega
          · rw [hv] at HH
            have HM2 := Lib.hid (HM.out.has (has_ok hv))
            clear hv
            go_wp2_with fail
            refine wp_region_held_drew (S := fun w' => Below wb.heap.size wb w') (by kernel_rfl) (Below.refl _ _).drew (fun hHeld => ?_)
            refine wpAnyH_take (i := 0) (v := .slice A1 t c1) rfl (by kernel_rfl) (by kernel_rfl) (by kernel_rfl) (fun _ _ _ h => h) (Or.inl ⟨by rfl, fun w' h => by go_simp⟩) (by assumption) ?_
            try simp only [Act.put, List.getElem_toArray, List.getElem_cons_zero, List.getElem_cons_succ, List.setIfInBounds_toArray, List.set_cons_zero, List.set_cons_succ]
            refine wpAnyH_take (i := 1) (v := .int .i64 k) rfl (by kernel_rfl) (by kernel_rfl) (by kernel_rfl) (fun _ _ _ h => h) (Or.inl ⟨by rfl, fun w' h => by go_simp⟩) (by assumption) ?_
            try simp only [Act.put, List.getElem_toArray, List.getElem_cons_zero, List.getElem_cons_succ, List.setIfInBounds_toArray, List.set_cons_zero, List.set_cons_succ]
            obtain ⟨D0, hD0⟩ : ∃ D0, wb.drew = D0 := ⟨_, rfl⟩
            rw [hD0] at hHeld ⊢
            clear hD0
            refine wpAnyH_ready (rs := [2]) (by kernel_rfl) (by simp) ?_
            refine AllReadyH.cons rfl (fun K hK => ?_) AllReadyH.nil
            refine if_wanted rfl ?_
            go_simp
            refine (HH.out D0 hHeld).mono ?_
            rintro e w3 ⟨rfl, rfl⟩
            dsimp only
            refine hK.out _ _ hHeld (fun hHeld => ?_)
            clear hK K
            try simp only [Act.put, List.getElem_toArray, List.getElem_cons_zero, List.getElem_cons_succ, List.setIfInBounds_toArray, List.set_cons_zero, List.set_cons_succ]
            refine wpAnyH_take (i := 3) (v := .bool false) rfl (by kernel_rfl) (by kernel_rfl) (by kernel_rfl) (fun _ _ _ h => h) (Or.inl ⟨by rfl, fun w' h => by (go_simp <;> omega)⟩) (by assumption) ?_
            try simp only [Act.put, List.getElem_toArray, List.getElem_cons_zero, List.getElem_cons_succ, List.setIfInBounds_toArray, List.set_cons_zero, List.set_cons_succ]
            refine wpAnyH_take (i := 4) (v := .bool false) rfl (by kernel_rfl) (by kernel_rfl) (by kernel_rfl) (fun _ _ _ h => h) (Or.inl ⟨by rfl, fun w' h => by (go_simp <;> omega)⟩) (by assumption) ?_
            try simp only [Act.put, List.getElem_toArray, List.getElem_cons_zero, List.getElem_cons_succ, List.setIfInBounds_toArray, List.set_cons_zero, List.set_cons_succ]
            refine wpAnyH_take (i := 5) (v := undef) rfl (by kernel_rfl) (by kernel_rfl) (by kernel_rfl) (fun _ _ _ h => h) (Or.inr ⟨by rfl, rfl⟩) (by assumption) ?_
            try simp only [Act.put, List.getElem_toArray, List.getElem_cons_zero, List.getElem_cons_succ, List.setIfInBounds_toArray, List.set_cons_zero, List.set_cons_succ]
            refine wpAnyH_take (i := 6) (v := undef) rfl (by kernel_rfl) (by kernel_rfl) (by kernel_rfl) (fun _ _ _ h => h) (Or.inr ⟨by rfl, rfl⟩) (by assumption) ?_
            try simp only [Act.put, List.getElem_toArray, List.getElem_cons_zero, List.getElem_cons_succ, List.setIfInBounds_toArray, List.set_cons_zero, List.set_cons_succ]
            refine wpAnyH_take (i := 7) (v := undef) rfl (by kernel_rfl) (by kernel_rfl) (by kernel_rfl) (fun _ _ _ h => h) (Or.inr ⟨by rfl, rfl⟩) (by assumption) ?_
            try simp only [Act.put, List.getElem_toArray, List.getElem_cons_zero, List.getElem_cons_succ, List.setIfInBounds_toArray, List.set_cons_zero, List.set_cons_succ]
            refine wpAnyH_take (i := 8) (v := undef) rfl (by kernel_rfl) (by kernel_rfl) (by kernel_rfl) (fun _ _ _ h => h) (Or.inr ⟨by rfl, rfl⟩) (by assumption) ?_
            try simp only [Act.put, List.getElem_toArray, List.getElem_cons_zero, List.getElem_cons_succ, List.setIfInBounds_toArray, List.set_cons_zero, List.set_cons_succ]
            refine wpAnyH_take (i := 9) (v := undef) rfl (by kernel_rfl) (by kernel_rfl) (by kernel_rfl) (fun _ _ _ h => h) (Or.inr ⟨by rfl, rfl⟩) (by assumption) ?_
            try simp only [Act.put, List.getElem_toArray, List.getElem_cons_zero, List.getElem_cons_succ, List.setIfInBounds_toArray, List.set_cons_zero, List.set_cons_succ]
            refine wpAnyH_take (i := 10) (v := undef) rfl (by kernel_rfl) (by kernel_rfl) (by kernel_rfl) (fun _ _ _ h => h) (Or.inr ⟨by rfl, rfl⟩) (by assumption) ?_
            try simp only [Act.put, List.getElem_toArray, List.getElem_cons_zero, List.getElem_cons_succ, List.setIfInBounds_toArray, List.set_cons_zero, List.set_cons_succ]
            refine wpAnyH_take (i := 11) (v := undef) rfl (by kernel_rfl) (by kernel_rfl) (by kernel_rfl) (fun _ _ _ h => h) (Or.inr ⟨by rfl, rfl⟩) (by assumption) ?_
            try simp only [Act.put, List.getElem_toArray, List.getElem_cons_zero, List.getElem_cons_succ, List.setIfInBounds_toArray, List.set_cons_zero, List.set_cons_succ]
            refine wpAnyH_take (i := 12) (v := undef) rfl (by kernel_rfl) (by kernel_rfl) (by kernel_rfl) (fun _ _ _ h => h) (Or.inr ⟨by rfl, rfl⟩) (by assumption) ?_
            try simp only [Act.put, List.getElem_toArray, List.getElem_cons_zero, List.getElem_cons_succ, List.setIfInBounds_toArray, List.set_cons_zero, List.set_cons_succ]
            refine wpAnyH_take (i := 13) (v := undef) rfl (by kernel_rfl) (by kernel_rfl) (by kernel_rfl) (fun _ _ _ h => h) (Or.inr ⟨by rfl, rfl⟩) (by assumption) ?_
            try simp only [Act.put, List.getElem_toArray, List.getElem_cons_zero, List.getElem_cons_succ, List.setIfInBounds_toArray, List.set_cons_zero, List.set_cons_succ]
            refine wpAnyH_take (i := 14) (v := undef) rfl (by kernel_rfl) (by kernel_rfl) (by kernel_rfl) (fun _ _ _ h => h) (Or.inr ⟨by rfl, rfl⟩) (by assumption) ?_
            try simp only [Act.put, List.getElem_toArray, List.getElem_cons_zero, List.getElem_cons_succ, List.setIfInBounds_toArray, List.set_cons_zero, List.set_cons_succ]
            refine wpAnyH_take (i := 15) (v := undef) rfl (by kernel_rfl) (by kernel_rfl) (by kernel_rfl) (fun _ _ _ h => h) (Or.inr ⟨by rfl, rfl⟩) (by assumption) ?_
            try simp only [Act.put, List.getElem_toArray, List.getElem_cons_zero, List.getElem_cons_succ, List.setIfInBounds_toArray, List.set_cons_zero, List.set_cons_succ]
            refine wpAnyH_take (i := 16) (v := undef) rfl (by kernel_rfl) (by kernel_rfl) (by kernel_rfl) (fun _ _ _ h => h) (Or.inr ⟨by rfl, rfl⟩) (by assumption) ?_
            try simp only [Act.put, List.getElem_toArray, List.getElem_cons_zero, List.getElem_cons_succ, List.setIfInBounds_toArray, List.set_cons_zero, List.set_cons_succ]
            refine wpAnyH_take (i := 17) (v := undef) rfl (by kernel_rfl) (by kernel_rfl) (by kernel_rfl) (fun _ _ _ h => h) (Or.inr ⟨by rfl, rfl⟩) (by assumption) ?_
            try simp only [Act.put, List.getElem_toArray, List.getElem_cons_zero, List.getElem_cons_succ, List.setIfInBounds_toArray, List.set_cons_zero, List.set_cons_succ]
            refine wpAnyH_take (i := 18) (v := .bool false) rfl (by kernel_rfl) (by kernel_rfl) (by kernel_rfl) (fun _ _ _ h => h) (Or.inl ⟨by rfl, fun w' h => by (go_simp <;> omega)⟩) (by assumption) ?_
            try simp only [Act.put, List.getElem_toArray, List.getElem_cons_zero, List.getElem_cons_succ, List.setIfInBounds_toArray, List.set_cons_zero, List.set_cons_succ]
            refine wpAnyH_done (by kernel_rfl) ?_ _
            try simp only [Act.put, List.getElem_toArray, List.getElem_cons_zero, List.getElem_cons_succ, List.setIfInBounds_toArray, List.set_cons_zero, List.set_cons_succ]
            have hb := hHeld
            clear hHeld
            have HB4 := Lib.hid (HB2.out.trans (hb.mono HB2.out.size))
            clear hb
            go_wp2
            go_roundw
            case rel => exact ⟨k + 1, bb, by omega, by go_num, rfl, HM2.out, HB4.out⟩
            case measure => simp [intOf]; omega
        · obtain rfl : k = N := by omega
          obtain ⟨hbb, hT2⟩ := HM.out.took HT.out (by rw [HOt.out]; exact hlt)
          have HT2 := Lib.hid hT2
          have HOb := Lib.hid (own_keep' HO.out HB2.out)
          have HSb : Hid (Rs wb gS 2 icells s) := Blk.keep HS.out HB2.out
          have HBb := Lib.hid (HB.out.trans (HB2.out.mono HB.out.size))
          have hgl3 : gS < wb.heap.size := Nat.lt_of_lt_of_le hgl HB2.out.size
          clear hT2 hbb HRs HRd
          go_wp2_with (at_builtin; refine wpList_append_own_at _ rfl (.tmp 48) (.tmp 50) 30 rfl w.heap.size 2 i0 (.int .i64 0) 1 8 Tryd.underlying30 HI.out HZ0.out HZ1.out HZ2.out rfl (by decide) _ _ _ rfl (HOb.out.alloc _) ⟨wb.heap.size, 0, none⟩ 1 1 [.int .i64 bb] rfl rfl ?f1 ?f2 ?f3 ?f4 ?f5 ?_)
          case f1 => exact cell_one_new _ _ _
          case f2 => simp [Value.oneCell']
          case f3 => unfold maxLen; omega
          case f4 => omega
          case f5 => have := HBb.out.size; simp; omega
          intro v' w8 hown' hgrow _ hblk
          have hown8 : w8.ownsRow w.heap.size 2 1 v' (t + 1) ((O ++ [bb]).flatMap icells) := by rw [List.flatMap_append]; exact hown'
          obtain ⟨A8, c8, rfl⟩ : ∃ A8 c8, v' = .slice A8 (t + 1) c8 := by
            rcases hown8.2 with ⟨h1, h2⟩ | ⟨g, cap, cur, h1, -⟩
            · exact ⟨_, _, by rw [h1, h2]⟩
            · exact ⟨_, _, h1⟩
          rw [ownBlock_slice] at hgrow hblk
          rw [ownBlock_slice] at hblk
          have HO8 := Lib.hid hown8
          have HS8 : Hid (Rs w8 gS 2 icells s) := gk_blk (Blk.keep HSb.out ((Below.refl _ _).alloc (Nat.le_refl _) _)) hgrow (fun e => HNe.out _ e rfl)
          have HNe8 : Hid (∀ r, A8.map (·.block) = some r → r ≠ gS) := fun r e => by
            rcases hblk with h | h
            · exact HNe.out r (h.symm.trans e)
            · rw [e] at h
              have := Option.some.inj h
              have h9 : wb.heap.size ≤ r := by rw [this]; exact Nat.le_of_lt (by simp)
              omega
          have HB8 : Hid (Below w.heap.size w w8) := (HBb.out.alloc HBb.out.size _).grown hgrow (by have := HBb.out.size; simp; omega) (fun r e => (HOb.out.lt r (by rw [ownBlock_slice]; exact e)).1)
          have HOt8 : Hid ((O ++ [bb]).length = t + 1) := by show _ = _; rw [List.length_append, HOt.out]; rfl
          clear hown' hown8 hgrow hblk
          go_wp2
          go_roundw
          case rel => exact ⟨t + 1, A8, c8, O ++ [bb], _, rfl, HOt8.out, by omega, HT2.out, HO8.out, HNe8.out, HS8.out, HB8.out⟩
          case measure => simp [lenOfS]; omega
    · obtain rfl : t = N := by omega
      have HE : Hid (O = soL s t) := HT.out.all (by omega) HOt.out
      have HLn := Lib.hid (soL_len s t)
      go_wp2
      go_ret2
      refine ⟨_, by (rw [E.out.1]; first | done | rfl), ?_, HB.out⟩
      rw [E2.out, HLn.out, ← HE.out]
      exact HO.out

set_option maxRecDepth 100000 in
set_option maxHeartbeats 1000000 in
theorem cloneI9_any (xs : List Int) (A : Option Addr) (c : Nat) (w : World) (hl : xs.length ≤ 1048576) (hr : Rd w w.heap.size icells A xs) :
    Calls Tryd.prog 47 #[.slice A xs.length c] w fun e w' => ∃ A' c', e = .returned (.slice A' xs.length c') ∧ w'.ownsRow w.heap.size 2 1 (.slice A' xs.length c') xs.length (xs.flatMap icells) ∧ Below w.heap.size w w' := by
  obtain ⟨i0, hi, hz0, hz1, hz2⟩ := info_parts Tryd.info64
  have HI := Lib.hid hi
  have HZ0 := Lib.hid hz0
  have HZ1 := Lib.hid hz1
  have HZ2 := Lib.hid hz2
  clear hi hz0 hz1 hz2
  have HR := Lib.hid hr
  cases A with
  | none =>
    have hx : xs = [] := by
      rcases Nat.eq_zero_or_pos xs.length with h | h
      · exact List.eq_nil_of_length_eq_zero h
      · obtain ⟨b, o, e, -⟩ := hr h; cases e
    subst hx
    clear hr
    have hnil : ∀ w : World, (binOp .eql 30 (.slice none 0 c) (.slice none 0 0)).run Tryd.prog w = .ok (.bool true) w := fun w => Lib.run_eql_slice_nil (P := Tryd.prog) w 30 2 none 0 c 0 0 Tryd.underlying30
    show Calls Tryd.prog 47 #[.slice none 0 c] w _
    go_enter Tryd.func47, Tryd.ntmps47
    go_wp2
    go_ret
    exact ⟨none, 0, rfl, ⟨rfl, .inl ⟨rfl, rfl⟩⟩, Below.refl _ _⟩
  | some a =>
    clear hr
    have hnil : ∀ w : World, (binOp .eql 30 (.slice (some a) xs.length c) (.slice none 0 0)).run Tryd.prog w = .ok (.bool false) w := fun w => Lib.run_eql_slice_nil (P := Tryd.prog) w 30 2 (some a) xs.length c 0 0 Tryd.underlying30
    go_enter Tryd.func47, Tryd.ntmps47
    go_wp2_with (at_builtin; refine wpList_append_any _ rfl (.tmp 5) (.tmp 6) 30 30 rfl w.heap.size 2 i0 (.int .i64 0) 1 8 Tryd.underlying30 HI.out HZ0.out HZ1.out HZ2.out rfl (by decide) _ 0 [] rfl ?own _ xs.length (xs.flatMap icells) rfl ?src ?c3 ?c4 ?c5 ?_)
    case own => exact ⟨by simp, .inr ⟨w.heap.size, 0, #[], rfl, Nat.le_refl _, heap_alloc_new w _, Nat.le_refl _, by unfold maxLen; omega, by simp, by simp⟩⟩
    case src => exact src_of_rd _ Tryd.underlying30 icells_length icells_one (HR.out.keep ((Below.refl _ w).alloc (Nat.le_refl _) _))
    case c3 => unfold maxLen; omega
    case c4 => omega
    case c5 => simp
    intro v' w2 hown hg _
    have hB : Below w.heap.size w w2 := ((Below.refl _ w).alloc (Nat.le_refl _) _).grown hg (by simp) (fun k e => by
      have e2 : w.heap.size = k := by simpa [Value.ownBlock] using e
      omega)
    have hown2 : w2.ownsRow w.heap.size 2 1 v' xs.length (xs.flatMap icells) := by simpa using hown
    obtain ⟨A', c', rfl, -, -⟩ := own_rd icells_length hown2
    have HO := Lib.hid hown2
    have HB := Lib.hid hB
    clear hown hown2 hg hB hnil
    go_wp2
    go_ret
    exact ⟨A', c', rfl, HO.out, HB.out⟩


set_option maxRecDepth 100000 in
set_option maxHeartbeats 4000000 in
theorem orderedS_any (s : List Int) (N : Nat) (h1 : 1 ≤ N) (hN : N ≤ 8) (hsl : s.length = N) (hs : ∀ x ∈ s, 0 ≤ x ∧ x ≤ 204) (Bs N0 : Nat) (A Al : Option Addr) (c cl : Nat) (w : World) (hc : w.cell? ⟨Bs, 0, none⟩ = some (.slice A s.length c)) (hr : Rd w w.heap.size icells A s) (hrl : Rd w w.heap.size icells Al (iota N)) :
    Calls Tryd.prog 26 #[.slice Al N cl, .func (.func 25) #[] #[.pointer (some ⟨Bs, 0, none⟩)]] w fun e w' => ∃ v, e = .returned v ∧ w'.ownsRow w.heap.size 2 1 v (soL s N).length ((soL s N).flatMap icells) ∧ Below w.heap.size w w' := by
  have HR := Lib.hid hr
  have HBs := block_lt_of_cell hc
  have HC := Lib.hid hc
  obtain ⟨W, hW⟩ : ∃ W, w.alloc (.cells #[.func (.func 25) #[] #[.pointer (some ⟨Bs, 0, none⟩)]] 49) = W := ⟨_, rfl⟩
  have hB0 : Below w.heap.size w W := by rw [← hW]; exact (Below.refl _ _).alloc (Nat.le_refl _) _
  have hK : Blk W w.heap.size 49 #[.func (.func 25) #[] #[.pointer (some ⟨Bs, 0, none⟩)]] := by rw [← hW]; exact Blk.new w _ _
  have hK1 : W.cell? ⟨w.heap.size, 0, none⟩ = some (.func (.func 25) #[] #[.pointer (some ⟨Bs, 0, none⟩)]) := Blk.cell hK 0
  have hlt0 : w.heap.size < W.heap.size := by rw [← hW]; simp
  have HCl := Lib.hid (cloneI9_any (iota N) Al cl W (by rw [iota_len]; omega) (hrl.keep hB0))
  rw [iota_len] at HCl
  have HB0 := Lib.hid hB0
  have HK1 := Lib.hid hK1
  clear hr hc hrl hB0 hK hK1
  go_enter Tryd.func26, Tryd.ntmps26
  go_wp2_with fail
  refine HCl.out.mono ?_
  rintro e w1 ⟨A1, c1, rfl, hO, hb⟩
  have hO' : w1.ownsRow W.heap.size 2 1 (.slice A1 N c1) (iota N).length ((iota N).flatMap icells) := by rw [iota_len]; exact hO
  obtain ⟨-, h0⟩ | ⟨g, cap, hv, hg, hOI⟩ := OI.of hO'
  · have := congrArg List.length h0
    rw [iota_len] at this
    simp at this; omega
  rw [iota_len] at hv
  simp only [Value.slice.injEq, true_and] at hv
  obtain ⟨rfl, rfl⟩ := hv
  have HB1 := Lib.hid (HB0.out.trans (hb.mono HB0.out.size))
  have hbW := hb
  have HSt := Lib.hid (stableCmp_any s N hN w.heap.size g c1 w1 (insCmp_any s N hN hsl hs w.heap.size g c1 w1 hOI (fun a b ha hb W2 hW2 => by
    have h1 : Below w.heap.size w W2 := HB1.out.trans (hW2.mono (Nat.le_trans (Nat.le_of_lt hlt0) hg))
    refine byOrd_any _ ?_ a b w.heap.size Bs W2 ?_ (bySums_any s (by omega) hs a b (by omega) (by omega) Bs w.heap.size A c W2 ((h1.cell (p := ⟨Bs, 0, none⟩) HBs).trans HC.out) (HR.out.below (Nat.le_refl _) h1))
    · have h1 := hs _ (List.mem_of_getElem? (soS_at (show a < s.length by omega)))
      have h2 := hs _ (List.mem_of_getElem? (soS_at (show b < s.length by omega)))
      omega
    · exact (hW2.cell (p := ⟨w.heap.size, 0, none⟩) (by show w.heap.size < g; omega)).trans ((hbW.cell (p := ⟨w.heap.size, 0, none⟩) hlt0).trans HK1.out))))
  have hgw : w.heap.size ≤ g := by omega
  clear hO hO' hOI hb hbW hW HCl
  go_wp2_with fail
  refine HSt.out.mono ?_
  rintro e w2 ⟨⟨v, rfl⟩, h3, h4⟩
  have HB2 := Lib.hid (HB1.out.trans (h4.mono hgw))
  have HOw := Lib.hid (h3.own hgw)
  have HLn := Lib.hid (soL_len s N)
  rw [HLn.out] at HOw
  clear h3 h4 HSt
  go_wp2
  go_ret
  refine ⟨_, rfl, ?_, HB2.out⟩
  rw [HLn.out]
  exact HOw.out

set_option maxRecDepth 100000 in
set_option maxHeartbeats 4000000 in
theorem implSumOrder_any (n : Int) (m : List (List Int)) (A : Option Addr) (c : Nat) (ad : Nat → Addr) (w : World) (hl : m.length ≤ 1048576) (hx : ∀ xs ∈ m, xs.length ≤ 1048576) (hr : RdN w w.heap.size icells A m) (hE : EW 7 w ad) :
    Calls Tryd.prog 10 #[.int .i64 n, .slice A m.length c] w fun e w' => ∃ v, e = .returned (.tuple #[v, .int .i64 (mkC n m)]) ∧ w'.ownsRow w.heap.size 2 1 v (sdA n m).length ((sdA n m).flatMap icells) ∧ Below w.heap.size w w' := by
  have HCm := Lib.hid (implRankSums_any n m A c ad w hl hx hr hE)
  clear hr hE hx
  go_enter Tryd.func10, Tryd.ntmps10
  go_wp2_with fail
  refine HCm.out.mono ?_
  rintro e w1 ⟨v, rfl, hO, hb⟩
  obtain ⟨A1, c1, rfl, -, -⟩ := own_rd icells_length hO
  have hRd := own_rd2 icells_length hO
  obtain ⟨W, hW⟩ : ∃ W, w1.alloc (.cells #[.slice A1 (rsA n m).length c1] 30) = W := ⟨_, rfl⟩
  have hBW : Below w1.heap.size w1 W := by rw [← hW]; exact (Below.refl _ _).alloc (Nat.le_refl _) _
  have hK : Blk W w1.heap.size 30 #[.slice A1 (rsA n m).length c1] := by rw [← hW]; exact Blk.new w1 _ _
  have hK1 : W.cell? ⟨w1.heap.size, 0, none⟩ = some (.slice A1 (rsA n m).length c1) := Blk.cell hK 0
  have hlt1 : w1.heap.size < W.heap.size := by rw [← hW]; simp
  have HB := Lib.hid (hb.trans (hBW.mono hb.size))
  have HRW := Lib.hid (hRd.keep hBW)
  have HK1 := Lib.hid hK1
  clear hO hb hRd hBW hK hK1 HCm
  cases h0 : mkOk n m
  · have E := Lib.hid (mkC_no h0)
    have E2 := Lib.hid (sdA_no h0)
    rw [E.out.1]
    clear h0
    go_wp2
    go_ret2
    refine ⟨_, by (rw [E.out.1]; first | done | rfl), ?_, HB.out⟩
    rw [E2.out]
    exact nil_own8 _ _
  have E := Lib.hid (mkC_yes h0)
  have E2 := Lib.hid (sdA_yes h0)
  have hn := (mkOk_iff.1 h0).1
  obtain ⟨N, hN⟩ : ∃ N : Nat, n.toNat = N := ⟨_, rfl⟩
  have hnN : n = (N : Int) := by omega
  rw [hN] at E2
  subst hnN
  have hN8 : N ≤ 8 := by omega
  have hN1 : 1 ≤ N := by omega
  have hLs : (rsA (N : Int) m).length = N := by rw [E.out.2.1, Int.toNat_natCast, rsL_len]
  have HMem : Hid (∀ x ∈ rsA (N : Int) m, 0 ≤ x ∧ x ≤ 204) := fun x h => rsA_mem h
  rw [E.out.1]
  obtain ⟨s, hs⟩ : ∃ s, rsA (N : Int) m = s := ⟨_, rfl⟩
  rw [hs] at E2 hLs HMem HRW HK1 hW ⊢
  rw [hLs] at hW ⊢
  have HLs := Lib.hid hLs
  have HSm := Lib.hid (samplesAll_any N hN8 W)
  have HSo := Lib.hid (setOf_any N hN8 W)
  clear h0 hN hn hs hLs
  go_wp2_with fail
  refine HSo.out.mono ?_
  rintro e w2 ⟨rfl, rfl⟩
  clear HSo hW
  go_wp2_with fail
  refine HSm.out.mono ?_
  rintro e w3 ⟨Al, cl, rfl, hO, hb⟩
  have hO' : w3.ownsRow W.heap.size 2 1 (.slice Al (iota N).length cl) (iota N).length ((iota N).flatMap icells) := by rw [iota_len]; exact hO
  have HB3 := Lib.hid (HB.out.trans (hb.mono HB.out.size))
  have HOd := Lib.hid (orderedS_any s N hN1 hN8 HLs.out HMem.out w1.heap.size w.heap.size A1 Al c1 cl w3 ((hb.cell (p := ⟨w1.heap.size, 0, none⟩) hlt1).trans HK1.out) (HRW.out.keep hb) (own_rd2 icells_length hO'))
  clear hO hO' hb HSm
  go_wp2_with fail
  refine HOd.out.mono ?_
  rintro e w4 ⟨v, rfl, hO, hb⟩
  have HO4 := Lib.hid (own_base hO HB3.out.size)
  have HB4 := Lib.hid (HB3.out.trans (hb.mono HB3.out.size))
  clear hO hb HOd
  go_wp2
  go_ret2
  refine ⟨_, by (rw [E.out.1]; first | done | rfl), ?_, HB4.out⟩
  rw [E2.out]
  exact HO4.out
end Go.Proofs.YtlagnocglkoomaaDoor
