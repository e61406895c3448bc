/-
  BlockedIn: what is counted; the model's contract. Condition: the rack reads as lists of things that are stored, whose numbers fit their kinds, not more than 1048576.
-/
import Derived.Test.YtceinefoljcgkaaDoorRs
import Derived.WalkSmall
import Derived.Deep.RegionHeld3
namespace Go.Proofs.YtceinefoljcgkaaDoor
open Go.ChangeShapes Go.WideShapes Go.ChangeAt Go.RowKit Go.Deep

/-- How many of the first p are older than d; the pairs of a lane's first k; of the first i lanes. -/
def cntB (xs : List Wnt) (d : Int) (p : Nat) : Nat := (xs.take p).countP (fun y => decide (y.2 < d))
def rowB (xs : List Wnt) : Nat → Nat
  | 0 => 0
  | k + 1 => rowB xs k + cntB xs (xs.getD k ((0, 0), 0)).2 k
def totB (xss : List (List Wnt)) : Nat → Nat
  | 0 => 0
  | i + 1 => totB xss i + rowB (xss.getD i []) (xss.getD i []).length
theorem cntB_le (xs : List Wnt) (d : Int) (p : Nat) : cntB xs d p ≤ p := Nat.le_trans (List.countP_le_length) (by simp; omega)
theorem cntB_succ {xs : List Wnt} {d : Int} {p : Nat} {y : Wnt} (h : xs[p]? = some y) : cntB xs d (p + 1) = cntB xs d p + if y.2 < d then 1 else 0 := by
  unfold cntB
  rw [List.take_add_one, h, List.countP_append]
  by_cases hy : y.2 < d <;> simp [hy]
theorem rowB_le (xs : List Wnt) : ∀ k, rowB xs k ≤ k * k
  | 0 => by simp [rowB]
  | k + 1 => by
    have h1 := rowB_le xs k
    have h2 := cntB_le xs (xs.getD k ((0, 0), 0)).2 k
    have h3 : (k + 1) * (k + 1) = k * k + k + k + 1 := by rw [Nat.add_mul, Nat.mul_add]; omega
    rw [rowB]; omega
theorem rowB_six (xs : List Wnt) {k : Nat} (h : k ≤ 6) : rowB xs k ≤ 36 := Nat.le_trans (rowB_le xs k) (Nat.mul_le_mul h h)
theorem totB_le {xss : List (List Wnt)} (h : ∀ xs ∈ xss, xs.length ≤ 6) : ∀ i, totB xss i ≤ 36 * i
  | 0 => by simp [totB]
  | i + 1 => by
    have h1 := totB_le h i
    have h2 : rowB (xss.getD i []) (xss.getD i []).length ≤ 36 := rowB_six _ (by
      rw [List.getD_eq_getElem?_getD]
      cases hi : xss[i]? with
      | none => simp
      | some xs => simpa using h xs (List.mem_of_getElem? hi))
    rw [totB]; omega
theorem rowB_succ {xs : List Wnt} {k : Nat} {x : Wnt} (h : xs[k]? = some x) : rowB xs (k + 1) = rowB xs k + cntB xs x.2 k := by rw [rowB]; simp [h]
theorem totB_succ {xss : List (List Wnt)} {i : Nat} {xs : List Wnt} (h : xss[i]? = some xs) : totB xss (i + 1) = totB xss i + rowB xs xs.length := by rw [totB]; simp [h]

set_option maxRecDepth 100000 in
set_option maxHeartbeats 4000000 in
theorem specBlocked_any (xss : List (List Wnt)) (hwf : ∀ xs ∈ xss, ∀ x ∈ xs, wfW x) (A : Option Addr) (c : Nat) (w : World) (hl : xss.length ≤ 1048576) (hx : ∀ xs ∈ xss, xs.length ≤ 1048576) (hr : RdN w w.heap.size wcells A xss) :
    Calls Tryd.prog 10 #[.slice A xss.length c] w fun e w' => e = .returned (.tuple #[.int .i64 (rkN xss (totB xss xss.length)), .int .i64 (rkC xss)]) ∧ Below w.heap.size w w' := by
  have HR := Lib.hid hr
  have HW := Lib.hid hwf
  have HX := Lib.hid hx
  clear hr hwf hx
  go_enter Tryd.func10, Tryd.ntmps10
  go_wp2_with fail
  refine (l04Ok_any xss HW.out A c w hl HX.out HR.out).mono ?_
  rintro e w1 ⟨rfl, hb⟩
  have HB := Lib.hid hb
  clear hb
  cases hv : rkOk xss
  · have E1 := Lib.hid (rkN_no hv (totB xss xss.length))
    have E2 := Lib.hid (rkC_no hv)
    clear hv
    go_wp2
    go_ret2
    exact ⟨by (rw [E1.out, E2.out]; first | done | rfl), HB.out⟩
  have E1 := Lib.hid (rkN_yes hv (totB xss xss.length))
  have E2 := Lib.hid (rkC_yes hv)
  have H8 := rkOk_len hv
  have H6 : Hid (∀ xs ∈ xss, xs.length ≤ 6) := fun xs h => (rkOk_lane hv h).1
  clear hv
  go_wp2_with fail
  go_loopw [4, 5] (fun n i wr => ∃ (k : Nat), k ≤ xss.length ∧ i = .int .i64 k ∧ n = .int .i64 (totB xss k : Nat) ∧ Below w.heap.size w wr)
    (fun _ i _ => xss.length - (intOf i).toNat)
  case atStart => exact ⟨0, by omega, rfl, rfl, HB.out⟩
  case round =>
    clear HB
    obtain ⟨i, hi, rfl, rfl, hB⟩ := hrel
    have HB := Lib.hid hB
    clear hB
    by_cases hlt : i < xss.length
    · obtain ⟨xs, hxs⟩ : ∃ x, xss[i]? = some x := ⟨_, List.getElem?_eq_getElem hlt⟩
      have hxl := H6.out xs (List.mem_of_getElem? hxs)
      obtain ⟨b, o, a, c1, rfl, hbl, e1, r1⟩ := HR.out.at_ hxs
      have htl := totB_le H6.out i
      have HTs := Lib.hid (totB_succ hxs)
      have E0 := Lib.hid e1
      have R1 := Lib.hid r1
      have HXs := Lib.hid hxs
      clear hxs e1 r1
      have hi0 : (0 : Int) ≤ (i : Int) := Int.natCast_nonneg _
      have hi8 : (i : Int) < xss.length := by omega
      obtain ⟨T, hT⟩ : ∃ T, totB xss i = T := ⟨_, rfl⟩
      rw [hT] at htl HTs ⊢
      clear hT
      go_wp2_with fail
      go_loopw [4, 6] (fun n j wr => ∃ (k : Nat), k ≤ xs.length ∧ j = .int .i64 k ∧ n = .int .i64 ((T + rowB xs k : Nat) : Int) ∧ Below w.heap.size w wr)
        (fun _ j _ => xs.length - (intOf j).toNat)
      case atStart => exact ⟨0, by omega, rfl, rfl, HB.out⟩
      case round =>
        clear HB
        obtain ⟨k, hk, rfl, rfl, hB⟩ := hrel
        have HB := Lib.hid hB
        have e1 := (hB.cell (p := ⟨b, o + i, none⟩) hbl).trans E0.out
        clear hB
        have hk0 : (0 : Int) ≤ (k : Int) := Int.natCast_nonneg _
        by_cases hlt2 : k < xs.length
        · obtain ⟨⟨⟨k1, y1⟩, d⟩, hx⟩ : ∃ x, xs[k]? = some x := ⟨_, List.getElem?_eq_getElem hlt2⟩
          have HRs := Lib.hid (rowB_succ hx)
          have hrl := rowB_six xs (k := k) (by omega)
          obtain ⟨g, p, rfl, hg, hrow⟩ := R1.out.at_ wcells_length hx
          obtain ⟨D1, D2, D3⟩ := rowW hrow
          have HD3 := Lib.hid D3
          clear hx hrow D1 D2 D3
          have hk8 : (k : Int) < xs.length := by omega
          obtain ⟨S, hS⟩ : ∃ S, T + rowB xs k = S := ⟨_, rfl⟩
          rw [hS]
          have hSl : S ≤ 1000 := by omega
          have HRs' : Hid (T + rowB xs (k + 1) = S + cntB xs d k) := by show T + rowB xs (k + 1) = _; rw [HRs.out, ← hS]; exact (Nat.add_assoc _ _ _).symm
          clear hS hrl HRs
          go_wp2_with fail
          go_loopw [4, 7] (fun n j wr => ∃ (q : Nat), q ≤ k ∧ j = .int .i64 q ∧ n = .int .i64 ((S + cntB xs d q : Nat) : Int) ∧ Below w.heap.size w wr)
            (fun _ j _ => k - (intOf j).toNat)
          case atStart => exact ⟨0, by omega, rfl, by simp [cntB], HB.out⟩
          case round =>
            clear HB e1
            obtain ⟨q, hq, rfl, rfl, hB⟩ := hrel
            have HB := Lib.hid hB
            have e1 := (hB.cell (p := ⟨b, o + i, none⟩) hbl).trans E0.out
            have e2 := (hB.cell (p := ⟨g, p + k * 3 + 2, none⟩) hg).trans HD3.out
            clear hB
            have hq0 : (0 : Int) ≤ (q : Int) := Int.natCast_nonneg _
            by_cases hlt3 : q < k
            · obtain ⟨⟨⟨k2, y2⟩, d2⟩, hy⟩ : ∃ x, xs[q]? = some x := ⟨_, List.getElem?_eq_getElem (by omega)⟩
              have hcs := cntB_succ (d := d) hy
              have hcl := cntB_le xs d q
              obtain ⟨g', p', he', hg', hrow'⟩ := R1.out.at_ wcells_length hy
              cases he'
              obtain ⟨F1, F2, F3⟩ := rowW hrow'
              have e3 := (HB.out.cell (p := ⟨g, p + q * 3 + 2, none⟩) hg).trans F3
              clear hy hrow' F1 F2 F3
              have hq8 : (q : Int) < xs.length := by omega
              obtain ⟨C, hC⟩ : ∃ C, cntB xs d q = C := ⟨_, rfl⟩
              rw [hC] at hcs hcl ⊢
              clear hC
              have hq7 : (q : Int) < k := by omega
              have hn0 : (0 : Int) ≤ ((S + C : Nat) : Int) := Int.natCast_nonneg _
              have hw1 : IntKind.i64.wrap (((S + C : Nat) : Int) + 1) = ((S + C + 1 : Nat) : Int) := by rw [show (((S + C : Nat) : Int) + 1) = ((S + C + 1 : Nat) : Int) from by omega]; exact IntWalk.i64_in _ ⟨by omega, by omega⟩
              have hw2 : wrap64 (((S + C : Nat) : Int) + 1) = ((S + C + 1 : Nat) : Int) := by rw [show (((S + C : Nat) : Int) + 1) = ((S + C + 1 : Nat) : Int) from by omega]; exact IntWalk.wrap64_in _ ⟨by omega, by omega⟩
              obtain ⟨n, hn⟩ : ∃ n : Int, ((S + C : Nat) : Int) = n := ⟨_, rfl⟩
              obtain ⟨n', hn'⟩ : ∃ n : Int, ((S + C + 1 : Nat) : Int) = n := ⟨_, rfl⟩
              have HN := Lib.hid hn
              have HN' := Lib.hid hn'
              have HCs := Lib.hid hcs
              rw [hn, hn'] at hw1 hw2
              rw [hn]
              clear hn hn' hcs hn0 hcl
              by_cases hd : d2 < d
              · have HE : Hid (((S + cntB xs d (q + 1) : Nat) : Int) = n') := by show ((S + cntB xs d (q + 1) : Nat) : Int) = n'; rw [HCs.out, ← HN'.out]; simp [hd]; omega
                clear HN HN' HCs
                go_wp2_with fail
                go_region_held3 (fun w' => w'.cell? ⟨b, o + i, none⟩ = some (.slice (some ⟨g, p, none⟩) xs.length c1) ∧ w'.cell? ⟨g, p + k * 3 + 2, none⟩ = some (.int .i16 d) ∧ w'.cell? ⟨g, p + q * 3 + 2, none⟩ = some (.int .i16 d2)) (go_keep) (fail)
                go_wp2
                go_roundw
                case rel => exact ⟨q + 1, by omega, by go_num, by rw [HE.out], HB.out.drew⟩
                case measure => simp [intOf]; omega
              · have HE : Hid (((S + cntB xs d (q + 1) : Nat) : Int) = n) := by show ((S + cntB xs d (q + 1) : Nat) : Int) = n; rw [HCs.out, ← HN.out]; simp [hd]
                clear HN HN' HCs
                go_wp2_with fail
                go_region_held3 (fun w' => w'.cell? ⟨b, o + i, none⟩ = some (.slice (some ⟨g, p, none⟩) xs.length c1) ∧ w'.cell? ⟨g, p + k * 3 + 2, none⟩ = some (.int .i16 d) ∧ w'.cell? ⟨g, p + q * 3 + 2, none⟩ = some (.int .i16 d2)) (go_keep) (fail)
                go_wp2
                go_roundw
                case rel => exact ⟨q + 1, by omega, by go_num, by rw [HE.out], HB.out.drew⟩
                case measure => simp [intOf]; omega
            · obtain rfl : q = k := by omega
              clear e1 e2
              have HE := Lib.hid (HRs'.out)
              have hlq : ¬ ((q : Int) < q) := by omega
              go_wp2
              go_roundw
              case rel => exact ⟨q + 1, by omega, by go_num, by rw [HE.out], HB.out⟩
              case measure => simp [intOf]; omega
        · obtain rfl : k = xs.length := by omega
          go_wp2
          go_roundw
          case rel => exact ⟨i + 1, by omega, by go_num, by rw [HTs.out], HB.out⟩
          case measure => simp [intOf]; omega
    · obtain rfl : i = xss.length := by omega
      go_wp2
      go_ret2
      exact ⟨by (rw [E1.out, E2.out]; first | done | rfl), HB.out⟩
end Go.Proofs.YtceinefoljcgkaaDoor
