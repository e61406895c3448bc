/-
  BreakageOf, the program. Condition: numbers fit their kinds; the sentinel errors lie as the row lists them.
-/
import Derived.Test.YtjgafdfffmfhhabDoorBs
import Derived.Test.YtjgafdfffmfhhabDoorBw
import Derived.Test.YtjgafdfffmfhhabDoorCb
import Derived.Test.YtjgafdfffmfhhabDoorGk
import Derived.Test.YtjgafdfffmfhhabDoorEo
namespace Go.Proofs.YtjgafdfffmfhhabDoor
open Go.ChangeShapes Go.WideShapes Go.ChangeAt Go.RowKit Go.Deep

def bigT (l : List Ent) : Option Nat := if 80 < l.length then some 1 else none
theorem checkMany1_any (r : List Ent) (a : Option Addr) (c' B c : Nat) (ad : Nat → Addr) (w : World) (hl : r.length ≤ 1048576) (hc : w.cell? ⟨B, 0, none⟩ = some (.slice a r.length c')) (hE : EW 5 w ad) :
    Calls Tryd.prog 39 #[.slice (some ⟨B, 0, none⟩) 1 c] w fun e w' => e = .returned (erO ad (bigT r)) ∧ Below w.heap.size w w' := by
  have hBl := block_lt_of_cell hc
  have HC := Lib.hid hc
  have HE := Lib.hid hE
  clear hc hE
  go_enter Tryd.func39, Tryd.ntmps39
  go_wp2_with fail
  go_loopw [4, 7] (fun _ i wr => ∃ (k : Nat), k ≤ 1 ∧ i = .int .i64 k ∧ (k = 1 → ¬ 80 < r.length) ∧ Below w.heap.size w wr) (fun _ i _ => 1 - (intOf i).toNat)
  case atStart => exact ⟨0, by omega, rfl, fun h => absurd h (by decide), Below.refl _ _⟩
  case round =>
    obtain ⟨k, hk, rfl, hT, hB⟩ := hrel
    have HT := Lib.hid hT
    have HB := Lib.hid hB
    clear hT hB
    by_cases hlt : k < 1
    · obtain rfl : k = 0 := by omega
      have e1 := (HB.out.cell (p := ⟨B, 0, none⟩) hBl).trans HC.out
      have c1 : wr.cell? ⟨2, 0, none⟩ = some (.iface 124 (.pointer (some (ad 1)))) := (HE.out.below HB.out (Nat.le_refl _)).cell 1 (by omega)
      by_cases hlo : 80 < r.length
      · have E : Hid (bigT r = some 1) := by show _ = _; rw [bigT, if_pos hlo]
        have hlo' : (80 : Int) < r.length := by omega
        clear hlo
        go_wp2
        go_ret
        exact ⟨by rw [E.out]; rfl, HB.out⟩
      · have hlo' : ¬ (80 : Int) < r.length := by omega
        have HLO := Lib.hid hlo
        clear hlo
        go_wp2
        go_roundw
        case rel => exact ⟨1, by omega, by go_num, fun _ => HLO.out, HB.out⟩
        case measure => simp [intOf]
    · obtain rfl : k = 1 := by omega
      have E : Hid (bigT r = none) := by show _ = _; rw [bigT, if_neg (HT.out rfl)]
      go_wp2
      go_ret
      exact ⟨by rw [E.out]; rfl, HB.out⟩
theorem ten_cells (W : World) (n : Nat) (hn : W.heap.size = n) (t : TypeId) (a0 a1 a2 a3 a4 b0 b1 b2 b3 b4 : Int) : ∀ (j : Nat) (y : Value), [Value.int .i64 a0, .int .i64 a1, .int .i64 a2, .int .i64 a3, .int .i64 a4, .int .i64 b0, .int .i64 b1, .int .i64 b2, .int .i64 b3, .int .i64 b4][j]? = some y → (W.alloc (.cells #[.int .i64 a0, .int .i64 a1, .int .i64 a2, .int .i64 a3, .int .i64 a4, .int .i64 b0, .int .i64 b1, .int .i64 b2, .int .i64 b3, .int .i64 b4] t)).cell? ((⟨n, 0, none⟩ : Addr).add j) = some y := by
  subst hn
  intro j y h
  have := (Blk.new W t #[.int .i64 a0, .int .i64 a1, .int .i64 a2, .int .i64 a3, .int .i64 a4, .int .i64 b0, .int .i64 b1, .int .i64 b2, .int .i64 b3, .int .i64 b4]).cell j
  have e2 : (⟨W.heap.size, 0, none⟩ : Addr).add j = ⟨W.heap.size, j, none⟩ := by cases j <;> simp [Addr.add]
  rw [e2]
  rw [this]; simpa using h
theorem ten_one (a0 a1 a2 a3 a4 b0 b1 b2 b3 b4 : Int) : ∀ v ∈ [Value.int .i64 a0, .int .i64 a1, .int .i64 a2, .int .i64 a3, .int .i64 a4, .int .i64 b0, .int .i64 b1, .int .i64 b2, .int .i64 b3, .int .i64 b4], v.oneCell' = true := by
  intro v hv
  simp only [List.mem_cons, List.not_mem_nil, or_false] at hv
  rcases hv with rfl | rfl | rfl | rfl | rfl | rfl | rfl | rfl | rfl | rfl <;> rfl
theorem nil_ownH (w : World) (b : Nat) : w.ownsRow b 31 5 (.slice none 0 0) ([] : List Hol).length (([] : List Hol).flatMap hcells) := ⟨rfl, .inl ⟨rfl, rfl⟩⟩
theorem prOk_zero : prOk p00 = true := by decide
theorem wfP_zero : wfP p00 := by unfold wfP p00 in16; simp
set_option maxRecDepth 100000 in
set_option maxHeartbeats 4000000 in
theorem implBreak_any (l : List Ent) (hwf : ∀ x ∈ l, wfE x) (A : Option Addr) (c : Nat) (ad : Nat → Addr) (w : World) (hl : l.length ≤ 1048576) (hr : Rd w w.heap.size ecells A l) (hE : EW 5 w ad) :
    Calls Tryd.prog 23 #[.slice A l.length c] w fun e w' => e = .returned (.tuple #[.int .i64 (brN l), .int .i64 (brC l)]) ∧ Below w.heap.size w w' := by
  obtain ⟨i0, hi, hz0, hz1, hz2⟩ := info_parts Tryd.infoHI
  have HI := Lib.hid hi
  have HZ0 := Lib.hid hz0
  have HZ1 := Lib.hid hz1
  have HZ2 := Lib.hid hz2
  clear hi hz0 hz1 hz2
  have HR := Lib.hid hr
  have HW := Lib.hid hwf
  have HE := Lib.hid hE
  have hA0 : Below w.heap.size w (w.alloc (.cells #[.slice A l.length c] 49)) := (Below.refl _ w).alloc (Nat.le_refl _) _
  have hc0 : (w.alloc (.cells #[.slice A l.length c] 49)).cell? ⟨w.heap.size, 0, none⟩ = some (.slice A l.length c) := (Blk.new w 49 #[.slice A l.length c]).cell 0
  have HCh := Lib.hid (checkMany1_any l A c w.heap.size 1 ad _ hl hc0 (HE.out.below hA0 (Nat.le_refl _)))
  clear hr hwf hE hc0
  go_enter Tryd.func23, Tryd.ntmps23
  go_wp2_with fail
  refine HCh.out.mono ?_
  rintro e w3 ⟨rfl, hb⟩
  have M2 : Hid (Below w.heap.size w w3) := hA0.trans (hb.mono hA0.size)
  clear hb hA0 HCh
  by_cases hlo : 80 < l.length
  · have E := Lib.hid (br_long hlo)
    rw [show bigT l = some 1 from by rw [bigT, if_pos hlo], erO_some]
    clear hlo
    go_wp2_with fail
    refine (codeOf_1 (HE.out.below M2.out (Nat.le_refl _))).mono ?_
    rintro e w4 ⟨rfl, rfl⟩
    go_wp2
    go_ret2
    exact ⟨by (rw [E.out.1, E.out.2]; first | done | rfl), M2.out⟩
  rw [show bigT l = none from by rw [bigT, if_neg hlo], erO_none]
  have HLO := Lib.hid hlo
  have hl80 : l.length ≤ 80 := by omega
  have HBS : Hid (w.heap.size ≤ w3.heap.size) := M2.out.size
  clear hlo
  go_wp2_with fail
  go_loopw [5, 21] (fun v i wr => ∃ (k : Nat) (A1 : Option Addr) (c1 : Nat), k ≤ l.length ∧ i = .int .i64 k ∧ v = .slice A1 (chs l k).length c1 ∧ wr.ownsRow w3.heap.size 31 5 (.slice A1 (chs l k).length c1) (chs l k).length ((chs l k).flatMap hcells) ∧ Below w3.heap.size w3 wr)
    (fun _ i _ => l.length - (intOf i).toNat)
  case atStart => exact ⟨0, _, _, by omega, rfl, rfl, nil_ownH _ _, Below.refl _ _⟩
  case round =>
    obtain ⟨k, A1, c1, hk, rfl, rfl, hO, hB⟩ := hrel
    have HO := Lib.hid hO
    have HB := Lib.hid hB
    clear hO hB
    have hk0 : (0 : Int) ≤ (k : Int) := Int.natCast_nonneg _
    obtain ⟨L, hL⟩ : ∃ L, (chs l k).length = L := ⟨_, rfl⟩
    have hLk : L = 2 * k := by rw [← hL]; exact chs_len l k
    have HL := Lib.hid hL
    have HLk := Lib.hid hLk
    rw [hL] at HO ⊢
    have hLb : L ≤ 160 := by omega
    clear hL hLk
    by_cases hlt : k < l.length
    · obtain ⟨x, hx⟩ : ∃ x, l[k]? = some x := ⟨_, List.getElem?_eq_getElem hlt⟩
      have hwx := HW.out _ (List.mem_of_getElem? hx)
      have HSt : Hid (chs l (k + 1) = chs l k ++ [chF p00 x, chT p00 x]) := chs_succ hx
      have HTl : Hid (∀ z, Calls Tryd.prog 41 #[.agg (ecells x).toArray] z fun e w' => e = .returned (hapV x) ∧ Below z.heap.size z w') := fun z => tells_any x hwx z
      have HCb : Hid (∀ z, Calls Tryd.prog 40 #[.agg #[.int .i16 0, .int .i16 0], hapV x] z fun e w' => e = .returned (.tuple #[.agg (hcells (chF p00 x)).toArray, .agg (hcells (chT p00 x)).toArray]) ∧ Below z.heap.size z w') := fun z => changesBy_any p00 wfP_zero prOk_zero x hwx z
      obtain ⟨hv, hhv⟩ : ∃ v, hapV x = v := ⟨_, rfl⟩
      rw [hhv] at HTl HCb
      clear hhv hwx
      obtain ⟨⟨a0, a1, a2, a3, a4⟩, hF⟩ : ∃ F, chF p00 x = F := ⟨_, rfl⟩
      obtain ⟨⟨b0, b1, b2, b3, b4⟩, hT⟩ : ∃ T, chT p00 x = T := ⟨_, rfl⟩
      rw [hF, hT] at HSt HCb
      clear hF hT
      have HCb : Hid (∀ z, Calls Tryd.prog 40 #[.agg #[.int .i16 0, .int .i16 0], hv] z fun e w' => e = .returned (.tuple #[.agg #[.int .i64 a0, .int .i64 a1, .int .i64 a2, .int .i64 a3, .int .i64 a4], .agg #[.int .i64 b0, .int .i64 b1, .int .i64 b2, .int .i64 b3, .int .i64 b4]]) ∧ Below z.heap.size z w') := HCb.out
      obtain ⟨b, o, rfl, hbl, hrow⟩ := (HR.out.below (Nat.le_refl _) (M2.out.trans (HB.out.mono HBS.out))).at_ ecells_length hx
      obtain ⟨dy, fr, to, wh, nu⟩ := x
      obtain ⟨e0, e1, e2, e3, e4⟩ := rowE5 hrow
      simp only at e0 e1 e2 e3 e4
      have HTl : Hid (∀ z, Calls Tryd.prog 41 #[.agg #[.int .i16 dy, .int .i8 fr, .int .i8 to, .int .u8 wh, .int .i16 nu]] z fun e w' => e = .returned hv ∧ Below z.heap.size z w') := HTl.out
      have hk8 : (k : Int) < l.length := by omega
      clear hx hrow
      obtain ⟨Wa, hWa⟩ : ∃ W, (wr.alloc (.cells #[.int .i16 dy, .int .i8 fr, .int .i8 to, .int .u8 wh, .int .i16 nu] 71)) = W := ⟨_, rfl⟩
      have hba : Below wr.heap.size wr Wa := by rw [← hWa]; exact (Below.refl _ _).alloc (Nat.le_refl _) _
      have hka : Blk Wa wr.heap.size 71 #[.int .i16 dy, .int .i8 fr, .int .i8 to, .int .u8 wh, .int .i16 nu] := by rw [← hWa]; exact Blk.new wr _ _
      have HBa := Lib.hid hba
      have g0 : Wa.cell? ⟨wr.heap.size, 0, none⟩ = some (.int .i16 dy) := hka.cell 0
      have g1 : Wa.cell? ⟨wr.heap.size, 1, none⟩ = some (.int .i8 fr) := hka.cell 1
      have g2 : Wa.cell? ⟨wr.heap.size, 2, none⟩ = some (.int .i8 to) := hka.cell 2
      have g3 : Wa.cell? ⟨wr.heap.size, 3, none⟩ = some (.int .u8 wh) := hka.cell 3
      have g4 : Wa.cell? ⟨wr.heap.size, 4, none⟩ = some (.int .i16 nu) := hka.cell 4
      clear hba hka
      go_wp2_with fail
      refine (HTl.out _).mono ?_
      rintro e w4 ⟨rfl, hb4⟩
      have HB4 : Hid (Below wr.heap.size wr w4) := HBa.out.trans (hb4.mono HBa.out.size)
      clear hb4 g0 g1 g2 g3 g4 e0 e1 e2 e3 e4 hWa HBa HTl
      go_wp2_with fail
      refine (HCb.out _).mono ?_
      rintro e w5 ⟨rfl, hb5⟩
      have HB5 : Hid (Below wr.heap.size wr w5) := HB4.out.trans (hb5.mono HB4.out.size)
      clear hb5 HB4 HCb
      have HO5 : Hid (w5.ownsRow w3.heap.size 31 5 (.slice A1 L c1) L ((chs l k).flatMap hcells)) := own_keep' HO.out HB5.out
      have HS5 : Hid (w3.heap.size ≤ w5.heap.size) := Nat.le_trans HB.out.size HB5.out.size
      have HB5' : Hid (Below w3.heap.size w3 w5) := HB.out.trans (HB5.out.mono HB.out.size)
      clear HB5 HO HB
      go_wp2_with (at_builtin; refine wpList_append_own _ rfl (.tmp 32) (.tmp 35) 39 rfl w3.heap.size 31 i0 (.agg #[.int .i64 0, .int .i64 0, .int .i64 0, .int .i64 0, .int .i64 0]) 5 40 Tryd.underlying39 HI.out HZ0.out HZ1.out HZ2.out rfl (by decide) _ _ _ rfl (((HO5.out.alloc _).alloc _).alloc _) ⟨_, 0, none⟩ 2 2 [.int .i64 a0, .int .i64 a1, .int .i64 a2, .int .i64 a3, .int .i64 a4, .int .i64 b0, .int .i64 b1, .int .i64 b2, .int .i64 b3, .int .i64 b4] rfl rfl ?c1 ?c2 ?c3 ?c4 ?c5 ?_)
      case c1 => exact ten_cells _ _ (by simp) _ _ _ _ _ _ _ _ _ _ _
      case c2 => exact ten_one _ _ _ _ _ _ _ _ _ _
      case c3 => unfold maxLen; omega
      case c4 => omega
      case c5 => have := HS5.out; simp; omega
      intro v' w8 hown' hgrow _
      have hown8 : w8.ownsRow w3.heap.size 31 5 v' (chs l (k + 1)).length ((chs l (k + 1)).flatMap hcells) := by rw [HSt.out, List.length_append, List.flatMap_append, HL.out]; exact hown'
      obtain ⟨A8, c8, rfl, -, -⟩ := own_rd hcells_length hown8
      have HO8 := Lib.hid hown8
      have HB8 : Hid (Below w3.heap.size w3 w8) := (((HB5'.out.alloc (by have := HS5.out; omega) _).alloc (by have := HS5.out; simp; omega) _).alloc (by have := HS5.out; simp; omega) _).grown hgrow (by have := HS5.out; simp; omega) (fun r e => (HO5.out.lt r e).1)
      clear hown' hgrow hown8 HO5 HB5'
      go_wp2
      go_roundw
      case rel => exact ⟨k + 1, A8, c8, by omega, by go_num, rfl, HO8.out, HB8.out⟩
      case measure => simp [intOf]; omega
    · obtain rfl : k = l.length := by omega
      have hown : wr.ownsRow w3.heap.size 31 5 (.slice A1 (chs l l.length).length c1) (chs l l.length).length ((chs l l.length).flatMap hcells) := by rw [HL.out]; exact HO.out
      have hrd := own_rd2 hcells_length hown
      have hsm := chs_sum (l := l) l.length (Nat.le_refl _)
      have hin := bk_in HW.out l.length (Nat.le_refl _)
      have hsu := sumOfF_any (chs l l.length) (by rw [chs_len]; omega) (fits_of (chs_fit HW.out _ (Nat.le_refl _)) (by rw [chs_len]; omega)) A1 c1 wr hrd
      rw [HL.out] at hsu
      rw [← HLk.out] at hsm
      obtain ⟨⟨S0, S1, S2, S3, S4⟩, hS⟩ : ∃ S, hsum (chs l l.length) L = S := ⟨_, rfl⟩
      rw [hS] at hsu hsm
      obtain ⟨h1, h2⟩ := hsm
      simp only at h1 h2
      rw [← h1, ← h2] at hin
      have HDD : Hid (bkD l l.length = S1) := h1.symm
      have HBB : Hid (bkB l l.length = S3) := h2.symm
      have HSu : Hid (Calls Tryd.prog 42 #[.slice A1 L c1] wr fun e w' => e = .returned (.agg #[.int .i64 S0, .int .i64 S1, .int .i64 S2, .int .i64 S3, .int .i64 S4]) ∧ Below wr.heap.size wr w') := hsu
      obtain ⟨⟨b0, b1⟩, d0, d1⟩ := hin
      have hk1 : (l.length : Int) ≤ 80 := by omega
      have b2 : S3 ≤ 2700000 := by omega
      have d2 : S1 ≤ 2700000 := by omega
      clear hown hrd hsu hS h1 h2 b1 d1
      go_wp2_with fail
      refine HSu.out.mono ?_
      rintro e w4 ⟨rfl, hb⟩
      have HB4 : Hid (Below w3.heap.size w3 w4) := HB.out.trans (hb.mono HB.out.size)
      have HB5 : Hid (Below w.heap.size w (w4.alloc (.cells #[.int .i64 S0, .int .i64 S1, .int .i64 S2, .int .i64 S3, .int .i64 S4] 31))) := (M2.out.trans (HB4.out.mono HBS.out)).alloc (Nat.le_trans HBS.out HB4.out.size) _
      have HE5 := Lib.hid (HE.out.below HB5.out (Nat.le_refl _))
      have hK5 : Blk (w4.alloc (.cells #[.int .i64 S0, .int .i64 S1, .int .i64 S2, .int .i64 S3, .int .i64 S4] 31)) w4.heap.size 31 #[.int .i64 S0, .int .i64 S1, .int .i64 S2, .int .i64 S3, .int .i64 S4] := Blk.new w4 _ _
      have g1 : (w4.alloc (.cells #[.int .i64 S0, .int .i64 S1, .int .i64 S2, .int .i64 S3, .int .i64 S4] 31)).cell? ⟨w4.heap.size, 1, none⟩ = some (.int .i64 S1) := hK5.cell 1
      have g3 : (w4.alloc (.cells #[.int .i64 S0, .int .i64 S1, .int .i64 S2, .int .i64 S3, .int .i64 S4] 31)).cell? ⟨w4.heap.size, 3, none⟩ = some (.int .i64 S3) := hK5.cell 3
      clear hb hK5
      by_cases h0 : S1 + S3 = 0
      · have E := Lib.hid (br_none HLO.out (by rw [HBB.out, HDD.out]; exact h0))
        obtain rfl : S1 = 0 := by omega
        obtain rfl : S3 = 0 := by omega
        have c4 := HE5.out.cell 4 (by omega)
        have c4 : (w4.alloc (.cells #[.int .i64 S0, .int .i64 0, .int .i64 S2, .int .i64 0, .int .i64 S4] 31)).cell? ⟨0, 0, none⟩ = some (.iface 124 (.pointer (some (ad 4)))) := c4
        clear h0
        go_wp2_with fail
        refine (codeOf_4 HE5.out).mono ?_
        rintro e w6 ⟨rfl, rfl⟩
        go_wp2
        go_ret2
        exact ⟨by (rw [E.out.1, E.out.2]; first | done | rfl), HB5.out⟩
      · obtain ⟨E1, E2⟩ := br_some HLO.out (by rw [HBB.out, HDD.out]; exact h0)
        rw [HBB.out, HDD.out] at E2
        obtain ⟨Q, hq, hq2, ⟨q1, q2⟩, ⟨q3, q4⟩, q5, q6⟩ := quo_facts ⟨b0, by omega⟩ ⟨d0, by omega⟩ h0
        rw [hq] at E2
        have E1 := Lib.hid E1
        have E2 := Lib.hid E2
        have hz : (S1 + S3 == 0) = false := by simpa using h0
        clear hq
        go_wp2
        go_ret2
        exact ⟨by (rw [E1.out, E2.out]; first | done | rfl), HB5.out⟩
end Go.Proofs.YtjgafdfffmfhhabDoor
