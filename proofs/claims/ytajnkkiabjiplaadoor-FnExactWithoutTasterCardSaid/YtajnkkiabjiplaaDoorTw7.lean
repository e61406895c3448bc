/-
  WithoutTaster: the contracts, of the model and of the program. Condition: the sentinel errors lie as the row lists them (the program's).
-/
import Derived.Test.YtajnkkiabjiplaaDoorTv
import Derived.Test.YtajnkkiabjiplaaDoorNq
import Derived.Test.YtajnkkiabjiplaaDoorCi
import Derived.Test.YtajnkkiabjiplaaDoorFn
namespace Go.Proofs.YtajnkkiabjiplaaDoor
open Go.ChangeShapes Go.WideShapes Go.ChangeAt Go.RowKit Go.Deep

theorem wtA_len (n : Int) (m : List (List Int)) (q : Int) (h : m.length ≤ 1048576) : (wtA n m q).length ≤ 1048576 := by
  unfold wtA
  split
  · exact Nat.le_trans (wtTo_len _ _ _) h
  · simp
theorem wtA_each (n : Int) (m : List (List Int)) (q : Int) (h : ∀ xs ∈ m, xs.length ≤ 1048576) : ∀ ys ∈ wtA n m q, ys.length ≤ 1048576 := by
  unfold wtA
  split
  · exact fun ys hy => h ys (wtTo_mem (Nat.le_refl _) hy)
  · simp
theorem sum_bnd {T : Type} : ∀ (xss : List (List T)) (k m : Nat), xss.length ≤ k → (∀ xs ∈ xss, xs.length ≤ m) → sumL xss ≤ k * m
  | [], _, _, _, _ => by simp [sumL]
  | xs :: xss, 0, _, h, _ => by simp at h
  | xs :: xss, k + 1, m, hk, h => by
    have h1 := sum_bnd xss k m (by simpa using hk) (fun ys hy => h ys (List.mem_cons_of_mem _ hy))
    have h2 := h xs (List.mem_cons_self ..)
    unfold sumL at h1 ⊢
    simp only [List.map_cons, List.sum_cons, Nat.succ_mul]
    omega
theorem icells_one (h : Int) : (icells h).toArray.all (·.oneCell') = true := by simp [icells, Value.oneCell']
theorem empty_ownH (w : World) (b : Nat) (hb : b ≤ w.heap.size) : OwnN (w.alloc (.cells #[] 29)) b 29 2 1 icells (some ⟨w.heap.size, 0, none⟩) 0 [] ([] : List (List Int)) :=
  ⟨⟨rfl, .inr ⟨w.heap.size, 0, #[], rfl, hb, heap_alloc_new w _, Nat.le_refl _, by unfold maxLen; omega, by simp, by simp⟩⟩, rfl, fun i h xs hi => by simp at hi, fun i j h h' _ hi => by simp at hi, fun i h hi => by simp at hi⟩

set_option maxRecDepth 100000 in
set_option maxHeartbeats 1000000 in
theorem cloneI_any (xs : List Int) (A : Option Addr) (c : Nat) (w : World) (hl : xs.length ≤ 1048576) (hr : Rd w w.heap.size icells A xs) :
    Calls Tryd.prog 36 #[.slice A xs.length c] w fun e w' => ∃ A' c', e = .returned (.slice A' xs.length c') ∧ w'.ownsRow w.heap.size 2 1 (.slice A' xs.length c') xs.length (xs.flatMap icells) ∧ Below w.heap.size w w' := by
  obtain ⟨i0, hi, hz0, hz1, hz2⟩ := info_parts Tryd.info64
  have HI := Lib.hid hi
  have HZ0 := Lib.hid hz0
  have HZ1 := Lib.hid hz1
  have HZ2 := Lib.hid hz2
  clear hi hz0 hz1 hz2
  have HR := Lib.hid hr
  cases A with
  | none =>
    have hx : xs = [] := by
      rcases Nat.eq_zero_or_pos xs.length with h | h
      · exact List.eq_nil_of_length_eq_zero h
      · obtain ⟨b, o, e, -⟩ := hr h; cases e
    subst hx
    clear hr
    have hnil : ∀ w : World, (binOp .eql 29 (.slice none 0 c) (.slice none 0 0)).run Tryd.prog w = .ok (.bool true) w := fun w => Lib.run_eql_slice_nil (P := Tryd.prog) w 29 2 none 0 c 0 0 Tryd.underlying29
    show Calls Tryd.prog 36 #[.slice none 0 c] w _
    go_enter Tryd.func36, Tryd.ntmps36
    go_wp2
    go_ret
    exact ⟨none, 0, rfl, ⟨rfl, .inl ⟨rfl, rfl⟩⟩, Below.refl _ _⟩
  | some a =>
    clear hr
    have hnil : ∀ w : World, (binOp .eql 29 (.slice (some a) xs.length c) (.slice none 0 0)).run Tryd.prog w = .ok (.bool false) w := fun w => Lib.run_eql_slice_nil (P := Tryd.prog) w 29 2 (some a) xs.length c 0 0 Tryd.underlying29
    go_enter Tryd.func36, Tryd.ntmps36
    go_wp2_with (at_builtin; refine wpList_append_any _ rfl (.tmp 5) (.tmp 6) 29 29 rfl w.heap.size 2 i0 (.int .i64 0) 1 8 Tryd.underlying29 HI.out HZ0.out HZ1.out HZ2.out rfl (by decide) _ 0 [] rfl ?own _ xs.length (xs.flatMap icells) rfl ?src ?c3 ?c4 ?c5 ?_)
    case own => exact ⟨by simp, .inr ⟨w.heap.size, 0, #[], rfl, Nat.le_refl _, heap_alloc_new w _, Nat.le_refl _, by unfold maxLen; omega, by simp, by simp⟩⟩
    case src => exact src_of_rd _ Tryd.underlying29 icells_length icells_one (HR.out.keep ((Below.refl _ w).alloc (Nat.le_refl _) _))
    case c3 => unfold maxLen; omega
    case c4 => omega
    case c5 => simp
    intro v' w2 hown hg _
    have hB : Below w.heap.size w w2 := ((Below.refl _ w).alloc (Nat.le_refl _) _).grown hg (by simp) (fun k e => by
      have e2 : w.heap.size = k := by simpa [Value.ownBlock] using e
      omega)
    have hown2 : w2.ownsRow w.heap.size 2 1 v' xs.length (xs.flatMap icells) := by simpa using hown
    obtain ⟨A', c', rfl, -, -⟩ := own_rd icells_length hown2
    have HO := Lib.hid hown2
    have HB := Lib.hid hB
    clear hown hown2 hg hB hnil
    go_wp2
    go_ret
    exact ⟨A', c', rfl, HO.out, HB.out⟩

set_option maxRecDepth 100000 in
set_option maxHeartbeats 4000000 in
theorem specWithout_any (n : Int) (m : List (List Int)) (q : Int) (A : Option Addr) (c : Nat) (w : World) (hl : m.length ≤ 1048576) (hx : ∀ xs ∈ m, xs.length ≤ 1048576) (hr : RdN w w.heap.size icells A m) :
    Calls Tryd.prog 16 #[.int .i64 n, .slice A m.length c, .int .i64 q] w fun e w' => ∃ A' c', e = .returned (.tuple #[.slice A' (wtA n m q).length c', .int .i64 (wtC n m q)]) ∧ RdN w' w'.heap.size icells A' (wtA n m q) ∧ Below w.heap.size w w' := by
  obtain ⟨i0, hi, hz0, hz1, hz2⟩ := info_parts Tryd.info64
  have HI := Lib.hid hi
  have HZ0 := Lib.hid hz0
  have HZ1 := Lib.hid hz1
  have HZ2 := Lib.hid hz2
  obtain ⟨j0, hj, hy0, hy1, hy2⟩ := info_parts Tryd.infoLN
  have HJ := Lib.hid hj
  have HY0 := Lib.hid hy0
  have HY1 := Lib.hid hy1
  have HY2 := Lib.hid hy2
  clear hi hz0 hz1 hz2 hj hy0 hy1 hy2
  have HX := Lib.hid hx
  obtain ⟨W1, hW1⟩ : ∃ W, w.alloc (.cells #[] 29) = W := ⟨_, rfl⟩
  have hB1 : Below w.heap.size w W1 := by rw [← hW1]; exact (Below.refl _ w).alloc (Nat.le_refl _) _
  have HB1 := Lib.hid hB1
  have HO1 : Hid (OwnN W1 w.heap.size 29 2 1 icells (some ⟨w.heap.size, 0, none⟩) 0 [] ([] : List (List Int))) := by show OwnN W1 _ _ _ _ _ _ _ _ _; rw [← hW1]; exact empty_ownH w _ (Nat.le_refl _)
  have HC := Lib.hid (l07Ok_any n m A c W1 hl hx (hr.keep hB1))
  have HR : Hid (RdN w w.heap.size icells A m) := hr
  have hml : (0 : Int) ≤ (m.length : Int) := Int.natCast_nonneg _
  clear hx hr hB1
  go_enter Tryd.func16, Tryd.ntmps16
  go_wp2_with fail
  clear hW1
  refine HC.out.mono ?_
  rintro e w1 ⟨rfl, rfl⟩
  clear HC
  cases h0 : mkOk n m
  · have E := Lib.hid (wtC_inv (q := q) h0)
    clear h0
    go_wp2
    go_ret2
    exact ⟨_, _, by (rw [E.out.1, E.out.2]; first | done | rfl), by rw [E.out.2]; exact HO1.out.rd icells_length, HB1.out⟩
  have H0 := Lib.hid h0
  clear h0
  have hs1 : IntKind.i64.wrap ((m.length : Int) - 1) = (m.length : Int) - 1 := IntWalk.i64_in _ ⟨by omega, by omega⟩
  have hs2 : wrap64 ((m.length : Int) - 1) = (m.length : Int) - 1 := IntWalk.wrap64_in _ ⟨by omega, by omega⟩
  go_wp2_with fail
  refine (l00In_any _ _ _ _).mono ?_
  rintro e w1 ⟨rfl, rfl⟩
  clear hs1 hs2
  rw [show (decide ((0 : Int) ≤ q) && decide (q ≤ (m.length : Int) - 1)) = wi 0 ((m.length : Int) - 1) q from rfl]
  cases h1 : wi 0 ((m.length : Int) - 1) q
  · have E := Lib.hid (wtC_rng H0.out h1)
    clear h1
    go_wp2
    go_ret2
    exact ⟨_, _, by (rw [E.out.1, E.out.2]; first | done | rfl), by rw [E.out.2]; exact HO1.out.rd icells_length, HB1.out⟩
  have E := Lib.hid (wtC_ok H0.out h1)
  have hq := wi_iff.1 h1
  clear h1
  go_wp2_with fail
  go_loopw [8, 9] (fun v i wr => ∃ (k : Nat) (A1 : Option Addr) (c1 : Nat) (hs : List Hd), k ≤ m.length ∧ i = .int .i64 k ∧ v = .slice A1 hs.length c1 ∧ OwnN wr w.heap.size 29 2 1 icells A1 c1 hs (wtTo m q k) ∧ Below w.heap.size w wr)
    (fun _ i _ => m.length - (intOf i).toNat)
  case atStart => exact ⟨0, _, _, [], by omega, rfl, rfl, HO1.out, HB1.out⟩
  case round =>
    clear HO1 HB1
    obtain ⟨k, A1, c1, hs, hk, rfl, rfl, hO, hB⟩ := hrel
    have HO := Lib.hid hO
    have HB := Lib.hid hB
    clear hO hB
    have hk0 : (0 : Int) ≤ (k : Int) := Int.natCast_nonneg _
    by_cases hlt : k < m.length
    · obtain ⟨xs, hxs⟩ : ∃ x, m[k]? = some x := ⟨_, List.getElem?_eq_getElem hlt⟩
      have hk8 : (k : Int) < m.length := by omega
      by_cases he : (k : Int) = q
      · have he' : ((k : Int) == q) = true := by simpa using he
        have HSt : Hid (wtTo m q (k + 1) = wtTo m q k) := wtTo_same m he
        clear hxs he
        go_wp2
        go_roundw
        case rel => exact ⟨k + 1, A1, c1, hs, by omega, by go_num, rfl, by rw [HSt.out]; exact HO.out, HB.out⟩
        case measure => simp [intOf]; omega
      have he' : ((k : Int) == q) = false := by simpa using he
      have HSt : Hid (wtTo m q (k + 1) = wtTo m q k ++ [xs]) := wtTo_next hxs he
      have hxl := HX.out xs (List.mem_of_getElem? hxs)
      have hHl : hs.length ≤ k := by rw [HO.out.2.1]; exact wtTo_len _ _ _
      obtain ⟨Wa, hWa⟩ : ∃ W, wr.alloc (.cells #[] 2) = W := ⟨_, rfl⟩
      have hBa : Below wr.heap.size wr Wa := by rw [← hWa]; exact (Below.refl _ _).alloc (Nat.le_refl _) _
      have HEa : Hid (Wa.ownsRow wr.heap.size 2 1 (.slice (some ⟨wr.heap.size, 0, none⟩) 0 0) 0 []) := by
        show Wa.ownsRow _ _ _ _ _ _
        rw [← hWa]
        exact ⟨by simp, .inr ⟨wr.heap.size, 0, #[], rfl, Nat.le_refl _, heap_alloc_new wr _, Nat.le_refl _, by unfold maxLen; omega, by simp, by simp⟩⟩
      obtain ⟨b, o, a, c', rfl, hb, hc, hrd⟩ := (HR.out.below (Nat.le_refl _) (HB.out.trans (hBa.mono HB.out.size))).at_ hxs
      have HRd := Lib.hid hrd
      have HBa := Lib.hid hBa
      have hbl : b < Wa.heap.size := Nat.lt_of_lt_of_le hb (Nat.le_trans HB.out.size hBa.size)
      clear hxs hrd he hBa
      go_wp2_with (first | (at_builtin; refine wpList_append_any _ rfl (.tmp 33) (.tmp 37) 29 29 rfl wr.heap.size 2 i0 (.int .i64 0) 1 8 Tryd.underlying29 HI.out HZ0.out HZ1.out HZ2.out rfl (by decide) _ 0 [] rfl ?own _ xs.length (xs.flatMap icells) rfl ?src ?c3 ?c4 ?c5 ?_))
      case own => exact HEa.out
      case src => exact src_of_rd _ Tryd.underlying29 icells_length icells_one HRd.out
      case c3 => unfold maxLen; omega
      case c4 => omega
      case c5 => exact HBa.out.size
      intro v' w2 hown hg _
      have hB2 : Below wr.heap.size wr w2 := HBa.out.grown hg HBa.out.size (fun k e => by
        have e2 : wr.heap.size = k := by simpa [Value.ownBlock] using e
        omega)
      have hown2 : w2.ownsRow wr.heap.size 2 1 v' xs.length (xs.flatMap icells) := by simpa using hown
      obtain ⟨a2, c2, rfl, -, -⟩ := own_rd icells_length hown2
      have HO2 := Lib.hid hown2
      have HB2 := Lib.hid hB2
      clear hown hown2 hg hB2 hc HRd HEa hWa HBa hbl
      have HN2 := Lib.hid (HO.out.keep HB2.out)
      have HBn : Hid (Below w2.heap.size w2 (w2.alloc (.cells (hcells (a2, xs.length, c2)).toArray 29))) := (Below.refl _ _).alloc (Nat.le_refl _) _
      go_wp2_with (first | (at_builtin; refine wpList_append_any _ rfl (.tmp 32) (.tmp 39) 25 25 rfl w.heap.size 29 j0 (.slice none 0 0) 1 24 Tryd.underlying25 HJ.out HY0.out HY1.out HY2.out rfl (by decide) _ hs.length (hs.flatMap hcells) rfl ?own _ 1 (hcells (a2, xs.length, c2)) rfl ?src ?c3 ?c4 ?c5 ?_))
      case own => exact (HN2.out.keep HBn.out).1
      case src => exact src_hd Tryd.underlying25 w2 (a2, xs.length, c2)
      case c3 => unfold maxLen; omega
      case c4 => omega
      case c5 => have := HB.out.size; have := HB2.out.size; simp; omega
      intro v' w8 hown' hgrow hblk
      obtain ⟨A8, c8, rfl⟩ : ∃ A8 c8, v' = .slice A8 (hs.length + 1) c8 := by
        rcases hown'.2 with ⟨h1, h2⟩ | ⟨g, cap, cur, h1, -⟩
        · exact ⟨_, _, by rw [h1, h2]⟩
        · exact ⟨_, _, h1⟩
      rw [ownBlock_slice] at hgrow hblk
      rw [ownBlock_slice] at hblk
      have hN8 := HO.out.snoc HB.out.size (HB2.out.trans (HBn.out.mono HB2.out.size)) (own_keep' HO2.out HBn.out) hown' hgrow (hblk.imp id (fun h => h.trans (by simp)))
      rw [← HSt.out] at hN8
      have HN8 := Lib.hid hN8
      have HB8 : Hid (Below w.heap.size w w8) := by
        show Below _ _ _
        have h1 := HB.out.trans ((HB2.out.trans (HBn.out.mono HB2.out.size)).mono HB.out.size)
        exact h1.grown hgrow h1.size (fun r e => (own_block HO.out.1 (by rw [ownBlock_slice]; exact e)).1)
      clear hown' hgrow hblk hN8 HN2 HBn
      go_wp2
      go_roundw
      case rel => exact ⟨k + 1, A8, c8, _, by omega, by go_num, by first | rfl | simp, HN8.out, HB8.out⟩
      case measure => simp [intOf]; omega
    · obtain rfl : k = m.length := by omega
      have HLn := Lib.hid HO.out.2.1
      go_wp2
      go_ret2
      refine ⟨_, _, by (rw [E.out.1, E.out.2, ← HLn.out]; first | done | rfl), ?_, HB.out⟩
      rw [E.out.2]
      exact HO.out.rd icells_length
end Go.Proofs.YtajnkkiabjiplaaDoor
