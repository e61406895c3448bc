/-
  NetsOf: the contracts, of the model and of the program. Condition: numbers fit their kinds; the sentinel errors lie as the row lists them (the program's).
-/
import Derived.Test.YtjgafdfffmfhhabDoorSu
import Derived.Test.YtjgafdfffmfhhabDoorI6
import Derived.Test.YtjgafdfffmfhhabDoorLi
import Derived.Test.YtjgafdfffmfhhabDoorOw
namespace Go.Proofs.YtjgafdfffmfhhabDoor
open Go.ChangeShapes Go.WideShapes Go.ChangeAt Go.RowKit Go.Deep

def moT (l : List Hol) (k : Nat) : List Int := (l.take k).map (·.mo)
theorem moT_len (l : List Hol) (k : Nat) : (moT l k).length ≤ k := by rw [moT, List.length_map, List.length_take]; omega
theorem moT_succ {l : List Hol} {k : Nat} {x : Hol} (h : l[k]? = some x) : moT l (k + 1) = moT l k ++ [x.mo] := by
  obtain ⟨hlt, he⟩ := List.getElem?_eq_some_iff.1 h
  rw [moT, List.take_succ_eq_append_getElem hlt, List.map_append, he]; rfl
def neL6 (l : List Hol) : List Int := if hoC l = 0 then moT l l.length else []
theorem neL6_len (l : List Hol) : (neL6 l).length ≤ 6 := by
  unfold neL6
  split
  · have h : hoC l = 0 := by assumption
    have := (hoC_ok h).1
    have := moT_len l l.length
    omega
  · simp
theorem ne6_bad {l : List Hol} {i : Nat} (h : hoF l = some i) : hoC l = cdN i ∧ neL6 l = [] := by
  have h1 := (su_bad h).1
  exact ⟨h1, by rw [neL6, if_neg (by rw [h1]; exact cdN_ne)]⟩
theorem ne6_ok {l : List Hol} (h : hoF l = none) : hoC l = 0 ∧ neL6 l = moT l l.length := by
  have h1 := (su_ok h).1
  exact ⟨h1, by rw [neL6, if_pos h1]⟩
theorem nil_own6 (w : World) (b : Nat) : w.ownsRow b 2 1 (.slice none 0 0) ([] : List Int).length (([] : List Int).flatMap icells) := ⟨rfl, .inl ⟨rfl, rfl⟩⟩
theorem empty_own6 (w : World) (b : Nat) (hb : b ≤ w.heap.size) : (w.alloc (.cells #[] 2)).ownsRow b 2 1 (.slice (some ⟨w.heap.size, 0, none⟩) 0 0) ([] : List Int).length (([] : List Int).flatMap icells) :=
  ⟨rfl, .inr ⟨w.heap.size, 0, #[], rfl, hb, heap_alloc_new w _, Nat.le_refl _, by unfold maxLen; omega, by simp, by simp⟩⟩

set_option maxRecDepth 100000 in
set_option maxHeartbeats 4000000 in
theorem specNets_any (l : List Hol) (A : Option Addr) (c : Nat) (w : World) (hl : l.length ≤ 1048576) (hr : Rd w w.heap.size hcells A l) :
    Calls Tryd.prog 12 #[.slice A l.length c] w fun e w' => ∃ v, e = .returned (.tuple #[v, .int .i64 (hoC l)]) ∧ w'.ownsRow w.heap.size 2 1 v (neL6 l).length ((neL6 l).flatMap icells) ∧ Below w.heap.size w w' := by
  obtain ⟨i0, hi, hz0, hz1, hz2⟩ := info_parts Tryd.info64
  have HI := Lib.hid hi
  have HZ0 := Lib.hid hz0
  have HZ1 := Lib.hid hz1
  have HZ2 := Lib.hid hz2
  clear hi hz0 hz1 hz2
  have HR := Lib.hid hr
  clear hr
  go_enter Tryd.func12, Tryd.ntmps12
  go_wp2_with fail
  refine (l06Holdings_any l A c _ hl HR.out).mono ?_
  rintro e w1 ⟨rfl, rfl⟩
  cases hf : hoF l with
  | some i =>
    have E := Lib.hid (ne6_bad hf)
    have hne : hoC l ≠ 0 := by rw [E.out.1]; exact cdN_ne
    obtain ⟨cc, hcc⟩ : ∃ cc, hoC l = cc := ⟨_, rfl⟩
    have HCC := Lib.hid hcc
    rw [hcc] at hne ⊢
    have hzb : (cc == 0) = false := by simpa using hne
    clear hf hcc
    go_wp2
    go_ret2
    refine ⟨_, by (rw [HCC.out]; first | done | rfl), ?_, (Below.refl _ w).alloc (Nat.le_refl _) _⟩
    rw [E.out.2]
    exact empty_own6 _ _ (Nat.le_refl _)
  | none =>
  obtain ⟨h0, h1⟩ := ne6_ok hf
  obtain ⟨⟨hn1, hn6⟩, -⟩ := hoC_ok h0
  have E0 := Lib.hid h0
  have E1 := Lib.hid h1
  have HB1 : Hid (Below w.heap.size w (w.alloc (.cells #[] 2))) := (Below.refl _ w).alloc (Nat.le_refl _) _
  have HO1 : Hid ((w.alloc (.cells #[] 2)).ownsRow w.heap.size 2 1 (.slice (some ⟨w.heap.size, 0, none⟩) 0 0) ([] : List Int).length (([] : List Int).flatMap icells)) := empty_own6 w _ (Nat.le_refl _)
  have HZ1b : Hid (w.heap.size ≤ (w.alloc (.cells #[] 2)).heap.size) := by show _ ≤ _; simp
  rw [h0]
  clear hf h0 h1
  go_wp2_with fail
  go_loopw [5, 6] (fun v i wr => ∃ (k : Nat) (A1 : Option Addr) (c1 : Nat), k ≤ l.length ∧ i = .int .i64 k ∧ v = .slice A1 (moT l k).length c1 ∧ wr.ownsRow w.heap.size 2 1 (.slice A1 (moT l k).length c1) (moT l k).length ((moT l k).flatMap icells) ∧ Below w.heap.size w wr ∧ w.heap.size ≤ wr.heap.size)
    (fun _ i _ => l.length - (intOf i).toNat)
  case atStart => exact ⟨0, _, _, by omega, rfl, rfl, HO1.out, HB1.out, HZ1b.out⟩
  case round =>
    clear HO1 HB1 HZ1b
    obtain ⟨k, A1, c1, hk, rfl, rfl, hO, hB, hbs⟩ := hrel
    have HO := Lib.hid hO
    have HB := Lib.hid hB
    clear hO hB
    have hk0 : (0 : Int) ≤ (k : Int) := Int.natCast_nonneg _
    have hmk := moT_len l k
    by_cases hlt : k < l.length
    · obtain ⟨⟨fu, em, cr, br, mo⟩, hx⟩ : ∃ x, l[k]? = some x := ⟨_, List.getElem?_eq_getElem hlt⟩
      obtain ⟨b, o, rfl, hbl, hrow⟩ := (HR.out.below (Nat.le_refl _) HB.out).at_ hcells_length hx
      obtain ⟨e0, e1, e2, e3, e4⟩ := rowH5 hrow
      simp only at e0 e1 e2 e3 e4
      have HSt : Hid (moT l (k + 1) = moT l k ++ [mo]) := moT_succ hx
      obtain ⟨L, hL⟩ : ∃ L, (moT l k).length = L := ⟨_, rfl⟩
      have HL := Lib.hid hL
      rw [hL] at HO ⊢
      have hLk : L ≤ k := by rw [← hL]; exact hmk
      have hk8 : (k : Int) < l.length := by omega
      clear hx hrow hL hmk
      go_wp2_with (at_builtin; refine wpList_append_own _ rfl (.tmp 20) (.tmp 26) 36 rfl w.heap.size 2 i0 (.int .i64 0) 1 8 Tryd.underlying36 HI.out HZ0.out HZ1.out HZ2.out rfl (by decide) _ _ _ rfl (HO.out.alloc _) ⟨wr.heap.size, 0, none⟩ 1 1 [.int .i64 mo] rfl rfl ?c1 ?c2 ?c3 ?c4 ?c5 ?_)
      case c1 => exact cell_one_new _ _ _
      case c2 => simp [Value.oneCell']
      case c3 => unfold maxLen; omega
      case c4 => omega
      case c5 => simp; omega
      intro v' w8 hown' hgrow _
      have hown8 : w8.ownsRow w.heap.size 2 1 v' (moT l (k + 1)).length ((moT l (k + 1)).flatMap icells) := by rw [HSt.out, List.length_append, List.flatMap_append, HL.out]; exact hown'
      obtain ⟨A8, c8, rfl, -, -⟩ := own_rd icells_length hown8
      have HO8 := Lib.hid hown8
      have HB8 : Hid (Below w.heap.size w w8) := (HB.out.alloc HB.out.size _).grown hgrow (by have := HB.out.size; simp; omega) (fun r e => Nat.le_trans (Below.refl w.heap.size w).size (HO.out.lt r e).1)
      have HZ8 : Hid (w.heap.size ≤ w8.heap.size) := by show _ ≤ _; have := hgrow.size; simp at this; omega
      clear hown' hgrow hown8
      go_wp2
      go_roundw
      case rel => exact ⟨k + 1, A8, c8, by omega, by go_num, rfl, HO8.out, HB8.out, HZ8.out⟩
      case measure => simp [intOf]; omega
    · obtain rfl : k = l.length := by omega
      go_wp2
      go_ret2
      refine ⟨_, by (rw [E0.out]; first | done | rfl), ?_, HB.out⟩
      rw [E1.out]
      exact HO.out

set_option maxRecDepth 100000 in
set_option maxHeartbeats 4000000 in
theorem implNets_any (l : List Hol) (hwf : ∀ x ∈ l, wfH x) (A : Option Addr) (c : Nat) (ad : Nat → Addr) (w : World) (hl : l.length ≤ 1048576) (hr : Rd w w.heap.size hcells A l) (hE : EW 7 w ad) :
    Calls Tryd.prog 14 #[.slice A l.length c] w fun e w' => ∃ v, e = .returned (.tuple #[v, .int .i64 (hoC l)]) ∧ w'.ownsRow w.heap.size 2 1 v (neL6 l).length ((neL6 l).flatMap icells) ∧ Below w.heap.size w w' := by
  obtain ⟨i0, hi, hz0, hz1, hz2⟩ := info_parts Tryd.info64
  have HI := Lib.hid hi
  have HZ0 := Lib.hid hz0
  have HZ1 := Lib.hid hz1
  have HZ2 := Lib.hid hz2
  clear hi hz0 hz1 hz2
  have HR := Lib.hid hr
  have HE := Lib.hid hE
  clear hr hE
  go_enter Tryd.func14, Tryd.ntmps14
  go_wp2_with fail
  refine (checkPerH_any l.length c A ad _ hl HE.out).mono ?_
  rintro e w1 ⟨rfl, rfl⟩
  obtain ⟨v0, hv0⟩ : ∃ v, erO ad (chk 5 (paOk l.length)) = v := ⟨_, rfl⟩
  have HV0 := Lib.hid hv0
  have P0 : Hid (isE v0) := by show isE v0; rw [← hv0]; exact erO_isE _ _
  rw [hv0]
  clear hv0
  go_wp2_with fail
  refine (checkHoldings_any l hwf A c ad _ hl HR.out HE.out).mono ?_
  rintro e w2 ⟨rfl, hb⟩
  have HB2 := Lib.hid hb
  clear hb
  obtain ⟨v1, hv1⟩ : ∃ v, erO ad (chk 0 (l.all hoOk)) = v := ⟨_, rfl⟩
  have HV1 := Lib.hid hv1
  have P1 : Hid (isE v1) := by show isE v1; rw [← hv1]; exact erO_isE _ _
  rw [hv1]
  clear hv1
  go_wp2_with (refine wpList_twoErrs rfl (.tmp 9) (.tmp 11) rfl P0.out P1.out rfl rfl ?_)
  have q0 := new_cell2 w2 v0 v1 59
  rw [← HV0.out, ← HV1.out] at q0 ⊢
  refine (firstErr2_O ad _ _ _ _ _ q0.1 q0.2).mono ?_
  rintro e w9 ⟨rfl, rfl⟩
  rw [HV0.out, HV1.out]
  have L2 : Below w.heap.size w (w2.alloc (.cells #[v0, v1] 59)) := HB2.out.alloc HB2.out.size _
  obtain ⟨w3, hw3⟩ : ∃ w3, w2.alloc (.cells #[v0, v1] 59) = w3 := ⟨_, rfl⟩
  rw [hw3] at L2 ⊢
  have M2 := Lib.hid L2
  rw [show firstO [chk 5 (paOk l.length), chk 0 (l.all hoOk)] = hoF l from rfl]
  clear q0 hw3 L2 HB2 HV0 HV1 P0 P1
  cases ho : hoF l with
  | some i =>
    have hi : i < 7 := hoF_lt i ho
    have E := Lib.hid (ne6_bad ho)
    have HIi := Lib.hid hi
    rw [erO_some]
    clear ho hi
    go_wp2_with fail
    refine (codeOf_O (HE.out.below M2.out (Nat.le_refl _)) i HIi.out).mono ?_
    rintro e w4 ⟨rfl, rfl⟩
    obtain ⟨cc, hcc⟩ : ∃ cc, cdN i = cc := ⟨_, rfl⟩
    have HCC := Lib.hid hcc
    rw [hcc]
    clear hcc
    go_wp2
    go_ret2
    refine ⟨_, by (rw [E.out.1, HCC.out]; first | done | rfl), ?_, M2.out⟩
    rw [E.out.2]
    exact nil_own6 _ _
  | none =>
  obtain ⟨h0, h1⟩ := ne6_ok ho
  obtain ⟨⟨hn1, hn6⟩, -⟩ := hoC_ok h0
  have E0 := Lib.hid h0
  have E1 := Lib.hid h1
  have HB1 : Hid (Below w.heap.size w w3) := M2.out
  have HO1 : Hid (w3.ownsRow w3.heap.size 2 1 (.slice none 0 0) ([] : List Int).length (([] : List Int).flatMap icells)) := nil_own6 _ _
  have HRl : Hid (0 ≤ (l.length : Int)) := Int.natCast_nonneg _
  have HZ1b : Hid (w3.heap.size ≤ w3.heap.size) := Nat.le_refl _
  rw [erO_none]
  clear ho h0 h1
  go_wp2_with fail
  go_loopw [5, 20] (fun v i wr => ∃ (k : Nat) (A1 : Option Addr) (c1 : Nat), k ≤ l.length ∧ i = .int .i64 k ∧ v = .slice A1 (moT l k).length c1 ∧ wr.ownsRow w3.heap.size 2 1 (.slice A1 (moT l k).length c1) (moT l k).length ((moT l k).flatMap icells) ∧ Below w.heap.size w wr ∧ w3.heap.size ≤ wr.heap.size)
    (fun _ i _ => l.length - (intOf i).toNat)
  case atStart => exact ⟨0, _, _, by omega, rfl, rfl, HO1.out, HB1.out, HZ1b.out⟩
  case round =>
    clear HO1 HB1 HZ1b
    obtain ⟨k, A1, c1, hk, rfl, rfl, hO, hB, hbs⟩ := hrel
    have HO := Lib.hid hO
    have HB := Lib.hid hB
    clear hO hB
    have hk0 : (0 : Int) ≤ (k : Int) := Int.natCast_nonneg _
    have hmk := moT_len l k
    by_cases hlt : k < l.length
    · obtain ⟨⟨fu, em, cr, br, mo⟩, hx⟩ : ∃ x, l[k]? = some x := ⟨_, List.getElem?_eq_getElem hlt⟩
      obtain ⟨b, o, rfl, hbl, hrow⟩ := (HR.out.below (Nat.le_refl _) HB.out).at_ hcells_length hx
      obtain ⟨e0, e1, e2, e3, e4⟩ := rowH5 hrow
      simp only at e0 e1 e2 e3 e4
      have HSt : Hid (moT l (k + 1) = moT l k ++ [mo]) := moT_succ hx
      obtain ⟨L, hL⟩ : ∃ L, (moT l k).length = L := ⟨_, rfl⟩
      have HL := Lib.hid hL
      rw [hL] at HO ⊢
      have hLk : L ≤ k := by rw [← hL]; exact hmk
      have hk8 : (k : Int) < l.length := by omega
      clear hx hrow hL hmk
      obtain ⟨Wa, hWa⟩ : ∃ W, (wr.alloc (.cells #[.int .i64 fu, .int .i64 em, .int .i64 cr, .int .i64 br, .int .i64 mo] 31)) = W := ⟨_, rfl⟩
      have HA : Hid (Below w.heap.size w Wa) := by show Below _ _ _; rw [← hWa]; exact HB.out.alloc HB.out.size _
      have HOA : Hid (Wa.ownsRow w3.heap.size 2 1 (.slice A1 L c1) L ((moT l k).flatMap icells)) := by show Wa.ownsRow _ _ _ _ _ _; rw [← hWa]; exact HO.out.alloc _
      have hwa : Hid (wr.heap.size < Wa.heap.size) := by show _ < _; rw [← hWa]; simp
      have hq4 : Wa.cell? ⟨wr.heap.size, 4, none⟩ = some (.int .i64 mo) := by rw [← hWa]; exact (Blk.new wr _ _).cell 4
      go_wp2_with (at_builtin; refine wpList_append_own _ rfl (.tmp 24) (.tmp 27) 36 rfl w3.heap.size 2 i0 (.int .i64 0) 1 8 Tryd.underlying36 HI.out HZ0.out HZ1.out HZ2.out rfl (by decide) _ _ _ rfl (HOA.out.alloc _) ⟨Wa.heap.size, 0, none⟩ 1 1 [.int .i64 mo] rfl rfl ?c1 ?c2 ?c3 ?c4 ?c5 ?_)
      case c1 => exact cell_one_new _ _ _
      case c2 => simp [Value.oneCell']
      case c3 => unfold maxLen; omega
      case c4 => omega
      case c5 => have := hwa.out; simp; omega
      intro v' w8 hown' hgrow _
      have hown8 : w8.ownsRow w3.heap.size 2 1 v' (moT l (k + 1)).length ((moT l (k + 1)).flatMap icells) := by rw [HSt.out, List.length_append, List.flatMap_append, HL.out]; exact hown'
      obtain ⟨A8, c8, rfl, -, -⟩ := own_rd icells_length hown8
      have HO8 := Lib.hid hown8
      have HB8 : Hid (Below w.heap.size w w8) := (HA.out.alloc HA.out.size _).grown hgrow (by have := HA.out.size; simp; omega) (fun r e => Nat.le_trans M2.out.size (HOA.out.lt r e).1)
      have HZ8 : Hid (w3.heap.size ≤ w8.heap.size) := by show _ ≤ _; have := hwa.out; have := hgrow.size; simp at this; omega
      clear hown' hgrow hown8
      go_wp2
      go_roundw
      case rel => exact ⟨k + 1, A8, c8, by omega, by go_num, rfl, HO8.out, HB8.out, HZ8.out⟩
      case measure => simp [intOf]; omega
    · obtain rfl : k = l.length := by omega
      go_wp2
      go_ret2
      refine ⟨_, by (rw [E0.out]; first | done | rfl), ?_, HB.out⟩
      rw [E1.out]
      exact own_base HO.out M2.out.size

end Go.Proofs.YtjgafdfffmfhhabDoor
