/-
  SplitOrder: the model's contract. Condition: the order reads, its numbers fit their kinds, not more than 1048576; the number is an int64.
-/
import Derived.Test.YtkehmelcecifdaaDoorTt0
import Derived.Test.YtkehmelcecifdaaDoorNq
import Derived.Test.YtkehmelcecifdaaDoorWb
import Derived.Test.YtkehmelcecifdaaDoorLh
import Derived.BigQuiet
namespace Go.Proofs.YtkehmelcecifdaaDoor
open Go.ChangeShapes Go.WideShapes Go.ChangeAt Go.RowKit Go.Deep

theorem Tryd.infoLW : (Tryd.prog.info? 46).map (fun i => (i.zero, i.size, i.bytes)) = some (some (.slice none 0 0), 1, 24) := by kernel_rfl
theorem cells3T (W : World) (t : TypeId) (k y n : Int) : ∀ (j : Nat) (u : Value), [Value.int .u8 k, .int .i16 y, .int .i16 n][j]? = some u → (W.alloc (.cells #[.int .u8 k, .int .i16 y, .int .i16 n] t)).cell? ((⟨W.heap.size, 0, none⟩ : Addr).add j) = some u := fun j u hu => by
  have e : (⟨W.heap.size, 0, none⟩ : Addr).add j = ⟨W.heap.size, j, none⟩ := by cases j <;> simp [Addr.add]
  rw [e, Blk.cell (Blk.new W t #[.int .u8 k, .int .i16 y, .int .i16 n])]
  simpa using hu
theorem one3T (k y n : Int) : ∀ u ∈ [Value.int .u8 k, .int .i16 y, .int .i16 n], u.oneCell' = true := by
  intro u hu
  simp only [List.mem_cons, List.not_mem_nil, or_false] at hu
  rcases hu with rfl | rfl | rfl <;> rfl
theorem empty_ownT (w : World) (t : TypeId) (size : Nat) : (w.alloc (.cells #[] t)).ownsRow w.heap.size t size (.slice (some ⟨w.heap.size, 0, none⟩) 0 0) 0 [] :=
  ⟨by simp, .inr ⟨w.heap.size, 0, #[], rfl, Nat.le_refl _, heap_alloc_new w _, Nat.le_refl _, by unfold maxLen; omega, by simp, by simp⟩⟩
theorem empty_ownTT (w : World) (b : Nat) (hb : b ≤ w.heap.size) : OwnN (w.alloc (.cells #[] 46)) b 46 91 3 wcells (some ⟨w.heap.size, 0, none⟩) 0 [] ([] : List (List Wnt)) :=
  ⟨own_base (empty_ownT w 46 1) hb, rfl, fun i h xs hi => by simp at hi, fun i j h h' _ hi => by simp at hi, fun i h hi => by simp at hi⟩
theorem rdN_nilT {T : Type} (w : World) (B : Nat) (cells : T → List Value) (A : Option Addr) : RdN w B cells A ([] : List (List T)) := ⟨[], rfl, fun h => absurd h (by simp), fun i h xs h1 => by simp at h1⟩

set_option maxRecDepth 100000 in
set_option maxHeartbeats 8000000 in
theorem specSplit_any (ord : List Wnt) (hw : ∀ x ∈ ord, wfW x) (m : Int) (A : Option Addr) (c : Nat) (w : World) (hl : ord.length ≤ 1048576) (hr : Rd w w.heap.size wcells A ord) :
    Calls Tryd.prog 21 #[.slice A ord.length c, .int .i64 m] w fun e w' => ∃ A' c', e = .returned (.tuple #[.slice A' (soL ord m).length c', .int .i64 (soC ord m)]) ∧ RdN w' w'.heap.size wcells A' (soL ord m) ∧ Below w.heap.size w w' := by
  obtain ⟨i0, hi0, hz0, hz1, hz2⟩ := info_parts Tryd.infoWI
  obtain ⟨j0, hj0, hy0, hy1, hy2⟩ := info_parts Tryd.infoLW
  have HI := Lib.hid hi0
  have HZ0 := Lib.hid hz0
  have HZ1 := Lib.hid hz1
  have HZ2 := Lib.hid hz2
  have HJ := Lib.hid hj0
  have HY0 := Lib.hid hy0
  have HY1 := Lib.hid hy1
  have HY2 := Lib.hid hy2
  clear hi0 hz0 hz1 hz2 hj0 hy0 hy1 hy2
  have HR := Lib.hid hr
  have HW := Lib.hid hw
  clear hr hw
  go_enter Tryd.func21, Tryd.ntmps21
  go_wp2_with fail
  refine (l02Ok_any ord HW.out A c w hl HR.out).mono ?_
  rintro e w1 ⟨rfl, hb⟩
  have HB1 := Lib.hid hb
  clear hb
  cases ho : ordOk ord
  · have E := Lib.hid (so_bad m ho)
    clear ho
    go_wp2
    go_ret2
    exact ⟨_, _, by (rw [E.out.1, E.out.2]; first | done | rfl), by rw [E.out.1]; exact rdN_nilT _ _ _ _, HB1.out.alloc HB1.out.size _⟩
  · have HN := Lib.hid (ordOk_N ho)
    have HL8 := Lib.hid (ordOk_L ho)
    go_wp2_with fail
    refine (l00In_any m 1 144 w1).mono ?_
    rintro e w2 ⟨rfl, rfl⟩
    by_cases hm : 1 ≤ m ∧ m ≤ 144
    · have hd : (decide (1 ≤ m) && decide (m ≤ 144)) = true := by simp [hm.1, hm.2]
      have E := Lib.hid (so_ok ho hm)
      obtain ⟨hm1, hm2⟩ := hm
      rw [hd]
      clear hd ho
      have HON0 := Lib.hid (empty_ownTT w1 w.heap.size HB1.out.size)
      have HB2 := Lib.hid (HB1.out.alloc HB1.out.size (.cells #[] 46))
      obtain ⟨W1, hW1⟩ : ∃ u, w1.alloc (.cells #[] 46) = u := ⟨_, rfl⟩
      rw [hW1] at HON0 HB2
      have HOw0 := Lib.hid (empty_ownT W1 91 3)
      have HBo0 : Hid (Below W1.heap.size W1 (W1.alloc (.cells #[] 91))) := (Below.refl _ W1).alloc (Nat.le_refl _) _
      have HB3 := Lib.hid (HB2.out.alloc HB2.out.size (.cells #[] 91))
      have HF0 : Hid (([] : List (List Wnt)) ++ fin m [] m (ord.drop 0) = spl m ord) := by show _ = _; rw [List.nil_append, List.drop_zero, fin_start hm1 HN.out]
      have HSz0 : Hid (w.heap.size ≤ W1.heap.size) := HB2.out.size
      clear HB1
      go_wp2_with fail
      try (rw [show (w1.alloc (.cells #[] 46)) = W1 from hW1])
      clear hW1
      go_loopw [6, 7, 8, 9] (fun ov nv rv iv wr => ∃ (i : Nat) (O : Option Addr) (oc : Nat) (hs : List Hd) (outs : List (List Wnt)) (N : Option Addr) (nc : Nat) (Wo : World) (now : List Wnt) (room : Int), i ≤ ord.length ∧ ov = .slice O hs.length oc ∧ nv = .slice N now.length nc ∧ rv = .int .i64 room ∧ iv = .int .i64 i ∧ 1 ≤ room ∧ room ≤ m ∧ outs ++ fin m now room (ord.drop i) = spl m ord ∧
          OwnN Wo w.heap.size 46 91 3 wcells O oc hs outs ∧ w.heap.size ≤ Wo.heap.size ∧ wr.ownsRow Wo.heap.size 91 3 (.slice N now.length nc) now.length (now.flatMap wcells) ∧ Below Wo.heap.size Wo wr ∧ Below w.heap.size w wr) (fun _ _ _ i _ => ord.length - (intOf i).toNat)
      case atStart => exact ⟨0, _, 0, [], [], _, 0, W1, [], m, Nat.zero_le _, rfl, rfl, rfl, rfl, hm1, Int.le_refl _, HF0.out, HON0.out, HSz0.out, HOw0.out, HBo0.out, HB3.out⟩
      case round =>
        clear HON0 HB2 HOw0 HBo0 HB3 HF0 HSz0
        obtain ⟨i, O, oc, hs, outs, N, nc, Wo, now, room, hi, rfl, rfl, rfl, rfl, hr1, hr2, hF, hON, hOb, hOw, hBo, hB⟩ := hrel
        obtain ⟨wa, rfl⟩ : ∃ u, u = wr := ⟨_, rfl⟩
        have HF := Lib.hid hF
        have HON := Lib.hid hON
        have HOb : Hid (w.heap.size ≤ Wo.heap.size) := hOb
        have HOw := Lib.hid hOw
        have HBo := Lib.hid hBo
        have HB := Lib.hid hB
        clear hF hON hOb hOw hBo hB
        have hi0 : (0 : Int) ≤ (i : Int) := Int.natCast_nonneg _
        by_cases hlt : i < ord.length
        · have hi8 : (i : Int) < ord.length := by omega
          have HI8 : Hid ((i : Int) < ord.length) := hi8
          obtain ⟨⟨⟨k1, y1⟩, q⟩, hx⟩ : ∃ x, ord[i]? = some x := ⟨_, List.getElem?_eq_getElem hlt⟩
          have HXi := Lib.hid hx
          have hq := HN.out _ (List.mem_of_getElem? hx)
          have hq1 : 1 ≤ q := hq.1
          have hq2 : q ≤ 144 := hq.2
          have HF1 : Hid (outs ++ fin m now room (remW ord i q) = spl m ord) := by show _ = _; rw [remW_new HN.out hx]; exact HF.out
          obtain ⟨bb, ob, rfl, hbb, hrow⟩ := (HR.out.keep HB.out).at_ wcells_length hx
          obtain ⟨p1, p2, p3⟩ := rowW hrow
          have hwq : IntKind.i64.wrap q = q := IntWalk.i64_in _ ⟨by omega, by omega⟩
          have hwq2 : wrap64 q = q := IntWalk.wrap64_in _ ⟨by omega, by omega⟩
          clear hq hx hrow hbb HF p1 p2
          go_wp2_with fail
          clear p3 hwq hwq2
          go_loopw [6, 7, 8, 10] (fun ov nv rv lv wr => ∃ (O : Option Addr) (oc : Nat) (hs : List Hd) (outs : List (List Wnt)) (N : Option Addr) (nc : Nat) (Wo : World) (now : List Wnt) (room left : Int), ov = .slice O hs.length oc ∧ nv = .slice N now.length nc ∧ rv = .int .i64 room ∧ lv = .int .i64 left ∧ 1 ≤ room ∧ room ≤ m ∧ 0 ≤ left ∧ left ≤ 144 ∧ outs ++ fin m now room (remW ord i left) = spl m ord ∧
              OwnN Wo w.heap.size 46 91 3 wcells O oc hs outs ∧ w.heap.size ≤ Wo.heap.size ∧ wr.ownsRow Wo.heap.size 91 3 (.slice N now.length nc) now.length (now.flatMap wcells) ∧ Below Wo.heap.size Wo wr ∧ Below w.heap.size w wr) (fun _ _ _ l _ => (intOf l).toNat)
          case atStart => exact ⟨O, oc, hs, outs, N, nc, Wo, now, room, q, rfl, rfl, rfl, rfl, hr1, hr2, by omega, hq2, HF1.out, HON.out, HOb.out, HOw.out, HBo.out, HB.out⟩
          case round =>
            clear HON HOb HOw HBo HF1 HB hr1 hr2 hq1 hq2
            obtain ⟨O, oc, hs, outs, N, nc, Wo, now, room, left, rfl, rfl, rfl, rfl, hr1, hr2, hl0, hl1, hF, hON, hOb, hOw, hBo, hB⟩ := hrel
            obtain ⟨wb, rfl⟩ : ∃ u, u = wr := ⟨_, rfl⟩
            have hbd := fin_bound HN.out hF
            have HNl : Hid (now.length ≤ 8) := by have := HL8.out; show _ ≤ _; omega
            have HOl : Hid (hs.length ≤ 1152) := by have := HL8.out; have := hON.2.1; show _ ≤ _; omega
            have HF := Lib.hid hF
            have HON := Lib.hid hON
            have HOb : Hid (w.heap.size ≤ Wo.heap.size) := hOb
            have HOw := Lib.hid hOw
            have HBo := Lib.hid hBo
            have HB := Lib.hid hB
            clear hF hON hOb hOw hBo hB hbd
            by_cases hl : 0 < left
            · by_cases hlr : left ≤ room
              · have hmin : min left room = left := by omega
                by_cases hlr2 : left = room
                · subst hlr2
                  have hs1 : wrap64 (left - left) = 0 := by rw [Int.sub_self]; exact IntWalk.wrap64_in _ ⟨by omega, by omega⟩
                  have hs2 : IntKind.i64.wrap (left - left) = 0 := by rw [Int.sub_self]; exact IntWalk.i64_in _ ⟨by omega, by omega⟩
                  go_wp2_with fail
                  refine (l00Min_any left left wb).mono ?_
                  rintro e w5 ⟨rfl, rfl⟩
                  rw [hmin]
                  clear hmin

                  have hw16 : IntKind.i16.wrap (left) = left := IntWalk.i16_in _ ⟨by omega, by omega⟩
                  obtain ⟨b2, o2, hA2, hbb, hrow⟩ := (HR.out.keep HB.out).at_ wcells_length HXi.out
                  obtain ⟨rfl, rfl⟩ : bb = b2 ∧ ob = o2 := by simpa using hA2
                  obtain ⟨p1, p2, p3⟩ := rowW hrow
                  have hi8 : (i : Int) < ord.length := HI8.out
                  have hi0 : (0 : Int) ≤ (i : Int) := Int.natCast_nonneg _
                  have hnl := HNl.out
                  clear hrow hbb hA2
                  go_wp2_with (at_builtin; refine wpList_append_own_at _ rfl (.tmp 40) (.tmp 49) 46 rfl Wo.heap.size 91 i0 (.agg #[.int .u8 0, .int .i16 0, .int .i16 0]) 3 6 Tryd.underlying46 HI.out HZ0.out HZ1.out HZ2.out rfl (by decide) _ _ _ rfl (HOw.out.alloc _) ⟨wb.heap.size, 0, none⟩ 1 1 [.int .u8 k1, .int .i16 y1, .int .i16 (left)] rfl rfl ?f1 ?f2 ?f3 ?f4 ?f5 ?_)
                  case f1 => exact cells3T wb _ _ _ _
                  case f2 => exact one3T _ _ _
                  case f3 => unfold maxLen; omega
                  case f4 => omega
                  case f5 => have := HBo.out.size; simp; omega
                  intro v8 w8 hown8 hg8 _ hblk8
                  rw [ownBlock_slice] at hg8
                  have hown9 : w8.ownsRow Wo.heap.size 91 3 v8 (now ++ [((k1, y1), left)]).length ((now ++ [((k1, y1), left)]).flatMap wcells) := by rw [List.length_append, List.flatMap_append]; simpa [wcells] using hown8
                  obtain ⟨A8, c8, rfl, -, -⟩ := own_rd wcells_length hown9
                  have hgb : ∀ q, N.map (·.block) = some q → Wo.heap.size ≤ q := fun q e => (own_block HOw.out (by rw [ownBlock_slice]; exact e)).1
                  have HBo8 : Hid (Below Wo.heap.size Wo w8) := (HBo.out.alloc HBo.out.size _).grown hg8 (HBo.out.alloc HBo.out.size _).size hgb
                  have HB8 : Hid (Below w.heap.size w w8) := (HB.out.alloc HB.out.size _).grown hg8 (HB.out.alloc HB.out.size _).size (fun q e => by have := hgb q e; have := HOb.out; omega)
                  obtain ⟨t2, ht2⟩ : ∃ t2, now ++ [((k1, y1), left)] = t2 := ⟨_, rfl⟩
                  have hl2 : now.length + 1 = t2.length := by rw [← ht2]; simp
                  rw [ht2] at hown9 ⊢
                  have HT := Lib.hid hown9
                  have hF2 := stepA2 hm1 HN.out HXi.out hl HF.out
                  rw [ht2] at hF2
                  have HF2 := Lib.hid hF2
                  clear hown8 hown9 hg8 hblk8 hgb ht2 hl2 hF2 hw16 p1 p2 p3 hnl

                  have hA1 : Below w8.heap.size w8 (w8.alloc (.cells #[.slice A8 t2.length c8] 46)) := (Below.refl _ w8).alloc (Nat.le_refl _) _
                  have HON8 := Lib.hid (HON.out.keep (HBo8.out.trans (hA1.mono HBo8.out.size)))
                  have HX8 := Lib.hid (own_keep' HT.out hA1)
                  have HBw8 := Lib.hid (HBo8.out.trans (hA1.mono HBo8.out.size))
                  have HBb8 := Lib.hid (HB8.out.trans (hA1.mono HB8.out.size))
                  have HSz8 : Hid (w.heap.size ≤ w8.heap.size) := HB8.out.size
                  have hol := HOl.out
                  clear hA1
                  go_wp2_with (at_builtin; refine wpList_append_any _ rfl (.tmp 59) (.tmp 61) 43 43 rfl w.heap.size 46 j0 (.slice none 0 0) 1 24 Tryd.underlying43 HJ.out HY0.out HY1.out HY2.out rfl (by decide) _ hs.length (hs.flatMap hcells) rfl ?own _ 1 (hcells (A8, t2.length, c8)) rfl ?src ?c3 ?c4 ?c5 ?_)
                  case own => exact HON8.out.1
                  case src => exact src_hd Tryd.underlying43 w8 (A8, t2.length, c8)
                  case c3 => unfold maxLen; omega
                  case c4 => omega
                  case c5 => have := HSz8.out; simp; omega
                  intro v9 w9 hown9 hg9 hblk9
                  rw [ownBlock_slice] at hg9 hblk9
                  obtain ⟨A9, c9, hv9, -, -⟩ := own_rd (xs := hs ++ [(A8, t2.length, c8)]) hcells_length (by rw [List.length_append, List.flatMap_append]; simpa using hown9)
                  rw [List.length_append] at hv9
                  have hv9 : v9 = .slice A9 (hs.length + 1) c9 := hv9
                  subst hv9
                  rw [ownBlock_slice] at hblk9
                  have hN9 := OwnN.snoc HON.out HOb.out HBw8.out HX8.out hown9 hg9 (by first | exact hblk9 | (simp only [World.size_alloc] at hblk9 ⊢; exact hblk9) | exact hblk9.elim .inl (fun h => .inr (by rw [h]; simp)))
                  have HON9 := Lib.hid hN9
                  have HB9 : Hid (Below w.heap.size w w9) := HBb8.out.grown hg9 HBb8.out.size (fun q e => by have := (own_block HON.out.1 (by rw [ownBlock_slice]; exact e)).1; omega)
                  have HOw9 := Lib.hid (own_base (empty_ownT w9 91 3) (Nat.le_refl w9.heap.size))
                  have HBo9 : Hid (Below w9.heap.size w9 (w9.alloc (.cells #[] 91))) := (Below.refl _ w9).alloc (Nat.le_refl _) _
                  have HB10 : Hid (Below w.heap.size w (w9.alloc (.cells #[] 91))) := HB9.out.alloc HB9.out.size _
                  have HSz9 : Hid (w.heap.size ≤ w9.heap.size) := HB9.out.size
                  clear hown9 hg9 hblk9 hN9 HON8 HX8 HBw8 HBb8 HT
                  go_wp2
                  go_roundw
                  case rel => exact ⟨A9, c9, hs ++ [(A8, t2.length, c8)], outs ++ [t2], some ⟨w9.heap.size, 0, none⟩, 0, w9, [], m, 0, by simp, rfl, rfl, by first | rfl | go_num, by omega, by omega, by omega, by omega, HF2.out, HON9.out, HSz9.out, HOw9.out, HBo9.out, HB10.out⟩
                  case measure => simp [intOf]; omega
                · have hs1 : wrap64 (left - left) = 0 := by rw [Int.sub_self]; exact IntWalk.wrap64_in _ ⟨by omega, by omega⟩
                  have hs2 : IntKind.i64.wrap (left - left) = 0 := by rw [Int.sub_self]; exact IntWalk.i64_in _ ⟨by omega, by omega⟩
                  have hs3 : wrap64 (room - left) = room - left := IntWalk.wrap64_in _ ⟨by omega, by omega⟩
                  have hs4 : IntKind.i64.wrap (room - left) = room - left := IntWalk.i64_in _ ⟨by omega, by omega⟩
                  have hz5 : (room - left == 0) = false := by simp; omega
                  have hz6 : ¬ room - left = 0 := by omega
                  go_wp2_with fail
                  refine (l00Min_any left room wb).mono ?_
                  rintro e w5 ⟨rfl, rfl⟩
                  rw [hmin]
                  clear hmin

                  have hw16 : IntKind.i16.wrap (left) = left := IntWalk.i16_in _ ⟨by omega, by omega⟩
                  obtain ⟨b2, o2, hA2, hbb, hrow⟩ := (HR.out.keep HB.out).at_ wcells_length HXi.out
                  obtain ⟨rfl, rfl⟩ : bb = b2 ∧ ob = o2 := by simpa using hA2
                  obtain ⟨p1, p2, p3⟩ := rowW hrow
                  have hi8 : (i : Int) < ord.length := HI8.out
                  have hi0 : (0 : Int) ≤ (i : Int) := Int.natCast_nonneg _
                  have hnl := HNl.out
                  clear hrow hbb hA2
                  go_wp2_with (at_builtin; refine wpList_append_own_at _ rfl (.tmp 40) (.tmp 49) 46 rfl Wo.heap.size 91 i0 (.agg #[.int .u8 0, .int .i16 0, .int .i16 0]) 3 6 Tryd.underlying46 HI.out HZ0.out HZ1.out HZ2.out rfl (by decide) _ _ _ rfl (HOw.out.alloc _) ⟨wb.heap.size, 0, none⟩ 1 1 [.int .u8 k1, .int .i16 y1, .int .i16 (left)] rfl rfl ?f1 ?f2 ?f3 ?f4 ?f5 ?_)
                  case f1 => exact cells3T wb _ _ _ _
                  case f2 => exact one3T _ _ _
                  case f3 => unfold maxLen; omega
                  case f4 => omega
                  case f5 => have := HBo.out.size; simp; omega
                  intro v8 w8 hown8 hg8 _ hblk8
                  rw [ownBlock_slice] at hg8
                  have hown9 : w8.ownsRow Wo.heap.size 91 3 v8 (now ++ [((k1, y1), left)]).length ((now ++ [((k1, y1), left)]).flatMap wcells) := by rw [List.length_append, List.flatMap_append]; simpa [wcells] using hown8
                  obtain ⟨A8, c8, rfl, -, -⟩ := own_rd wcells_length hown9
                  have hgb : ∀ q, N.map (·.block) = some q → Wo.heap.size ≤ q := fun q e => (own_block HOw.out (by rw [ownBlock_slice]; exact e)).1
                  have HBo8 : Hid (Below Wo.heap.size Wo w8) := (HBo.out.alloc HBo.out.size _).grown hg8 (HBo.out.alloc HBo.out.size _).size hgb
                  have HB8 : Hid (Below w.heap.size w w8) := (HB.out.alloc HB.out.size _).grown hg8 (HB.out.alloc HB.out.size _).size (fun q e => by have := hgb q e; have := HOb.out; omega)
                  obtain ⟨t2, ht2⟩ : ∃ t2, now ++ [((k1, y1), left)] = t2 := ⟨_, rfl⟩
                  have hl2 : now.length + 1 = t2.length := by rw [← ht2]; simp
                  rw [ht2] at hown9 ⊢
                  have HT := Lib.hid hown9
                  have hF2 := stepA1 HXi.out hl hlr HF.out
                  rw [ht2] at hF2
                  have HF2 := Lib.hid hF2
                  clear hown8 hown9 hg8 hblk8 hgb ht2 hl2 hF2 hw16 p1 p2 p3 hnl

                  go_wp2
                  go_roundw
                  case rel => exact ⟨O, oc, hs, outs, A8, c8, Wo, t2, room - left, 0, rfl, rfl, rfl, by first | rfl | go_num, by omega, by omega, by omega, by omega, HF2.out, HON.out, HOb.out, HT.out, HBo8.out, HB8.out⟩
                  case measure => simp [intOf]; omega
              · have hmin : min left room = room := by omega
                have hs1 : wrap64 (room - room) = 0 := by rw [Int.sub_self]; exact IntWalk.wrap64_in _ ⟨by omega, by omega⟩
                have hs2 : IntKind.i64.wrap (room - room) = 0 := by rw [Int.sub_self]; exact IntWalk.i64_in _ ⟨by omega, by omega⟩
                have hs3 : wrap64 (left - room) = left - room := IntWalk.wrap64_in _ ⟨by omega, by omega⟩
                have hs4 : IntKind.i64.wrap (left - room) = left - room := IntWalk.i64_in _ ⟨by omega, by omega⟩
                go_wp2_with fail
                refine (l00Min_any left room wb).mono ?_
                rintro e w5 ⟨rfl, rfl⟩
                rw [hmin]
                clear hmin

                have hw16 : IntKind.i16.wrap (room) = room := IntWalk.i16_in _ ⟨by omega, by omega⟩
                obtain ⟨b2, o2, hA2, hbb, hrow⟩ := (HR.out.keep HB.out).at_ wcells_length HXi.out
                obtain ⟨rfl, rfl⟩ : bb = b2 ∧ ob = o2 := by simpa using hA2
                obtain ⟨p1, p2, p3⟩ := rowW hrow
                have hi8 : (i : Int) < ord.length := HI8.out
                have hi0 : (0 : Int) ≤ (i : Int) := Int.natCast_nonneg _
                have hnl := HNl.out
                clear hrow hbb hA2
                go_wp2_with (at_builtin; refine wpList_append_own_at _ rfl (.tmp 40) (.tmp 49) 46 rfl Wo.heap.size 91 i0 (.agg #[.int .u8 0, .int .i16 0, .int .i16 0]) 3 6 Tryd.underlying46 HI.out HZ0.out HZ1.out HZ2.out rfl (by decide) _ _ _ rfl (HOw.out.alloc _) ⟨wb.heap.size, 0, none⟩ 1 1 [.int .u8 k1, .int .i16 y1, .int .i16 (room)] rfl rfl ?f1 ?f2 ?f3 ?f4 ?f5 ?_)
                case f1 => exact cells3T wb _ _ _ _
                case f2 => exact one3T _ _ _
                case f3 => unfold maxLen; omega
                case f4 => omega
                case f5 => have := HBo.out.size; simp; omega
                intro v8 w8 hown8 hg8 _ hblk8
                rw [ownBlock_slice] at hg8
                have hown9 : w8.ownsRow Wo.heap.size 91 3 v8 (now ++ [((k1, y1), room)]).length ((now ++ [((k1, y1), room)]).flatMap wcells) := by rw [List.length_append, List.flatMap_append]; simpa [wcells] using hown8
                obtain ⟨A8, c8, rfl, -, -⟩ := own_rd wcells_length hown9
                have hgb : ∀ q, N.map (·.block) = some q → Wo.heap.size ≤ q := fun q e => (own_block HOw.out (by rw [ownBlock_slice]; exact e)).1
                have HBo8 : Hid (Below Wo.heap.size Wo w8) := (HBo.out.alloc HBo.out.size _).grown hg8 (HBo.out.alloc HBo.out.size _).size hgb
                have HB8 : Hid (Below w.heap.size w w8) := (HB.out.alloc HB.out.size _).grown hg8 (HB.out.alloc HB.out.size _).size (fun q e => by have := hgb q e; have := HOb.out; omega)
                obtain ⟨t2, ht2⟩ : ∃ t2, now ++ [((k1, y1), room)] = t2 := ⟨_, rfl⟩
                have hl2 : now.length + 1 = t2.length := by rw [← ht2]; simp
                rw [ht2] at hown9 ⊢
                have HT := Lib.hid hown9
                have hF2 := stepB hm1 HN.out HXi.out hr1 (by omega) hl1 HF.out
                rw [ht2] at hF2
                have HF2 := Lib.hid hF2
                clear hown8 hown9 hg8 hblk8 hgb ht2 hl2 hF2 hw16 p1 p2 p3 hnl

                have hA1 : Below w8.heap.size w8 (w8.alloc (.cells #[.slice A8 t2.length c8] 46)) := (Below.refl _ w8).alloc (Nat.le_refl _) _
                have HON8 := Lib.hid (HON.out.keep (HBo8.out.trans (hA1.mono HBo8.out.size)))
                have HX8 := Lib.hid (own_keep' HT.out hA1)
                have HBw8 := Lib.hid (HBo8.out.trans (hA1.mono HBo8.out.size))
                have HBb8 := Lib.hid (HB8.out.trans (hA1.mono HB8.out.size))
                have HSz8 : Hid (w.heap.size ≤ w8.heap.size) := HB8.out.size
                have hol := HOl.out
                clear hA1
                go_wp2_with (at_builtin; refine wpList_append_any _ rfl (.tmp 59) (.tmp 61) 43 43 rfl w.heap.size 46 j0 (.slice none 0 0) 1 24 Tryd.underlying43 HJ.out HY0.out HY1.out HY2.out rfl (by decide) _ hs.length (hs.flatMap hcells) rfl ?own _ 1 (hcells (A8, t2.length, c8)) rfl ?src ?c3 ?c4 ?c5 ?_)
                case own => exact HON8.out.1
                case src => exact src_hd Tryd.underlying43 w8 (A8, t2.length, c8)
                case c3 => unfold maxLen; omega
                case c4 => omega
                case c5 => have := HSz8.out; simp; omega
                intro v9 w9 hown9 hg9 hblk9
                rw [ownBlock_slice] at hg9 hblk9
                obtain ⟨A9, c9, hv9, -, -⟩ := own_rd (xs := hs ++ [(A8, t2.length, c8)]) hcells_length (by rw [List.length_append, List.flatMap_append]; simpa using hown9)
                rw [List.length_append] at hv9
                have hv9 : v9 = .slice A9 (hs.length + 1) c9 := hv9
                subst hv9
                rw [ownBlock_slice] at hblk9
                have hN9 := OwnN.snoc HON.out HOb.out HBw8.out HX8.out hown9 hg9 (by first | exact hblk9 | (simp only [World.size_alloc] at hblk9 ⊢; exact hblk9) | exact hblk9.elim .inl (fun h => .inr (by rw [h]; simp)))
                have HON9 := Lib.hid hN9
                have HB9 : Hid (Below w.heap.size w w9) := HBb8.out.grown hg9 HBb8.out.size (fun q e => by have := (own_block HON.out.1 (by rw [ownBlock_slice]; exact e)).1; omega)
                have HOw9 := Lib.hid (own_base (empty_ownT w9 91 3) (Nat.le_refl w9.heap.size))
                have HBo9 : Hid (Below w9.heap.size w9 (w9.alloc (.cells #[] 91))) := (Below.refl _ w9).alloc (Nat.le_refl _) _
                have HB10 : Hid (Below w.heap.size w (w9.alloc (.cells #[] 91))) := HB9.out.alloc HB9.out.size _
                have HSz9 : Hid (w.heap.size ≤ w9.heap.size) := HB9.out.size
                clear hown9 hg9 hblk9 hN9 HON8 HX8 HBw8 HBb8 HT
                go_wp2
                go_roundw
                case rel => exact ⟨A9, c9, hs ++ [(A8, t2.length, c8)], outs ++ [t2], some ⟨w9.heap.size, 0, none⟩, 0, w9, [], m, left - room, by simp, rfl, rfl, by first | rfl | go_num, by omega, by omega, by omega, by omega, HF2.out, HON9.out, HSz9.out, HOw9.out, HBo9.out, HB10.out⟩
                case measure => simp [intOf]; omega
            · obtain rfl : left = 0 := by omega
              have HF2 : Hid (outs ++ fin m now room (ord.drop (i + 1)) = spl m ord) := by show _ = _; have := HF.out; rwa [remW_none HXi.out] at this
              go_wp2
              go_roundw
              case rel => exact ⟨i + 1, O, oc, hs, outs, N, nc, Wo, now, room, by omega, rfl, rfl, rfl, by go_num, hr1, hr2, HF2.out, HON.out, HOb.out, HOw.out, HBo.out, HB.out⟩
              case measure => simp [intOf]; omega
        · obtain rfl : i = ord.length := by omega
          have HF2 := HF.out
          rw [List.drop_length, fin_end] at HF2
          have HOl : Hid (hs.length ≤ 1152) := by have := HL8.out; have := HON.out.2.1; have := fin_bound HN.out HF.out; show _ ≤ _; omega
          by_cases hn0 : now = []
          · subst hn0
            rw [if_pos rfl, List.append_nil] at HF2
            have HF3 := Lib.hid HF2
            have HLl : Hid (hs.length = (spl m ord).length) := by show _ = _; rw [← HF2]; exact HON.out.2.1
            have HRd : Hid (RdN wa wa.heap.size wcells O (spl m ord)) := by show RdN _ _ _ _ _; rw [← HF2]; exact (HON.out.keep HBo.out).rd wcells_length
            clear HF2 hr1 hr2
            dsimp only [List.length_nil]
            go_wp2
            go_ret2
            exact ⟨O, oc, by (rw [E.out.1, E.out.2, ← HLl.out]; first | done | rfl), by rw [E.out.1]; exact HRd.out, HB.out⟩
          · rw [if_neg hn0] at HF2
            have HF3 := Lib.hid HF2
            have hnl : 0 < now.length := List.length_pos_iff.2 hn0
            have hnl2 : (0 : Int) < (now.length : Int) := by omega
            have hol := HOl.out
            have hA1 : Below wa.heap.size wa (wa.alloc (.cells #[.slice N now.length nc] 46)) := (Below.refl _ wa).alloc (Nat.le_refl _) _
            have HON8 := Lib.hid (HON.out.keep (HBo.out.trans (hA1.mono HBo.out.size)))
            have HX8 := Lib.hid (own_keep' HOw.out hA1)
            have HBw8 := Lib.hid (HBo.out.trans (hA1.mono HBo.out.size))
            have HBb8 := Lib.hid (HB.out.trans (hA1.mono HB.out.size))
            have HSz8 : Hid (w.heap.size ≤ wa.heap.size) := HB.out.size
            clear hA1 HF2 hr1 hr2 hn0
            go_wp2_with (at_builtin; refine wpList_append_any _ rfl (.tmp 68) (.tmp 70) 43 43 rfl w.heap.size 46 j0 (.slice none 0 0) 1 24 Tryd.underlying43 HJ.out HY0.out HY1.out HY2.out rfl (by decide) _ hs.length (hs.flatMap hcells) rfl ?own _ 1 (hcells (N, now.length, nc)) rfl ?src ?c3 ?c4 ?c5 ?_)
            case own => exact HON8.out.1
            case src => exact src_hd Tryd.underlying43 wa (N, now.length, nc)
            case c3 => unfold maxLen; omega
            case c4 => omega
            case c5 => have := HSz8.out; simp; omega
            intro v9 w9 hown9 hg9 hblk9
            rw [ownBlock_slice] at hg9 hblk9
            obtain ⟨A9, c9, hv9, -, -⟩ := own_rd (xs := hs ++ [(N, now.length, nc)]) hcells_length (by rw [List.length_append, List.flatMap_append]; simpa using hown9)
            rw [List.length_append] at hv9
            have hv9 : v9 = .slice A9 (hs.length + 1) c9 := hv9
            subst hv9
            rw [ownBlock_slice] at hblk9
            have hN9 := OwnN.snoc HON.out HOb.out HBw8.out HX8.out hown9 hg9 (by first | exact hblk9 | (simp only [World.size_alloc] at hblk9 ⊢; exact hblk9) | exact hblk9.elim .inl (fun h => .inr (by rw [h]; simp)))
            have HRd : Hid (RdN w9 w9.heap.size wcells A9 (spl m ord)) := by show RdN _ _ _ _ _; rw [← HF3.out]; exact hN9.rd wcells_length
            have HLl : Hid (hs.length + 1 = (spl m ord).length) := by show _ = _; rw [← HF3.out, List.length_append, HON.out.2.1]; rfl
            have HB9 : Hid (Below w.heap.size w w9) := HBb8.out.grown hg9 HBb8.out.size (fun q e => by have := (own_block HON.out.1 (by rw [ownBlock_slice]; exact e)).1; omega)
            clear hown9 hg9 hblk9 hN9 HON8 HX8 HBw8 HBb8
            go_wp2
            go_ret2
            exact ⟨A9, c9, by (rw [E.out.1, E.out.2, ← HLl.out]; first | done | rfl), by rw [E.out.1]; exact HRd.out, HB9.out⟩
    · have hd : (decide (1 ≤ m) && decide (m ≤ 144)) = false := by
        rw [Bool.eq_false_iff]; intro h; simp only [Bool.and_eq_true, decide_eq_true_eq] at h; exact hm h
      have E := Lib.hid (so_far ho hm)
      rw [hd]
      clear hd hm ho
      go_wp2
      go_ret2
      exact ⟨_, _, by (rw [E.out.1, E.out.2]; first | done | rfl), by rw [E.out.1]; exact rdN_nilT _ _ _ _, HB1.out.alloc HB1.out.size _⟩
end Go.Proofs.YtkehmelcecifdaaDoor
