/-
  The contracts of the model's l02Lack and l02Useful. Condition: the lists read as crates, wants and numbers of crates; the wants' bottles are none that are free.
-/
import Derived.Test.YtkehmelcecifdaaDoorLh
import Derived.Test.YtkehmelcecifdaaDoorOe
import Derived.Test.YtkehmelcecifdaaDoorMg2
import Derived.Test.YtkehmelcecifdaaDoorMg4
namespace Go.Proofs.YtkehmelcecifdaaDoor
open Go.ChangeShapes Go.WideShapes Go.ChangeAt Go.RowKit Go.Deep

theorem l00HasTo_any (xs : List Int) (k : Nat) (n : Int) (A : Option Addr) (c : Nat) (w : World) (hk : k ≤ xs.length) (hl : xs.length ≤ 1048576) (hr : Rd w w.heap.size icells A xs) :
    Calls Tryd.prog 62 #[.slice A k c, .int .i64 n] w fun e w' => e = .returned (.bool (decide (n ∈ xs.take k))) ∧ w = w' := by
  have := l00Has_any (xs.take k) n A c w (by rw [List.length_take]; omega) (hr.take k)
  rw [List.length_take, Nat.min_eq_left hk] at this
  exact this
theorem wcells_snoc (xs : List Wnt) (k y n : Int) : (xs ++ [((k, y), n)]).flatMap wcells = xs.flatMap wcells ++ [.int .u8 k, .int .i16 y, .int .i16 n] := by rw [List.flatMap_append]; rfl
theorem three_one (k y n : Int) : ∀ v ∈ [Value.int .u8 k, .int .i16 y, .int .i16 n], v.oneCell' = true := by
  intro v hv; simp only [List.mem_cons, List.not_mem_nil, or_false] at hv; rcases hv with rfl | rfl | rfl <;> rfl
theorem cell_three_new (W : World) (u v x : Value) (t : TypeId) : ∀ (j : Nat) (y : Value), [u, v, x][j]? = some y → (W.alloc (.cells #[u, v, x] t)).cell? ((⟨W.heap.size, 0, none⟩ : Addr).add j) = some y := by
  intro j y hy
  have h := cell_of_row (W.alloc (.cells #[u, v, x] t)) W.heap.size j #[u, v, x] t (0, 0) (heap_alloc_new W _)
  have e : (⟨W.heap.size, 0, none⟩ : Addr).add j = ⟨W.heap.size, j, none⟩ := by cases j <;> simp [Addr.add]
  rw [e, h]
  simpa using hy
theorem pick_le (xs : List Crt) (cr : List Int) (k : Nat) : (pick xs (onceTo cr k)).length ≤ k := Nat.le_trans (pick_length _ _) (onceTo_length _ _)
theorem cnt_new {xs : List Crt} {cr : List Int} {k : Nat} {c : Int} {x : Crt} (h : cr[k]? = some c) (hm : c ∉ cr.take k) (hx : xs[c.toNat]? = some x) (b : Bot) : cntAll (pick xs (onceTo cr (k + 1))) b = cntAll (pick xs (onceTo cr k)) b + mult x b := by
  rw [onceTo_new h hm, pick_snoc hx, cntAll_snoc]
theorem cnt_old {xs : List Crt} {cr : List Int} {k : Nat} {c : Int} (h : cr[k]? = some c) (hm : c ∈ cr.take k) (b : Bot) : cntAll (pick xs (onceTo cr (k + 1))) b = cntAll (pick xs (onceTo cr k)) b := by
  rw [onceTo_old h hm]

set_option maxRecDepth 100000 in
set_option maxHeartbeats 8000000 in
theorem l02Lack_any (xs : List Crt) (ord : List Wnt) (cr : List Int) (A A2 A3 : Option Addr) (c c2 c3 : Nat) (w : World) (hl : xs.length ≤ 1048576) (hl2 : ord.length ≤ 1048576) (hl3 : cr.length ≤ 1048576) (hc3 : cr.length ≤ c3)
    (hw : ∀ x ∈ ord, wfW x) (hv : ∀ x ∈ ord, eB x.1 = false) (hin : ∀ i ∈ cr, 0 ≤ i ∧ i < xs.length)
    (hr : Rd w w.heap.size kcells A xs) (hr2 : Rd w w.heap.size wcells A2 ord) (hr3 : Rd w w.heap.size icells A3 cr) :
    Calls Tryd.prog 61 #[.slice A xs.length c, .slice A2 ord.length c2, .slice A3 cr.length c3] w fun e w' => ∃ v, e = .returned v ∧ w'.ownsRow w.heap.size 91 3 v (lack (cntOf xs cr) ord).length ((lack (cntOf xs cr) ord).flatMap wcells) ∧ Below w.heap.size w w' := by
  have HR := Lib.hid hr
  have HR2 := Lib.hid hr2
  have HR3 := Lib.hid hr3
  have HW := Lib.hid hw
  have HV := Lib.hid hv
  have HIn := Lib.hid hin
  clear hr hr2 hr3 hw hv hin
  go_enter Tryd.func61, Tryd.ntmps61
  obtain ⟨i0, hi, hz0, hz1, hz2⟩ := info_parts Tryd.infoWI
  have HI := Lib.hid hi
  have HZ0 := Lib.hid hz0
  have HZ1 := Lib.hid hz1
  have HZ2 := Lib.hid hz2
  clear hi hz0 hz1 hz2
  go_wp2_with fail
  go_loopw [7, 8] (fun v i wr => ∃ k : Nat, k ≤ ord.length ∧ i = .int .i64 k ∧ wr.ownsRow w.heap.size 91 3 v (lackTo (cntOf xs cr) ord k).length ((lackTo (cntOf xs cr) ord k).flatMap wcells) ∧ Below w.heap.size w wr) (fun _ i _ => ord.length - (intOf i).toNat)
  case atStart =>
    refine ⟨0, by omega, rfl, ⟨rfl, .inr ⟨w.heap.size, 0, #[], rfl, Nat.le_refl _, heap_alloc_new w _, Nat.le_refl _, by unfold maxLen; omega, rfl, rfl⟩⟩, (by repeat (first | exact Below.refl _ _ | refine Below.drew ?_ | refine Below.alloc ?_ (by simp <;> omega) _ | refine Below.setCell ?_ (by simp <;> omega) _))⟩
  case round =>
    obtain ⟨k, hk, rfl, hown, hb⟩ := hrel
    have HO := Lib.hid hown
    have Hb := Lib.hid hb
    clear hown hb
    by_cases hlt : k < ord.length
    · obtain ⟨⟨⟨k1, y1⟩, n1⟩, hx⟩ : ∃ x, ord[k]? = some x := ⟨_, List.getElem?_eq_getElem hlt⟩
      have hwx := HW.out _ (List.mem_of_getElem? hx)
      have HE1 : Hid (eB (k1, y1) = false) := HV.out _ (List.mem_of_getElem? hx)
      obtain ⟨b2, o2, rfl, hbl2, hrow2⟩ := HR2.out.at_ wcells_length hx
      obtain ⟨e1, e2, e3⟩ := rowW (rangeAt_below hrow2 Hb.out hbl2)
      have HRow2 := Lib.hid hrow2
      have HX := Lib.hid hx
      have HBl2 : Hid (b2 < w.heap.size) := hbl2
      have hk0 : (0 : Int) ≤ (k : Int) := Int.natCast_nonneg _
      have hk8 : (k : Int) < ord.length := by omega
      have hn1 : -32768 ≤ n1 := hwx.2.1
      have hn2 : n1 ≤ 32767 := hwx.2.2
      have hwk := hwx.1
      clear hx hwx hrow2 hbl2
      go_wp2_with fail
      clear e1 e2 e3
      obtain ⟨wo, rfl⟩ : ∃ wo, wo = wr := ⟨_, rfl⟩
      go_loopw [9, 10] (fun s i wr2 => ∃ m : Nat, m ≤ cr.length ∧ i = .int .i64 m ∧ s = .int .i64 (n1 - (cntAll (pick xs (onceTo cr m)) (k1, y1) : Nat)) ∧ Below wo.heap.size wo wr2) (fun _ i _ => cr.length - (intOf i).toNat)
      case atStart => exact ⟨0, by omega, rfl, by simp [onceTo, pick, cntAll], Below.refl _ _⟩
      case round =>
        obtain ⟨m, hm, rfl, rfl, q1⟩ := hrel
        have Q1 := Lib.hid q1
        have Q2 : Hid (Below w.heap.size w wr) := Hb.out.trans (q1.mono Hb.out.size)
        clear q1
        by_cases hlt2 : m < cr.length
        · obtain ⟨ci, hci⟩ : ∃ x, cr[m]? = some x := ⟨_, List.getElem?_eq_getElem hlt2⟩
          obtain ⟨hci0, hci1⟩ := HIn.out ci (List.mem_of_getElem? hci)
          obtain ⟨j, rfl⟩ : ∃ j : Nat, ci = (j : Int) := ⟨ci.toNat, (Int.toNat_of_nonneg hci0).symm⟩
          obtain ⟨b3, o3, rfl, hbl3, hrow3⟩ := HR3.out.at_ icells_length hci
          obtain ⟨x, hxc⟩ : ∃ x, xs[j]? = some x := ⟨_, List.getElem?_eq_getElem (by omega)⟩
          obtain ⟨bc, oc, rfl, hblc, hrowc⟩ := HR.out.at_ kcells_length hxc
          have HRow3 := Lib.hid hrow3
          have HBl3 : Hid (b3 < w.heap.size) := hbl3
          have HRowC := Lib.hid hrowc
          have HBlC : Hid (bc < w.heap.size) := hblc
          have HXc := Lib.hid hxc
          have HCi := Lib.hid hci
          have hm0 : (0 : Int) ≤ (m : Int) := Int.natCast_nonneg _
          have hm8 : (m : Int) < cr.length := by omega
          have hj0 : (0 : Int) ≤ (j : Int) := Int.natCast_nonneg _
          have hj8 : (j : Int) < xs.length := by omega
          have hmc : (m : Int) ≤ c3 := by omega
          have hbd := cntAll_le (pick xs (onceTo cr m)) (k1, y1)
          have hbp := pick_le xs cr m
          have hmul := mult_le x (k1, y1)
          clear hci hrow3 hbl3 hrowc hblc hxc
          obtain ⟨sn, hsn⟩ : ∃ n, cntAll (pick xs (onceTo cr m)) (k1, y1) = n := ⟨_, rfl⟩
          rw [hsn] at hbd ⊢
          have HSn := Lib.hid hsn
          clear hsn
          obtain ⟨mn, hmn⟩ : ∃ n, mult x (k1, y1) = n := ⟨_, rfl⟩
          rw [hmn] at hmul
          have HMn := Lib.hid hmn
          clear hmn
          have hs1 : IntKind.i64.wrap (n1 - (sn : Int) - mn) = n1 - sn - mn := IntWalk.i64_in _ ⟨by omega, by omega⟩
          have hs2 : wrap64 (n1 - (sn : Int) - mn) = n1 - sn - mn := IntWalk.wrap64_in _ ⟨by omega, by omega⟩
          obtain ⟨ob, hob⟩ : ∃ b, decide ((j : Int) ∈ cr.take m) = b := ⟨_, rfl⟩
          have HD := Lib.hid hob
          clear hob
          go_wp2_with fail
          refine wp_region_held_drew (S := fun w' => Below wr.heap.size wr w') (by kernel_rfl) (Below.refl _ _).drew (fun hHeld => ?_)
          refine wpAnyH_take (i := 0) (v := .slice (some ⟨b3, o3, none⟩) cr.length c3) rfl (by kernel_rfl) (by kernel_rfl) (by kernel_rfl) (fun _ _ _ h => h) (Or.inl ⟨by rfl, fun w' h => by go_simp⟩) (by assumption) ?_
          try simp only [Act.put, List.getElem_toArray, List.getElem_cons_zero, List.getElem_cons_succ, List.setIfInBounds_toArray, List.set_cons_zero, List.set_cons_succ]
          refine wpAnyH_take (i := 1) (v := .int .i64 m) rfl (by kernel_rfl) (by kernel_rfl) (by kernel_rfl) (fun _ _ _ h => h) (Or.inl ⟨by rfl, fun w' h => by go_simp⟩) (by assumption) ?_
          try simp only [Act.put, List.getElem_toArray, List.getElem_cons_zero, List.getElem_cons_succ, List.setIfInBounds_toArray, List.set_cons_zero, List.set_cons_succ]
          refine wpAnyH_take (i := 2) (v := .slice (some ⟨b3, o3, none⟩) m c3) rfl (by kernel_rfl) (by kernel_rfl) (by kernel_rfl) (fun _ _ _ h => h) (Or.inl ⟨by rfl, fun w' h => by go_simp⟩) (by assumption) ?_
          try simp only [Act.put, List.getElem_toArray, List.getElem_cons_zero, List.getElem_cons_succ, List.setIfInBounds_toArray, List.set_cons_zero, List.set_cons_succ]
          refine wpAnyH_take (i := 3) (v := .slice (some ⟨b3, o3, none⟩) cr.length c3) rfl (by kernel_rfl) (by kernel_rfl) (by kernel_rfl) (fun _ _ _ h => h) (Or.inl ⟨by rfl, fun w' h => by go_simp⟩) (by assumption) ?_
          try simp only [Act.put, List.getElem_toArray, List.getElem_cons_zero, List.getElem_cons_succ, List.setIfInBounds_toArray, List.set_cons_zero, List.set_cons_succ]
          refine wpAnyH_take (i := 4) (v := .int .i64 m) rfl (by kernel_rfl) (by kernel_rfl) (by kernel_rfl) (fun _ _ _ h => h) (Or.inl ⟨by rfl, fun w' h => by go_simp⟩) (by assumption) ?_
          try simp only [Act.put, List.getElem_toArray, List.getElem_cons_zero, List.getElem_cons_succ, List.setIfInBounds_toArray, List.set_cons_zero, List.set_cons_succ]
          refine wpAnyH_take (i := 5) (v := .pointer (some ⟨b3, o3 + m, none⟩)) rfl (by kernel_rfl) (by kernel_rfl) (by kernel_rfl) (fun _ _ _ h => h) (Or.inl ⟨by rfl, fun w' h => by go_simp⟩) (by assumption) ?_
          try simp only [Act.put, List.getElem_toArray, List.getElem_cons_zero, List.getElem_cons_succ, List.setIfInBounds_toArray, List.set_cons_zero, List.set_cons_succ]
          refine wpAnyH_take (i := 6) (v := .int .i64 j) rfl (by kernel_rfl) (by kernel_rfl) (by kernel_rfl) (fun _ _ _ h => h) (Or.inl ⟨by rfl, fun w' h => by have e4 := rowI (rangeAt_below HRow3.out (Q2.out.trans (h.mono Q2.out.size)) HBl3.out); go_simp⟩) (by assumption) ?_
          try simp only [Act.put, List.getElem_toArray, List.getElem_cons_zero, List.getElem_cons_succ, List.setIfInBounds_toArray, List.set_cons_zero, List.set_cons_succ]
          obtain ⟨D0, hD0⟩ : ∃ D0, wr.drew = D0 := ⟨_, rfl⟩
          rw [hD0] at hHeld ⊢
          clear hD0
          refine wpAnyH_ready (rs := [7]) (by kernel_rfl) (by simp) ?_
          refine AllReadyH.cons rfl (fun K hK => ?_) AllReadyH.nil
          refine if_wanted rfl ?_
          go_simp
          refine (l00HasTo_any cr m j (some ⟨b3, o3, none⟩) c3 _ (by omega) hl3 (HR3.out.keep (Q2.out.trans (hHeld.mono Q2.out.size)))).mono ?_
          rintro e w9 ⟨rfl, rfl⟩
          rw [HD.out]
          dsimp only
          refine hK.out _ _ hHeld (fun hHeld => ?_)
          clear hK K
          try simp only [Act.put, List.getElem_toArray, List.getElem_cons_zero, List.getElem_cons_succ, List.setIfInBounds_toArray, List.set_cons_zero, List.set_cons_succ]
          refine wpAnyH_take (i := 8) (v := .bool (!ob)) rfl (by kernel_rfl) (by kernel_rfl) (by kernel_rfl) (fun _ _ _ h => h) (Or.inl ⟨by rfl, fun w' h => by go_simp⟩) (by assumption) ?_
          try simp only [Act.put, List.getElem_toArray, List.getElem_cons_zero, List.getElem_cons_succ, List.setIfInBounds_toArray, List.set_cons_zero, List.set_cons_succ]
          refine wpAnyH_done (by kernel_rfl) ?_ _
          try simp only [Act.put, List.getElem_toArray, List.getElem_cons_zero, List.getElem_cons_succ, List.setIfInBounds_toArray, List.set_cons_zero, List.set_cons_succ]
          have hb := hHeld
          clear hHeld
          have Q3 : Hid (Below wo.heap.size wo D0) := Q1.out.trans (hb.mono Q1.out.size)
          have Q4 : Hid (Below w.heap.size w D0) := Q2.out.trans (hb.mono Q2.out.size)
          clear hb Q1 Q2
          cases ob
          · have hnew : (j : Int) ∉ cr.take m := of_decide_eq_false HD.out
            have HNew := Lib.hid hnew
            clear hnew
            go_wp2_with fail
            refine wp_region_held_drew (S := fun w' => Below D0.heap.size D0 w') (by kernel_rfl) (Below.refl _ _).drew (fun hHeld => ?_)
            refine wpAnyH_take (i := 0) (v := .int .i64 (n1 - (sn : Int))) rfl (by kernel_rfl) (by kernel_rfl) (by kernel_rfl) (fun _ _ _ h => h) (Or.inl ⟨by rfl, fun w' h => by go_simp⟩) (by assumption) ?_
            try simp only [Act.put, List.getElem_toArray, List.getElem_cons_zero, List.getElem_cons_succ, List.setIfInBounds_toArray, List.set_cons_zero, List.set_cons_succ]
            refine wpAnyH_take (i := 1) (v := .slice (some ⟨bc, oc, none⟩) xs.length c) rfl (by kernel_rfl) (by kernel_rfl) (by kernel_rfl) (fun _ _ _ h => h) (Or.inl ⟨by rfl, fun w' h => by go_simp⟩) (by assumption) ?_
            try simp only [Act.put, List.getElem_toArray, List.getElem_cons_zero, List.getElem_cons_succ, List.setIfInBounds_toArray, List.set_cons_zero, List.set_cons_succ]
            refine wpAnyH_take (i := 2) (v := .slice (some ⟨b3, o3, none⟩) cr.length c3) rfl (by kernel_rfl) (by kernel_rfl) (by kernel_rfl) (fun _ _ _ h => h) (Or.inl ⟨by rfl, fun w' h => by go_simp⟩) (by assumption) ?_
            try simp only [Act.put, List.getElem_toArray, List.getElem_cons_zero, List.getElem_cons_succ, List.setIfInBounds_toArray, List.set_cons_zero, List.set_cons_succ]
            refine wpAnyH_take (i := 3) (v := .int .i64 m) rfl (by kernel_rfl) (by kernel_rfl) (by kernel_rfl) (fun _ _ _ h => h) (Or.inl ⟨by rfl, fun w' h => by go_simp⟩) (by assumption) ?_
            try simp only [Act.put, List.getElem_toArray, List.getElem_cons_zero, List.getElem_cons_succ, List.setIfInBounds_toArray, List.set_cons_zero, List.set_cons_succ]
            refine wpAnyH_take (i := 4) (v := .pointer (some ⟨b3, o3 + m, none⟩)) rfl (by kernel_rfl) (by kernel_rfl) (by kernel_rfl) (fun _ _ _ h => h) (Or.inl ⟨by rfl, fun w' h => by go_simp⟩) (by assumption) ?_
            try simp only [Act.put, List.getElem_toArray, List.getElem_cons_zero, List.getElem_cons_succ, List.setIfInBounds_toArray, List.set_cons_zero, List.set_cons_succ]
            refine wpAnyH_take (i := 5) (v := .int .i64 j) rfl (by kernel_rfl) (by kernel_rfl) (by kernel_rfl) (fun _ _ _ h => h) (Or.inl ⟨by rfl, fun w' h => by have e4 := rowI (rangeAt_below HRow3.out (Q4.out.trans (h.mono Q4.out.size)) HBl3.out); go_simp⟩) (by assumption) ?_
            try simp only [Act.put, List.getElem_toArray, List.getElem_cons_zero, List.getElem_cons_succ, List.setIfInBounds_toArray, List.set_cons_zero, List.set_cons_succ]
            refine wpAnyH_take (i := 6) (v := .pointer (some ⟨bc, oc + j * 24, none⟩)) rfl (by kernel_rfl) (by kernel_rfl) (by kernel_rfl) (fun _ _ _ h => h) (Or.inl ⟨by rfl, fun w' h => by go_simp⟩) (by assumption) ?_
            try simp only [Act.put, List.getElem_toArray, List.getElem_cons_zero, List.getElem_cons_succ, List.setIfInBounds_toArray, List.set_cons_zero, List.set_cons_succ]
            refine wpAnyH_take (i := 7) (v := .slice (some ⟨b2, o2, none⟩) ord.length c2) rfl (by kernel_rfl) (by kernel_rfl) (by kernel_rfl) (fun _ _ _ h => h) (Or.inl ⟨by rfl, fun w' h => by go_simp⟩) (by assumption) ?_
            try simp only [Act.put, List.getElem_toArray, List.getElem_cons_zero, List.getElem_cons_succ, List.setIfInBounds_toArray, List.set_cons_zero, List.set_cons_succ]
            refine wpAnyH_take (i := 8) (v := .int .i64 k) rfl (by kernel_rfl) (by kernel_rfl) (by kernel_rfl) (fun _ _ _ h => h) (Or.inl ⟨by rfl, fun w' h => by go_simp⟩) (by assumption) ?_
            try simp only [Act.put, List.getElem_toArray, List.getElem_cons_zero, List.getElem_cons_succ, List.setIfInBounds_toArray, List.set_cons_zero, List.set_cons_succ]
            refine wpAnyH_take (i := 9) (v := .pointer (some ⟨b2, o2 + k * 3, none⟩)) rfl (by kernel_rfl) (by kernel_rfl) (by kernel_rfl) (fun _ _ _ h => h) (Or.inl ⟨by rfl, fun w' h => by go_simp⟩) (by assumption) ?_
            try simp only [Act.put, List.getElem_toArray, List.getElem_cons_zero, List.getElem_cons_succ, List.setIfInBounds_toArray, List.set_cons_zero, List.set_cons_succ]
            refine wpAnyH_take (i := 10) (v := .pointer (some ⟨b2, o2 + k * 3, none⟩)) rfl (by kernel_rfl) (by kernel_rfl) (by kernel_rfl) (fun _ _ _ h => h) (Or.inl ⟨by rfl, fun w' h => by go_simp⟩) (by assumption) ?_
            try simp only [Act.put, List.getElem_toArray, List.getElem_cons_zero, List.getElem_cons_succ, List.setIfInBounds_toArray, List.set_cons_zero, List.set_cons_succ]
            refine wpAnyH_take (i := 11) (v := .agg #[.int .u8 k1, .int .i16 y1]) rfl (by kernel_rfl) (by kernel_rfl) (by kernel_rfl) (fun _ _ _ h => h) (Or.inl ⟨by rfl, fun w' h => by obtain ⟨f1, f2, -⟩ := rowW (rangeAt_below HRow2.out (Q4.out.trans (h.mono Q4.out.size)) HBl2.out); go_simp⟩) (by assumption) ?_
            try simp only [Act.put, List.getElem_toArray, List.getElem_cons_zero, List.getElem_cons_succ, List.setIfInBounds_toArray, List.set_cons_zero, List.set_cons_succ]
            obtain ⟨D1, hD1⟩ : ∃ D1, D0.drew = D1 := ⟨_, rfl⟩
            rw [hD1] at hHeld ⊢
            clear hD1
            refine wpAnyH_ready (rs := [12]) (by kernel_rfl) (by simp) ?_
            refine AllReadyH.cons rfl (fun K hK => ?_) AllReadyH.nil
            refine if_wanted rfl ?_
            go_simp
            refine (l02Has_any x k1 y1 HE1.out bc (oc + j * 24) _ (Nat.lt_of_lt_of_le HBlC.out (Q4.out.trans (hHeld.mono Q4.out.size)).size) (rangeAt_below HRowC.out (Q4.out.trans (hHeld.mono Q4.out.size)) HBlC.out)).mono ?_
            rintro e w4 ⟨rfl, hb⟩
            have hH2 : Below D0.heap.size D0 w4 := hHeld.trans (hb.mono hHeld.size)
            rw [HMn.out]
            clear hb hHeld
            dsimp only
            refine hK.out _ _ hH2 (fun hHeld => ?_)
            clear hK K hH2
            try simp only [Act.put, List.getElem_toArray, List.getElem_cons_zero, List.getElem_cons_succ, List.setIfInBounds_toArray, List.set_cons_zero, List.set_cons_succ]
            refine wpAnyH_take (i := 13) (v := .int .i64 (n1 - (sn : Int) - mn)) rfl (by kernel_rfl) (by kernel_rfl) (by kernel_rfl) (fun _ _ _ h => h) (Or.inl ⟨by rfl, fun w' h => by go_simp⟩) (by assumption) ?_
            try simp only [Act.put, List.getElem_toArray, List.getElem_cons_zero, List.getElem_cons_succ, List.setIfInBounds_toArray, List.set_cons_zero, List.set_cons_succ]
            refine wpAnyH_ready (rs := [14]) (by kernel_rfl) (by simp) ?_
            refine AllReadyH.cons rfl (fun K hK => ?_) AllReadyH.nil
            refine if_wanted rfl ?_
            refine wp_assign0 (v := .int .i64 (n1 - (sn : Int) - mn)) rfl rfl ?_
            refine hK.out _ _ hHeld (fun hHeld => ?_)
            clear hK K
            try simp only [Act.put, List.getElem_toArray, List.getElem_cons_zero, List.getElem_cons_succ, List.setIfInBounds_toArray, List.set_cons_zero, List.set_cons_succ]
            refine wpAnyH_done (by kernel_rfl) ?_ _
            try simp only [Act.put, List.getElem_toArray, List.getElem_cons_zero, List.getElem_cons_succ, List.setIfInBounds_toArray, List.set_cons_zero, List.set_cons_succ]
            have hb := hHeld
            clear hHeld
            have Q5 : Hid (Below wo.heap.size wo w4) := Q3.out.trans (hb.mono Q3.out.size)
            clear hb Q3 Q4
            go_wp2
            go_roundw
            case rel => exact ⟨m + 1, by omega, by go_num, congrArg (Value.int .i64) (by rw [cnt_new HCi.out HNew.out (by simpa using HXc.out), HSn.out, HMn.out]; omega), Q5.out⟩
            case measure => simp [intOf]; omega
          · have hold : (j : Int) ∈ cr.take m := of_decide_eq_true HD.out
            have HOld := Lib.hid hold
            clear hold
            go_wp2
            go_roundw
            case rel => exact ⟨m + 1, by omega, by go_num, congrArg (Value.int .i64) (by rw [cnt_old HCi.out HOld.out, HSn.out]), Q3.out⟩
            case measure => simp [intOf]; omega
        · obtain rfl : m = cr.length := by omega
          have HO2 : Hid (wr.ownsRow w.heap.size 91 3 _ (lackTo (cntOf xs cr) ord k).length ((lackTo (cntOf xs cr) ord k).flatMap wcells)) := own_keep' HO.out Q1.out
          have hbd := cntAll_le (pick xs (onceTo cr cr.length)) (k1, y1)
          have hbp := pick_le xs cr cr.length
          obtain ⟨sn, hsn⟩ : ∃ n, cntAll (pick xs (onceTo cr cr.length)) (k1, y1) = n := ⟨_, rfl⟩
          rw [hsn] at hbd ⊢
          have HSn : Hid (cntOf xs cr (k1, y1) = sn) := hsn
          clear hsn Q1
          obtain ⟨f1, f2, f3⟩ := rowW (rangeAt_below HRow2.out Q2.out HBl2.out)
          have hlen := lackTo_length (cntOf xs cr) ord k
          by_cases hgt : (sn : Int) < n1
          · have hgt' : 0 < n1 - (sn : Int) := by omega
            have hw16 : IntKind.i16.wrap (n1 - (sn : Int)) = n1 - sn := IntWalk.i16_in _ ⟨by omega, by omega⟩
            go_wp2_with (at_builtin; refine wpList_append_own _ rfl (.tmp 55) (.tmp 64) 46 rfl w.heap.size 91 i0 (.agg #[.int .u8 0, .int .i16 0, .int .i16 0]) 3 6 Tryd.underlying46 HI.out HZ0.out HZ1.out HZ2.out rfl (by decide) _ _ _ rfl (HO2.out.alloc _) ⟨wr.heap.size, 0, none⟩ 1 1 [.int .u8 k1, .int .i16 y1, .int .i16 (n1 - (sn : Int))] rfl rfl ?c1 ?c2 ?c3 ?c4 ?c5 ?_)
            case c1 => exact cell_three_new _ _ _ _ _
            case c2 => exact three_one _ _ _
            case c3 => unfold maxLen; omega
            case c4 => omega
            case c5 => have := Q2.out.size; simp; omega
            intro v' w5 hown' hgrow _
            have HO5 := Lib.hid hown'
            have HB5 : Hid (Below w.heap.size w w5) := (Q2.out.alloc Q2.out.size _).grown hgrow (by have := Q2.out.size; simp; omega) (fun r e => (HO2.out.lt r e).1)
            clear hown' hgrow f1 f2 f3
            go_wp2
            go_roundw
            case rel => exact ⟨k + 1, by omega, by go_num, by rw [lackTo_yes HX.out (by rw [HSn.out]; exact hgt), HSn.out, wcells_snoc, List.length_append]; exact HO5.out, HB5.out⟩
            case measure => simp [intOf]; omega
          · have hgt' : ¬ 0 < n1 - (sn : Int) := by omega
            have hgd : decide (0 < n1 - (sn : Int)) = false := decide_eq_false hgt'
            go_wp2
            go_roundw
            case rel => exact ⟨k + 1, by omega, by go_num, by rw [lackTo_no HX.out (by rw [HSn.out]; exact hgt)]; exact HO2.out, Q2.out⟩
            case measure => simp [intOf]; omega
    · obtain rfl : k = ord.length := by omega
      go_wp2
      go_ret
      exact ⟨_, rfl, by rw [← lackTo_all]; exact HO.out, Hb.out⟩
end Go.Proofs.YtkehmelcecifdaaDoor
