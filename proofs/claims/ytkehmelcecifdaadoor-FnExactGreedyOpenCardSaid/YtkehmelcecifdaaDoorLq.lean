/-
  The contracts of the program's shortIn, usefulIn. Condition: the lists read as crates and wants, which fit their kinds, twelve crates and 1048576 wants at the most.
-/
import Derived.Test.YtkehmelcecifdaaDoorLp
import Derived.Test.YtkehmelcecifdaaDoorWi
import Derived.Test.YtkehmelcecifdaaDoorMg7
import Derived.Test.YtkehmelcecifdaaDoorIp
import Derived.Maps.OwnSet
namespace Go.Proofs.YtkehmelcecifdaaDoor
open Go.ChangeShapes Go.WideShapes Go.ChangeAt Go.RowKit Go.Deep
open Go.Maps (Keyed)


set_option maxRecDepth 100000 in
set_option maxHeartbeats 4000000 in
theorem usefulIn_any (x : Crt) (ord : List Wnt) (hw : ∀ x ∈ ord, wfW x) (A2 : Option Addr) (c2 : Nat) (w : World) (hl2 : ord.length ≤ 1048576) (hr2 : Rd w w.heap.size wcells A2 ord) :
    Calls Tryd.prog 114 #[.agg (ccells x.1).toArray, .slice A2 ord.length c2] w fun e w' => e = .returned (.int .i64 (usTo (mult x) ord ord.length)) ∧ Below w.heap.size w w' := by
  have HR2 := Lib.hid hr2
  have HW := Lib.hid hw
  clear hr2 hw
  have h1 := CBlk.new w 109 x.1
  have h2 : Below w.heap.size w (w.alloc (.cells (ccells x.1).toArray 109)) := (Below.refl _ w).alloc (Nat.le_refl _) _
  obtain ⟨W0, hW0⟩ : ∃ W0, w.alloc (.cells (ccells x.1).toArray 109) = W0 := ⟨_, rfl⟩
  rw [hW0] at h1 h2
  have H1 := Lib.hid h1
  have H2 := Lib.hid h2
  clear h1 h2
  go_enter Tryd.func114, Tryd.ntmps114
  go_wp2_with (first
    | (refine wpList_load_row rfl 109 (.tmp 2) rfl w.heap.size rfl 109 _ (0, 0) _ H1.out Tryd.underlying109 rfl (size_of_crate Tryd.sizeCr _ x.2.1) ?_)
    | (refine wpList_oneCrate rfl 57 109 (.tmp 9) rfl x.1 x.2.1 rfl Tryd.underlying57 Tryd.sizeCr Tryd.zeroCr ?_))
  clear hW0
  have hA : Below W0.heap.size W0 (W0.alloc (.cells (ccells x.1).toArray 109)) := (Below.refl _ W0).alloc (Nat.le_refl _) _
  have hrd := rd_one (B := (W0.alloc (.cells (ccells x.1).toArray 109)).heap.size) x (CBlk.new W0 109 x.1) (by simp)
  refine (countBottles_any [x] _ _ _ (by simp) hrd).mono ?_
  rintro e w2 ⟨B, nb, E, rfl, hB, hn, hown, hhold, hb⟩
  have HB : Hid (Below w.heap.size w w2) := H2.out.trans ((hA.trans (hb.mono hA.size)).mono H2.out.size)
  have HOw := Lib.hid hown
  have HH : Hid (Holds E wfB kB (mult x)) := hhold.congr (fun b _ => by simp [cntAll])
  have hBw : w.heap.size ≤ B := by have := H2.out.size; have := hA.size; omega
  clear hb hA hrd hown hhold H1 H2 hB
  go_wp2_with fail
  go_loopw [6, 14] (fun s i wr => ∃ k : Nat, k ≤ ord.length ∧ i = .int .i64 k ∧ s = .int .i64 (usTo (mult x) ord k) ∧ OwnsB wr B nb E ∧ Below w.heap.size w wr) (fun _ i _ => ord.length - (intOf i).toNat)
  case atStart => exact ⟨0, by omega, rfl, rfl, HOw.out, HB.out⟩
  case round =>
    clear HB HOw
    obtain ⟨k, hk, rfl, rfl, q1, q2⟩ := hrel
    have HO := Lib.hid q1
    have Hb := Lib.hid q2
    clear q1 q2
    by_cases hlt : k < ord.length
    · obtain ⟨⟨⟨k1, y1⟩, n1⟩, hx⟩ : ∃ x, ord[k]? = some x := ⟨_, List.getElem?_eq_getElem hlt⟩
      have hwx := HW.out _ (List.mem_of_getElem? hx)
      obtain ⟨b2, o2, rfl, hbl2, hrow2⟩ := (HR2.out.below (Nat.le_refl _) Hb.out).at_ wcells_length hx
      obtain ⟨e1, e2, e3⟩ := rowW hrow2
      have HX := Lib.hid hx
      have hk0 : (0 : Int) ≤ (k : Int) := Int.natCast_nonneg _
      have hk8 : (k : Int) < ord.length := by omega
      have hn1 : -32768 ≤ n1 := hwx.2.1
      have hn2 : n1 ≤ 32767 := hwx.2.2
      have HWk := Lib.hid hwx.1
      clear hx hwx hrow2 hbl2
      have f0 : OwnsB (wr.alloc (.cells #[.int .u8 k1, .int .i16 y1, .int .i16 n1] 91)) B nb E := HO.out.alloc _
      have f1 : Below w.heap.size w (wr.alloc (.cells #[.int .u8 k1, .int .i16 y1, .int .i16 n1] 91)) := Hb.out.alloc Hb.out.size _
      have f2 : Blk (wr.alloc (.cells #[.int .u8 k1, .int .i16 y1, .int .i16 n1] 91)) wr.heap.size 91 #[.int .u8 k1, .int .i16 y1, .int .i16 n1] := Blk.new _ _ _
      obtain ⟨W1, hW1⟩ : ∃ W1, (wr.alloc (.cells #[.int .u8 k1, .int .i16 y1, .int .i16 n1] 91)) = W1 := ⟨_, rfl⟩
      rw [hW1] at f0 f1 f2
      have hszw : wr.heap.size < W1.heap.size := f2.lt
      have FO := Lib.hid f0
      have FB := Lib.hid f1
      have FC := Lib.hid f2
      clear f0 f1 f2
      have hcl := mult_le x (k1, y1)
      obtain ⟨cn, hcn⟩ : ∃ n, mult x (k1, y1) = n := ⟨_, rfl⟩
      have HCn := Lib.hid hcn
      rw [hcn] at hcl
      clear hcn
      have hbd := usTo_bound (f := mult x) HW.out k
      have hst := usTo_succ (f := mult x) HX.out
      obtain ⟨un, hun⟩ : ∃ n, usTo (mult x) ord k = n := ⟨_, rfl⟩
      rw [hun] at hbd hst ⊢
      have HSt : Hid (usTo (mult x) ord (k + 1) = un + min n1 (cn : Int)) := by rw [← HCn.out]; exact hst
      clear hun hst
      have hs1 : IntKind.i64.wrap (un + min n1 (cn : Int)) = un + min n1 (cn : Int) := IntWalk.i64_in _ ⟨by omega, by omega⟩
      have hs2 : wrap64 (un + min n1 (cn : Int)) = un + min n1 (cn : Int) := IntWalk.wrap64_in _ ⟨by omega, by omega⟩
      go_wp2_with fail
      clear hW1 e1 e2 e3
      refine wp_region_held_drew (S := fun w' => Below W1.heap.size W1 w') (by kernel_rfl) (Below.refl _ _).drew (fun hHeld => ?_)
      refine wpAnyH_take (i := 0) (v := .int .i64 un) rfl (by kernel_rfl) (by kernel_rfl) (by kernel_rfl) (fun _ _ _ h => h) (Or.inl ⟨by rfl, fun w' h => by go_simp⟩) (by assumption) ?_
      try simp only [Act.put, List.getElem_toArray, List.getElem_cons_zero, List.getElem_cons_succ, List.setIfInBounds_toArray, List.set_cons_zero, List.set_cons_succ]
      refine wpAnyH_take (i := 1) (v := .pointer (some ⟨wr.heap.size, 2, none⟩)) rfl (by kernel_rfl) (by kernel_rfl) (by kernel_rfl) (fun _ _ _ h => h) (Or.inl ⟨by rfl, fun w' h => by go_simp⟩) (by assumption) ?_
      try simp only [Act.put, List.getElem_toArray, List.getElem_cons_zero, List.getElem_cons_succ, List.setIfInBounds_toArray, List.set_cons_zero, List.set_cons_succ]
      refine wpAnyH_take (i := 2) (v := .int .i16 n1) rfl (by kernel_rfl) (by kernel_rfl) (by kernel_rfl) (fun _ _ _ h => h) (Or.inl ⟨by rfl, fun w' h => by have HM := (FC.out.below h FC.out.lt); have g0 : w'.cell? ⟨wr.heap.size, 0, none⟩ = some (.int .u8 k1) := HM.cell 0; have g1 : w'.cell? ⟨wr.heap.size, 1, none⟩ = some (.int .i16 y1) := HM.cell 1; have g2 : w'.cell? ⟨wr.heap.size, 2, none⟩ = some (.int .i16 n1) := HM.cell 2; go_simp⟩) (by assumption) ?_
      try simp only [Act.put, List.getElem_toArray, List.getElem_cons_zero, List.getElem_cons_succ, List.setIfInBounds_toArray, List.set_cons_zero, List.set_cons_succ]
      refine wpAnyH_take (i := 3) (v := .int .i64 n1) rfl (by kernel_rfl) (by kernel_rfl) (by kernel_rfl) (fun _ _ _ h => h) (Or.inl ⟨by rfl, fun w' h => by have hw64 : IntKind.i64.wrap n1 = n1 := IntWalk.i64_in _ ⟨by omega, by omega⟩; have hw64' : wrap64 n1 = n1 := IntWalk.wrap64_in _ ⟨by omega, by omega⟩; go_simp⟩) (by assumption) ?_
      try simp only [Act.put, List.getElem_toArray, List.getElem_cons_zero, List.getElem_cons_succ, List.setIfInBounds_toArray, List.set_cons_zero, List.set_cons_succ]
      refine wpAnyH_take (i := 4) (v := .map (some B)) rfl (by kernel_rfl) (by kernel_rfl) (by kernel_rfl) (fun _ _ _ h => h) (Or.inl ⟨by rfl, fun w' h => by go_simp⟩) (by assumption) ?_
      try simp only [Act.put, List.getElem_toArray, List.getElem_cons_zero, List.getElem_cons_succ, List.setIfInBounds_toArray, List.set_cons_zero, List.set_cons_succ]
      refine wpAnyH_take (i := 5) (v := .pointer (some ⟨wr.heap.size, 0, none⟩)) rfl (by kernel_rfl) (by kernel_rfl) (by kernel_rfl) (fun _ _ _ h => h) (Or.inl ⟨by rfl, fun w' h => by go_simp⟩) (by assumption) ?_
      try simp only [Act.put, List.getElem_toArray, List.getElem_cons_zero, List.getElem_cons_succ, List.setIfInBounds_toArray, List.set_cons_zero, List.set_cons_succ]
      refine wpAnyH_take (i := 6) (v := .agg #[.int .u8 k1, .int .i16 y1]) rfl (by kernel_rfl) (by kernel_rfl) (by kernel_rfl) (fun _ _ _ h => h) (Or.inl ⟨by rfl, fun w' h => by have HM := (FC.out.below h FC.out.lt); have g0 : w'.cell? ⟨wr.heap.size, 0, none⟩ = some (.int .u8 k1) := HM.cell 0; have g1 : w'.cell? ⟨wr.heap.size, 1, none⟩ = some (.int .i16 y1) := HM.cell 1; have g2 : w'.cell? ⟨wr.heap.size, 2, none⟩ = some (.int .i16 n1) := HM.cell 2; go_simp⟩) (by assumption) ?_
      try simp only [Act.put, List.getElem_toArray, List.getElem_cons_zero, List.getElem_cons_succ, List.setIfInBounds_toArray, List.set_cons_zero, List.set_cons_succ]
      obtain ⟨D0, hD0⟩ : ∃ D0, W1.drew = D0 := ⟨_, rfl⟩
      rw [hD0] at hHeld ⊢
      clear hD0
      obtain ⟨cv, hrun, hat, -⟩ := ((FO.out.kept (grown_of_below hHeld) (by simp)) : OwnsB D0 B nb E).lookup_int (Keyed.of_law Tryd.lawB) Tryd.underlying172 Tryd.underlying2 (Tryd.zeroI64 _) (keyB (k1, y1) HWk.out)
      have hcv := HH.out.look (x := (k1, y1)) HWk.out hat
      rw [HCn.out] at hcv
      subst hcv
      have HRun := Lib.hid hrun
      clear hrun hat
      refine wpAnyH_ready (rs := [7]) (by kernel_rfl) (by simp) ?_
      refine AllReadyH.cons rfl (fun K hK => ?_) AllReadyH.nil
      refine if_wanted rfl (wp_lookupR 172 (.tmp 22) (.tmp 24) rfl rfl rfl HRun.out ?_)
      refine hK.out _ _ hHeld (fun hHeld => ?_)
      clear hK K
      try simp only [Act.put, List.getElem_toArray, List.getElem_cons_zero, List.getElem_cons_succ, List.setIfInBounds_toArray, List.set_cons_zero, List.set_cons_succ]
      refine wpAnyH_take (i := 8) (v := .int .i64 (min n1 (cn : Int))) rfl (by kernel_rfl) (by kernel_rfl) (by kernel_rfl) (fun _ _ _ h => h) (Or.inl ⟨by rfl, fun w' h => by simp [Builtin.min_]; go_simp; split <;> omega⟩) (by assumption) ?_
      try simp only [Act.put, List.getElem_toArray, List.getElem_cons_zero, List.getElem_cons_succ, List.setIfInBounds_toArray, List.set_cons_zero, List.set_cons_succ]
      refine wpAnyH_take (i := 9) (v := .int .i64 (un + min n1 (cn : Int))) rfl (by kernel_rfl) (by kernel_rfl) (by kernel_rfl) (fun _ _ _ h => h) (Or.inl ⟨by rfl, fun w' h => by go_simp⟩) (by assumption) ?_
      try simp only [Act.put, List.getElem_toArray, List.getElem_cons_zero, List.getElem_cons_succ, List.setIfInBounds_toArray, List.set_cons_zero, List.set_cons_succ]
      refine wpAnyH_ready (rs := [10]) (by kernel_rfl) (by simp) ?_
      refine AllReadyH.cons rfl (fun K hK => ?_) AllReadyH.nil
      refine if_wanted rfl ?_
      refine wp_assign0 (v := .int .i64 (un + min n1 (cn : Int))) rfl rfl ?_
      refine hK.out _ _ hHeld (fun hHeld => ?_)
      clear hK K
      try simp only [Act.put, List.getElem_toArray, List.getElem_cons_zero, List.getElem_cons_succ, List.setIfInBounds_toArray, List.set_cons_zero, List.set_cons_succ]
      refine wpAnyH_done (by kernel_rfl) ?_ _
      try simp only [Act.put, List.getElem_toArray, List.getElem_cons_zero, List.getElem_cons_succ, List.setIfInBounds_toArray, List.set_cons_zero, List.set_cons_succ]
      have hb := hHeld
      clear hHeld
      have Q5 : Hid (Below w.heap.size w D0) := FB.out.trans (hb.mono FB.out.size)
      have Q6 : Hid (OwnsB D0 B nb E) := FO.out.kept (grown_of_below hb) (by simp)
      clear hb
      go_wp2
      go_roundw
      case rel => exact ⟨k + 1, by omega, by go_num, by rw [HSt.out], Q6.out, Q5.out⟩
      case measure => simp [intOf]; omega
    · obtain rfl : k = ord.length := by omega
      go_wp2
      go_ret
      exact ⟨rfl, Hb.out⟩

set_option maxRecDepth 100000 in
set_option maxHeartbeats 4000000 in
theorem shortIn_any (xs : List Crt) (ord : List Wnt) (hw : ∀ x ∈ ord, wfW x) (A A2 : Option Addr) (c c2 : Nat) (w : World) (hl : xs.length ≤ 12) (hl2 : ord.length ≤ 1048576) (hr : Rd w w.heap.size kcells A xs) (hr2 : Rd w w.heap.size wcells A2 ord) :
    Calls Tryd.prog 96 #[.slice A xs.length c, .slice A2 ord.length c2] w fun e w' => ∃ v, e = .returned v ∧ w'.ownsRow w.heap.size 91 3 v (lack (cntAll xs) ord).length ((lack (cntAll xs) ord).flatMap wcells) ∧ Below w.heap.size w w' := by
  have HR := Lib.hid hr
  have HR2 := Lib.hid hr2
  have HW := Lib.hid hw
  clear hr hr2 hw
  obtain ⟨i0, hi, hz0, hz1, hz2⟩ := info_parts Tryd.infoWI
  have HI := Lib.hid hi
  have HZ0 := Lib.hid hz0
  have HZ1 := Lib.hid hz1
  have HZ2 := Lib.hid hz2
  clear hi hz0 hz1 hz2
  go_enter Tryd.func96, Tryd.ntmps96
  go_wp2_with fail
  refine (countBottles_any xs A c w hl HR.out).mono ?_
  rintro e w2 ⟨B, nb, E, rfl, hB, hn, hown, hhold, hb⟩
  have HB := Lib.hid hb
  have HOw := Lib.hid hown
  have HH := Lib.hid hhold
  have hBl := hown.lt
  obtain ⟨B1, hB1⟩ : ∃ b, w2.heap.size = b := ⟨_, rfl⟩
  have hB1w : w.heap.size ≤ B1 := by rw [← hB1]; exact hb.size
  rw [hB1] at hBl
  have HB1 := Lib.hid hB1
  clear hb hown hhold hB1
  go_wp2_with fail
  go_loopw [6, 14] (fun v i wr => ∃ k : Nat, k ≤ ord.length ∧ i = .int .i64 k ∧ OwnsB wr B nb E ∧ wr.ownsRow B1 91 3 v (lackTo (cntAll xs) ord k).length ((lackTo (cntAll xs) ord k).flatMap wcells) ∧ B1 ≤ wr.heap.size ∧ Below w.heap.size w wr) (fun _ i _ => ord.length - (intOf i).toNat)
  case atStart => exact ⟨0, by omega, rfl, HOw.out, ⟨rfl, .inl ⟨rfl, rfl⟩⟩, by rw [HB1.out]; exact Nat.le_refl _, HB.out⟩
  case round =>
    clear HB HOw HB1
    obtain ⟨k, hk, rfl, q1, q3, hs1, q2⟩ := hrel
    have HO := Lib.hid q1
    have Hb := Lib.hid q2
    have HV := Lib.hid q3
    clear q1 q2 q3
    by_cases hlt : k < ord.length
    · obtain ⟨⟨⟨k1, y1⟩, n1⟩, hx⟩ : ∃ x, ord[k]? = some x := ⟨_, List.getElem?_eq_getElem hlt⟩
      have hwx := HW.out _ (List.mem_of_getElem? hx)
      obtain ⟨b2, o2, rfl, hbl2, hrow2⟩ := (HR2.out.below (Nat.le_refl _) Hb.out).at_ wcells_length hx
      obtain ⟨e1, e2, e3⟩ := rowW hrow2
      have HX := Lib.hid hx
      have hk0 : (0 : Int) ≤ (k : Int) := Int.natCast_nonneg _
      have hk8 : (k : Int) < ord.length := by omega
      have hn1 : -32768 ≤ n1 := hwx.2.1
      have hn2 : n1 ≤ 32767 := hwx.2.2
      have HWk := Lib.hid hwx.1
      clear hx hwx hrow2 hbl2
      have f0 : OwnsB (wr.alloc (.cells #[.int .u8 k1, .int .i16 y1, .int .i16 n1] 91)) B nb E := HO.out.alloc _
      have f1 : Below w.heap.size w (wr.alloc (.cells #[.int .u8 k1, .int .i16 y1, .int .i16 n1] 91)) := Hb.out.alloc Hb.out.size _
      have f2 : Blk (wr.alloc (.cells #[.int .u8 k1, .int .i16 y1, .int .i16 n1] 91)) wr.heap.size 91 #[.int .u8 k1, .int .i16 y1, .int .i16 n1] := Blk.new _ _ _
      have f3 : (wr.alloc (.cells #[.int .u8 k1, .int .i16 y1, .int .i16 n1] 91)).ownsRow B1 91 3 _ (lackTo (cntAll xs) ord k).length ((lackTo (cntAll xs) ord k).flatMap wcells) := HV.out.alloc _
      obtain ⟨W1, hW1⟩ : ∃ W1, (wr.alloc (.cells #[.int .u8 k1, .int .i16 y1, .int .i16 n1] 91)) = W1 := ⟨_, rfl⟩
      rw [hW1] at f0 f1 f2 f3
      have hszw : wr.heap.size < W1.heap.size := f2.lt
      have FO := Lib.hid f0
      have FB := Lib.hid f1
      have FC := Lib.hid f2
      have FV := Lib.hid f3
      clear f0 f1 f2 f3
      have hcl := cntAll_le xs (k1, y1)
      obtain ⟨cn, hcn⟩ : ∃ n, cntAll xs (k1, y1) = n := ⟨_, rfl⟩
      have HCn := Lib.hid hcn
      rw [hcn] at hcl
      clear hcn
      have hs1 : IntKind.i64.wrap (n1 - (cn : Int)) = n1 - (cn : Int) := IntWalk.i64_in _ ⟨by omega, by omega⟩
      have hs2 : wrap64 (n1 - (cn : Int)) = n1 - (cn : Int) := IntWalk.wrap64_in _ ⟨by omega, by omega⟩
      go_wp2_with fail
      clear hW1 e1 e2 e3
      refine wp_region_held_drew (S := fun w' => Below W1.heap.size W1 w') (by kernel_rfl) (Below.refl _ _).drew (fun hHeld => ?_)
      refine wpAnyH_take (i := 0) (v := .pointer (some ⟨wr.heap.size, 2, none⟩)) rfl (by kernel_rfl) (by kernel_rfl) (by kernel_rfl) (fun _ _ _ h => h) (Or.inl ⟨by rfl, fun w' h => by go_simp⟩) (by assumption) ?_
      try simp only [Act.put, List.getElem_toArray, List.getElem_cons_zero, List.getElem_cons_succ, List.setIfInBounds_toArray, List.set_cons_zero, List.set_cons_succ]
      refine wpAnyH_take (i := 1) (v := .int .i16 n1) rfl (by kernel_rfl) (by kernel_rfl) (by kernel_rfl) (fun _ _ _ h => h) (Or.inl ⟨by rfl, fun w' h => by have HM := (FC.out.below h FC.out.lt); have g0 : w'.cell? ⟨wr.heap.size, 0, none⟩ = some (.int .u8 k1) := HM.cell 0; have g1 : w'.cell? ⟨wr.heap.size, 1, none⟩ = some (.int .i16 y1) := HM.cell 1; have g2 : w'.cell? ⟨wr.heap.size, 2, none⟩ = some (.int .i16 n1) := HM.cell 2; go_simp⟩) (by assumption) ?_
      try simp only [Act.put, List.getElem_toArray, List.getElem_cons_zero, List.getElem_cons_succ, List.setIfInBounds_toArray, List.set_cons_zero, List.set_cons_succ]
      refine wpAnyH_take (i := 2) (v := .int .i64 n1) rfl (by kernel_rfl) (by kernel_rfl) (by kernel_rfl) (fun _ _ _ h => h) (Or.inl ⟨by rfl, fun w' h => by have hw64 : IntKind.i64.wrap n1 = n1 := IntWalk.i64_in _ ⟨by omega, by omega⟩; have hw64' : wrap64 n1 = n1 := IntWalk.wrap64_in _ ⟨by omega, by omega⟩; go_simp⟩) (by assumption) ?_
      try simp only [Act.put, List.getElem_toArray, List.getElem_cons_zero, List.getElem_cons_succ, List.setIfInBounds_toArray, List.set_cons_zero, List.set_cons_succ]
      refine wpAnyH_take (i := 3) (v := .map (some B)) rfl (by kernel_rfl) (by kernel_rfl) (by kernel_rfl) (fun _ _ _ h => h) (Or.inl ⟨by rfl, fun w' h => by go_simp⟩) (by assumption) ?_
      try simp only [Act.put, List.getElem_toArray, List.getElem_cons_zero, List.getElem_cons_succ, List.setIfInBounds_toArray, List.set_cons_zero, List.set_cons_succ]
      refine wpAnyH_take (i := 4) (v := .pointer (some ⟨wr.heap.size, 0, none⟩)) rfl (by kernel_rfl) (by kernel_rfl) (by kernel_rfl) (fun _ _ _ h => h) (Or.inl ⟨by rfl, fun w' h => by go_simp⟩) (by assumption) ?_
      try simp only [Act.put, List.getElem_toArray, List.getElem_cons_zero, List.getElem_cons_succ, List.setIfInBounds_toArray, List.set_cons_zero, List.set_cons_succ]
      refine wpAnyH_take (i := 5) (v := .agg #[.int .u8 k1, .int .i16 y1]) rfl (by kernel_rfl) (by kernel_rfl) (by kernel_rfl) (fun _ _ _ h => h) (Or.inl ⟨by rfl, fun w' h => by have HM := (FC.out.below h FC.out.lt); have g0 : w'.cell? ⟨wr.heap.size, 0, none⟩ = some (.int .u8 k1) := HM.cell 0; have g1 : w'.cell? ⟨wr.heap.size, 1, none⟩ = some (.int .i16 y1) := HM.cell 1; have g2 : w'.cell? ⟨wr.heap.size, 2, none⟩ = some (.int .i16 n1) := HM.cell 2; go_simp⟩) (by assumption) ?_
      try simp only [Act.put, List.getElem_toArray, List.getElem_cons_zero, List.getElem_cons_succ, List.setIfInBounds_toArray, List.set_cons_zero, List.set_cons_succ]
      obtain ⟨D0, hD0⟩ : ∃ D0, W1.drew = D0 := ⟨_, rfl⟩
      rw [hD0] at hHeld ⊢
      clear hD0
      obtain ⟨cv, hrun, hat, -⟩ := ((FO.out.kept (grown_of_below hHeld) (by simp)) : OwnsB D0 B nb E).lookup_int (Keyed.of_law Tryd.lawB) Tryd.underlying172 Tryd.underlying2 (Tryd.zeroI64 _) (keyB (k1, y1) HWk.out)
      have hcv := HH.out.look (x := (k1, y1)) HWk.out hat
      rw [HCn.out] at hcv
      subst hcv
      have HRun := Lib.hid hrun
      clear hrun hat
      refine wpAnyH_ready (rs := [6]) (by kernel_rfl) (by simp) ?_
      refine AllReadyH.cons rfl (fun K hK => ?_) AllReadyH.nil
      refine if_wanted rfl (wp_lookupR 172 (.tmp 21) (.tmp 23) rfl rfl rfl HRun.out ?_)
      refine hK.out _ _ hHeld (fun hHeld => ?_)
      clear hK K
      try simp only [Act.put, List.getElem_toArray, List.getElem_cons_zero, List.getElem_cons_succ, List.setIfInBounds_toArray, List.set_cons_zero, List.set_cons_succ]
      refine wpAnyH_take (i := 7) (v := .int .i64 (n1 - (cn : Int))) rfl (by kernel_rfl) (by kernel_rfl) (by kernel_rfl) (fun _ _ _ h => h) (Or.inl ⟨by rfl, fun w' h => by go_simp⟩) (by assumption) ?_
      try simp only [Act.put, List.getElem_toArray, List.getElem_cons_zero, List.getElem_cons_succ, List.setIfInBounds_toArray, List.set_cons_zero, List.set_cons_succ]
      refine wpAnyH_ready (rs := [8]) (by kernel_rfl) (by simp) ?_
      refine AllReadyH.cons rfl (fun K hK => ?_) AllReadyH.nil
      refine if_wanted rfl ?_
      refine wp_assign0 (v := .int .i64 (n1 - (cn : Int))) rfl rfl ?_
      refine hK.out _ _ hHeld (fun hHeld => ?_)
      clear hK K
      try simp only [Act.put, List.getElem_toArray, List.getElem_cons_zero, List.getElem_cons_succ, List.setIfInBounds_toArray, List.set_cons_zero, List.set_cons_succ]
      refine wpAnyH_done (by kernel_rfl) ?_ _
      try simp only [Act.put, List.getElem_toArray, List.getElem_cons_zero, List.getElem_cons_succ, List.setIfInBounds_toArray, List.set_cons_zero, List.set_cons_succ]
      have hb := hHeld
      clear hHeld
      have Q5 : Hid (Below w.heap.size w D0) := FB.out.trans (hb.mono FB.out.size)
      have Q6 : Hid (OwnsB D0 B nb E) := FO.out.kept (grown_of_below hb) (by simp)
      have Q7 := Lib.hid (own_keep' FV.out hb)
      have Q8 : Hid (Blk D0 wr.heap.size 91 #[.int .u8 k1, .int .i16 y1, .int .i16 n1]) := FC.out.below hb FC.out.lt
      have hsz2 : W1.heap.size ≤ D0.heap.size := hb.size
      clear hb FB FO FV FC
      have hlen := lackTo_length (cntAll xs) ord k
      by_cases hgt : (cn : Int) < n1
      · have hgt' : 0 < n1 - (cn : Int) := by omega
        have hw16 : IntKind.i16.wrap (n1 - (cn : Int)) = n1 - cn := IntWalk.i16_in _ ⟨by omega, by omega⟩
        have g0 : D0.cell? ⟨wr.heap.size, 0, none⟩ = some (.int .u8 k1) := Q8.out.cell 0
        have g1 : D0.cell? ⟨wr.heap.size, 1, none⟩ = some (.int .i16 y1) := Q8.out.cell 1
        go_wp2_with (at_builtin; refine wpList_append_own _ rfl (.tmp 28) (.tmp 34) 46 rfl B1 91 i0 (.agg #[.int .u8 0, .int .i16 0, .int .i16 0]) 3 6 Tryd.underlying46 HI.out HZ0.out HZ1.out HZ2.out rfl (by decide) _ _ _ rfl (Q7.out.alloc _) ⟨D0.heap.size, 0, none⟩ 1 1 [.int .u8 k1, .int .i16 y1, .int .i16 (n1 - (cn : Int))] rfl rfl ?c1 ?c2 ?c3 ?c4 ?c5 ?_)
        case c2 => first | exact three_one _ _ _ | simp [Value.oneCell']
        case c3 => unfold maxLen; omega
        case c4 => omega
        case c5 => first | omega | (simp; omega)
        intro v' w5 hown' hgrow _
        have R3 := Lib.hid hown'
        have B3 : Hid (Below w.heap.size w w5) := (Q5.out.alloc Q5.out.size _).grown hgrow (by have := Q5.out.size; simp; omega) (fun r e => by have := (Q7.out.lt r e).1; omega)
        have O3 : Hid (OwnsB w5 B nb E) := (Q6.out.alloc _).kept hgrow (fun h => by have := (Q7.out.lt _ h.symm).1; omega)
        have hsz3 : B1 ≤ w5.heap.size := by have := hgrow.size; simp at this; omega
        clear hown' hgrow g0 g1
        go_wp2
        go_roundw
        case rel => exact ⟨k + 1, by omega, by go_num, O3.out, by rw [lackTo_yes HX.out (by rw [HCn.out]; exact hgt), HCn.out, wcells_snoc, List.length_append]; exact R3.out, hsz3, B3.out⟩
        case measure => simp [intOf]; omega
      · have hgd : decide (0 < n1 - (cn : Int)) = false := decide_eq_false (by omega)
        go_wp2
        go_roundw
        case rel => exact ⟨k + 1, by omega, by go_num, Q6.out, by rw [lackTo_no HX.out (by rw [HCn.out]; exact hgt)]; exact Q7.out, by omega, Q5.out⟩
        case measure => simp [intOf]; omega
    · obtain rfl : k = ord.length := by omega
      go_wp2
      go_ret
      exact ⟨_, rfl, by rw [← lackTo_all]; exact own_base HV.out hB1w, Hb.out⟩
end Go.Proofs.YtkehmelcecifdaaDoor
