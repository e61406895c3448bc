/-
  OrderText: the program's contract, over the library's contracts of Itoa and Join. Condition: the library's table lies as the row lists it.
-/
import Derived.Test.YtjjdehnpnfdjcabDoorOt0
import Derived.Test.YtjjdehnpnfdjcabDoorW0
namespace Go.Proofs.YtjjdehnpnfdjcabDoor
open Go.ChangeShapes Go.WideShapes Go.ChangeAt Go.RowKit Go.Deep

theorem cell_grownS {w w1 : World} {row : Option Nat} {B j : Nat} {v : Value} (hg : w.grownBy w1 row) (hlt : B < w.heap.size) (hne : row ≠ some B) (hc : w.cell? ⟨B, j, none⟩ = some v) : w1.cell? ⟨B, j, none⟩ = some v := by
  have := hg.block B hlt (fun e => hne e.symm)
  simp only [World.cell?] at hc ⊢
  rw [this]; exact hc
theorem keepOt {w1 D D' : World} {N : Nat} {x y z : Value} (h : D.cell? ⟨N, 0, none⟩ = some x ∧ D.cell? ⟨N, 1, none⟩ = some y ∧ D.cell? ⟨N, 2, none⟩ = some z ∧ N < D.heap.size ∧ Below w1.heap.size w1 D) (hb : Below D.heap.size D D') :
    D'.cell? ⟨N, 0, none⟩ = some x ∧ D'.cell? ⟨N, 1, none⟩ = some y ∧ D'.cell? ⟨N, 2, none⟩ = some z ∧ N < D'.heap.size ∧ Below w1.heap.size w1 D' :=
  ⟨(hb.cell (p := ⟨N, 0, none⟩) h.2.2.2.1).trans h.1, (hb.cell (p := ⟨N, 1, none⟩) h.2.2.2.1).trans h.2.1, (hb.cell (p := ⟨N, 2, none⟩) h.2.2.2.1).trans h.2.2.1, Nat.lt_of_lt_of_le h.2.2.2.1 hb.size, h.2.2.2.2.trans (hb.mono h.2.2.2.2.size)⟩

set_option maxRecDepth 100000 in
set_option maxHeartbeats 4000000 in
theorem implOrderText_any (xs : List Wnt) (hxs : ∀ x ∈ xs, wfW x) (A : Option Addr) (c : Nat) (w : World) (hl : xs.length ≤ 1048576) (hr : Rd w w.heap.size wcells A xs) (ht : Tab w) :
    Calls Tryd.prog 9 #[.slice A xs.length c] w fun e w' => e = .returned (.string (otA xs)) ∧ Below w.heap.size w w' := by
  obtain ⟨i0, hi, hz0, hz1, hz2⟩ := info_parts Tryd.infoSt
  have HI := Lib.hid hi
  have HZ0 := Lib.hid hz0
  have HZ1 := Lib.hid hz1
  have HZ2 := Lib.hid hz2
  clear hi hz0 hz1 hz2
  have HC := Lib.hid (validOrder_any xs hxs A c w hl hr)
  have HR := Lib.hid hr
  have HT := Lib.hid ht
  clear hr ht
  go_enter Tryd.func9, Tryd.ntmps9
  go_wp2_with fail
  refine HC.out.mono ?_
  rintro e w1 ⟨rfl, hb⟩
  have HB := Lib.hid hb
  clear HC hb
  cases h0 : ordOk xs
  · have E := Lib.hid (otA_no h0)
    clear h0
    go_wp2
    first | go_ret | skip
    exact ⟨by (rw [E.out]; first | done | rfl), HB.out⟩
  have h60 := ordOk_len h0
  have E := Lib.hid (otA_yes h0)
  have HAll := Lib.hid h0
  have HTb := Lib.hid (HT.out.on HB.out (Nat.le_refl _))
  have HR1 := Lib.hid (HR.out.keep HB.out)
  have HO0 : Hid (w1.ownsRow w1.heap.size 9 1 (.slice none 0 0) 0 ((otT xs 0).flatMap stc)) := ⟨rfl, .inl ⟨rfl, rfl⟩⟩
  clear h0
  go_wp2_with fail
  go_loopw [3, 11] (fun v i wr => ∃ (k : Nat) (A2 : Option Addr) (c2 : Nat), k ≤ xs.length ∧ i = .int .i64 k ∧ v = .slice A2 k c2 ∧ wr.ownsRow w1.heap.size 9 1 (.slice A2 k c2) k ((otT xs k).flatMap stc) ∧ Below w1.heap.size w1 wr) (fun _ i _ => xs.length - (intOf i).toNat)
  case atStart => exact ⟨0, _, _, by omega, rfl, rfl, HO0.out, Below.refl _ _⟩
  case round =>
    clear HO0
    obtain ⟨k, A2, c2, hk, rfl, rfl, hO, hB⟩ := hrel
    obtain ⟨wb, rfl⟩ : ∃ u, u = wr := ⟨_, rfl⟩
    have HO := Lib.hid hO
    have HB3 := Lib.hid hB
    clear hO hB
    have hk0 : (0 : Int) ≤ (k : Int) := Int.natCast_nonneg _
    by_cases hlt : k < xs.length
    · have hk8 : (k : Int) < xs.length := by omega
      obtain ⟨x, hx⟩ : ∃ x, xs[k]? = some x := ⟨_, List.getElem?_eq_getElem hlt⟩
      obtain ⟨p, q, n, rfl, hp, hq, hn, hvb⟩ := vW_nat (ordOk_at HAll.out hx)
      obtain ⟨b, o, rfl, hbl, hrow⟩ := (HR1.out.keep HB3.out).at_ wcells_length hx
      obtain ⟨e1, e2, e3⟩ := rowW hrow
      have HSt := Lib.hid (otT_succ hx)
      rw [otW_nat] at HSt
      have u1 : IntKind.i64.wrap (n : Int) = n := IntWalk.i64_in _ ⟨by omega, by omega⟩
      have HDa : Hid (∀ W, Tab W → Calls Tryd.prog 25 #[.agg #[.int .u8 p, .int .i16 q]] W fun e w' => e = .returned (.string (btS p q)) ∧ Below W.heap.size W w') := fun W hW => by
        have := bottleText_any p q W hW
        rwa [btV, if_pos hvb] at this
      have HDb : Hid (∀ W, Tab W → Calls Tryd.prog 26 #[.int .i64 n] W fun e w' => e = .returned (.string (decS n)) ∧ Below W.heap.size W w') := fun W hW => itoaN n (by omega) W hW
      have hza := btS_size hp hq
      have hzb := decS_size n
      obtain ⟨da, hda⟩ : ∃ d, btS p q = d := ⟨_, rfl⟩
      obtain ⟨db, hdb⟩ : ∃ d, decS n = d := ⟨_, rfl⟩
      rw [hda] at HDa hza HSt
      rw [hdb] at HDb hzb HSt
      have hn1 : ¬ (9223372036854775807 < da.size + 1) := by omega
      have hn2 : ¬ (9223372036854775807 < da.size + 1 + db.size) := by omega
      have HAx : Hid (Below wb.heap.size wb (wb.alloc (.cells #[.int .u8 p, .int .i16 q, .int .i16 n] 49))) := (Below.refl _ _).alloc (Nat.le_refl _) _
      have HQx : Hid ((wb.alloc (.cells #[.int .u8 p, .int .i16 q, .int .i16 n] 49)).cell? ⟨wb.heap.size, 0, none⟩ = some (.int .u8 p) ∧ (wb.alloc (.cells #[.int .u8 p, .int .i16 q, .int .i16 n] 49)).cell? ⟨wb.heap.size, 1, none⟩ = some (.int .i16 q) ∧ (wb.alloc (.cells #[.int .u8 p, .int .i16 q, .int .i16 n] 49)).cell? ⟨wb.heap.size, 2, none⟩ = some (.int .i16 n) ∧ wb.heap.size < (wb.alloc (.cells #[.int .u8 p, .int .i16 q, .int .i16 n] 49)).heap.size) := by show _ ∧ _ ∧ _ ∧ _; simp
      clear hx hrow hda hdb hvb
      go_wp2_with fail
      obtain ⟨wx, hwx⟩ : ∃ u, wb.alloc (.cells #[.int .u8 p, .int .i16 q, .int .i16 n] 49) = u := ⟨_, rfl⟩
      rw [hwx] at HAx HQx ⊢
      have HDr : Hid (Below wx.heap.size wx wx.drew) := (Below.refl _ _).drew
      have HSx : Hid (wx.drew.cell? ⟨wb.heap.size, 0, none⟩ = some (.int .u8 p) ∧ wx.drew.cell? ⟨wb.heap.size, 1, none⟩ = some (.int .i16 q) ∧ wx.drew.cell? ⟨wb.heap.size, 2, none⟩ = some (.int .i16 n) ∧ wb.heap.size < wx.drew.heap.size ∧ Below w1.heap.size w1 wx.drew) := keepOt ⟨HQx.out.1, HQx.out.2.1, HQx.out.2.2.1, HQx.out.2.2.2, HB3.out.trans (HAx.out.mono HB3.out.size)⟩ HDr.out
      have HOd : Hid (wx.drew.ownsRow w1.heap.size 9 1 (.slice A2 k c2) k ((otT xs k).flatMap stc)) := own_keep' (own_keep' HO.out HAx.out) HDr.out
      clear hwx HDr e1 e2 e3 HQx HAx
      refine wp_region_held_drew (S := fun w' => w'.cell? ⟨wb.heap.size, 0, none⟩ = some (.int .u8 p) ∧ w'.cell? ⟨wb.heap.size, 1, none⟩ = some (.int .i16 q) ∧ w'.cell? ⟨wb.heap.size, 2, none⟩ = some (.int .i16 n) ∧ wb.heap.size < w'.heap.size ∧ Below w1.heap.size w1 w') (by kernel_rfl) HSx.out (fun hHeld => ?_)
      refine wpAnyH_take (i := 0) (v := .slice A2 k c2) rfl (by kernel_rfl) (by kernel_rfl) (by kernel_rfl) (fun _ _ _ h => h) (Or.inl ⟨by rfl, fun w' h => by go_simp⟩) (by assumption) ?_
      try simp only [Act.put, List.getElem_toArray, List.getElem_cons_zero, List.getElem_cons_succ, List.setIfInBounds_toArray, List.set_cons_zero, List.set_cons_succ]
      refine wpAnyH_take (i := 1) (v := .pointer (some ⟨wb.heap.size, 0, none⟩)) rfl (by kernel_rfl) (by kernel_rfl) (by kernel_rfl) (fun _ _ _ h => h) (Or.inl ⟨by rfl, fun w' h => by go_simp⟩) (by assumption) ?_
      try simp only [Act.put, List.getElem_toArray, List.getElem_cons_zero, List.getElem_cons_succ, List.setIfInBounds_toArray, List.set_cons_zero, List.set_cons_succ]
      refine wpAnyH_take (i := 2) (v := .agg #[.int .u8 p, .int .i16 q]) rfl (by kernel_rfl) (by kernel_rfl) (by kernel_rfl) (fun _ _ _ h => h) (Or.inl ⟨by rfl, fun w' h => by have e4 := h.1; have e5 := h.2.1; go_simp⟩) (by assumption) ?_
      try simp only [Act.put, List.getElem_toArray, List.getElem_cons_zero, List.getElem_cons_succ, List.setIfInBounds_toArray, List.set_cons_zero, List.set_cons_succ]
      refine wpAnyH_take (i := 5) (v := .pointer (some ⟨wb.heap.size, 2, none⟩)) rfl (by kernel_rfl) (by kernel_rfl) (by kernel_rfl) (fun _ _ _ h => h) (Or.inl ⟨by rfl, fun w' h => by go_simp⟩) (by assumption) ?_
      try simp only [Act.put, List.getElem_toArray, List.getElem_cons_zero, List.getElem_cons_succ, List.setIfInBounds_toArray, List.set_cons_zero, List.set_cons_succ]
      refine wpAnyH_take (i := 6) (v := .int .i16 n) rfl (by kernel_rfl) (by kernel_rfl) (by kernel_rfl) (fun _ _ _ h => h) (Or.inl ⟨by rfl, fun w' h => by have e4 := h.2.2.1; go_simp⟩) (by assumption) ?_
      try simp only [Act.put, List.getElem_toArray, List.getElem_cons_zero, List.getElem_cons_succ, List.setIfInBounds_toArray, List.set_cons_zero, List.set_cons_succ]
      refine wpAnyH_take (i := 7) (v := .int .i64 n) rfl (by kernel_rfl) (by kernel_rfl) (by kernel_rfl) (fun _ _ _ h => h) (Or.inl ⟨by rfl, fun w' h => by go_simp⟩) (by assumption) ?_
      try simp only [Act.put, List.getElem_toArray, List.getElem_cons_zero, List.getElem_cons_succ, List.setIfInBounds_toArray, List.set_cons_zero, List.set_cons_succ]
      obtain ⟨D0, hD0⟩ : ∃ D0, wx.drew = D0 := ⟨_, rfl⟩
      rw [hD0] at hHeld HOd ⊢
      clear hD0
      refine wpAnyH_ready (rs := [3]) (by kernel_rfl) (by simp) ?_
      refine AllReadyH.cons rfl (fun K hK => ?_) AllReadyH.nil
      refine if_wanted rfl ?_
      go_simp
      refine (HDa.out D0 (HTb.out.on hHeld.2.2.2.2 (Nat.le_refl _))).mono ?_
      rintro z D1 ⟨rfl, hb⟩
      have hH2 := keepOt hHeld hb
      have HOd := Lib.hid (own_keep' HOd.out hb)
      clear hb hHeld
      dsimp only
      refine hK.out _ _ hH2 (fun hHeld => ?_)
      clear hK K hH2
      try simp only [Act.put, List.getElem_toArray, List.getElem_cons_zero, List.getElem_cons_succ, List.setIfInBounds_toArray, List.set_cons_zero, List.set_cons_succ]
      refine wpAnyH_take (i := 4) (v := .string (da ++ ⟨#[120]⟩)) rfl (by kernel_rfl) (by kernel_rfl) (by kernel_rfl) (fun _ _ _ h => h) (Or.inl ⟨by rfl, fun w' h => by go_simp⟩) (by assumption) ?_
      try simp only [Act.put, List.getElem_toArray, List.getElem_cons_zero, List.getElem_cons_succ, List.setIfInBounds_toArray, List.set_cons_zero, List.set_cons_succ]
      refine wpAnyH_ready (rs := [8]) (by kernel_rfl) (by simp) ?_
      refine AllReadyH.cons rfl (fun K hK => ?_) AllReadyH.nil
      refine if_wanted rfl ?_
      go_simp
      refine (HDb.out D1 (HTb.out.on hHeld.2.2.2.2 (Nat.le_refl _))).mono ?_
      rintro z D2 ⟨rfl, hb⟩
      have hH2 := keepOt hHeld hb
      have HOd := Lib.hid (own_keep' HOd.out hb)
      clear hb hHeld
      dsimp only
      refine hK.out _ _ hH2 (fun hHeld => ?_)
      clear hK K hH2
      try simp only [Act.put, List.getElem_toArray, List.getElem_cons_zero, List.getElem_cons_succ, List.setIfInBounds_toArray, List.set_cons_zero, List.set_cons_succ]
      refine wpAnyH_take (i := 9) (v := .string (da ++ ⟨#[120]⟩ ++ db)) rfl (by kernel_rfl) (by kernel_rfl) (by kernel_rfl) (fun _ _ _ h => h) (Or.inl ⟨by rfl, fun w' h => by go_simp⟩) (by assumption) ?_
      try simp only [Act.put, List.getElem_toArray, List.getElem_cons_zero, List.getElem_cons_succ, List.setIfInBounds_toArray, List.set_cons_zero, List.set_cons_succ]
      obtain ⟨wd, hwd⟩ : ∃ d, da ++ ⟨#[120]⟩ ++ db = d := ⟨_, rfl⟩
      rw [hwd] at HSt ⊢
      clear hwd
      refine wpAnyH_ready (rs := [10]) (by kernel_rfl) (by simp) ?_
      refine AllReadyH.cons rfl (fun K hK => ?_) AllReadyH.nil
      refine if_wanted rfl ?_
      go_simp
      have HS9 := Lib.hid (keepOt hHeld ((Below.refl _ D2).alloc (Nat.le_refl _) (.cells #[.string wd] 9)))
      have HL9 := Lib.hid hHeld.2.2.2.2.size
      refine hK.out _ _ HS9.out (fun hHeld => ?_)
      clear hK K hHeld
      try simp only [Act.put, List.getElem_toArray, List.getElem_cons_zero, List.getElem_cons_succ, List.setIfInBounds_toArray, List.set_cons_zero, List.set_cons_succ]
      refine wpAnyH_ready (rs := [11]) (by kernel_rfl) (by simp) ?_
      refine AllReadyH.cons rfl (fun K hK => ?_) AllReadyH.nil
      refine if_wanted rfl (wp_append_own _ (.tmp 15) (.tmp 25) 54 rfl w1.heap.size 9 i0 (.string ⟨#[]⟩) 1 16 Tryd.underlying54 HI.out HZ0.out HZ1.out HZ2.out rfl (by decide) _ _ _ rfl (HOd.out.alloc _) ⟨D2.heap.size, 0, none⟩ 1 1 [.string wd] rfl rfl ?f1 ?f2 ?f3 ?f4 ?f5 ?_)
      case f1 => exact cell_str_new _ _ _
      case f2 => simp [Value.oneCell']
      case f3 => unfold maxLen; omega
      case f4 => omega
      case f5 => have := HL9.out; simp; omega
      intro v' w8 hown' hgrow _
      have hown8 : w8.ownsRow w1.heap.size 9 1 v' (k + 1) ((otT xs (k + 1)).flatMap stc) := by rw [HSt.out, List.flatMap_append]; exact hown'
      obtain ⟨A8, c8, rfl⟩ : ∃ A8 c8, v' = .slice A8 (k + 1) c8 := by
        rcases hown8.2 with ⟨h1, h2⟩ | ⟨g, cap, cur, h1, -⟩
        · exact ⟨_, _, by rw [h1, h2]⟩
        · exact ⟨_, _, h1⟩
      have HB8 : Hid (Below w1.heap.size w1 w8) := HS9.out.2.2.2.2.grown hgrow (by have := HL9.out; simp; omega) (fun r e => (HOd.out.lt r e).1)
      have hne : (Value.slice A2 k c2).ownBlock ≠ some wb.heap.size := fun e => by have := (HO.out.lt _ e).2; omega
      have HS8 := Lib.hid (And.intro (cell_grownS hgrow HS9.out.2.2.2.1 hne HS9.out.1) (And.intro (cell_grownS hgrow HS9.out.2.2.2.1 hne HS9.out.2.1) (And.intro (cell_grownS hgrow HS9.out.2.2.2.1 hne HS9.out.2.2.1) (And.intro (Nat.lt_of_lt_of_le HS9.out.2.2.2.1 hgrow.size) HB8.out))))
      have HO8 := Lib.hid hown8
      clear hown' hown8 hgrow
      refine hK.out _ _ HS8.out (fun hHeld => ?_)
      clear hK K
      try simp only [Act.put, List.getElem_toArray, List.getElem_cons_zero, List.getElem_cons_succ, List.setIfInBounds_toArray, List.set_cons_zero, List.set_cons_succ]
      refine wpAnyH_ready (rs := [12]) (by kernel_rfl) (by simp) ?_
      refine AllReadyH.cons rfl (fun K hK => ?_) AllReadyH.nil
      refine if_wanted rfl ?_
      refine wp_assign0 (v := .slice A8 (k + 1) c8) rfl rfl ?_
      refine hK.out _ _ hHeld (fun hHeld => ?_)
      clear hK K
      try simp only [Act.put, List.getElem_toArray, List.getElem_cons_zero, List.getElem_cons_succ, List.setIfInBounds_toArray, List.set_cons_zero, List.set_cons_succ]
      refine wpAnyH_done (by kernel_rfl) ?_ _
      try simp only [Act.put, List.getElem_toArray, List.getElem_cons_zero, List.getElem_cons_succ, List.setIfInBounds_toArray, List.set_cons_zero, List.set_cons_succ]
      have hb := hHeld
      clear hHeld
      clear hb
      go_wp2
      go_roundw
      case rel => exact ⟨k + 1, A8, c8, by omega, by go_num, rfl, HO8.out, HB8.out⟩
      case measure => first | (simp [intOf]; done) | (simp [intOf]; omega)
    · obtain rfl : k = xs.length := by omega
      have HJ : Hid (Calls Tryd.prog 27 #[.slice A2 xs.length c2, .string ⟨#[32]⟩] wb fun e w' => e = .returned (.string (jnS ⟨#[32]⟩ (xs.map otW))) ∧ Below wb.heap.size wb w') := by
        have := joinO_any (xs.map otW) ⟨#[32]⟩ (by have := otS_size HAll.out; omega) (by rw [List.length_map]; omega) w1.heap.size A2 c2 wb (by
          have hl9 : (otT xs xs.length).length = xs.length := by rw [otT_all, List.length_map]
          rw [← otT_all, hl9]; exact HO.out)
        rwa [List.length_map] at this
      go_wp2_with fail
      refine HJ.out.mono ?_
      rintro e w5 ⟨rfl, hb5⟩
      have HB6 := Lib.hid (HB.out.trans ((HB3.out.trans (hb5.mono HB3.out.size)).mono HB.out.size))
      clear hb5 HJ
      go_wp2
      first | go_ret | skip
      exact ⟨by (rw [E.out]; first | done | rfl), HB6.out⟩
end Go.Proofs.YtjjdehnpnfdjcabDoor
