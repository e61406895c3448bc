/-
  SwapsText: the program's contract, over the library's contracts of Itoa and Join. Condition: the errors for ranges and limits lie as the row lists them.
-/
import Derived.Test.YtjjdehnpnfdjcaaDoorSt0
import Derived.Test.YtjjdehnpnfdjcaaDoorEr2
import Derived.Test.YtjjdehnpnfdjcaaDoorW0
namespace Go.Proofs.YtjjdehnpnfdjcaaDoor
open Go.ChangeShapes Go.WideShapes Go.ChangeAt Go.RowKit Go.Deep

theorem cell_grownS {w w1 : World} {row : Option Nat} {B j : Nat} {v : Value} (hg : w.grownBy w1 row) (hlt : B < w.heap.size) (hne : row ≠ some B) (hc : w.cell? ⟨B, j, none⟩ = some v) : w1.cell? ⟨B, j, none⟩ = some v := by
  have := hg.block B hlt (fun e => hne e.symm)
  simp only [World.cell?] at hc ⊢
  rw [this]; exact hc
theorem itoaS (q : Nat) (hq : q < 100) (w : World) : Calls Tryd.prog 16 #[.int .i64 q] w fun e w' => e = .returned (.string (decS q)) ∧ w = w' :=
  (Tryd.strconv_Itoa_small q hq w).mono fun e w' ⟨he, hw⟩ => ⟨he, hw.symm⟩
theorem csV_long {ad : Nat → Addr} {xs : List Swp} (h : 60 < xs.length) : csV ad xs = .iface 93 (.pointer (some (ad 1))) := by rw [csV, if_pos h]; rfl
theorem csV_no {ad : Nat → Addr} {xs : List Swp} (h : ¬ 60 < xs.length) (hc : xs.all canS = false) : csV ad xs = .iface 93 (.pointer (some (ad 0))) := by rw [csV, if_neg h, hc]; rfl
theorem csV_yes {ad : Nat → Addr} {xs : List Swp} (h : ¬ 60 < xs.length) (hc : xs.all canS = true) : csV ad xs = .nilIface := by rw [csV, if_neg h, hc]; rfl

set_option maxRecDepth 100000 in
set_option maxHeartbeats 4000000 in
theorem implSwapsText_any (xs : List Swp) (hxs : ∀ x ∈ xs, wfS x) (A : Option Addr) (c : Nat) (ad : Nat → Addr) (w : World) (hl : xs.length ≤ 1048576) (hr : Rd w w.heap.size scells A xs) (hE : EW 2 w ad) :
    Calls Tryd.prog 11 #[.slice A xs.length c] w fun e w' => e = .returned (.string (stA xs)) ∧ Below w.heap.size w w' := by
  obtain ⟨i0, hi, hz0, hz1, hz2⟩ := info_parts Tryd.infoSt
  have HI := Lib.hid hi
  have HZ0 := Lib.hid hz0
  have HZ1 := Lib.hid hz1
  have HZ2 := Lib.hid hz2
  clear hi hz0 hz1 hz2
  have HC := Lib.hid (checkSwaps_any xs hxs A c ad w hl hr hE)
  have HR := Lib.hid hr
  clear hr hE
  go_enter Tryd.func11, Tryd.ntmps11
  go_wp2_with fail
  refine HC.out.mono ?_
  rintro e w1 ⟨rfl, hb⟩
  have HB := Lib.hid hb
  clear HC hb
  by_cases hlong : 60 < xs.length
  · have E := Lib.hid (stA_long (xs := xs) (by omega))
    rw [csV_long hlong]
    go_wp2
    first | go_ret | skip
    exact ⟨by (rw [E.out]; first | done | rfl), HB.out⟩
  cases h0 : xs.all canS
  · have E := Lib.hid (stA_no h0)
    rw [csV_no hlong h0]
    clear h0
    go_wp2
    first | go_ret | skip
    exact ⟨by (rw [E.out]; first | done | rfl), HB.out⟩
  have h60 : xs.length ≤ 60 := by omega
  have E := Lib.hid (stA_yes h0 h60)
  have HAll := Lib.hid h0
  have HR1 := Lib.hid (HR.out.keep HB.out)
  have HO0 : Hid (w1.ownsRow w1.heap.size 9 1 (.slice none 0 0) 0 ((stT xs 0).flatMap stc)) := ⟨rfl, .inl ⟨rfl, rfl⟩⟩
  rw [csV_yes hlong h0]
  clear h0 hlong
  go_wp2_with fail
  go_loopw [3, 11] (fun v i wr => ∃ (k : Nat) (A2 : Option Addr) (c2 : Nat), k ≤ xs.length ∧ i = .int .i64 k ∧ v = .slice A2 k c2 ∧ wr.ownsRow w1.heap.size 9 1 (.slice A2 k c2) k ((stT xs k).flatMap stc) ∧ Below w1.heap.size w1 wr) (fun _ i _ => xs.length - (intOf i).toNat)
  case atStart => exact ⟨0, _, _, by omega, rfl, rfl, HO0.out, Below.refl _ _⟩
  case round =>
    clear HO0
    obtain ⟨k, A2, c2, hk, rfl, rfl, hO, hB⟩ := hrel
    obtain ⟨wb, rfl⟩ : ∃ u, u = wr := ⟨_, rfl⟩
    have HO := Lib.hid hO
    have HB3 := Lib.hid hB
    clear hO hB
    have hk0 : (0 : Int) ≤ (k : Int) := Int.natCast_nonneg _
    by_cases hlt : k < xs.length
    · have hk8 : (k : Int) < xs.length := by omega
      obtain ⟨x, hx⟩ : ∃ x, xs[k]? = some x := ⟨_, List.getElem?_eq_getElem hlt⟩
      have hcx := List.all_eq_true.1 HAll.out x (List.mem_of_getElem? hx)
      obtain ⟨i, j, rfl, hi, hj⟩ := canS_nat hcx
      obtain ⟨b, o, rfl, hbl, hrow⟩ := (HR1.out.keep HB3.out).at_ scells_length hx
      have e1 : wb.cell? ⟨b, o + k * 2, none⟩ = some (.int .i8 i) := hrow 0 _ rfl
      have e2 : wb.cell? ⟨b, o + k * 2 + 1, none⟩ = some (.int .i8 j) := hrow 1 _ rfl
      have HSt := Lib.hid (stT_succ hx)
      rw [stW_nat] at HSt
      have u1 : IntKind.i64.wrap (i : Int) = i := IntWalk.i64_in _ ⟨by omega, by omega⟩
      have u2 : IntKind.i64.wrap (j : Int) = j := IntWalk.i64_in _ ⟨by omega, by omega⟩
      have HDa : Hid (∀ W, Calls Tryd.prog 16 #[.int .i64 i] W fun e w' => e = .returned (.string (decS i)) ∧ W = w') := fun W => itoaS i (by omega) W
      have HDb : Hid (∀ W, Calls Tryd.prog 16 #[.int .i64 j] W fun e w' => e = .returned (.string (decS j)) ∧ W = w') := fun W => itoaS j (by omega) W
      have hza := decS_size i
      have hzb := decS_size j
      obtain ⟨da, hda⟩ : ∃ d, decS i = d := ⟨_, rfl⟩
      obtain ⟨db, hdb⟩ : ∃ d, decS j = d := ⟨_, rfl⟩
      rw [hda] at HDa hza HSt
      rw [hdb] at HDb hzb HSt
      have hn1 : ¬ (9223372036854775807 < da.size + 1) := by omega
      have hn2 : ¬ (9223372036854775807 < da.size + 1 + db.size) := by omega
      have HAx : Hid (Below wb.heap.size wb (wb.alloc (.cells #[.int .i8 i, .int .i8 j] 47))) := (Below.refl _ _).alloc (Nat.le_refl _) _
      have HQx : Hid ((wb.alloc (.cells #[.int .i8 i, .int .i8 j] 47)).cell? ⟨wb.heap.size, 0, none⟩ = some (.int .i8 i) ∧ (wb.alloc (.cells #[.int .i8 i, .int .i8 j] 47)).cell? ⟨wb.heap.size, 1, none⟩ = some (.int .i8 j) ∧ wb.heap.size < (wb.alloc (.cells #[.int .i8 i, .int .i8 j] 47)).heap.size) := by show _ ∧ _ ∧ _; simp
      clear hx hrow hcx hda hdb
      go_wp2_with fail
      obtain ⟨wx, hwx⟩ : ∃ u, wb.alloc (.cells #[.int .i8 i, .int .i8 j] 47) = u := ⟨_, rfl⟩
      rw [hwx] at HAx HQx ⊢
      have HDr : Hid (Below wx.heap.size wx wx.drew) := (Below.refl _ _).drew
      have HBd : Hid (Below w1.heap.size w1 wx.drew) := (HB3.out.trans (HAx.out.mono HB3.out.size)).drew
      have HSx : Hid (wx.drew.cell? ⟨wb.heap.size, 0, none⟩ = some (.int .i8 i) ∧ wx.drew.cell? ⟨wb.heap.size, 1, none⟩ = some (.int .i8 j) ∧ wb.heap.size < wx.drew.heap.size ∧ Below w1.heap.size w1 wx.drew) :=
        ⟨(HDr.out.cell (p := ⟨wb.heap.size, 0, none⟩) HQx.out.2.2).trans HQx.out.1, (HDr.out.cell (p := ⟨wb.heap.size, 1, none⟩) HQx.out.2.2).trans HQx.out.2.1, Nat.lt_of_lt_of_le HQx.out.2.2 HDr.out.size, HBd.out⟩
      have HOd : Hid (wx.drew.ownsRow w1.heap.size 9 1 (.slice A2 k c2) k ((stT xs k).flatMap stc)) := own_keep' (own_keep' HO.out HAx.out) HDr.out
      clear hwx HDr e1 e2 HQx HAx
      refine wp_region_held_drew (S := fun w' => w'.cell? ⟨wb.heap.size, 0, none⟩ = some (.int .i8 i) ∧ w'.cell? ⟨wb.heap.size, 1, none⟩ = some (.int .i8 j) ∧ wb.heap.size < w'.heap.size ∧ Below w1.heap.size w1 w') (by kernel_rfl) HSx.out (fun hHeld => ?_)
      refine wpAnyH_take (i := 0) (v := .slice A2 k c2) rfl (by kernel_rfl) (by kernel_rfl) (by kernel_rfl) (fun _ _ _ h => h) (Or.inl ⟨by rfl, fun w' h => by go_simp⟩) (by assumption) ?_
      try simp only [Act.put, List.getElem_toArray, List.getElem_cons_zero, List.getElem_cons_succ, List.setIfInBounds_toArray, List.set_cons_zero, List.set_cons_succ]
      refine wpAnyH_take (i := 1) (v := .pointer (some ⟨wb.heap.size, 0, none⟩)) rfl (by kernel_rfl) (by kernel_rfl) (by kernel_rfl) (fun _ _ _ h => h) (Or.inl ⟨by rfl, fun w' h => by go_simp⟩) (by assumption) ?_
      try simp only [Act.put, List.getElem_toArray, List.getElem_cons_zero, List.getElem_cons_succ, List.setIfInBounds_toArray, List.set_cons_zero, List.set_cons_succ]
      refine wpAnyH_take (i := 2) (v := .int .i8 i) rfl (by kernel_rfl) (by kernel_rfl) (by kernel_rfl) (fun _ _ _ h => h) (Or.inl ⟨by rfl, fun w' h => by have e3 := h.1; go_simp⟩) (by assumption) ?_
      try simp only [Act.put, List.getElem_toArray, List.getElem_cons_zero, List.getElem_cons_succ, List.setIfInBounds_toArray, List.set_cons_zero, List.set_cons_succ]
      refine wpAnyH_take (i := 3) (v := .int .i64 i) rfl (by kernel_rfl) (by kernel_rfl) (by kernel_rfl) (fun _ _ _ h => h) (Or.inl ⟨by rfl, fun w' h => by go_simp⟩) (by assumption) ?_
      try simp only [Act.put, List.getElem_toArray, List.getElem_cons_zero, List.getElem_cons_succ, List.setIfInBounds_toArray, List.set_cons_zero, List.set_cons_succ]
      refine wpAnyH_take (i := 6) (v := .pointer (some ⟨wb.heap.size, 1, none⟩)) rfl (by kernel_rfl) (by kernel_rfl) (by kernel_rfl) (fun _ _ _ h => h) (Or.inl ⟨by rfl, fun w' h => by go_simp⟩) (by assumption) ?_
      try simp only [Act.put, List.getElem_toArray, List.getElem_cons_zero, List.getElem_cons_succ, List.setIfInBounds_toArray, List.set_cons_zero, List.set_cons_succ]
      refine wpAnyH_take (i := 7) (v := .int .i8 j) rfl (by kernel_rfl) (by kernel_rfl) (by kernel_rfl) (fun _ _ _ h => h) (Or.inl ⟨by rfl, fun w' h => by have e3 := h.2.1; go_simp⟩) (by assumption) ?_
      try simp only [Act.put, List.getElem_toArray, List.getElem_cons_zero, List.getElem_cons_succ, List.setIfInBounds_toArray, List.set_cons_zero, List.set_cons_succ]
      refine wpAnyH_take (i := 8) (v := .int .i64 j) rfl (by kernel_rfl) (by kernel_rfl) (by kernel_rfl) (fun _ _ _ h => h) (Or.inl ⟨by rfl, fun w' h => by go_simp⟩) (by assumption) ?_
      try simp only [Act.put, List.getElem_toArray, List.getElem_cons_zero, List.getElem_cons_succ, List.setIfInBounds_toArray, List.set_cons_zero, List.set_cons_succ]
      obtain ⟨D0, hD0⟩ : ∃ D0, wx.drew = D0 := ⟨_, rfl⟩
      rw [hD0] at hHeld HOd HBd ⊢
      clear hD0
      refine wpAnyH_ready (rs := [4]) (by kernel_rfl) (by simp) ?_
      refine AllReadyH.cons rfl (fun K hK => ?_) AllReadyH.nil
      refine if_wanted rfl ?_
      go_simp
      refine (HDa.out _).mono ?_
      rintro z w5 ⟨rfl, rfl⟩
      dsimp only
      refine hK.out _ _ hHeld (fun hHeld => ?_)
      clear hK K
      try simp only [Act.put, List.getElem_toArray, List.getElem_cons_zero, List.getElem_cons_succ, List.setIfInBounds_toArray, List.set_cons_zero, List.set_cons_succ]
      refine wpAnyH_take (i := 5) (v := .string (da ++ ⟨#[45]⟩)) rfl (by kernel_rfl) (by kernel_rfl) (by kernel_rfl) (fun _ _ _ h => h) (Or.inl ⟨by rfl, fun w' h => by go_simp⟩) (by assumption) ?_
      try simp only [Act.put, List.getElem_toArray, List.getElem_cons_zero, List.getElem_cons_succ, List.setIfInBounds_toArray, List.set_cons_zero, List.set_cons_succ]
      refine wpAnyH_ready (rs := [9]) (by kernel_rfl) (by simp) ?_
      refine AllReadyH.cons rfl (fun K hK => ?_) AllReadyH.nil
      refine if_wanted rfl ?_
      go_simp
      refine (HDb.out _).mono ?_
      rintro z w6 ⟨rfl, rfl⟩
      dsimp only
      refine hK.out _ _ hHeld (fun hHeld => ?_)
      clear hK K
      try simp only [Act.put, List.getElem_toArray, List.getElem_cons_zero, List.getElem_cons_succ, List.setIfInBounds_toArray, List.set_cons_zero, List.set_cons_succ]
      refine wpAnyH_take (i := 10) (v := .string (da ++ ⟨#[45]⟩ ++ db)) rfl (by kernel_rfl) (by kernel_rfl) (by kernel_rfl) (fun _ _ _ h => h) (Or.inl ⟨by rfl, fun w' h => by go_simp⟩) (by assumption) ?_
      try simp only [Act.put, List.getElem_toArray, List.getElem_cons_zero, List.getElem_cons_succ, List.setIfInBounds_toArray, List.set_cons_zero, List.set_cons_succ]
      obtain ⟨wd, hwd⟩ : ∃ d, da ++ ⟨#[45]⟩ ++ db = d := ⟨_, rfl⟩
      rw [hwd] at HSt ⊢
      clear hwd
      refine wpAnyH_ready (rs := [11]) (by kernel_rfl) (by simp) ?_
      refine AllReadyH.cons rfl (fun K hK => ?_) AllReadyH.nil
      refine if_wanted rfl ?_
      go_simp
      have HA9 : Hid (Below D0.heap.size D0 (D0.alloc (.cells #[.string wd] 9))) := (Below.refl _ _).alloc (Nat.le_refl _) _
      have HB9 : Hid (Below w1.heap.size w1 (D0.alloc (.cells #[.string wd] 9))) := hHeld.2.2.2.trans (HA9.out.mono hHeld.2.2.2.size)
      have HS9 : Hid ((D0.alloc (.cells #[.string wd] 9)).cell? ⟨wb.heap.size, 0, none⟩ = some (.int .i8 i) ∧ (D0.alloc (.cells #[.string wd] 9)).cell? ⟨wb.heap.size, 1, none⟩ = some (.int .i8 j) ∧ wb.heap.size < (D0.alloc (.cells #[.string wd] 9)).heap.size) := ⟨(HA9.out.cell (p := ⟨wb.heap.size, 0, none⟩) hHeld.2.2.1).trans hHeld.1, (HA9.out.cell (p := ⟨wb.heap.size, 1, none⟩) hHeld.2.2.1).trans hHeld.2.1, Nat.lt_of_lt_of_le hHeld.2.2.1 HA9.out.size⟩
      have HL9 := Lib.hid hHeld.2.2.2.size
      refine hK.out _ _ ⟨HS9.out.1, HS9.out.2.1, HS9.out.2.2, HB9.out⟩ (fun hHeld => ?_)
      clear hK K hHeld
      try simp only [Act.put, List.getElem_toArray, List.getElem_cons_zero, List.getElem_cons_succ, List.setIfInBounds_toArray, List.set_cons_zero, List.set_cons_succ]
      refine wpAnyH_ready (rs := [12]) (by kernel_rfl) (by simp) ?_
      refine AllReadyH.cons rfl (fun K hK => ?_) AllReadyH.nil
      refine if_wanted rfl (wp_append_own _ (.tmp 15) (.tmp 26) 41 rfl w1.heap.size 9 i0 (.string ⟨#[]⟩) 1 16 Tryd.underlying41 HI.out HZ0.out HZ1.out HZ2.out rfl (by decide) _ _ _ rfl (HOd.out.alloc _) ⟨D0.heap.size, 0, none⟩ 1 1 [.string wd] rfl rfl ?f1 ?f2 ?f3 ?f4 ?f5 ?_)
      case f1 => exact cell_str_new _ _ _
      case f2 => simp [Value.oneCell']
      case f3 => unfold maxLen; omega
      case f4 => omega
      case f5 => have := HL9.out; simp; omega
      intro v' w8 hown' hgrow _
      have hown8 : w8.ownsRow w1.heap.size 9 1 v' (k + 1) ((stT xs (k + 1)).flatMap stc) := by rw [HSt.out, List.flatMap_append]; exact hown'
      obtain ⟨A8, c8, rfl⟩ : ∃ A8 c8, v' = .slice A8 (k + 1) c8 := by
        rcases hown8.2 with ⟨h1, h2⟩ | ⟨g, cap, cur, h1, -⟩
        · exact ⟨_, _, by rw [h1, h2]⟩
        · exact ⟨_, _, h1⟩
      have HB8 : Hid (Below w1.heap.size w1 w8) := HB9.out.grown hgrow (by have := HL9.out; simp; omega) (fun r e => (HOd.out.lt r e).1)
      have hne : (Value.slice A2 k c2).ownBlock ≠ some wb.heap.size := fun e => by have := (HO.out.lt _ e).2; omega
      have HS8 : Hid (w8.cell? ⟨wb.heap.size, 0, none⟩ = some (.int .i8 i) ∧ w8.cell? ⟨wb.heap.size, 1, none⟩ = some (.int .i8 j) ∧ wb.heap.size < w8.heap.size) := ⟨cell_grownS hgrow HS9.out.2.2 hne HS9.out.1, cell_grownS hgrow HS9.out.2.2 hne HS9.out.2.1, Nat.lt_of_lt_of_le HS9.out.2.2 hgrow.size⟩
      have HO8 := Lib.hid hown8
      clear hown' hown8 hgrow
      refine hK.out _ _ ⟨HS8.out.1, HS8.out.2.1, HS8.out.2.2, HB8.out⟩ (fun hHeld => ?_)
      clear hK K
      try simp only [Act.put, List.getElem_toArray, List.getElem_cons_zero, List.getElem_cons_succ, List.setIfInBounds_toArray, List.set_cons_zero, List.set_cons_succ]
      refine wpAnyH_ready (rs := [13]) (by kernel_rfl) (by simp) ?_
      refine AllReadyH.cons rfl (fun K hK => ?_) AllReadyH.nil
      refine if_wanted rfl ?_
      refine wp_assign0 (v := .slice A8 (k + 1) c8) rfl rfl ?_
      refine hK.out _ _ hHeld (fun hHeld => ?_)
      clear hK K
      try simp only [Act.put, List.getElem_toArray, List.getElem_cons_zero, List.getElem_cons_succ, List.setIfInBounds_toArray, List.set_cons_zero, List.set_cons_succ]
      refine wpAnyH_done (by kernel_rfl) ?_ _
      try simp only [Act.put, List.getElem_toArray, List.getElem_cons_zero, List.getElem_cons_succ, List.setIfInBounds_toArray, List.set_cons_zero, List.set_cons_succ]
      have hb := hHeld
      clear hHeld
      clear hb
      go_wp2
      go_roundw
      case rel => exact ⟨k + 1, A8, c8, by omega, by go_num, rfl, HO8.out, HB8.out⟩
      case measure => first | (simp [intOf]; done) | (simp [intOf]; omega)
    · obtain rfl : k = xs.length := by omega
      have HJ : Hid (Calls Tryd.prog 17 #[.slice A2 xs.length c2, .string ⟨#[32]⟩] wb fun e w' => e = .returned (.string (jnS ⟨#[32]⟩ (xs.map stW))) ∧ Below wb.heap.size wb w') := by
        have := joinO_any (xs.map stW) ⟨#[32]⟩ (by have := stS_size HAll.out; omega) (by rw [List.length_map]; omega) w1.heap.size A2 c2 wb (by
          have hl9 : (stT xs xs.length).length = xs.length := by rw [stT_all, List.length_map]
          rw [← stT_all, hl9]; exact HO.out)
        rwa [List.length_map] at this
      go_wp2_with fail
      refine HJ.out.mono ?_
      rintro e w5 ⟨rfl, hb5⟩
      have HB6 := Lib.hid (HB.out.trans ((HB3.out.trans (hb5.mono HB3.out.size)).mono HB.out.size))
      clear hb5 HJ
      go_wp2
      first | go_ret | skip
      exact ⟨by (rw [E.out]; first | done | rfl), HB6.out⟩
end Go.Proofs.YtjjdehnpnfdjcaaDoor
