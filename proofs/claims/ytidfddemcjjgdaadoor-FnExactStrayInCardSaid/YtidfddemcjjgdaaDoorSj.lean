/-
  The contracts of StrayIn itself, of the model and of the program. Condition: the lists read as crates and bottles whose numbers fit their kinds; the sentinel errors lie as the row lists them (the program's).
-/
import Derived.Test.YtidfddemcjjgdaaDoorSi
namespace Go.Proofs.YtidfddemcjjgdaaDoor
open Go.ChangeShapes Go.WideShapes Go.ChangeAt Go.RowKit Go.Deep

def lbOk (xs : List Crt) (ls : List Bot) (k : Nat) : Bool := okS xs && (ls.take k).all vB
theorem lbOk_succ {xs : List Crt} {ls : List Bot} {k : Nat} {l : Bot} (h : ls[k]? = some l) : lbOk xs ls (k + 1) = (lbOk xs ls k && vB l) := by
  obtain ⟨hlt, he⟩ := List.getElem?_eq_some_iff.1 h
  unfold lbOk
  rw [List.take_succ_eq_append_getElem hlt, he, List.all_append]
  simp [Bool.and_assoc]
theorem lbOk_all (xs : List Crt) (ls : List Bot) : lbOk xs ls ls.length = siOk xs ls := by rw [lbOk, siOk, List.take_length]
theorem rowB {w : World} {b o : Nat} {x y : Int} (h : w.rangeAt b o (bcells (x, y))) : w.cell? ⟨b, o, none⟩ = some (.int .u8 x) ∧ w.cell? ⟨b, o + 1, none⟩ = some (.int .i16 y) := ⟨h 0 _ rfl, h 1 _ rfl⟩

set_option maxRecDepth 100000 in
set_option maxHeartbeats 4000000 in
theorem specStray_any (xs : List Crt) (ls : List Bot) (hls : ∀ l ∈ ls, wfB l) (A A2 : Option Addr) (c c2 : Nat) (w : World) (hl : xs.length ≤ 1048576) (hl2 : ls.length ≤ 1048576) (hr : Rd w w.heap.size kcells A xs) (hr2 : Rd w w.heap.size bcells A2 ls) :
    Calls Tryd.prog 42 #[.slice A xs.length c, .slice A2 ls.length c2] w fun e w' => e = .returned (siV xs ls) ∧ Below w.heap.size w w' := by
  have HR := Lib.hid hr
  have HR2 := Lib.hid hr2
  have HW := Lib.hid hls
  clear hr hr2 hls
  go_enter Tryd.func42, Tryd.ntmps42
  go_wp2_with fail
  refine (l01Stack_any xs A c _ hl HR.out).mono ?_
  rintro e w1 ⟨rfl, hb⟩
  have HB1 := Lib.hid hb
  clear hb
  go_wp2_with fail
  go_loopw [6, 7] (fun f i wr => ∃ k : Nat, k ≤ ls.length ∧ i = .int .i64 k ∧ f = .bool (lbOk xs ls k) ∧ Below w.heap.size w wr) (fun _ i _ => ls.length - (intOf i).toNat)
  case atStart => exact ⟨0, by omega, rfl, by rw [show lbOk xs ls 0 = okS xs by simp [lbOk]], HB1.out⟩
  case round =>
    clear HB1
    obtain ⟨k, hk, rfl, rfl, hb⟩ := hrel
    have Hb := Lib.hid hb
    clear hb
    by_cases hlt : k < ls.length
    · obtain ⟨⟨p, q⟩, hx⟩ : ∃ x, ls[k]? = some x := ⟨_, List.getElem?_eq_getElem hlt⟩
      have hwx := HW.out _ (List.mem_of_getElem? hx)
      obtain ⟨b, o, rfl, hbl, hrow⟩ := (HR2.out.below (Nat.le_refl _) Hb.out).at_ bcells_length hx
      obtain ⟨e1, e2⟩ := rowB hrow
      have hk0 : (0 : Int) ≤ (k : Int) := Int.natCast_nonneg _
      have hk8 : (k : Int) < ls.length := by omega
      have HX := Lib.hid (lbOk_succ (xs := xs) hx)
      have HWX := Lib.hid hwx
      clear hx hrow hbl hwx
      obtain ⟨f, hf⟩ : ∃ f, lbOk xs ls k = f := ⟨_, rfl⟩
      rw [hf] at HX ⊢
      clear hf
      cases f
      · go_wp2
        go_roundw
        case rel => exact ⟨k + 1, by omega, by go_num, by rw [HX.out]; rfl, Hb.out⟩
        case measure => simp [intOf]; omega
      · go_wp2_with fail
        refine (l01Bottle_any p q ⟨HWX.out.1, HWX.out.2.1⟩ ⟨HWX.out.2.2.1, HWX.out.2.2.2⟩ _).mono ?_
        rintro e w2 ⟨rfl, hb2⟩
        have Hb2 : Hid (Below w.heap.size w w2) := Hb.out.trans (hb2.mono Hb.out.size)
        clear hb2 e1 e2
        go_wp2
        go_roundw
        case rel => exact ⟨k + 1, by omega, by go_num, by rw [HX.out]; rfl, Hb2.out⟩
        case measure => simp [intOf]; omega
    · obtain rfl : k = ls.length := by omega
      rw [lbOk_all]
      cases hok : siOk xs ls
      · have HN := Lib.hid (si_bad hok)
        clear hok
        go_wp2
        go_ret2
        exact ⟨by rw [siV, HN.out.1, HN.out.2]; first | done | rfl, Hb.out⟩
      · by_cases hlen : ls.length = xs.length
        · have HN := Lib.hid (si_ok hok hlen)
          have hlen2 : (ls.length : Int) = xs.length := by omega
          have HLen := Lib.hid hlen
          have HLen2 := Lib.hid hlen2
          clear hok hlen hk hlt
          rw [HLen.out]
          clear hlen2
          go_wp2_with fail
          go_loopw [8, 9] (fun s i wr => ∃ k : Nat, k ≤ xs.length ∧ i = .int .i64 k ∧ s = .int .i64 (sumS xs ls k : Nat) ∧ Below w.heap.size w wr) (fun _ i _ => xs.length - (intOf i).toNat)
          case atStart => exact ⟨0, by omega, rfl, rfl, Hb.out⟩
          case round =>
            clear Hb
            obtain ⟨k, hk, rfl, rfl, hb⟩ := hrel
            have Hb := Lib.hid hb
            clear hb
            by_cases hlt : k < xs.length
            · obtain ⟨x, hx⟩ : ∃ x, xs[k]? = some x := ⟨_, List.getElem?_eq_getElem hlt⟩
              obtain ⟨⟨p, q⟩, hy⟩ : ∃ x, ls[k]? = some x := ⟨_, List.getElem?_eq_getElem (by rw [HLen.out]; exact hlt)⟩
              obtain ⟨b, o, rfl, hbl, hrow⟩ := (HR.out.below (Nat.le_refl _) Hb.out).at_ kcells_length hx
              obtain ⟨b', o', rfl, hbl', hrow'⟩ := (HR2.out.below (Nat.le_refl _) Hb.out).at_ bcells_length hy
              have hk0 : (0 : Int) ≤ (k : Int) := Int.natCast_nonneg _
              have hk8 : (k : Int) < xs.length := by omega
              have hk9 : (k : Int) < ls.length := by rw [HLen2.out]; omega
              have HX := Lib.hid (sumS_succ hx hy)
              have HRow := Lib.hid hrow
              have HRow' := Lib.hid hrow'
              have HBl : Hid (b < wr.heap.size) := Nat.lt_of_lt_of_le hbl Hb.out.size
              have HBl' : Hid (b' < wr.heap.size) := Nat.lt_of_lt_of_le hbl' Hb.out.size
              have hbd := sumS_le xs ls k
              have hbd2 := strN_le x.1 (p, q) 12
              have hs1 : IntKind.i64.wrap ((sumS xs ls k : Nat) + (strN x.1 (p, q) 12 : Nat) : Int) = (sumS xs ls k : Nat) + (strN x.1 (p, q) 12 : Nat) := IntWalk.i64_in _ ⟨by omega, by omega⟩
              have hs2 : wrap64 ((sumS xs ls k : Nat) + (strN x.1 (p, q) 12 : Nat) : Int) = (sumS xs ls k : Nat) + (strN x.1 (p, q) 12 : Nat) := IntWalk.wrap64_in _ ⟨by omega, by omega⟩
              clear hx hy hrow hrow' hbl hbl' hbd hbd2
              obtain ⟨sn, hsn⟩ : ∃ n, sumS xs ls k = n := ⟨_, rfl⟩
              rw [hsn] at hs1 hs2 HX ⊢
              clear hsn
              go_wp2_with fail
              refine wp_region_held_drew (S := fun w' => Below wr.heap.size wr w') (by kernel_rfl) (Below.refl _ _).drew (fun hHeld => ?_)
              refine wpAnyH_take (i := 0) (v := .int .i64 (sn : Nat)) rfl (by kernel_rfl) (by kernel_rfl) (by kernel_rfl) (fun _ _ _ h => h) (Or.inl ⟨by rfl, fun w' h => by go_simp⟩) (by assumption) ?_
              try simp only [Act.put, List.getElem_toArray, List.getElem_cons_zero, List.getElem_cons_succ, List.setIfInBounds_toArray, List.set_cons_zero, List.set_cons_succ]
              refine wpAnyH_take (i := 1) (v := .slice (some ⟨b, o, none⟩) xs.length c) rfl (by kernel_rfl) (by kernel_rfl) (by kernel_rfl) (fun _ _ _ h => h) (Or.inl ⟨by rfl, fun w' h => by go_simp⟩) (by assumption) ?_
              try simp only [Act.put, List.getElem_toArray, List.getElem_cons_zero, List.getElem_cons_succ, List.setIfInBounds_toArray, List.set_cons_zero, List.set_cons_succ]
              refine wpAnyH_take (i := 2) (v := .int .i64 k) rfl (by kernel_rfl) (by kernel_rfl) (by kernel_rfl) (fun _ _ _ h => h) (Or.inl ⟨by rfl, fun w' h => by go_simp⟩) (by assumption) ?_
              try simp only [Act.put, List.getElem_toArray, List.getElem_cons_zero, List.getElem_cons_succ, List.setIfInBounds_toArray, List.set_cons_zero, List.set_cons_succ]
              refine wpAnyH_take (i := 3) (v := .pointer (some ⟨b, o + k * 24, none⟩)) rfl (by kernel_rfl) (by kernel_rfl) (by kernel_rfl) (fun _ _ _ h => h) (Or.inl ⟨by rfl, fun w' h => by go_simp⟩) (by assumption) ?_
              try simp only [Act.put, List.getElem_toArray, List.getElem_cons_zero, List.getElem_cons_succ, List.setIfInBounds_toArray, List.set_cons_zero, List.set_cons_succ]
              refine wpAnyH_take (i := 4) (v := .slice (some ⟨b', o', none⟩) xs.length c2) rfl (by kernel_rfl) (by kernel_rfl) (by kernel_rfl) (fun _ _ _ h => h) (Or.inl ⟨by rfl, fun w' h => by go_simp⟩) (by assumption) ?_
              try simp only [Act.put, List.getElem_toArray, List.getElem_cons_zero, List.getElem_cons_succ, List.setIfInBounds_toArray, List.set_cons_zero, List.set_cons_succ]
              refine wpAnyH_take (i := 5) (v := .int .i64 k) rfl (by kernel_rfl) (by kernel_rfl) (by kernel_rfl) (fun _ _ _ h => h) (Or.inl ⟨by rfl, fun w' h => by go_simp⟩) (by assumption) ?_
              try simp only [Act.put, List.getElem_toArray, List.getElem_cons_zero, List.getElem_cons_succ, List.setIfInBounds_toArray, List.set_cons_zero, List.set_cons_succ]
              refine wpAnyH_take (i := 6) (v := .pointer (some ⟨b', o' + k * 2, none⟩)) rfl (by kernel_rfl) (by kernel_rfl) (by kernel_rfl) (fun _ _ _ h => h) (Or.inl ⟨by rfl, fun w' h => by go_simp⟩) (by assumption) ?_
              try simp only [Act.put, List.getElem_toArray, List.getElem_cons_zero, List.getElem_cons_succ, List.setIfInBounds_toArray, List.set_cons_zero, List.set_cons_succ]
              refine wpAnyH_take (i := 7) (v := .agg #[.int .u8 p, .int .i16 q]) rfl (by kernel_rfl) (by kernel_rfl) (by kernel_rfl) (fun _ _ _ h => h) (Or.inl ⟨by rfl, fun w' h => by have e1 := (rowB (rangeAt_below HRow'.out h HBl'.out)).1; have e2 := (rowB (rangeAt_below HRow'.out h HBl'.out)).2; go_simp⟩) (by assumption) ?_
              try simp only [Act.put, List.getElem_toArray, List.getElem_cons_zero, List.getElem_cons_succ, List.setIfInBounds_toArray, List.set_cons_zero, List.set_cons_succ]
              obtain ⟨D0, hD0⟩ : ∃ D0, wr.drew = D0 := ⟨_, rfl⟩
              rw [hD0] at hHeld ⊢
              clear hD0
              refine wpAnyH_ready (rs := [8]) (by kernel_rfl) (by simp) ?_
              refine AllReadyH.cons rfl (fun K hK => ?_) AllReadyH.nil
              refine if_wanted rfl ?_
              go_simp
              refine (l03Stray_any x.1 x.2 p q b (o + k * 24) _ (Nat.lt_of_lt_of_le HBl.out hHeld.size) (rangeAt_below HRow.out hHeld HBl.out)).mono ?_
              rintro e w2 ⟨rfl, hb⟩
              have hH2 : Below wr.heap.size wr w2 := hHeld.trans (hb.mono hHeld.size)
              clear hb hHeld
              dsimp only
              refine hK.out _ _ hH2 (fun hHeld => ?_)
              clear hK K hH2
              try simp only [Act.put, List.getElem_toArray, List.getElem_cons_zero, List.getElem_cons_succ, List.setIfInBounds_toArray, List.set_cons_zero, List.set_cons_succ]
              refine wpAnyH_take (i := 9) (v := .int .i64 ((sn : Nat) + (strN x.1 (p, q) 12 : Nat))) rfl (by kernel_rfl) (by kernel_rfl) (by kernel_rfl) (fun _ _ _ h => h) (Or.inl ⟨by rfl, fun w' h => by go_simp⟩) (by assumption) ?_
              try simp only [Act.put, List.getElem_toArray, List.getElem_cons_zero, List.getElem_cons_succ, List.setIfInBounds_toArray, List.set_cons_zero, List.set_cons_succ]
              refine wpAnyH_ready (rs := [10]) (by kernel_rfl) (by simp) ?_
              refine AllReadyH.cons rfl (fun K hK => ?_) AllReadyH.nil
              refine if_wanted rfl ?_
              refine wp_assign0 (v := .int .i64 ((sn : Nat) + (strN x.1 (p, q) 12 : Nat))) rfl rfl ?_
              refine hK.out _ _ hHeld (fun hHeld => ?_)
              clear hK K
              try simp only [Act.put, List.getElem_toArray, List.getElem_cons_zero, List.getElem_cons_succ, List.setIfInBounds_toArray, List.set_cons_zero, List.set_cons_succ]
              refine wpAnyH_done (by kernel_rfl) ?_ _
              try simp only [Act.put, List.getElem_toArray, List.getElem_cons_zero, List.getElem_cons_succ, List.setIfInBounds_toArray, List.set_cons_zero, List.set_cons_succ]
              have HB2 := Lib.hid (Hb.out.trans (hHeld.mono Hb.out.size))
              clear hHeld
              go_wp2
              go_roundw
              case rel => exact ⟨k + 1, by omega, by go_num, by rw [HX.out]; rfl, HB2.out⟩
              case measure => simp [intOf]; omega
            · obtain rfl : k = xs.length := by omega
              go_wp2
              go_ret2
              exact ⟨by rw [siV, HN.out.1, HN.out.2]; first | done | rfl, Hb.out⟩
        · have HN := Lib.hid (si_len hok hlen)
          have hlen2 : ((ls.length : Int) == xs.length) = false := by simp; omega
          have hlen3 : ¬ (ls.length : Int) = xs.length := by omega
          clear hok
          go_wp2
          go_ret2
          exact ⟨by rw [siV, HN.out.1, HN.out.2]; first | done | rfl, Hb.out⟩
end Go.Proofs.YtidfddemcjjgdaaDoor
