/-
  LedgerText: the model's contract. No condition.
-/
import Derived.Test.YtjjdehnpnfdjcabDoorLt0
namespace Go.Proofs.YtjjdehnpnfdjcabDoor
open Go.ChangeShapes Go.WideShapes Go.ChangeAt Go.RowKit Go.Deep

set_option maxRecDepth 100000 in
set_option maxHeartbeats 1000000 in
theorem l06Words_any (w : World) : Calls Tryd.prog 62 #[] w fun e w' => e = .returned (.slice (some ⟨w.heap.size, 0, none⟩) 5 5) ∧ Below w.heap.size w w' ∧ (∀ j, j < 5 → w'.cell? ⟨w.heap.size, j, none⟩ = some (.string (wdS j))) ∧ w.heap.size < w'.heap.size := by
  go_enter Tryd.func62, Tryd.ntmps62
  go_wp2
  go_ret
  refine ⟨rfl, (by repeat (first | exact Below.refl _ _ | refine Below.drew ?_ | refine Below.alloc ?_ (by simp <;> omega) _ | refine Below.setCell ?_ (by simp <;> omega) _)), fun j hj => ?_, by simp⟩
  have : j = 0 ∨ j = 1 ∨ j = 2 ∨ j = 3 ∨ j = 4 := by omega
  rcases this with rfl | rfl | rfl | rfl | rfl <;> simp [wdS]

set_option maxRecDepth 100000 in
set_option maxHeartbeats 4000000 in
theorem l06Text_any (l : List Ent) (hok : leOk 6 l = true) (hwf : ∀ x ∈ l, wfE x) (A : Option Addr) (c : Nat) (w : World) (hr : Rd w w.heap.size ecells A l) :
    Calls Tryd.prog 39 #[.slice A l.length c] w fun e w' => e = .returned (.string (ltT l l.length)) ∧ Below w.heap.size w w' := by
  obtain ⟨-, hl8, hen⟩ := leOk_out hok
  have HR := Lib.hid hr
  have HEn := Lib.hid hen
  have HW := Lib.hid hwf
  have HSz : Hid (∀ k, (ltT l k).size ≤ 11040 * k) := ltT_size hen hwf
  clear hr hok hen hwf
  go_enter Tryd.func39, Tryd.ntmps39
  go_wp2_with fail
  go_loopw [3, 4] (fun v i wr => ∃ (k : Nat), k ≤ l.length ∧ i = .int .i64 k ∧ v = .string (ltT l k) ∧ Below w.heap.size w wr) (fun _ i _ => l.length - (intOf i).toNat)
  case atStart => exact ⟨0, by omega, rfl, rfl, Below.refl _ _⟩
  case round =>
    obtain ⟨a, ha, rfl, rfl, hB⟩ := hrel
    obtain ⟨wa, rfl⟩ : ∃ u, u = wr := ⟨_, rfl⟩
    have HB := Lib.hid hB
    have hsz := HSz.out a
    clear hB
    have ha0 : (0 : Int) ≤ (a : Int) := Int.natCast_nonneg _
    by_cases hlt : a < l.length
    · have ha8 : (a : Int) < l.length := by omega
      obtain ⟨x, hx⟩ : ∃ x, l[a]? = some x := ⟨_, List.getElem?_eq_getElem hlt⟩
      have hm := List.mem_of_getElem? hx
      obtain ⟨d, f, t, k, n, rfl, hd, hf, ht, hk, hn⟩ := en_nat (HEn.out _ hm) (HW.out _ hm)
      obtain ⟨b, q, rfl, hbl, hrow⟩ := (HR.out.keep HB.out).at_ ecells_length hx
      obtain ⟨e0, e1, e2, e3, e4⟩ := rowE5 hrow
      have HSt := Lib.hid (ltT_succ hx)
      rw [ltW_nat] at HSt
      simp only [lt1, lt2] at HSt
      simp only at e0 e1 e2 e3 e4
      obtain ⟨o, ho⟩ : ∃ o, ltT l a = o := ⟨_, rfl⟩
      rw [ho] at HSt hsz ⊢
      clear hx hrow hm ho
      have HDd : Hid (∀ W, Calls Tryd.prog 48 #[.int .i64 d] W fun e w' => e = .returned (.string (decS d)) ∧ Below W.heap.size W w') := fun W => decimal_any d (by omega) W
      have hzd := decS_size d
      have ud : IntKind.i64.wrap (d : Int) = d := IntWalk.i64_in _ ⟨by omega, by omega⟩
      obtain ⟨sd, hsd⟩ : ∃ s, decS d = s := ⟨_, rfl⟩
      rw [hsd] at HDd hzd HSt
      clear hsd
      have HDf : Hid (∀ W, Calls Tryd.prog 48 #[.int .i64 f] W fun e w' => e = .returned (.string (decS f)) ∧ Below W.heap.size W w') := fun W => decimal_any f (by omega) W
      have hzf := decS_size f
      have uf : IntKind.i64.wrap (f : Int) = f := IntWalk.i64_in _ ⟨by omega, by omega⟩
      obtain ⟨sf, hsf⟩ : ∃ s, decS f = s := ⟨_, rfl⟩
      rw [hsf] at HDf hzf HSt
      clear hsf
      have HDt : Hid (∀ W, Calls Tryd.prog 48 #[.int .i64 t] W fun e w' => e = .returned (.string (decS t)) ∧ Below W.heap.size W w') := fun W => decimal_any t (by omega) W
      have hzt := decS_size t
      have ut : IntKind.i64.wrap (t : Int) = t := IntWalk.i64_in _ ⟨by omega, by omega⟩
      obtain ⟨st, hst⟩ : ∃ s, decS t = s := ⟨_, rfl⟩
      rw [hst] at HDt hzt HSt
      clear hst
      have HDn : Hid (∀ W, Calls Tryd.prog 48 #[.int .i64 n] W fun e w' => e = .returned (.string (decS n)) ∧ Below W.heap.size W w') := fun W => decimal_any n (by omega) W
      have hzn := decS_size n
      have un : IntKind.i64.wrap (n : Int) = n := IntWalk.i64_in _ ⟨by omega, by omega⟩
      obtain ⟨sn, hsn⟩ : ∃ s, decS n = s := ⟨_, rfl⟩
      rw [hsn] at HDn hzn HSt
      clear hsn
      have hn1 : ¬ (9223372036854775807 < sd.size + 1) := by omega
      have hn2 : ¬ (9223372036854775807 < sd.size + 1 + sf.size) := by omega
      have hn3 : ¬ (9223372036854775807 < sd.size + 1 + sf.size + 1) := by omega
      have hn4 : ¬ (9223372036854775807 < sd.size + 1 + sf.size + 1 + st.size) := by omega
      have hn5 : ¬ (9223372036854775807 < o.size + (sd.size + 1 + sf.size + 1 + st.size)) := by omega
      have HAx : Hid (Below wa.heap.size wa (wa.alloc (.cells #[.int .i16 d, .int .i8 f, .int .i8 t, .int .u8 k, .int .i16 n] 80))) := (Below.refl _ _).alloc (Nat.le_refl _) _
      have HQx : Hid ((wa.alloc (.cells #[.int .i16 d, .int .i8 f, .int .i8 t, .int .u8 k, .int .i16 n] 80)).cell? ⟨wa.heap.size, 0, none⟩ = some (.int .i16 d) ∧ (wa.alloc (.cells #[.int .i16 d, .int .i8 f, .int .i8 t, .int .u8 k, .int .i16 n] 80)).cell? ⟨wa.heap.size, 1, none⟩ = some (.int .i8 f) ∧ (wa.alloc (.cells #[.int .i16 d, .int .i8 f, .int .i8 t, .int .u8 k, .int .i16 n] 80)).cell? ⟨wa.heap.size, 2, none⟩ = some (.int .i8 t) ∧ (wa.alloc (.cells #[.int .i16 d, .int .i8 f, .int .i8 t, .int .u8 k, .int .i16 n] 80)).cell? ⟨wa.heap.size, 3, none⟩ = some (.int .u8 k) ∧ (wa.alloc (.cells #[.int .i16 d, .int .i8 f, .int .i8 t, .int .u8 k, .int .i16 n] 80)).cell? ⟨wa.heap.size, 4, none⟩ = some (.int .i16 n) ∧ wa.heap.size < (wa.alloc (.cells #[.int .i16 d, .int .i8 f, .int .i8 t, .int .u8 k, .int .i16 n] 80)).heap.size) := by show _ ∧ _ ∧ _ ∧ _ ∧ _ ∧ _; simp
      go_wp2_with fail
      obtain ⟨wx, hwx⟩ : ∃ u, (wa.alloc (.cells #[.int .i16 d, .int .i8 f, .int .i8 t, .int .u8 k, .int .i16 n] 80)) = u := ⟨_, rfl⟩
      rw [hwx] at HAx HQx ⊢
      obtain ⟨q0, q1, q2, q3, q4, hsx⟩ := HQx.out
      clear hwx HQx e0 e1 e2 e3 e4
      refine wp_region_held_drew (S := fun w' => Below wx.heap.size wx w') (by kernel_rfl) (Below.refl _ _).drew (fun hHeld => ?_)
      refine wpAnyH_take (i := 0) (v := .string o) rfl (by kernel_rfl) (by kernel_rfl) (by kernel_rfl) (fun _ _ _ h => h) (Or.inl ⟨by rfl, fun w' h => by go_simp⟩) (by assumption) ?_
      try simp only [Act.put, List.getElem_toArray, List.getElem_cons_zero, List.getElem_cons_succ, List.setIfInBounds_toArray, List.set_cons_zero, List.set_cons_succ]
      refine wpAnyH_take (i := 1) (v := .pointer (some ⟨wa.heap.size, 0, none⟩)) rfl (by kernel_rfl) (by kernel_rfl) (by kernel_rfl) (fun _ _ _ h => h) (Or.inl ⟨by rfl, fun w' h => by go_simp⟩) (by assumption) ?_
      try simp only [Act.put, List.getElem_toArray, List.getElem_cons_zero, List.getElem_cons_succ, List.setIfInBounds_toArray, List.set_cons_zero, List.set_cons_succ]
      refine wpAnyH_take (i := 2) (v := .int .i16 d) rfl (by kernel_rfl) (by kernel_rfl) (by kernel_rfl) (fun _ _ _ h => h) (Or.inl ⟨by rfl, fun w' h => by have e8 := (h.cell (p := ⟨wa.heap.size, 0, none⟩) hsx).trans q0; go_simp⟩) (by assumption) ?_
      try simp only [Act.put, List.getElem_toArray, List.getElem_cons_zero, List.getElem_cons_succ, List.setIfInBounds_toArray, List.set_cons_zero, List.set_cons_succ]
      refine wpAnyH_take (i := 3) (v := .int .i64 d) rfl (by kernel_rfl) (by kernel_rfl) (by kernel_rfl) (fun _ _ _ h => h) (Or.inl ⟨by rfl, fun w' h => by go_simp⟩) (by assumption) ?_
      try simp only [Act.put, List.getElem_toArray, List.getElem_cons_zero, List.getElem_cons_succ, List.setIfInBounds_toArray, List.set_cons_zero, List.set_cons_succ]
      refine wpAnyH_take (i := 6) (v := .pointer (some ⟨wa.heap.size, 1, none⟩)) rfl (by kernel_rfl) (by kernel_rfl) (by kernel_rfl) (fun _ _ _ h => h) (Or.inl ⟨by rfl, fun w' h => by go_simp⟩) (by assumption) ?_
      try simp only [Act.put, List.getElem_toArray, List.getElem_cons_zero, List.getElem_cons_succ, List.setIfInBounds_toArray, List.set_cons_zero, List.set_cons_succ]
      refine wpAnyH_take (i := 7) (v := .int .i8 f) rfl (by kernel_rfl) (by kernel_rfl) (by kernel_rfl) (fun _ _ _ h => h) (Or.inl ⟨by rfl, fun w' h => by have e8 := (h.cell (p := ⟨wa.heap.size, 1, none⟩) hsx).trans q1; go_simp⟩) (by assumption) ?_
      try simp only [Act.put, List.getElem_toArray, List.getElem_cons_zero, List.getElem_cons_succ, List.setIfInBounds_toArray, List.set_cons_zero, List.set_cons_succ]
      refine wpAnyH_take (i := 8) (v := .int .i64 f) rfl (by kernel_rfl) (by kernel_rfl) (by kernel_rfl) (fun _ _ _ h => h) (Or.inl ⟨by rfl, fun w' h => by go_simp⟩) (by assumption) ?_
      try simp only [Act.put, List.getElem_toArray, List.getElem_cons_zero, List.getElem_cons_succ, List.setIfInBounds_toArray, List.set_cons_zero, List.set_cons_succ]
      refine wpAnyH_take (i := 12) (v := .pointer (some ⟨wa.heap.size, 2, none⟩)) rfl (by kernel_rfl) (by kernel_rfl) (by kernel_rfl) (fun _ _ _ h => h) (Or.inl ⟨by rfl, fun w' h => by go_simp⟩) (by assumption) ?_
      try simp only [Act.put, List.getElem_toArray, List.getElem_cons_zero, List.getElem_cons_succ, List.setIfInBounds_toArray, List.set_cons_zero, List.set_cons_succ]
      refine wpAnyH_take (i := 13) (v := .int .i8 t) rfl (by kernel_rfl) (by kernel_rfl) (by kernel_rfl) (fun _ _ _ h => h) (Or.inl ⟨by rfl, fun w' h => by have e8 := (h.cell (p := ⟨wa.heap.size, 2, none⟩) hsx).trans q2; go_simp⟩) (by assumption) ?_
      try simp only [Act.put, List.getElem_toArray, List.getElem_cons_zero, List.getElem_cons_succ, List.setIfInBounds_toArray, List.set_cons_zero, List.set_cons_succ]
      refine wpAnyH_take (i := 14) (v := .int .i64 t) rfl (by kernel_rfl) (by kernel_rfl) (by kernel_rfl) (fun _ _ _ h => h) (Or.inl ⟨by rfl, fun w' h => by go_simp⟩) (by assumption) ?_
      try simp only [Act.put, List.getElem_toArray, List.getElem_cons_zero, List.getElem_cons_succ, List.setIfInBounds_toArray, List.set_cons_zero, List.set_cons_succ]
      obtain ⟨D0, hD0⟩ : ∃ D0, wx.drew = D0 := ⟨_, rfl⟩
      rw [hD0] at hHeld ⊢
      clear hD0
      refine wpAnyH_ready (rs := [4]) (by kernel_rfl) (by simp) ?_
      refine AllReadyH.cons rfl (fun K hK => ?_) AllReadyH.nil
      refine if_wanted rfl ?_
      go_simp
      refine (HDd.out _).mono ?_
      rintro z w5 ⟨rfl, hb⟩
      have hH2 : Below wx.heap.size wx w5 := hHeld.trans (hb.mono hHeld.size)
      clear hb hHeld
      dsimp only
      refine hK.out _ _ hH2 (fun hHeld => ?_)
      clear hK K hH2
      try simp only [Act.put, List.getElem_toArray, List.getElem_cons_zero, List.getElem_cons_succ, List.setIfInBounds_toArray, List.set_cons_zero, List.set_cons_succ]
      refine wpAnyH_take (i := 5) (v := .string (sd ++ ⟨#[32]⟩)) rfl (by kernel_rfl) (by kernel_rfl) (by kernel_rfl) (fun _ _ _ h => h) (Or.inl ⟨by rfl, fun w' h => by go_simp⟩) (by assumption) ?_
      try simp only [Act.put, List.getElem_toArray, List.getElem_cons_zero, List.getElem_cons_succ, List.setIfInBounds_toArray, List.set_cons_zero, List.set_cons_succ]
      refine wpAnyH_ready (rs := [9]) (by kernel_rfl) (by simp) ?_
      refine AllReadyH.cons rfl (fun K hK => ?_) AllReadyH.nil
      refine if_wanted rfl ?_
      go_simp
      refine (HDf.out _).mono ?_
      rintro z w6 ⟨rfl, hb⟩
      have hH2 : Below wx.heap.size wx w6 := hHeld.trans (hb.mono hHeld.size)
      clear hb hHeld
      dsimp only
      refine hK.out _ _ hH2 (fun hHeld => ?_)
      clear hK K hH2
      try simp only [Act.put, List.getElem_toArray, List.getElem_cons_zero, List.getElem_cons_succ, List.setIfInBounds_toArray, List.set_cons_zero, List.set_cons_succ]
      refine wpAnyH_take (i := 10) (v := .string (sd ++ ⟨#[32]⟩ ++ sf)) rfl (by kernel_rfl) (by kernel_rfl) (by kernel_rfl) (fun _ _ _ h => h) (Or.inl ⟨by rfl, fun w' h => by go_simp⟩) (by assumption) ?_
      try simp only [Act.put, List.getElem_toArray, List.getElem_cons_zero, List.getElem_cons_succ, List.setIfInBounds_toArray, List.set_cons_zero, List.set_cons_succ]
      refine wpAnyH_take (i := 11) (v := .string (sd ++ ⟨#[32]⟩ ++ sf ++ ⟨#[62]⟩)) rfl (by kernel_rfl) (by kernel_rfl) (by kernel_rfl) (fun _ _ _ h => h) (Or.inl ⟨by rfl, fun w' h => by go_simp⟩) (by assumption) ?_
      try simp only [Act.put, List.getElem_toArray, List.getElem_cons_zero, List.getElem_cons_succ, List.setIfInBounds_toArray, List.set_cons_zero, List.set_cons_succ]
      refine wpAnyH_ready (rs := [15]) (by kernel_rfl) (by simp) ?_
      refine AllReadyH.cons rfl (fun K hK => ?_) AllReadyH.nil
      refine if_wanted rfl ?_
      go_simp
      refine (HDt.out _).mono ?_
      rintro z W7 ⟨rfl, hb⟩
      have hH2 : Below wx.heap.size wx W7 := hHeld.trans (hb.mono hHeld.size)
      clear hb hHeld
      dsimp only
      refine hK.out _ _ hH2 (fun hHeld => ?_)
      clear hK K hH2
      try simp only [Act.put, List.getElem_toArray, List.getElem_cons_zero, List.getElem_cons_succ, List.setIfInBounds_toArray, List.set_cons_zero, List.set_cons_succ]
      refine wpAnyH_take (i := 16) (v := .string (sd ++ ⟨#[32]⟩ ++ sf ++ ⟨#[62]⟩ ++ st)) rfl (by kernel_rfl) (by kernel_rfl) (by kernel_rfl) (fun _ _ _ h => h) (Or.inl ⟨by rfl, fun w' h => by go_simp⟩) (by assumption) ?_
      try simp only [Act.put, List.getElem_toArray, List.getElem_cons_zero, List.getElem_cons_succ, List.setIfInBounds_toArray, List.set_cons_zero, List.set_cons_succ]
      refine wpAnyH_take (i := 17) (v := .string (o ++ (sd ++ ⟨#[32]⟩ ++ sf ++ ⟨#[62]⟩ ++ st))) rfl (by kernel_rfl) (by kernel_rfl) (by kernel_rfl) (fun _ _ _ h => h) (Or.inl ⟨by rfl, fun w' h => by go_simp⟩) (by assumption) ?_
      try simp only [Act.put, List.getElem_toArray, List.getElem_cons_zero, List.getElem_cons_succ, List.setIfInBounds_toArray, List.set_cons_zero, List.set_cons_succ]
      refine wpAnyH_ready (rs := [18]) (by kernel_rfl) (by simp) ?_
      refine AllReadyH.cons rfl (fun K hK => ?_) AllReadyH.nil
      refine if_wanted rfl ?_
      refine wp_assign0 (x := .tmp 33) (v := .string (o ++ (sd ++ ⟨#[32]⟩ ++ sf ++ ⟨#[62]⟩ ++ st))) rfl (by go_simp) ?_
      refine hK.out _ _ hHeld (fun hHeld => ?_)
      clear hK K
      try simp only [Act.put, List.getElem_toArray, List.getElem_cons_zero, List.getElem_cons_succ, List.setIfInBounds_toArray, List.set_cons_zero, List.set_cons_succ]
      refine wpAnyH_done (by kernel_rfl) ?_ _
      try simp only [Act.put, List.getElem_toArray, List.getElem_cons_zero, List.getElem_cons_succ, List.setIfInBounds_toArray, List.set_cons_zero, List.set_cons_succ]
      have hb := hHeld
      clear hHeld
      have HB7 := Lib.hid (HB.out.trans ((HAx.out.trans (hb.mono HAx.out.size)).mono HB.out.size))
      have r3 := (hb.cell (p := ⟨wa.heap.size, 3, none⟩) hsx).trans q3
      have r4 := (hb.cell (p := ⟨wa.heap.size, 4, none⟩) hsx).trans q4
      have hs7 : wa.heap.size < W7.heap.size := Nat.lt_of_lt_of_le hsx hb.size
      obtain ⟨o1, ho1⟩ : ∃ u, o ++ (sd ++ ⟨#[32]⟩ ++ sf ++ ⟨#[62]⟩ ++ st) = u := ⟨_, rfl⟩
      have hz1 : o1.size = o.size + (sd.size + 1 + sf.size + 1 + st.size) := by rw [← ho1]; simp only [ByteArray.size_append]; rfl
      have hz2 : o1.size ≤ 100000000 := by omega
      have HS2 : Hid (ltT l (a + 1) = o1 ++ (⟨#[32]⟩ ++ wdS k ++ ⟨#[32]⟩ ++ sn ++ ⟨#[10]⟩)) := by show _ = _; rw [HSt.out, ← ho1, ← ByteArray.append_assoc]
      rw [ho1]
      clear HSt
      have HSt := Lib.hid HS2.out
      clear HS2 hz1 hsz ho1 hb q0 q1 q2 q3 q4 hn1 hn2 hn3 hn4 hn5
      go_wp2_with fail
      refine wp_region_held_drew (S := fun w' => Below W7.heap.size W7 w') (by kernel_rfl) (Below.refl _ _).drew (fun hHeld => ?_)
      refine wpAnyH_take (i := 0) (v := .string o1) rfl (by kernel_rfl) (by kernel_rfl) (by kernel_rfl) (fun _ _ _ h => h) (Or.inl ⟨by rfl, fun w' h => by go_simp⟩) (by assumption) ?_
      try simp only [Act.put, List.getElem_toArray, List.getElem_cons_zero, List.getElem_cons_succ, List.setIfInBounds_toArray, List.set_cons_zero, List.set_cons_succ]
      refine wpAnyH_take (i := 2) (v := .pointer (some ⟨wa.heap.size, 3, none⟩)) rfl (by kernel_rfl) (by kernel_rfl) (by kernel_rfl) (fun _ _ _ h => h) (Or.inl ⟨by rfl, fun w' h => by go_simp⟩) (by assumption) ?_
      try simp only [Act.put, List.getElem_toArray, List.getElem_cons_zero, List.getElem_cons_succ, List.setIfInBounds_toArray, List.set_cons_zero, List.set_cons_succ]
      refine wpAnyH_take (i := 3) (v := .int .u8 k) rfl (by kernel_rfl) (by kernel_rfl) (by kernel_rfl) (fun _ _ _ h => h) (Or.inl ⟨by rfl, fun w' h => by have e8 := (h.cell (p := ⟨wa.heap.size, 3, none⟩) hs7).trans r3; go_simp⟩) (by assumption) ?_
      try simp only [Act.put, List.getElem_toArray, List.getElem_cons_zero, List.getElem_cons_succ, List.setIfInBounds_toArray, List.set_cons_zero, List.set_cons_succ]
      refine wpAnyH_take (i := 8) (v := .pointer (some ⟨wa.heap.size, 4, none⟩)) rfl (by kernel_rfl) (by kernel_rfl) (by kernel_rfl) (fun _ _ _ h => h) (Or.inl ⟨by rfl, fun w' h => by go_simp⟩) (by assumption) ?_
      try simp only [Act.put, List.getElem_toArray, List.getElem_cons_zero, List.getElem_cons_succ, List.setIfInBounds_toArray, List.set_cons_zero, List.set_cons_succ]
      refine wpAnyH_take (i := 9) (v := .int .i16 n) rfl (by kernel_rfl) (by kernel_rfl) (by kernel_rfl) (fun _ _ _ h => h) (Or.inl ⟨by rfl, fun w' h => by have e8 := (h.cell (p := ⟨wa.heap.size, 4, none⟩) hs7).trans r4; go_simp⟩) (by assumption) ?_
      try simp only [Act.put, List.getElem_toArray, List.getElem_cons_zero, List.getElem_cons_succ, List.setIfInBounds_toArray, List.set_cons_zero, List.set_cons_succ]
      refine wpAnyH_take (i := 10) (v := .int .i64 n) rfl (by kernel_rfl) (by kernel_rfl) (by kernel_rfl) (fun _ _ _ h => h) (Or.inl ⟨by rfl, fun w' h => by go_simp⟩) (by assumption) ?_
      try simp only [Act.put, List.getElem_toArray, List.getElem_cons_zero, List.getElem_cons_succ, List.setIfInBounds_toArray, List.set_cons_zero, List.set_cons_succ]
      obtain ⟨D0, hD0⟩ : ∃ D0, W7.drew = D0 := ⟨_, rfl⟩
      rw [hD0] at hHeld ⊢
      clear hD0
      obtain ⟨g, hg⟩ : ∃ g, D0.heap.size = g := ⟨_, rfl⟩
      have HWd := Lib.hid (l06Words_any D0)
      rw [hg] at HWd
      refine wpAnyH_ready (rs := [1]) (by kernel_rfl) (by simp) ?_
      refine AllReadyH.cons rfl (fun K hK => ?_) AllReadyH.nil
      refine if_wanted rfl ?_
      go_simp
      refine HWd.out.mono ?_
      rintro z w8 ⟨rfl, hb, hcw, hgl⟩
      have hH2 : Below W7.heap.size W7 w8 := hHeld.trans ((hg ▸ hb).mono hHeld.size)
      clear hb hHeld HWd hg
      dsimp only
      refine hK.out _ _ hH2 (fun hHeld => ?_)
      clear hK K
      refine wpAnyH_sub (S' := fun w' => Below w8.heap.size w8 w') (fun w' hw => hH2.trans (hw.mono hH2.size)) _ _ _ _ ?_
      have hHeld : Below w8.heap.size w8 w8 := Below.refl _ _
      try simp only [Act.put, List.getElem_toArray, List.getElem_cons_zero, List.getElem_cons_succ, List.setIfInBounds_toArray, List.set_cons_zero, List.set_cons_succ]
      have hck := hcw k (by omega)
      refine wpAnyH_take (i := 4) (v := .pointer (some ⟨g, k, none⟩)) rfl (by kernel_rfl) (by kernel_rfl) (by kernel_rfl) (fun _ _ _ h => h) (Or.inl ⟨by rfl, fun w' h => by have hk5 : ¬ (5 : Int) ≤ (k : Int) := (by omega); have hk6 : (k : Int) < 5 := (by omega); go_simp⟩) (by assumption) ?_
      try simp only [Act.put, List.getElem_toArray, List.getElem_cons_zero, List.getElem_cons_succ, List.setIfInBounds_toArray, List.set_cons_zero, List.set_cons_succ]
      refine wpAnyH_take (i := 5) (v := .string (wdS k)) rfl (by kernel_rfl) (by kernel_rfl) (by kernel_rfl) (fun _ _ _ h => h) (Or.inl ⟨by rfl, fun w' h => by have e8 := (h.cell (p := ⟨g, k, none⟩) hgl).trans hck; go_simp⟩) (by assumption) ?_
      try simp only [Act.put, List.getElem_toArray, List.getElem_cons_zero, List.getElem_cons_succ, List.setIfInBounds_toArray, List.set_cons_zero, List.set_cons_succ]
      obtain ⟨sw, hsw⟩ : ∃ s, wdS k = s := ⟨_, rfl⟩
      rw [hsw] at HSt ⊢
      have hzw : sw.size ≤ 5 := by rw [← hsw]; exact wdS_size k
      have hv1 : ¬ (9223372036854775807 < 1 + sw.size) := by omega
      have hv2 : ¬ (9223372036854775807 < 1 + sw.size + 1) := by omega
      have hv3 : ¬ (9223372036854775807 < 1 + sw.size + 1 + sn.size) := by omega
      have hv4 : ¬ (9223372036854775807 < 1 + sw.size + 1 + sn.size + 1) := by omega
      have hv5 : ¬ (9223372036854775807 < o1.size + (1 + sw.size + 1 + sn.size + 1)) := by omega
      clear hsw hck hcw
      refine wpAnyH_take (i := 6) (v := .string (⟨#[32]⟩ ++ sw)) rfl (by kernel_rfl) (by kernel_rfl) (by kernel_rfl) (fun _ _ _ h => h) (Or.inl ⟨by rfl, fun w' h => by go_simp⟩) (by assumption) ?_
      try simp only [Act.put, List.getElem_toArray, List.getElem_cons_zero, List.getElem_cons_succ, List.setIfInBounds_toArray, List.set_cons_zero, List.set_cons_succ]
      refine wpAnyH_take (i := 7) (v := .string (⟨#[32]⟩ ++ sw ++ ⟨#[32]⟩)) rfl (by kernel_rfl) (by kernel_rfl) (by kernel_rfl) (fun _ _ _ h => h) (Or.inl ⟨by rfl, fun w' h => by go_simp⟩) (by assumption) ?_
      try simp only [Act.put, List.getElem_toArray, List.getElem_cons_zero, List.getElem_cons_succ, List.setIfInBounds_toArray, List.set_cons_zero, List.set_cons_succ]
      refine wpAnyH_ready (rs := [11]) (by kernel_rfl) (by simp) ?_
      refine AllReadyH.cons rfl (fun K hK => ?_) AllReadyH.nil
      refine if_wanted rfl ?_
      go_simp
      refine (HDn.out _).mono ?_
      rintro z w9 ⟨rfl, hb⟩
      have hH2 : Below w8.heap.size w8 w9 := hHeld.trans (hb.mono hHeld.size)
      clear hb hHeld
      dsimp only
      refine hK.out _ _ hH2 (fun hHeld => ?_)
      clear hK K hH2
      try simp only [Act.put, List.getElem_toArray, List.getElem_cons_zero, List.getElem_cons_succ, List.setIfInBounds_toArray, List.set_cons_zero, List.set_cons_succ]
      refine wpAnyH_take (i := 12) (v := .string (⟨#[32]⟩ ++ sw ++ ⟨#[32]⟩ ++ sn)) rfl (by kernel_rfl) (by kernel_rfl) (by kernel_rfl) (fun _ _ _ h => h) (Or.inl ⟨by rfl, fun w' h => by go_simp⟩) (by assumption) ?_
      try simp only [Act.put, List.getElem_toArray, List.getElem_cons_zero, List.getElem_cons_succ, List.setIfInBounds_toArray, List.set_cons_zero, List.set_cons_succ]
      refine wpAnyH_take (i := 13) (v := .string (⟨#[32]⟩ ++ sw ++ ⟨#[32]⟩ ++ sn ++ ⟨#[10]⟩)) rfl (by kernel_rfl) (by kernel_rfl) (by kernel_rfl) (fun _ _ _ h => h) (Or.inl ⟨by rfl, fun w' h => by go_simp⟩) (by assumption) ?_
      try simp only [Act.put, List.getElem_toArray, List.getElem_cons_zero, List.getElem_cons_succ, List.setIfInBounds_toArray, List.set_cons_zero, List.set_cons_succ]
      refine wpAnyH_take (i := 14) (v := .string (o1 ++ (⟨#[32]⟩ ++ sw ++ ⟨#[32]⟩ ++ sn ++ ⟨#[10]⟩))) rfl (by kernel_rfl) (by kernel_rfl) (by kernel_rfl) (fun _ _ _ h => h) (Or.inl ⟨by rfl, fun w' h => by go_simp⟩) (by assumption) ?_
      try simp only [Act.put, List.getElem_toArray, List.getElem_cons_zero, List.getElem_cons_succ, List.setIfInBounds_toArray, List.set_cons_zero, List.set_cons_succ]
      refine wpAnyH_ready (rs := [15]) (by kernel_rfl) (by simp) ?_
      refine AllReadyH.cons rfl (fun K hK => ?_) AllReadyH.nil
      refine if_wanted rfl ?_
      refine wp_assign0 (x := .tmp 48) (v := .string (o1 ++ (⟨#[32]⟩ ++ sw ++ ⟨#[32]⟩ ++ sn ++ ⟨#[10]⟩))) rfl (by go_simp) ?_
      refine hK.out _ _ hHeld (fun hHeld => ?_)
      clear hK K
      try simp only [Act.put, List.getElem_toArray, List.getElem_cons_zero, List.getElem_cons_succ, List.setIfInBounds_toArray, List.set_cons_zero, List.set_cons_succ]
      refine wpAnyH_done (by kernel_rfl) ?_ _
      try simp only [Act.put, List.getElem_toArray, List.getElem_cons_zero, List.getElem_cons_succ, List.setIfInBounds_toArray, List.set_cons_zero, List.set_cons_succ]
      have hb := hHeld
      clear hHeld
      have HB9 := Lib.hid (HB7.out.trans ((hH2.trans (hb.mono hH2.size)).mono HB7.out.size))
      clear hb hH2
      go_wp2
      go_roundw
      case rel => exact ⟨a + 1, by omega, by go_num, by rw [HSt.out], HB9.out⟩
      case measure => first | (simp [intOf]; done) | (simp [intOf]; omega)
    · obtain rfl : a = l.length := by omega
      go_wp2
      go_ret
      exact ⟨rfl, HB.out⟩

set_option maxRecDepth 100000 in
set_option maxHeartbeats 2000000 in
theorem specLedgerText_any (l : List Ent) (hwf : ∀ x ∈ l, wfE x) (A : Option Addr) (c : Nat) (w : World) (hl : l.length ≤ 1048576) (hr : Rd w w.heap.size ecells A l) :
    Calls Tryd.prog 17 #[.slice A l.length c] w fun e w' => e = .returned (.string (ltA l)) ∧ Below w.heap.size w w' := by
  have HC := Lib.hid (l06Ledger_any 6 l hwf A c w hl hr)
  have HR := Lib.hid hr
  have HW := Lib.hid hwf
  clear hr hwf
  go_enter Tryd.func17, Tryd.ntmps17
  go_wp2_with fail
  refine HC.out.mono ?_
  rintro e w1 ⟨rfl, hb⟩
  have HB := Lib.hid hb
  clear HC hb
  cases h0 : leOk 6 l
  · have E := Lib.hid (ltA_no h0)
    clear h0
    go_wp2
    first | go_ret | skip
    exact ⟨by (rw [E.out]; first | done | rfl), HB.out⟩
  have E := Lib.hid (ltA_yes h0)
  have HT := Lib.hid (l06Text_any l h0 HW.out A c w1 (HR.out.keep HB.out))
  clear h0
  obtain ⟨s, hs⟩ : ∃ s, ltT l l.length = s := ⟨_, rfl⟩
  rw [hs] at E HT
  clear hs
  go_wp2_with fail
  refine HT.out.mono ?_
  rintro e w2 ⟨rfl, hb⟩
  have HB2 := Lib.hid (HB.out.trans (hb.mono HB.out.size))
  clear hb HT
  go_wp2
  go_ret
  exact ⟨by (rw [E.out]; first | done | rfl), HB2.out⟩
end Go.Proofs.YtjjdehnpnfdjcabDoor
