/-
  A payment that is paid: the program's contracts. Condition: a list of numbers of one's own.
-/
import Derived.Test.YtcdoablhnlkkmaaDoorCp2
import Derived.Test.YtcdoablhnlkkmaaDoorYv0
namespace Go.Proofs.YtcdoablhnlkkmaaDoor
open Go.ChangeShapes Go.WideShapes Go.ChangeAt Go.RowKit Go.Deep

set_option maxHeartbeats 1000000 in
theorem netOf_ok (n c g p : Nat) (hn : n ≤ 6) (hp : p < n) (w : World) :
    Calls Tryd.prog 78 #[.slice (some ⟨g, 0, none⟩) n c, .int .i8 p] w fun e w' => e = .returned (.pointer (some ⟨g, p, none⟩)) ∧ w = w' := by
  have hp0 : (0 : Int) ≤ (p : Int) := Int.natCast_nonneg _
  have hp8 : (p : Int) < (n : Int) := by omega
  have hq : (decide ((0 : Int) ≤ (p : Int)) && decide ((p : Int) ≤ (n : Int) - 1)) = true := by simp; omega
  have HQ := Lib.hid hq
  obtain ⟨hf1, hf2⟩ := wrap_small (x := (p : Int)) (by omega)
  obtain ⟨hn1, hn2⟩ := wrap_small (x := (n : Int) - 1) (by omega)
  clear hq
  go_enter Tryd.func78, Tryd.ntmps78
  go_wp2_with fail
  refine (isWithin_any (p : Int) 0 ((n : Int) - 1) w).mono ?_
  rintro e w1 ⟨rfl, rfl⟩
  rw [HQ.out]
  go_wp2
  go_ret
  exact ⟨rfl, rfl⟩
set_option maxHeartbeats 1000000 in
theorem netOf_bad (n c g : Nat) (p : Int) (hn : n ≤ 6) (hp8 : -128 ≤ p ∧ p ≤ 127) (hp : wi 0 ((n : Int) - 1) p = false) (w : World) :
    Calls Tryd.prog 78 #[.slice (some ⟨g, 0, none⟩) n c, .int .i8 p] w fun e w' => e = .panicked [{ v := .iface 163 (.agg #[.int .i8 p]), recovered := false }] ∧ w = w' := by
  have HQ : Hid ((decide ((0 : Int) ≤ p) && decide (p ≤ (n : Int) - 1)) = false) := hp
  obtain ⟨hf1, hf2⟩ := wrap_small (x := p) (by omega)
  obtain ⟨hn1, hn2⟩ := wrap_small (x := (n : Int) - 1) (by omega)
  clear hp
  go_enter Tryd.func78, Tryd.ntmps78
  go_wp2_with fail
  refine (isWithin_any p 0 ((n : Int) - 1) w).mono ?_
  rintro e w1 ⟨rfl, rfl⟩
  rw [HQ.out]
  go_wp2
  exact ⟨rfl, rfl, rfl⟩

set_option maxRecDepth 100000 in
set_option maxHeartbeats 4000000 in
theorem pay_bad (l : List Int) (g c b : Nat) (f t a : Int) (w : World) (hn : l.length ≤ 6) (hf8 : -128 ≤ f ∧ f ≤ 127) (hf : wi 0 ((l.length : Int) - 1) f = false) :
    Calls Tryd.prog 59 #[.slice (some ⟨g, 0, none⟩) l.length c, .agg #[.int .i8 f, .int .i8 t, .int .i64 a]] w fun e w' => e = .panicked [{ v := .iface 163 (.agg #[.int .i8 f]), recovered := false }] ∧ Below w.heap.size w w' := by
  have h1 : Blk (w.alloc (.cells #[.int .i8 f, .int .i8 t, .int .i64 a] 64)) w.heap.size 64 #[.int .i8 f, .int .i8 t, .int .i64 a] := Blk.new w _ _
  have h2 : Below w.heap.size w (w.alloc (.cells #[.int .i8 f, .int .i8 t, .int .i64 a] 64)) := (Below.refl _ w).alloc (Nat.le_refl _) _
  obtain ⟨W0, hW0⟩ : ∃ W0, w.alloc (.cells #[.int .i8 f, .int .i8 t, .int .i64 a] 64) = W0 := ⟨_, rfl⟩
  rw [hW0] at h1 h2
  have H1 := Lib.hid h1
  have H2 := Lib.hid h2
  have HXc : Hid (∀ w', Below W0.heap.size W0 w' → w'.cell? ⟨w.heap.size, 0, none⟩ = some (.int .i8 f)) := fun w' h => (H1.out.keep h).cell 0
  have HXa : Hid (∀ w', Below W0.heap.size W0 w' → w'.cell? ⟨w.heap.size, 2, none⟩ = some (.int .i64 a)) := fun w' h => (H1.out.keep h).cell 2
  clear h1 h2
  go_enter Tryd.func59, Tryd.ntmps59
  go_wp2_with fail
  clear hW0
  refine wp_region_held_drew (S := fun w' => Below W0.heap.size W0 w') (by kernel_rfl) (Below.refl _ _).drew (fun hHeld => ?_)
  refine wpAnyH_take (i := 0) (v := .slice (some ⟨g, 0, none⟩) l.length c) rfl (by kernel_rfl) (by kernel_rfl) (by kernel_rfl) (fun _ _ _ h => h) (Or.inl ⟨by rfl, fun w' h => by go_simp⟩) (by assumption) ?_
  try simp only [Act.put, List.getElem_toArray, List.getElem_cons_zero, List.getElem_cons_succ, List.setIfInBounds_toArray, List.set_cons_zero, List.set_cons_succ]
  refine wpAnyH_take (i := 1) (v := .pointer (some ⟨w.heap.size, 0, none⟩)) rfl (by kernel_rfl) (by kernel_rfl) (by kernel_rfl) (fun _ _ _ h => h) (Or.inl ⟨by rfl, fun w' h => by go_simp⟩) (by assumption) ?_
  try simp only [Act.put, List.getElem_toArray, List.getElem_cons_zero, List.getElem_cons_succ, List.setIfInBounds_toArray, List.set_cons_zero, List.set_cons_succ]
  refine wpAnyH_take (i := 2) (v := .int .i8 f) rfl (by kernel_rfl) (by kernel_rfl) (by kernel_rfl) (fun _ _ _ h => h) (Or.inl ⟨by rfl, fun w' h => by (have g0 := HXc.out w' (h.mono (Nat.le_refl _)) ; go_simp)⟩) (by assumption) ?_
  try simp only [Act.put, List.getElem_toArray, List.getElem_cons_zero, List.getElem_cons_succ, List.setIfInBounds_toArray, List.set_cons_zero, List.set_cons_succ]
  refine wpAnyH_take (i := 6) (v := .pointer (some ⟨w.heap.size, 2, none⟩)) rfl (by kernel_rfl) (by kernel_rfl) (by kernel_rfl) (fun _ _ _ h => h) (Or.inl ⟨by rfl, fun w' h => by go_simp⟩) (by assumption) ?_
  try simp only [Act.put, List.getElem_toArray, List.getElem_cons_zero, List.getElem_cons_succ, List.setIfInBounds_toArray, List.set_cons_zero, List.set_cons_succ]
  refine wpAnyH_take (i := 7) (v := .int .i64 a) rfl (by kernel_rfl) (by kernel_rfl) (by kernel_rfl) (fun _ _ _ h => h) (Or.inl ⟨by rfl, fun w' h => by (have g0 := HXa.out w' (h.mono (Nat.le_refl _)) ; go_simp)⟩) (by assumption) ?_
  try simp only [Act.put, List.getElem_toArray, List.getElem_cons_zero, List.getElem_cons_succ, List.setIfInBounds_toArray, List.set_cons_zero, List.set_cons_succ]
  obtain ⟨D0, hD0⟩ : ∃ D0, W0.drew = D0 := ⟨_, rfl⟩
  rw [hD0] at hHeld ⊢
  clear hD0
  refine wpAnyH_ready (rs := [3]) (by kernel_rfl) (by simp) ?_
  refine AllReadyH.cons rfl (fun K hK => ?_) AllReadyH.nil
  refine if_wanted rfl ?_
  go_simp
  refine (netOf_bad l.length c g f hn hf8 hf D0).mono ?_
  rintro e y1 ⟨rfl, rfl⟩
  dsimp only
  exact ⟨rfl, rfl, H2.out.trans (hHeld.mono H2.out.size)⟩

set_option maxRecDepth 100000 in
set_option maxHeartbeats 4000000 in
theorem pay_ok (l : List Int) (g c b : Nat) (F : Nat) (T : Nat) (a u v : Int) (w : World) (hn : l.length ≤ 6) (hF : l[F]? = some u) (hFT : F ≠ T) (hT : l[T]? = some v) (ha : 0 ≤ a ∧ a ≤ 1000000000) (hu : -100000000000 ≤ u ∧ u ≤ 100000000000) (hv : -100000000000 ≤ v ∧ v ≤ 100000000000) (hO : w.ownsRow b 2 1 (.slice (some ⟨g, 0, none⟩) l.length c) l.length (l.flatMap icells)) (hbw : b ≤ w.heap.size) :
    Calls Tryd.prog 59 #[.slice (some ⟨g, 0, none⟩) l.length c, .agg #[.int .i8 (F : Int), .int .i8 (T : Int), .int .i64 a]] w fun e w' => e = .returned (.tuple #[]) ∧ w'.ownsRow b 2 1 (.slice (some ⟨g, 0, none⟩) l.length c) l.length (((l.set F (u + a)).set T (v - a)).flatMap icells) ∧ Below b w w' := by
  have h1 : Blk (w.alloc (.cells #[.int .i8 (F : Int), .int .i8 (T : Int), .int .i64 a] 64)) w.heap.size 64 #[.int .i8 (F : Int), .int .i8 (T : Int), .int .i64 a] := Blk.new w _ _
  have h2 : Below w.heap.size w (w.alloc (.cells #[.int .i8 (F : Int), .int .i8 (T : Int), .int .i64 a] 64)) := (Below.refl _ w).alloc (Nat.le_refl _) _
  have hg : b ≤ g ∧ g < w.heap.size := own_blockC hO rfl
  have HNe : Hid (w.heap.size ≠ g) := by show _ ≠ _; omega
  have HGb : Hid (b ≤ g) := hg.1
  have HLw : Hid (b ≤ w.heap.size) := hbw
  have hFl : F < l.length := (List.getElem?_eq_some_iff.1 hF).1
  have HF := Lib.hid hF
  have HFl := Lib.hid hFl
  have hN6 := Lib.hid hn
  obtain ⟨hs1, hs2⟩ := wrap_small (x := u + a) (by omega)
  obtain ⟨hs3, hs4⟩ := wrap_small (x := v - a) (by omega)
  have HS3 := Lib.hid (And.intro hs3 hs4)
  have HT := Lib.hid hT
  have hTl : T < l.length := (List.getElem?_eq_some_iff.1 hT).1
  have HTl := Lib.hid hTl
  have HFT := Lib.hid hFT
  obtain ⟨W0, hW0⟩ : ∃ W0, w.alloc (.cells #[.int .i8 (F : Int), .int .i8 (T : Int), .int .i64 a] 64) = W0 := ⟨_, rfl⟩
  rw [hW0] at h1 h2
  have HBX_W0 := Lib.hid h1
  have H2 := Lib.hid h2
  have HOW := Lib.hid (own_keep' hO h2)
  clear h1 h2 hg hO hbw hF hFl hn hu ha hs3 hs4 hT hTl hFT hv
  go_enter Tryd.func59, Tryd.ntmps59
  go_wp2_with fail
  clear hW0
  refine wp_region_held_drew (S := fun w' => Blk w' w.heap.size 64 #[.int .i8 (F : Int), .int .i8 (T : Int), .int .i64 a]) (by kernel_rfl) HBX_W0.out.drew (fun hHeld => ?_)
  refine wpAnyH_take (i := 0) (v := .slice (some ⟨g, 0, none⟩) l.length c) rfl (by kernel_rfl) (by kernel_rfl) (by kernel_rfl) (fun _ _ _ h => h) (Or.inl ⟨by rfl, fun w' h => by go_simp⟩) (by assumption) ?_
  try simp only [Act.put, List.getElem_toArray, List.getElem_cons_zero, List.getElem_cons_succ, List.setIfInBounds_toArray, List.set_cons_zero, List.set_cons_succ]
  refine wpAnyH_take (i := 1) (v := .pointer (some ⟨w.heap.size, 0, none⟩)) rfl (by kernel_rfl) (by kernel_rfl) (by kernel_rfl) (fun _ _ _ h => h) (Or.inl ⟨by rfl, fun w' h => by go_simp⟩) (by assumption) ?_
  try simp only [Act.put, List.getElem_toArray, List.getElem_cons_zero, List.getElem_cons_succ, List.setIfInBounds_toArray, List.set_cons_zero, List.set_cons_succ]
  refine wpAnyH_take (i := 2) (v := .int .i8 (F : Int)) rfl (by kernel_rfl) (by kernel_rfl) (by kernel_rfl) (fun _ _ _ h => h) (Or.inl ⟨by rfl, fun w' h => by (have g0 : w'.cell? ⟨w.heap.size, 0, none⟩ = some (.int .i8 (F : Int)) := h.cell 0; go_simp)⟩) (by assumption) ?_
  try simp only [Act.put, List.getElem_toArray, List.getElem_cons_zero, List.getElem_cons_succ, List.setIfInBounds_toArray, List.set_cons_zero, List.set_cons_succ]
  refine wpAnyH_take (i := 6) (v := .pointer (some ⟨w.heap.size, 2, none⟩)) rfl (by kernel_rfl) (by kernel_rfl) (by kernel_rfl) (fun _ _ _ h => h) (Or.inl ⟨by rfl, fun w' h => by go_simp⟩) (by assumption) ?_
  try simp only [Act.put, List.getElem_toArray, List.getElem_cons_zero, List.getElem_cons_succ, List.setIfInBounds_toArray, List.set_cons_zero, List.set_cons_succ]
  refine wpAnyH_take (i := 7) (v := .int .i64 a) rfl (by kernel_rfl) (by kernel_rfl) (by kernel_rfl) (fun _ _ _ h => h) (Or.inl ⟨by rfl, fun w' h => by (have g0 : w'.cell? ⟨w.heap.size, 2, none⟩ = some (.int .i64 a) := h.cell 2; go_simp)⟩) (by assumption) ?_
  try simp only [Act.put, List.getElem_toArray, List.getElem_cons_zero, List.getElem_cons_succ, List.setIfInBounds_toArray, List.set_cons_zero, List.set_cons_succ]
  obtain ⟨D_W0, hD0⟩ : ∃ D0, W0.drew = D0 := ⟨_, rfl⟩
  have hOD := own_keep' HOW.out (Below.refl W0.heap.size W0).drew
  rw [hD0] at hHeld hOD ⊢
  have hBD : Below W0.heap.size W0 D_W0 := by rw [← hD0]; exact (Below.refl _ _).drew
  clear hD0
  refine wpAnyH_ready (rs := [3]) (by kernel_rfl) (by simp) ?_
  refine AllReadyH.cons rfl (fun K hK => ?_) AllReadyH.nil
  refine if_wanted rfl ?_
  go_simp
  refine (netOf_ok l.length c g F hN6.out HFl.out D_W0).mono ?_
  rintro e y1 ⟨rfl, rfl⟩
  dsimp only
  refine hK.out _ _ hHeld (fun hHeld => ?_)
  clear hK K
  try simp only [Act.put, List.getElem_toArray, List.getElem_cons_zero, List.getElem_cons_succ, List.setIfInBounds_toArray, List.set_cons_zero, List.set_cons_succ]
  refine wpAnyH_take (i := 4) (v := .pointer (some ⟨g, F, none⟩)) rfl (by kernel_rfl) (by kernel_rfl) (by kernel_rfl) (fun _ _ _ h => h) (Or.inl ⟨by rfl, fun w' h => by go_simp⟩) (by assumption) ?_
  try simp only [Act.put, List.getElem_toArray, List.getElem_cons_zero, List.getElem_cons_succ, List.setIfInBounds_toArray, List.set_cons_zero, List.set_cons_succ]
  have cu : D_W0.cell? ⟨g, F, none⟩ = some (.int .i64 u) := ownI_at hOD HF.out
  have fu : D_W0.frozen? ⟨g, F, none⟩ = false := own_frozenI hOD F
  refine wpAnyH_ready (rs := [5]) (by kernel_rfl) (by simp) ?_
  refine AllReadyH.cons rfl (fun K hK => ?_) AllReadyH.nil
  refine if_wanted rfl ?_
  go_simp
  refine hK.out _ _ hHeld (fun hHeld => ?_)
  clear hK K
  try simp only [Act.put, List.getElem_toArray, List.getElem_cons_zero, List.getElem_cons_succ, List.setIfInBounds_toArray, List.set_cons_zero, List.set_cons_succ]
  refine wpAnyH_take (i := 8) (v := .int .i64 (u + a)) rfl (by kernel_rfl) (by kernel_rfl) (by kernel_rfl) (fun _ _ _ h => h) (Or.inl ⟨by rfl, fun w' h => by go_simp⟩) (by assumption) ?_
  try simp only [Act.put, List.getElem_toArray, List.getElem_cons_zero, List.getElem_cons_succ, List.setIfInBounds_toArray, List.set_cons_zero, List.set_cons_succ]
  refine wpAnyH_take (i := 9) (v := .pointer (some ⟨g, F, none⟩)) rfl (by kernel_rfl) (by kernel_rfl) (by kernel_rfl) (fun _ _ _ h => h) (Or.inl ⟨by rfl, fun w' h => by go_simp⟩) (by assumption) ?_
  try simp only [Act.put, List.getElem_toArray, List.getElem_cons_zero, List.getElem_cons_succ, List.setIfInBounds_toArray, List.set_cons_zero, List.set_cons_succ]
  refine wpAnyH_ready (rs := [10]) (by kernel_rfl) (by simp) ?_
  refine AllReadyH.cons rfl (fun K hK => ?_) AllReadyH.nil
  refine if_wanted rfl ?_
  go_simp
  have hH2 := hHeld.far (p := ⟨g, F, none⟩) HNe.out (.int .i64 (u + a))
  clear hHeld
  refine hK.out _ _ hH2 (fun hHeld => ?_)
  clear hK K hH2
  try simp only [Act.put, List.getElem_toArray, List.getElem_cons_zero, List.getElem_cons_succ, List.setIfInBounds_toArray, List.set_cons_zero, List.set_cons_succ]
  refine wpAnyH_done (by kernel_rfl) ?_ _
  try simp only [Act.put, List.getElem_toArray, List.getElem_cons_zero, List.getElem_cons_succ, List.setIfInBounds_toArray, List.set_cons_zero, List.set_cons_succ]
  have hO1 := (own_setI hOD F (u + a)).2
  rw [List.length_set] at hO1
  have hB1 : Below b w (D_W0.setCell ⟨g, F, none⟩ (.int .i64 (u + a))) := ((H2.out.trans (hBD.mono H2.out.size)).mono HLw.out).setCell (p := ⟨g, F, none⟩) HGb.out _
  obtain ⟨W1, hW1⟩ : ∃ WW, D_W0.setCell ⟨g, F, none⟩ (.int .i64 (u + a)) = WW := ⟨_, rfl⟩
  rw [hW1] at hO1 hB1 hHeld ⊢
  have HBX_W1 := Lib.hid hHeld
  have HO1 := Lib.hid (show W1.ownsRow b 2 1 (.slice (some ⟨g, 0, none⟩) (l.set F (u + a)).length c) (l.set F (u + a)).length ((l.set F (u + a)).flatMap icells) from by rw [List.length_set]; exact hO1)
  have HB1 := Lib.hid hB1
  clear hO1 hB1 hHeld hW1 cu fu hOD hBD hs1 hs2
  go_wp2_with fail
  have hT2 : (l.set F (u + a))[T]? = some v := by rw [List.getElem?_set_ne HFT.out]; exact HT.out
  obtain ⟨hs3, hs4⟩ := HS3.out
  refine wp_region_held_drew (S := fun w' => Blk w' w.heap.size 64 #[.int .i8 (F : Int), .int .i8 (T : Int), .int .i64 a]) (by kernel_rfl) HBX_W1.out.drew (fun hHeld => ?_)
  refine wpAnyH_take (i := 0) (v := .slice (some ⟨g, 0, none⟩) l.length c) rfl (by kernel_rfl) (by kernel_rfl) (by kernel_rfl) (fun _ _ _ h => h) (Or.inl ⟨by rfl, fun w' h => by go_simp⟩) (by assumption) ?_
  try simp only [Act.put, List.getElem_toArray, List.getElem_cons_zero, List.getElem_cons_succ, List.setIfInBounds_toArray, List.set_cons_zero, List.set_cons_succ]
  refine wpAnyH_take (i := 1) (v := .pointer (some ⟨w.heap.size, 1, none⟩)) rfl (by kernel_rfl) (by kernel_rfl) (by kernel_rfl) (fun _ _ _ h => h) (Or.inl ⟨by rfl, fun w' h => by go_simp⟩) (by assumption) ?_
  try simp only [Act.put, List.getElem_toArray, List.getElem_cons_zero, List.getElem_cons_succ, List.setIfInBounds_toArray, List.set_cons_zero, List.set_cons_succ]
  refine wpAnyH_take (i := 2) (v := .int .i8 (T : Int)) rfl (by kernel_rfl) (by kernel_rfl) (by kernel_rfl) (fun _ _ _ h => h) (Or.inl ⟨by rfl, fun w' h => by (have g0 : w'.cell? ⟨w.heap.size, 1, none⟩ = some (.int .i8 (T : Int)) := h.cell 1; go_simp)⟩) (by assumption) ?_
  try simp only [Act.put, List.getElem_toArray, List.getElem_cons_zero, List.getElem_cons_succ, List.setIfInBounds_toArray, List.set_cons_zero, List.set_cons_succ]
  refine wpAnyH_take (i := 6) (v := .pointer (some ⟨w.heap.size, 2, none⟩)) rfl (by kernel_rfl) (by kernel_rfl) (by kernel_rfl) (fun _ _ _ h => h) (Or.inl ⟨by rfl, fun w' h => by go_simp⟩) (by assumption) ?_
  try simp only [Act.put, List.getElem_toArray, List.getElem_cons_zero, List.getElem_cons_succ, List.setIfInBounds_toArray, List.set_cons_zero, List.set_cons_succ]
  refine wpAnyH_take (i := 7) (v := .int .i64 a) rfl (by kernel_rfl) (by kernel_rfl) (by kernel_rfl) (fun _ _ _ h => h) (Or.inl ⟨by rfl, fun w' h => by (have g0 : w'.cell? ⟨w.heap.size, 2, none⟩ = some (.int .i64 a) := h.cell 2; go_simp)⟩) (by assumption) ?_
  try simp only [Act.put, List.getElem_toArray, List.getElem_cons_zero, List.getElem_cons_succ, List.setIfInBounds_toArray, List.set_cons_zero, List.set_cons_succ]
  obtain ⟨D_W1, hD0⟩ : ∃ D0, W1.drew = D0 := ⟨_, rfl⟩
  have hOD := own_keep' HO1.out (Below.refl W1.heap.size W1).drew
  rw [hD0] at hHeld hOD ⊢
  have hBD : Below W1.heap.size W1 D_W1 := by rw [← hD0]; exact (Below.refl _ _).drew
  clear hD0
  refine wpAnyH_ready (rs := [3]) (by kernel_rfl) (by simp) ?_
  refine AllReadyH.cons rfl (fun K hK => ?_) AllReadyH.nil
  refine if_wanted rfl ?_
  go_simp
  refine (netOf_ok l.length c g T hN6.out HTl.out D_W1).mono ?_
  rintro e y1 ⟨rfl, rfl⟩
  dsimp only
  refine hK.out _ _ hHeld (fun hHeld => ?_)
  clear hK K
  try simp only [Act.put, List.getElem_toArray, List.getElem_cons_zero, List.getElem_cons_succ, List.setIfInBounds_toArray, List.set_cons_zero, List.set_cons_succ]
  refine wpAnyH_take (i := 4) (v := .pointer (some ⟨g, T, none⟩)) rfl (by kernel_rfl) (by kernel_rfl) (by kernel_rfl) (fun _ _ _ h => h) (Or.inl ⟨by rfl, fun w' h => by go_simp⟩) (by assumption) ?_
  try simp only [Act.put, List.getElem_toArray, List.getElem_cons_zero, List.getElem_cons_succ, List.setIfInBounds_toArray, List.set_cons_zero, List.set_cons_succ]
  have cu : D_W1.cell? ⟨g, T, none⟩ = some (.int .i64 v) := ownI_at hOD hT2
  have fu : D_W1.frozen? ⟨g, T, none⟩ = false := own_frozenI hOD T
  refine wpAnyH_ready (rs := [5]) (by kernel_rfl) (by simp) ?_
  refine AllReadyH.cons rfl (fun K hK => ?_) AllReadyH.nil
  refine if_wanted rfl ?_
  go_simp
  refine hK.out _ _ hHeld (fun hHeld => ?_)
  clear hK K
  try simp only [Act.put, List.getElem_toArray, List.getElem_cons_zero, List.getElem_cons_succ, List.setIfInBounds_toArray, List.set_cons_zero, List.set_cons_succ]
  refine wpAnyH_take (i := 8) (v := .int .i64 (v - a)) rfl (by kernel_rfl) (by kernel_rfl) (by kernel_rfl) (fun _ _ _ h => h) (Or.inl ⟨by rfl, fun w' h => by go_simp⟩) (by assumption) ?_
  try simp only [Act.put, List.getElem_toArray, List.getElem_cons_zero, List.getElem_cons_succ, List.setIfInBounds_toArray, List.set_cons_zero, List.set_cons_succ]
  refine wpAnyH_take (i := 9) (v := .pointer (some ⟨g, T, none⟩)) rfl (by kernel_rfl) (by kernel_rfl) (by kernel_rfl) (fun _ _ _ h => h) (Or.inl ⟨by rfl, fun w' h => by go_simp⟩) (by assumption) ?_
  try simp only [Act.put, List.getElem_toArray, List.getElem_cons_zero, List.getElem_cons_succ, List.setIfInBounds_toArray, List.set_cons_zero, List.set_cons_succ]
  refine wpAnyH_ready (rs := [10]) (by kernel_rfl) (by simp) ?_
  refine AllReadyH.cons rfl (fun K hK => ?_) AllReadyH.nil
  refine if_wanted rfl ?_
  go_simp
  have hH2 := hHeld.far (p := ⟨g, T, none⟩) HNe.out (.int .i64 (v - a))
  clear hHeld
  refine hK.out _ _ hH2 (fun hHeld => ?_)
  clear hK K hH2
  try simp only [Act.put, List.getElem_toArray, List.getElem_cons_zero, List.getElem_cons_succ, List.setIfInBounds_toArray, List.set_cons_zero, List.set_cons_succ]
  refine wpAnyH_done (by kernel_rfl) ?_ _
  try simp only [Act.put, List.getElem_toArray, List.getElem_cons_zero, List.getElem_cons_succ, List.setIfInBounds_toArray, List.set_cons_zero, List.set_cons_succ]
  have hO2 := (own_setI hOD T (v - a)).2
  rw [List.length_set, List.length_set] at hO2
  have HO2 := Lib.hid hO2
  have HB2 : Hid (Below b w (D_W1.setCell ⟨g, T, none⟩ (.int .i64 (v - a)))) := (HB1.out.trans (hBD.mono (Nat.le_trans HLw.out HB1.out.size))).setCell (p := ⟨g, T, none⟩) HGb.out _
  clear hO2 hHeld cu fu hOD hBD hs3 hs4 hT2
  go_wp2
  first | go_end0 | (refine bodyPost_ret (results_none rfl _ _ _) rfl ?_)
  exact ⟨rfl, HO2.out, HB2.out⟩

set_option maxRecDepth 100000 in
set_option maxHeartbeats 4000000 in
theorem pay_half (l : List Int) (g c b : Nat) (F : Nat) (t : Int) (a u : Int) (w : World) (hn : l.length ≤ 6) (hF : l[F]? = some u) (ht8 : -128 ≤ t ∧ t ≤ 127) (ht : wi 0 ((l.length : Int) - 1) t = false) (ha : 0 ≤ a ∧ a ≤ 1000000000) (hu : -100000000000 ≤ u ∧ u ≤ 100000000000) (hO : w.ownsRow b 2 1 (.slice (some ⟨g, 0, none⟩) l.length c) l.length (l.flatMap icells)) (hbw : b ≤ w.heap.size) :
    Calls Tryd.prog 59 #[.slice (some ⟨g, 0, none⟩) l.length c, .agg #[.int .i8 (F : Int), .int .i8 t, .int .i64 a]] w fun e w' => e = .panicked [{ v := .iface 163 (.agg #[.int .i8 t]), recovered := false }] ∧ Below b w w' := by
  have h1 : Blk (w.alloc (.cells #[.int .i8 (F : Int), .int .i8 t, .int .i64 a] 64)) w.heap.size 64 #[.int .i8 (F : Int), .int .i8 t, .int .i64 a] := Blk.new w _ _
  have h2 : Below w.heap.size w (w.alloc (.cells #[.int .i8 (F : Int), .int .i8 t, .int .i64 a] 64)) := (Below.refl _ w).alloc (Nat.le_refl _) _
  have hg : b ≤ g ∧ g < w.heap.size := own_blockC hO rfl
  have HNe : Hid (w.heap.size ≠ g) := by show _ ≠ _; omega
  have HGb : Hid (b ≤ g) := hg.1
  have HLw : Hid (b ≤ w.heap.size) := hbw
  have hFl : F < l.length := (List.getElem?_eq_some_iff.1 hF).1
  have HF := Lib.hid hF
  have HFl := Lib.hid hFl
  have hN6 := Lib.hid hn
  obtain ⟨hs1, hs2⟩ := wrap_small (x := u + a) (by omega)


  have HT8 := Lib.hid ht8
  have HTb := Lib.hid ht


  obtain ⟨W0, hW0⟩ : ∃ W0, w.alloc (.cells #[.int .i8 (F : Int), .int .i8 t, .int .i64 a] 64) = W0 := ⟨_, rfl⟩
  rw [hW0] at h1 h2
  have HBX_W0 := Lib.hid h1
  have H2 := Lib.hid h2
  have HOW := Lib.hid (own_keep' hO h2)
  clear h1 h2 hg hO hbw hF hFl hn hu ha ht8 ht
  go_enter Tryd.func59, Tryd.ntmps59
  go_wp2_with fail
  clear hW0
  refine wp_region_held_drew (S := fun w' => Blk w' w.heap.size 64 #[.int .i8 (F : Int), .int .i8 t, .int .i64 a]) (by kernel_rfl) HBX_W0.out.drew (fun hHeld => ?_)
  refine wpAnyH_take (i := 0) (v := .slice (some ⟨g, 0, none⟩) l.length c) rfl (by kernel_rfl) (by kernel_rfl) (by kernel_rfl) (fun _ _ _ h => h) (Or.inl ⟨by rfl, fun w' h => by go_simp⟩) (by assumption) ?_
  try simp only [Act.put, List.getElem_toArray, List.getElem_cons_zero, List.getElem_cons_succ, List.setIfInBounds_toArray, List.set_cons_zero, List.set_cons_succ]
  refine wpAnyH_take (i := 1) (v := .pointer (some ⟨w.heap.size, 0, none⟩)) rfl (by kernel_rfl) (by kernel_rfl) (by kernel_rfl) (fun _ _ _ h => h) (Or.inl ⟨by rfl, fun w' h => by go_simp⟩) (by assumption) ?_
  try simp only [Act.put, List.getElem_toArray, List.getElem_cons_zero, List.getElem_cons_succ, List.setIfInBounds_toArray, List.set_cons_zero, List.set_cons_succ]
  refine wpAnyH_take (i := 2) (v := .int .i8 (F : Int)) rfl (by kernel_rfl) (by kernel_rfl) (by kernel_rfl) (fun _ _ _ h => h) (Or.inl ⟨by rfl, fun w' h => by (have g0 : w'.cell? ⟨w.heap.size, 0, none⟩ = some (.int .i8 (F : Int)) := h.cell 0; go_simp)⟩) (by assumption) ?_
  try simp only [Act.put, List.getElem_toArray, List.getElem_cons_zero, List.getElem_cons_succ, List.setIfInBounds_toArray, List.set_cons_zero, List.set_cons_succ]
  refine wpAnyH_take (i := 6) (v := .pointer (some ⟨w.heap.size, 2, none⟩)) rfl (by kernel_rfl) (by kernel_rfl) (by kernel_rfl) (fun _ _ _ h => h) (Or.inl ⟨by rfl, fun w' h => by go_simp⟩) (by assumption) ?_
  try simp only [Act.put, List.getElem_toArray, List.getElem_cons_zero, List.getElem_cons_succ, List.setIfInBounds_toArray, List.set_cons_zero, List.set_cons_succ]
  refine wpAnyH_take (i := 7) (v := .int .i64 a) rfl (by kernel_rfl) (by kernel_rfl) (by kernel_rfl) (fun _ _ _ h => h) (Or.inl ⟨by rfl, fun w' h => by (have g0 : w'.cell? ⟨w.heap.size, 2, none⟩ = some (.int .i64 a) := h.cell 2; go_simp)⟩) (by assumption) ?_
  try simp only [Act.put, List.getElem_toArray, List.getElem_cons_zero, List.getElem_cons_succ, List.setIfInBounds_toArray, List.set_cons_zero, List.set_cons_succ]
  obtain ⟨D_W0, hD0⟩ : ∃ D0, W0.drew = D0 := ⟨_, rfl⟩
  have hOD := own_keep' HOW.out (Below.refl W0.heap.size W0).drew
  rw [hD0] at hHeld hOD ⊢
  have hBD : Below W0.heap.size W0 D_W0 := by rw [← hD0]; exact (Below.refl _ _).drew
  clear hD0
  refine wpAnyH_ready (rs := [3]) (by kernel_rfl) (by simp) ?_
  refine AllReadyH.cons rfl (fun K hK => ?_) AllReadyH.nil
  refine if_wanted rfl ?_
  go_simp
  refine (netOf_ok l.length c g F hN6.out HFl.out D_W0).mono ?_
  rintro e y1 ⟨rfl, rfl⟩
  dsimp only
  refine hK.out _ _ hHeld (fun hHeld => ?_)
  clear hK K
  try simp only [Act.put, List.getElem_toArray, List.getElem_cons_zero, List.getElem_cons_succ, List.setIfInBounds_toArray, List.set_cons_zero, List.set_cons_succ]
  refine wpAnyH_take (i := 4) (v := .pointer (some ⟨g, F, none⟩)) rfl (by kernel_rfl) (by kernel_rfl) (by kernel_rfl) (fun _ _ _ h => h) (Or.inl ⟨by rfl, fun w' h => by go_simp⟩) (by assumption) ?_
  try simp only [Act.put, List.getElem_toArray, List.getElem_cons_zero, List.getElem_cons_succ, List.setIfInBounds_toArray, List.set_cons_zero, List.set_cons_succ]
  have cu : D_W0.cell? ⟨g, F, none⟩ = some (.int .i64 u) := ownI_at hOD HF.out
  have fu : D_W0.frozen? ⟨g, F, none⟩ = false := own_frozenI hOD F
  refine wpAnyH_ready (rs := [5]) (by kernel_rfl) (by simp) ?_
  refine AllReadyH.cons rfl (fun K hK => ?_) AllReadyH.nil
  refine if_wanted rfl ?_
  go_simp
  refine hK.out _ _ hHeld (fun hHeld => ?_)
  clear hK K
  try simp only [Act.put, List.getElem_toArray, List.getElem_cons_zero, List.getElem_cons_succ, List.setIfInBounds_toArray, List.set_cons_zero, List.set_cons_succ]
  refine wpAnyH_take (i := 8) (v := .int .i64 (u + a)) rfl (by kernel_rfl) (by kernel_rfl) (by kernel_rfl) (fun _ _ _ h => h) (Or.inl ⟨by rfl, fun w' h => by go_simp⟩) (by assumption) ?_
  try simp only [Act.put, List.getElem_toArray, List.getElem_cons_zero, List.getElem_cons_succ, List.setIfInBounds_toArray, List.set_cons_zero, List.set_cons_succ]
  refine wpAnyH_take (i := 9) (v := .pointer (some ⟨g, F, none⟩)) rfl (by kernel_rfl) (by kernel_rfl) (by kernel_rfl) (fun _ _ _ h => h) (Or.inl ⟨by rfl, fun w' h => by go_simp⟩) (by assumption) ?_
  try simp only [Act.put, List.getElem_toArray, List.getElem_cons_zero, List.getElem_cons_succ, List.setIfInBounds_toArray, List.set_cons_zero, List.set_cons_succ]
  refine wpAnyH_ready (rs := [10]) (by kernel_rfl) (by simp) ?_
  refine AllReadyH.cons rfl (fun K hK => ?_) AllReadyH.nil
  refine if_wanted rfl ?_
  go_simp
  have hH2 := hHeld.far (p := ⟨g, F, none⟩) HNe.out (.int .i64 (u + a))
  clear hHeld
  refine hK.out _ _ hH2 (fun hHeld => ?_)
  clear hK K hH2
  try simp only [Act.put, List.getElem_toArray, List.getElem_cons_zero, List.getElem_cons_succ, List.setIfInBounds_toArray, List.set_cons_zero, List.set_cons_succ]
  refine wpAnyH_done (by kernel_rfl) ?_ _
  try simp only [Act.put, List.getElem_toArray, List.getElem_cons_zero, List.getElem_cons_succ, List.setIfInBounds_toArray, List.set_cons_zero, List.set_cons_succ]
  have hO1 := (own_setI hOD F (u + a)).2
  rw [List.length_set] at hO1
  have hB1 : Below b w (D_W0.setCell ⟨g, F, none⟩ (.int .i64 (u + a))) := ((H2.out.trans (hBD.mono H2.out.size)).mono HLw.out).setCell (p := ⟨g, F, none⟩) HGb.out _
  obtain ⟨W1, hW1⟩ : ∃ WW, D_W0.setCell ⟨g, F, none⟩ (.int .i64 (u + a)) = WW := ⟨_, rfl⟩
  rw [hW1] at hO1 hB1 hHeld ⊢
  have HBX_W1 := Lib.hid hHeld
  have HO1 := Lib.hid (show W1.ownsRow b 2 1 (.slice (some ⟨g, 0, none⟩) (l.set F (u + a)).length c) (l.set F (u + a)).length ((l.set F (u + a)).flatMap icells) from by rw [List.length_set]; exact hO1)
  have HB1 := Lib.hid hB1
  clear hO1 hB1 hHeld hW1 cu fu hOD hBD hs1 hs2
  go_wp2_with fail
  refine wp_region_held_drew (S := fun w' => Blk w' w.heap.size 64 #[.int .i8 (F : Int), .int .i8 t, .int .i64 a]) (by kernel_rfl) HBX_W1.out.drew (fun hHeld => ?_)
  refine wpAnyH_take (i := 0) (v := .slice (some ⟨g, 0, none⟩) l.length c) rfl (by kernel_rfl) (by kernel_rfl) (by kernel_rfl) (fun _ _ _ h => h) (Or.inl ⟨by rfl, fun w' h => by go_simp⟩) (by assumption) ?_
  try simp only [Act.put, List.getElem_toArray, List.getElem_cons_zero, List.getElem_cons_succ, List.setIfInBounds_toArray, List.set_cons_zero, List.set_cons_succ]
  refine wpAnyH_take (i := 1) (v := .pointer (some ⟨w.heap.size, 1, none⟩)) rfl (by kernel_rfl) (by kernel_rfl) (by kernel_rfl) (fun _ _ _ h => h) (Or.inl ⟨by rfl, fun w' h => by go_simp⟩) (by assumption) ?_
  try simp only [Act.put, List.getElem_toArray, List.getElem_cons_zero, List.getElem_cons_succ, List.setIfInBounds_toArray, List.set_cons_zero, List.set_cons_succ]
  refine wpAnyH_take (i := 2) (v := .int .i8 t) rfl (by kernel_rfl) (by kernel_rfl) (by kernel_rfl) (fun _ _ _ h => h) (Or.inl ⟨by rfl, fun w' h => by (have g0 : w'.cell? ⟨w.heap.size, 1, none⟩ = some (.int .i8 t) := h.cell 1; go_simp)⟩) (by assumption) ?_
  try simp only [Act.put, List.getElem_toArray, List.getElem_cons_zero, List.getElem_cons_succ, List.setIfInBounds_toArray, List.set_cons_zero, List.set_cons_succ]
  refine wpAnyH_take (i := 6) (v := .pointer (some ⟨w.heap.size, 2, none⟩)) rfl (by kernel_rfl) (by kernel_rfl) (by kernel_rfl) (fun _ _ _ h => h) (Or.inl ⟨by rfl, fun w' h => by go_simp⟩) (by assumption) ?_
  try simp only [Act.put, List.getElem_toArray, List.getElem_cons_zero, List.getElem_cons_succ, List.setIfInBounds_toArray, List.set_cons_zero, List.set_cons_succ]
  refine wpAnyH_take (i := 7) (v := .int .i64 a) rfl (by kernel_rfl) (by kernel_rfl) (by kernel_rfl) (fun _ _ _ h => h) (Or.inl ⟨by rfl, fun w' h => by (have g0 : w'.cell? ⟨w.heap.size, 2, none⟩ = some (.int .i64 a) := h.cell 2; go_simp)⟩) (by assumption) ?_
  try simp only [Act.put, List.getElem_toArray, List.getElem_cons_zero, List.getElem_cons_succ, List.setIfInBounds_toArray, List.set_cons_zero, List.set_cons_succ]
  obtain ⟨D_W1, hD0⟩ : ∃ D0, W1.drew = D0 := ⟨_, rfl⟩
  have hOD := own_keep' HO1.out (Below.refl W1.heap.size W1).drew
  rw [hD0] at hHeld hOD ⊢
  have hBD : Below W1.heap.size W1 D_W1 := by rw [← hD0]; exact (Below.refl _ _).drew
  clear hD0
  refine wpAnyH_ready (rs := [3]) (by kernel_rfl) (by simp) ?_
  refine AllReadyH.cons rfl (fun K hK => ?_) AllReadyH.nil
  refine if_wanted rfl ?_
  go_simp
  refine (netOf_bad l.length c g t hN6.out HT8.out HTb.out D_W1).mono ?_
  rintro e y1 ⟨rfl, rfl⟩
  dsimp only
  exact ⟨rfl, rfl, HB1.out.trans (hBD.mono (Nat.le_trans HLw.out HB1.out.size))⟩

end Go.Proofs.YtcdoablhnlkkmaaDoor
