/-
  MostOf: the program's contract. Condition: the crate's numbers fit their kinds; the sentinel errors lie as the row lists them.
-/
import Derived.Test.YtcdhmlalpjcidaaDoorCn4
namespace Go.Proofs.YtcdhmlalpjcidaaDoor
open Go.ChangeShapes Go.WideShapes Go.ChangeAt Go.RowKit Go.Deep

theorem IsC.bnd {x : Crt} {C : List Wnt} (h : IsC (mult x) C) : C.length ≤ 12 ∧ ∀ w ∈ C, 1 ≤ w.2 ∧ w.2 ≤ 12 := by
  refine ⟨?_, fun w hw => ⟨h.pos w hw, ?_⟩⟩
  · have hn : (C.map fun w => w.1).Nodup := by
      rw [List.nodup_iff_pairwise_ne, List.pairwise_map]
      exact h.ord.imp (fun h1 e => by rw [e, cmp_self] at h1; omega)
    have h1 := nodup_leC (m := allB x.1 12) hn (fun c hc => by
      obtain ⟨w, hw, rfl⟩ := List.mem_map.1 hc
      have h4 := numN_in h.ord hw
      have h5 := h.pos w hw
      rw [h.num] at h4
      exact mult_mem (by omega))
    have h2 := allB_length x.1 12
    rw [List.length_map] at h1
    omega
  · have h4 := numN_in h.ord hw
    have h5 := h.pos w hw
    rw [h.num] at h4
    have := mult_le x w.1
    omega
theorem mrd_one {w : World} {g B : Nat} {t : TypeId} (x : Crt) (h : CBlk w g t x.1) (hB : g < B) : Rd w B kcells (some ⟨g, 0, none⟩) [x] := fun _ => ⟨g, 0, rfl, hB, fun j v hv => by
  rw [Nat.zero_add, h.cell j]
  simpa [kcells] using hv⟩

set_option maxRecDepth 100000 in
set_option maxHeartbeats 8000000 in
theorem implMost_any (x : Crt) (C : List Wnt) (hC : IsC (mult x) C) (ad : Nat → Addr) (w : World) (hE : EW 7 w ad) :
    Calls Tryd.prog 9 #[.agg (ccells x.1).toArray] w fun e w' => e = .returned (.tuple #[.agg #[.int .u8 (moR x C).1.1.1, .int .i16 (moR x C).1.1.2], .int .i64 (moR x C).1.2, .int .i64 (moR x C).2]) ∧ Below w.heap.size w w' := by
  have HC := Lib.hid hC
  have HE := Lib.hid hE
  clear hC hE
  have h1 : CBlk ((w.alloc (.cells (ccells x.1).toArray 30)).alloc (.cells #[.int .u8 0, .int .i16 0] 26)) w.heap.size 30 x.1 := (CBlk.new w 30 x.1).alloc _
  have h2 : Blk ((w.alloc (.cells (ccells x.1).toArray 30)).alloc (.cells #[.int .u8 0, .int .i16 0] 26)) (w.heap.size + 1) 26 #[.int .u8 0, .int .i16 0] := by
    have := Blk.new (w.alloc (.cells (ccells x.1).toArray 30)) 26 #[.int .u8 0, .int .i16 0]
    rw [World.size_alloc] at this
    exact this
  have h3 : Below w.heap.size w ((w.alloc (.cells (ccells x.1).toArray 30)).alloc (.cells #[.int .u8 0, .int .i16 0] 26)) := ((Below.refl _ w).alloc (Nat.le_refl _) _).alloc (by simp) _
  obtain ⟨W0, hW0⟩ : ∃ u, (w.alloc (.cells (ccells x.1).toArray 30)).alloc (.cells #[.int .u8 0, .int .i16 0] 26) = u := ⟨_, rfl⟩
  rw [hW0] at h1 h2 h3
  have H1 := Lib.hid h1
  have H2 := Lib.hid h2
  have H3 := Lib.hid h3
  clear h1 h2 h3
  go_enter Tryd.func9, Tryd.ntmps9
  go_wp2_with (first
    | (refine wpList_load_row rfl 30 (.tmp 1) rfl w.heap.size rfl 30 _ (0, 0) _ H1.out Tryd.underlying30 rfl (size_of_crate Tryd.sizeCr _ x.2.1) ?_)
    | (refine wpList_oneCrate rfl 39 30 (.tmp 9) rfl x.1 x.2.1 rfl Tryd.underlying39 Tryd.sizeCr Tryd.zeroCr ?_))
  clear hW0
  have hA : Below W0.heap.size W0 (W0.alloc (.cells (ccells x.1).toArray 30)) := (Below.refl _ W0).alloc (Nat.le_refl _) _
  have hrd := mrd_one (B := (W0.alloc (.cells (ccells x.1).toArray 30)).heap.size) x (CBlk.new W0 30 x.1) (by simp)
  refine (countsIn_any x C HC.out _ _ ad _ hrd ((HE.out.below H3.out (Nat.le_refl _)).below hA (Nat.le_refl _))).mono ?_
  rintro e w1 ⟨v1, rfl, ho1, hb⟩
  have hb0 := hA.trans (hb.mono hA.size)
  have K2 : Hid (Blk w1 (w.heap.size + 1) 26 #[.int .u8 0, .int .i16 0]) := H2.out.keep hb0
  have K3 : Hid (Below w.heap.size w w1) := H3.out.trans (hb0.mono H3.out.size)
  have HO1 := Lib.hid ho1
  clear hb hA hrd ho1 hb0 H1 H2 H3
  cases hok : okC x.1
  · have E := Lib.hid (mo_bad C hok)
    have hcd : cnD x = 1 := by rw [cnD, hok]; rfl
    rw [hcd]
    have d0 : w1.cell? ⟨w.heap.size + 1, 0, none⟩ = some (.int .u8 0) := K2.out.cell 0
    have d1 : w1.cell? ⟨w.heap.size + 1, 1, none⟩ = some (.int .i16 0) := K2.out.cell 1
    have f0 : w1.frozen? ⟨w.heap.size + 1, 0, none⟩ = false := K2.out.frozen 0
    have f1 : w1.frozen? ⟨w.heap.size + 1, 1, none⟩ = false := K2.out.frozen 1
    clear hok hcd
    go_wp2
    refine bodyPost_ret (v := .tuple #[.agg #[.int .u8 0, .int .i16 0], .int .i64 0, .int .i64 1]) (by simp [results, Tryd.results9, go_sem, *]) rfl ?_
    exact ⟨by rw [E.out], (K3.out.setCell (p := ⟨w.heap.size + 1, 0, none⟩) (Nat.le_succ _) _).setCell (p := ⟨w.heap.size + 1, 1, none⟩) (Nat.le_succ _) _⟩
  have HOk := Lib.hid hok
  have hcd : cnD x = 0 := by rw [cnD, hok]; rfl
  have hcl : cnL x C = C := by rw [cnL, hok]; rfl
  rw [hcd]
  rw [hcl] at HO1
  obtain ⟨A1, c1, rfl, -, hr1⟩ := own_rd ncells_length HO1.out
  have hrd1 : Rd w1 w1.heap.size ncells A1 C := own_rd2 ncells_length HO1.out
  have HR1 := Lib.hid hrd1
  have HBd := Lib.hid HC.out.bnd
  clear hok hcd hcl hr1 hrd1
  by_cases h0 : C = []
  · have E := Lib.hid (mo_none HOk.out h0)
    have d0 : w1.cell? ⟨w.heap.size + 1, 0, none⟩ = some (.int .u8 0) := K2.out.cell 0
    have d1 : w1.cell? ⟨w.heap.size + 1, 1, none⟩ = some (.int .i16 0) := K2.out.cell 1
    have f0 : w1.frozen? ⟨w.heap.size + 1, 0, none⟩ = false := K2.out.frozen 0
    have f1 : w1.frozen? ⟨w.heap.size + 1, 1, none⟩ = false := K2.out.frozen 1
    have e4 : w1.cell? ⟨0, 0, none⟩ = some (.iface 173 (.pointer (some (ad 4)))) := (HE.out.below K3.out (Nat.le_refl _)).cell 4 (by omega)
    have hl0 : C.length = 0 := by rw [h0]; rfl
    rw [hl0]
    clear h0 hl0 HO1 HR1
    go_wp2_with fail
    refine (codeOf_O (HE.out.below K3.out (Nat.le_refl _)) 4 (by omega)).mono ?_
    rintro e w2 ⟨rfl, rfl⟩
    rw [show cdN 4 = 6 from rfl]
    go_wp2
    refine bodyPost_ret (v := .tuple #[.agg #[.int .u8 0, .int .i16 0], .int .i64 0, .int .i64 6]) (by simp [results, Tryd.results9, go_sem, *]) rfl ?_
    exact ⟨by rw [E.out], (K3.out.setCell (p := ⟨w.heap.size + 1, 0, none⟩) (Nat.le_succ _) _).setCell (p := ⟨w.heap.size + 1, 1, none⟩) (Nat.le_succ _) _⟩
  · have E := Lib.hid (mo_some HOk.out h0)
    have hn0 : 0 < C.length := List.length_pos_iff.2 h0
    have HH := Lib.hid (isL_head h0)
    have hOr := orderedCq_any (fun p q => q.2 - p.2) C C.length rfl (by have := HBd.out.1; omega) (fun p q hp hq => by have := HBd.out.2 p hp; have := HBd.out.2 q hq; omega) (fun p q hp hq W => compareNumbers_any p.1.1 p.1.2 p.2 q.1.1 q.1.2 q.2 W (by have := HBd.out.2 p hp; omega) (by have := HBd.out.2 q hq; omega)) A1 c1 w1 HR1.out (fun W hW => cloneC_any C A1 c1 W (by have := HBd.out.1; omega) (HR1.out.keep hW))
    have HOr := Lib.hid hOr
    have hnz : ((C.length : Int) == 0) = false := by simp; omega
    have hn1 : (0 : Int) < C.length := by omega
    obtain ⟨Z, hZ⟩ : ∃ Z, isL (fun (p q : Wnt) => decide (q.2 - p.2 < 0)) C = Z := ⟨_, rfl⟩
    have HZl : Hid (Z.length = C.length) := by show _ = _; rw [← hZ, isL_len]
    rw [hZ] at HH HOr
    have HN0 : Hid (0 < C.length) := hn0
    obtain ⟨cn, hcn⟩ : ∃ n, C.length = n := ⟨_, rfl⟩
    rw [hcn] at hnz hn1 HOr HZl HN0 ⊢
    clear h0 hn0 hOr hZ hcn HO1 HR1
    go_wp2_with fail
    refine HOr.out.mono ?_
    rintro e w2 ⟨A2, c2, rfl, ho2, hb⟩
    have L2 : Hid (Blk w2 (w.heap.size + 1) 26 #[.int .u8 0, .int .i16 0]) := K2.out.keep hb
    have L3 : Hid (Below w.heap.size w w2) := K3.out.trans (hb.mono K3.out.size)
    rw [← HZl.out] at ho2
    have hr2 : Rd w2 w2.heap.size ncells A2 Z := own_rd2 ncells_length ho2
    have hx : Z[0]? = some (mxC C) := by rw [← List.head?_eq_getElem?]; exact HH.out
    obtain ⟨mm, hmm⟩ : ∃ m, mxC C = m := ⟨_, rfl⟩
    rw [hmm] at hx
    have HM := Lib.hid hmm
    obtain ⟨⟨k2, y2⟩, n2⟩ := mm
    obtain ⟨b, o, rfl, hbl, hrow⟩ := hr2.at_ ncells_length hx
    obtain ⟨p1, p2, p3⟩ := rowN3 hrow
    rw [Nat.zero_mul, Nat.add_zero] at p1 p2 p3
    have N4 : Blk (w2.alloc (.cells #[.int .u8 k2, .int .i16 y2, .int .i64 n2] 68)) w2.heap.size 68 #[.int .u8 k2, .int .i16 y2, .int .i64 n2] := Blk.new w2 _ _
    have N5 : Below w2.heap.size w2 (w2.alloc (.cells #[.int .u8 k2, .int .i16 y2, .int .i64 n2] 68)) := (Below.refl _ w2).alloc (Nat.le_refl _) _
    obtain ⟨wa, hwa⟩ : ∃ u, w2.alloc (.cells #[.int .u8 k2, .int .i16 y2, .int .i64 n2] 68) = u := ⟨_, rfl⟩
    rw [hwa] at N4 N5
    have q0 : wa.cell? ⟨w2.heap.size, 0, none⟩ = some (.int .u8 k2) := N4.cell 0
    have q1 : wa.cell? ⟨w2.heap.size, 1, none⟩ = some (.int .i16 y2) := N4.cell 1
    have q2 : wa.cell? ⟨w2.heap.size, 2, none⟩ = some (.int .i64 n2) := N4.cell 2
    have M2 : Blk wa (w.heap.size + 1) 26 #[.int .u8 0, .int .i16 0] := L2.out.keep N5
    have HBw : Hid (Below w.heap.size w wa) := L3.out.trans (N5.mono L3.out.size)
    have hne : w.heap.size + 1 ≠ w2.heap.size := by have := L2.out.lt; omega
    have hne2 : w2.heap.size ≠ w.heap.size + 1 := fun e => hne e.symm
    have f0 : wa.frozen? ⟨w.heap.size + 1, 0, none⟩ = false := M2.frozen 0
    have f1 : wa.frozen? ⟨w.heap.size + 1, 1, none⟩ = false := M2.frozen 1
    have e0 : wa.cell? ⟨w.heap.size + 1, 0, none⟩ = some (.int .u8 0) := M2.cell 0
    have e1 : wa.cell? ⟨w.heap.size + 1, 1, none⟩ = some (.int .i16 0) := M2.cell 1
    have HE2 : Hid (moR x C = (((k2, y2), n2), 0)) := by show _ = _; rw [E.out, HM.out]
    have hm0 : Max.max (0 : Int) 0 = 0 := rfl
    clear hb ho2 hr2 hx hmm hbl hrow HOr K2 K3 N4 N5 M2
    have HQ := Lib.hid (And.intro q0 (And.intro q1 (And.intro q2 (And.intro f0 (And.intro f1 (And.intro e0 e1))))))
    clear q0 q1 q2 f0 f1 e0 e1
    go_wp2_with fail
    try rw [hwa]
    obtain ⟨q0, q1, q2, f0, f1, e0, e1⟩ := HQ.out
    clear p1 p2 p3
    go_region
    all_goals go_wp2
    refine bodyPost_ret (v := .tuple #[.agg #[.int .u8 k2, .int .i16 y2], .int .i64 n2, .int .i64 0]) (by simp [results, Tryd.results9, go_sem, *]) rfl ?_
    exact ⟨by rw [HE2.out], by first | exact ((HBw.out.setCell (p := ⟨w.heap.size + 1, 0, none⟩) (Nat.le_succ _) _).setCell (p := ⟨w.heap.size + 1, 1, none⟩) (Nat.le_succ _) _).drew | exact (HBw.out.drew.setCell (p := ⟨w.heap.size + 1, 0, none⟩) (Nat.le_succ _) _).setCell (p := ⟨w.heap.size + 1, 1, none⟩) (Nat.le_succ _) _⟩
end Go.Proofs.YtcdhmlalpjcidaaDoor
