/-
  Rows that are turned: the program's turnAll and turned. Condition: valid walkers, a valid row, days up to 19000000.
-/
import Derived.Test.YtcalooahafgfbaaDoorYp
import Derived.Deep.RegionHeld3
namespace Go.Proofs.YtcalooahafgfbaaDoor
open Go.ChangeShapes Go.WideShapes Go.ChangeAt Go.RowKit Go.Deep

theorem Tryd.sizeDAY : (Tryd.prog.info? 58).map (·.size) = some 2 := by kernel_rfl
theorem gk_trans {a b c : World} {row : Option Nat} (h : a.grownBy b row) (k : b.grownBy c row) : a.grownBy c row :=
  ⟨k.os.trans h.os, k.tape.trans h.tape, k.output.trans h.output, Nat.le_trans h.size k.size, fun i hi hr => (k.block i (Nat.lt_of_lt_of_le hi h.size) hr).trans (h.block i hi hr)⟩
theorem own_drew {w : World} {b size n : Nat} {e : TypeId} {v : Value} {xs : List Value} (h : w.ownsRow b e size v n xs) : w.drew.ownsRow b e size v n xs := h
theorem unD_in {x : Wal} (hf : 0 ≤ x.fi) (he : 1 ≤ x.ev) {d : Int} (hd : -1 ≤ d) : 0 ≤ unD x d ∧ unD x d ≤ d + 1 := by
  unfold unD
  split
  · omega
  · have h1 : 0 ≤ d - x.fi := by omega
    have h2 := Int.ediv_nonneg h1 (by omega : 0 ≤ x.ev)
    have h3 := Int.ediv_le_self x.ev h1
    omega
def mW (f t : Int) (x : Wal) : Int := unD x t - unD x (f - 1)
/-- A row behind the walks of the first walkers, each as often as told. -/
def tnA (n : Nat) (l : List Wal) (m : Wal → Int) (r : List Int) : Nat → List Int
  | 0 => r
  | k + 1 => tnR (tnA n l m r k) (byW n (l.getD k ⟨0, 1, 0, 0, 0, 0⟩) (m (l.getD k ⟨0, 1, 0, 0, 0, 0⟩)))
theorem tnA_succ {n : Nat} {l : List Wal} {m : Wal → Int} {r : List Int} {k : Nat} {x : Wal} (h : l[k]? = some x) : tnA n l m r (k + 1) = tnR (tnA n l m r k) (byW n x (m x)) := by
  rw [tnA, List.getD_eq_getElem?_getD, h]; rfl
theorem tnA_len (n : Nat) (l : List Wal) (m : Wal → Int) (r : List Int) : ∀ k, (tnA n l m r k).length = r.length
  | 0 => rfl
  | k + 1 => by rw [tnA, tnR_len, tnA_len n l m r k]
theorem tnA_in {n : Nat} {l : List Wal} {m : Wal → Int} {r : List Int} (h : ∀ a ∈ r, 0 ≤ a ∧ a ≤ 7) : ∀ k, ∀ a ∈ tnA n l m r k, 0 ≤ a ∧ a ≤ 7
  | 0 => h
  | k + 1 => by rw [tnA]; exact tnR_in
section
variable {w : World} {B : Nat} {fi ev st sp co tu : Int} {gv n : Nat}
theorem rng0 (h : Blk w B 60 #[.int .i16 fi, .int .i16 ev, .int .i16 st, .int .i16 sp, .int .i16 co, .int .i8 tu, .int .i64 fi, .int .i64 ev, .slice (some ⟨gv, 0, none⟩) n n]) : w.rangeAt B 0 [.int .i16 fi, .int .i16 ev, .int .i16 st, .int .i16 sp, .int .i16 co, .int .i8 tu, .int .i64 fi, .int .i64 ev, .slice (some ⟨gv, 0, none⟩) n n] := fun j v hv => by rw [Nat.zero_add, Blk.cell h]; simpa using hv
theorem rng6 (h : Blk w B 60 #[.int .i16 fi, .int .i16 ev, .int .i16 st, .int .i16 sp, .int .i16 co, .int .i8 tu, .int .i64 fi, .int .i64 ev, .slice (some ⟨gv, 0, none⟩) n n]) : w.rangeAt B 6 [.int .i64 fi, .int .i64 ev] := fun j v hv => by
  rw [Blk.cell h]
  match j with
  | 0 => simpa using hv
  | 1 => simpa using hv
  | _ + 2 => simp at hv
end

set_option maxRecDepth 100000 in
set_option maxHeartbeats 4000000 in
theorem turnAll_any (n : Nat) (h60 : n ≤ 60) (l : List Wal) (hv : ∀ x ∈ l, vOk n x = true) (ks : List KW) (hkl : ks.map (·.1) = l) (hl : l.length ≤ 8) (f t : Int) (hf : -1 ≤ f - 1 ∧ f ≤ 19000000) (ht : -1 ≤ t ∧ t ≤ 19000000) (r : List Int) (hrn : r.length = n) (hr7 : ∀ a ∈ r, 0 ≤ a ∧ a ≤ 7)
    (b : Nat) (A Ak : Option Addr) (c ck : Nat) (w : World) (hbw : b ≤ w.heap.size) (hs : ∀ s ∈ ks, okW n w s ∧ s.2 < b) (hkr : Rd w b (kcw n) Ak ks) (hO : w.ownsRow b 5 1 (.slice A n c) n (r.flatMap ycells)) :
    Calls Tryd.prog 23 #[.slice A n c, .slice Ak ks.length ck, .int .i64 f, .int .i64 t] w fun e w' => e = .returned (.tuple #[]) ∧ w'.ownsRow b 5 1 (.slice A n c) n ((tnA n l (mW f t) r l.length).flatMap ycells) ∧ Below b w w' ∧ w.grownBy w' (A.map (·.block)) := by
  have HQ : Hid (∀ q, A.map (·.block) = some q → q < w.heap.size) := fun q e => (own_block hO (by rw [ownBlock_slice']; exact e)).2
  have HO0 := Lib.hid hO
  have HV := Lib.hid hv
  have HKL := Lib.hid hkl
  have HS := Lib.hid hs
  have HKR := Lib.hid hkr
  have HR7 := Lib.hid hr7
  have HRN := Lib.hid hrn
  have HBW : Hid (b ≤ w.heap.size) := hbw
  have hlen : ks.length = l.length := by rw [← hkl, List.length_map]
  have HLEN := Lib.hid hlen
  have hk8 : ks.length ≤ 8 := by omega
  have hTB : dayB t := ⟨ht.1, by omega⟩
  have hFB : dayB (f - 1) := ⟨hf.1, by omega⟩
  have HTB := Lib.hid hTB
  have HFB := Lib.hid hFB
  have HTT := Lib.hid ht
  have HFF := Lib.hid hf
  have wf1 : IntKind.i64.wrap (f - 1) = f - 1 := IntWalk.i64_in _ ⟨by omega, by omega⟩
  have wf2 : wrap64 (f - 1) = f - 1 := IntWalk.wrap64_in _ ⟨by omega, by omega⟩
  clear hO hv hkl hs hkr hr7 hrn hbw hlen hTB hFB ht hf
  go_enter Tryd.func23, Tryd.ntmps23
  go_wp2_with fail
  go_loopw [12] (fun i wr => ∃ (k : Nat), k ≤ ks.length ∧ i = .int .i64 k ∧ wr.ownsRow b 5 1 (.slice A n c) n ((tnA n l (mW f t) r k).flatMap ycells) ∧ Below b w wr ∧ w.grownBy wr (A.map (·.block)))
    (fun i _ => ks.length - (intOf i).toNat)
  case atStart => exact ⟨0, by omega, rfl, HO0.out, Below.refl _ _, gk_refl _ _⟩
  case round =>
    clear HO0
    obtain ⟨k, hk, rfl, hO, hB, hG⟩ := hrel
    have HO := Lib.hid hO
    have HB := Lib.hid hB
    have HG := Lib.hid hG
    clear hO hB hG
    by_cases hlt : k < ks.length
    · obtain ⟨⟨⟨fi, ev, st, sp, co, tu⟩, gv⟩, hx⟩ : ∃ x, ks[k]? = some x := ⟨_, List.getElem?_eq_getElem hlt⟩
      have hxl : l[k]? = some ⟨fi, ev, st, sp, co, tu⟩ := by rw [← HKL.out, List.getElem?_map, hx]; rfl
      have hvx := HV.out _ (List.mem_of_getElem? hxl)
      have hxo := vOk_out hvx
      simp only at hxo
      obtain ⟨hsk, hgvb⟩ := HS.out _ (List.mem_of_getElem? hx)
      simp only at hgvb
      have hut := unD_in (x := ⟨fi, ev, st, sp, co, tu⟩) hxo.1.1 hxo.2.1.1 HTT.out.1
      have huf := unD_in (x := ⟨fi, ev, st, sp, co, tu⟩) hxo.1.1 hxo.2.1.1 HFF.out.1
      obtain ⟨ut, hute⟩ : ∃ u, unD ⟨fi, ev, st, sp, co, tu⟩ t = u := ⟨_, rfl⟩
      obtain ⟨uf, hufe⟩ : ∃ u, unD ⟨fi, ev, st, sp, co, tu⟩ (f - 1) = u := ⟨_, rfl⟩
      have hm : mW f t ⟨fi, ev, st, sp, co, tu⟩ = ut - uf := by rw [mW, hute, hufe]
      have hTn := tnA_succ (n := n) (m := mW f t) (r := r) hxl
      rw [hm] at hTn
      rw [hute] at hut
      rw [hufe] at huf
      have htt := HTT.out
      have hff := HFF.out
      have hmm : -20000000 ≤ ut - uf ∧ ut - uf ≤ 20000000 := by omega
      have um1 : IntKind.i64.wrap (ut - uf) = ut - uf := IntWalk.i64_in _ ⟨by omega, by omega⟩
      have um2 : wrap64 (ut - uf) = ut - uf := IntWalk.wrap64_in _ ⟨by omega, by omega⟩
      have HUT : Hid ((if t < fi then 0 else (t - fi) / ev + 1) = ut) := hute
      have HUF : Hid ((if (f - 1) < fi then 0 else (f - 1 - fi) / ev + 1) = uf) := hufe
      have HMM := Lib.hid hmm
      have HXO := Lib.hid hxo
      have HVx := Lib.hid hvx
      have HTN := Lib.hid hTn
      obtain ⟨X, hX⟩ : ∃ X, tnA n l (mW f t) r k = X := ⟨_, rfl⟩
      have HXl : Hid (X.length = n) := by show X.length = n; rw [← hX, tnA_len, HRN.out]
      have HX7 : Hid (∀ a ∈ X, 0 ≤ a ∧ a ≤ 7) := by show ∀ a ∈ X, _; rw [← hX]; exact tnA_in HR7.out k
      rw [hX] at HO HTN
      have HTurn : Hid (∀ z : World, b ≤ z.heap.size → okW n z (⟨fi, ev, st, sp, co, tu⟩, gv) → z.ownsRow b 5 1 (.slice A n c) n (X.flatMap ycells) → Calls Tryd.prog 31 #[.slice A n c, .agg #[.int .i16 fi, .int .i16 ev, .int .i16 st, .int .i16 sp, .int .i16 co, .int .i8 tu, .int .i64 fi, .int .i64 ev, .slice (some ⟨gv, 0, none⟩) n n], .int .i64 (ut - uf)] z fun e w' => e = .returned (.tuple #[]) ∧ w'.ownsRow b 5 1 (.slice A n c) n ((tnR X (byW n ⟨fi, ev, st, sp, co, tu⟩ (ut - uf))).flatMap ycells) ∧ Below b z w' ∧ z.grownBy w' (A.map (·.block))) := by
        intro z hz hok hown
        have := turn_any n h60 (⟨fi, ev, st, sp, co, tu⟩, gv) HVx.out (ut - uf) HMM.out X HXl.out HX7.out b A c z hz hok hgvb (by rw [HXl.out]; exact hown)
        rw [HXl.out] at this
        exact this
      obtain ⟨b1, o1, rfl, hbl, hrow⟩ := (HKR.out.below (Nat.le_refl _) HB.out).at_ (kcw_length n) hx
      have d0 : wr.cell? ⟨b1, o1 + k * 9, none⟩ = some (.int .i16 fi) := hrow 0 _ rfl
      have d1 : wr.cell? ⟨b1, o1 + k * 9 + 1, none⟩ = some (.int .i16 ev) := hrow 1 _ rfl
      have d2 : wr.cell? ⟨b1, o1 + k * 9 + 2, none⟩ = some (.int .i16 st) := hrow 2 _ rfl
      have d3 : wr.cell? ⟨b1, o1 + k * 9 + 3, none⟩ = some (.int .i16 sp) := hrow 3 _ rfl
      have d4 : wr.cell? ⟨b1, o1 + k * 9 + 4, none⟩ = some (.int .i16 co) := hrow 4 _ rfl
      have d5 : wr.cell? ⟨b1, o1 + k * 9 + 5, none⟩ = some (.int .i8 tu) := hrow 5 _ rfl
      have d6 : wr.cell? ⟨b1, o1 + k * 9 + 6, none⟩ = some (.int .i64 fi) := hrow 6 _ rfl
      have d7 : wr.cell? ⟨b1, o1 + k * 9 + 7, none⟩ = some (.int .i64 ev) := hrow 7 _ rfl
      have d8 : wr.cell? ⟨b1, o1 + k * 9 + 8, none⟩ = some (.slice (some ⟨gv, 0, none⟩) n n) := hrow 8 _ rfl
      have hk0 : (0 : Int) ≤ (k : Int) := Int.natCast_nonneg _
      have hk8' : (k : Int) < ks.length := by omega
      have HS : Hid (okW n wr (⟨fi, ev, st, sp, co, tu⟩, gv)) := Blk.below hsk HB.out hgvb
      have HBr : Hid (w.heap.size ≤ wr.heap.size) := HB.out.size
      have HB1 : Hid (Below b w (wr.alloc (.cells #[.int .i16 fi, .int .i16 ev, .int .i16 st, .int .i16 sp, .int .i16 co, .int .i8 tu, .int .i64 fi, .int .i64 ev, .slice (some ⟨gv, 0, none⟩) n n] 60))) := HB.out.alloc (Nat.le_trans HBW.out HB.out.size) _
      have HK1 : Hid (Blk (wr.alloc (.cells #[.int .i16 fi, .int .i16 ev, .int .i16 st, .int .i16 sp, .int .i16 co, .int .i8 tu, .int .i64 fi, .int .i64 ev, .slice (some ⟨gv, 0, none⟩) n n] 60)) wr.heap.size 60 #[.int .i16 fi, .int .i16 ev, .int .i16 st, .int .i16 sp, .int .i16 co, .int .i8 tu, .int .i64 fi, .int .i64 ev, .slice (some ⟨gv, 0, none⟩) n n]) := Blk.new wr _ _
      have HG1 : Hid (w.grownBy (wr.alloc (.cells #[.int .i16 fi, .int .i16 ev, .int .i16 st, .int .i16 sp, .int .i16 co, .int .i8 tu, .int .i64 fi, .int .i64 ev, .slice (some ⟨gv, 0, none⟩) n n] 60)) (A.map (·.block))) := gk_trans HG.out (gk_any (grown_of_below ((Below.refl _ _).alloc (Nat.le_refl _) _)) _)
      clear hx hxl hvx hxo hsk hut huf hute hufe hm hTn hmm hX hrow htt hff
      go_wp2_with fail
      clear d0 d1 d2 d3 d4 d5 d6 d7 d8
      refine wp_region_held_drew (S := fun w' => Blk w' wr.heap.size 60 #[.int .i16 fi, .int .i16 ev, .int .i16 st, .int .i16 sp, .int .i16 co, .int .i8 tu, .int .i64 fi, .int .i64 ev, .slice (some ⟨gv, 0, none⟩) n n] ∧ Below b w w' ∧ w.grownBy w' (A.map (·.block))) (by kernel_rfl) ⟨HK1.out, HB1.out.drew, gk_drew HG1.out⟩ (fun hHeld => ?_)
      refine wpAnyH_take (i := 0) (v := .slice A n c) rfl (by kernel_rfl) (by kernel_rfl) (by kernel_rfl) (fun _ _ _ h => h) (Or.inl ⟨by rfl, fun w' h => by go_simp⟩) (by assumption) ?_
      try simp only [Act.put, List.getElem_toArray, List.getElem_cons_zero, List.getElem_cons_succ, List.setIfInBounds_toArray, List.set_cons_zero, List.set_cons_succ]
      refine' wpAnyH_take (i := 1) (v := _) rfl (by kernel_rfl) (by kernel_rfl) (by kernel_rfl) (fun _ _ _ h => h) (yieldsIf_load_mid (by rfl) 60 (.tmp 9) rfl wr.heap.size 0 rfl [.int .i16 fi, .int .i16 ev, .int .i16 st, .int .i16 sp, .int .i16 co, .int .i8 tu, .int .i64 fi, .int .i64 ev, .slice (some ⟨gv, 0, none⟩) n n] _ (fun w' h => rng0 h.1) Tryd.underlying60 rfl Tryd.sizeWKS) (by assumption) ?_
      try simp only [Act.put, List.getElem_toArray, List.getElem_cons_zero, List.getElem_cons_succ, List.setIfInBounds_toArray, List.set_cons_zero, List.set_cons_succ]
      refine wpAnyH_take (i := 2) (v := .pointer (some ⟨wr.heap.size, 6, none⟩)) rfl (by kernel_rfl) (by kernel_rfl) (by kernel_rfl) (fun _ _ _ h => h) (Or.inl ⟨by rfl, fun w' h => by go_simp⟩) (by assumption) ?_
      try simp only [Act.put, List.getElem_toArray, List.getElem_cons_zero, List.getElem_cons_succ, List.setIfInBounds_toArray, List.set_cons_zero, List.set_cons_succ]
      refine' wpAnyH_take (i := 3) (v := _) rfl (by kernel_rfl) (by kernel_rfl) (by kernel_rfl) (fun _ _ _ h => h) (yieldsIf_load_mid (by rfl) 58 (.tmp 18) rfl wr.heap.size 6 rfl [.int .i64 fi, .int .i64 ev] _ (fun w' h => rng6 h.1) Tryd.underlying58 rfl Tryd.sizeDAY) (by assumption) ?_
      try simp only [Act.put, List.getElem_toArray, List.getElem_cons_zero, List.getElem_cons_succ, List.setIfInBounds_toArray, List.set_cons_zero, List.set_cons_succ]
      refine wpAnyH_take (i := 4) (v := .int .i64 t) rfl (by kernel_rfl) (by kernel_rfl) (by kernel_rfl) (fun _ _ _ h => h) (Or.inl ⟨by rfl, fun w' h => by go_simp⟩) (by assumption) ?_
      try simp only [Act.put, List.getElem_toArray, List.getElem_cons_zero, List.getElem_cons_succ, List.setIfInBounds_toArray, List.set_cons_zero, List.set_cons_succ]
      refine wpAnyH_take (i := 6) (v := .pointer (some ⟨wr.heap.size, 6, none⟩)) rfl (by kernel_rfl) (by kernel_rfl) (by kernel_rfl) (fun _ _ _ h => h) (Or.inl ⟨by rfl, fun w' h => by go_simp⟩) (by assumption) ?_
      try simp only [Act.put, List.getElem_toArray, List.getElem_cons_zero, List.getElem_cons_succ, List.setIfInBounds_toArray, List.set_cons_zero, List.set_cons_succ]
      refine' wpAnyH_take (i := 7) (v := _) rfl (by kernel_rfl) (by kernel_rfl) (by kernel_rfl) (fun _ _ _ h => h) (yieldsIf_load_mid (by rfl) 58 (.tmp 22) rfl wr.heap.size 6 rfl [.int .i64 fi, .int .i64 ev] _ (fun w' h => rng6 h.1) Tryd.underlying58 rfl Tryd.sizeDAY) (by assumption) ?_
      try simp only [Act.put, List.getElem_toArray, List.getElem_cons_zero, List.getElem_cons_succ, List.setIfInBounds_toArray, List.set_cons_zero, List.set_cons_succ]
      refine wpAnyH_take (i := 8) (v := .int .i64 f) rfl (by kernel_rfl) (by kernel_rfl) (by kernel_rfl) (fun _ _ _ h => h) (Or.inl ⟨by rfl, fun w' h => by go_simp⟩) (by assumption) ?_
      try simp only [Act.put, List.getElem_toArray, List.getElem_cons_zero, List.getElem_cons_succ, List.setIfInBounds_toArray, List.set_cons_zero, List.set_cons_succ]
      refine wpAnyH_take (i := 9) (v := .int .i64 (f - 1)) rfl (by kernel_rfl) (by kernel_rfl) (by kernel_rfl) (fun _ _ _ h => h) (Or.inl ⟨by rfl, fun w' h => by go_simp⟩) (by assumption) ?_
      try simp only [Act.put, List.getElem_toArray, List.getElem_cons_zero, List.getElem_cons_succ, List.setIfInBounds_toArray, List.set_cons_zero, List.set_cons_succ]
      obtain ⟨D0, hD0⟩ : ∃ D0, (wr.alloc (.cells #[.int .i16 fi, .int .i16 ev, .int .i16 st, .int .i16 sp, .int .i16 co, .int .i8 tu, .int .i64 fi, .int .i64 ev, .slice (some ⟨gv, 0, none⟩) n n] 60)).drew = D0 := ⟨_, rfl⟩
      rw [hD0] at hHeld ⊢
      have HO1 : Hid (D0.ownsRow b 5 1 (.slice A n c) n (X.flatMap ycells)) := by show _; rw [← hD0]; exact own_drew (HO.out.alloc _)
      have HS1 : Hid (okW n D0 (⟨fi, ev, st, sp, co, tu⟩, gv)) := by show _; rw [← hD0]; exact okW.keep HS.out ((Below.refl _ _).alloc (Nat.le_refl _) _).drew
      clear hD0
      refine wpAnyH_ready (rs := [5]) (by kernel_rfl) (by simp) ?_
      refine AllReadyH.cons rfl (fun K hK => ?_) AllReadyH.nil
      refine if_wanted rfl ?_
      go_simp
      refine (until_any fi ev HXO.out.1 HXO.out.2.1 t HTB.out _).mono ?_
      rintro e z1 ⟨rfl, hb⟩
      have hH2 : Blk z1 wr.heap.size 60 #[.int .i16 fi, .int .i16 ev, .int .i16 st, .int .i16 sp, .int .i16 co, .int .i8 tu, .int .i64 fi, .int .i64 ev, .slice (some ⟨gv, 0, none⟩) n n] ∧ Below b w z1 ∧ w.grownBy z1 (A.map (·.block)) := ⟨hHeld.1.keep hb, hHeld.2.1.trans (hb.mono (Nat.le_trans HBW.out hHeld.2.1.size)), gk_trans hHeld.2.2 (gk_any (grown_of_below hb) _)⟩
      have HOz1 := Lib.hid (own_keep' HO1.out hb)
      have HSzz1 : Hid (okW n z1 (⟨fi, ev, st, sp, co, tu⟩, gv)) := okW.keep HS1.out hb
      clear hb hHeld
      rw [show (if t < fi then 0 else (t - fi) / ev + 1) = ut from HUT.out]
      dsimp only
      refine hK.out _ _ hH2 (fun hHeld => ?_)
      clear hK K hH2
      try simp only [Act.put, List.getElem_toArray, List.getElem_cons_zero, List.getElem_cons_succ, List.setIfInBounds_toArray, List.set_cons_zero, List.set_cons_succ]
      refine wpAnyH_ready (rs := [10]) (by kernel_rfl) (by simp) ?_
      refine AllReadyH.cons rfl (fun K hK => ?_) AllReadyH.nil
      refine if_wanted rfl ?_
      go_simp
      refine (until_any fi ev HXO.out.1 HXO.out.2.1 (f - 1) HFB.out _).mono ?_
      rintro e z2 ⟨rfl, hb⟩
      have hH2 : Blk z2 wr.heap.size 60 #[.int .i16 fi, .int .i16 ev, .int .i16 st, .int .i16 sp, .int .i16 co, .int .i8 tu, .int .i64 fi, .int .i64 ev, .slice (some ⟨gv, 0, none⟩) n n] ∧ Below b w z2 ∧ w.grownBy z2 (A.map (·.block)) := ⟨hHeld.1.keep hb, hHeld.2.1.trans (hb.mono (Nat.le_trans HBW.out hHeld.2.1.size)), gk_trans hHeld.2.2 (gk_any (grown_of_below hb) _)⟩
      have HOz2 := Lib.hid (own_keep' HOz1.out hb)
      have HSzz2 : Hid (okW n z2 (⟨fi, ev, st, sp, co, tu⟩, gv)) := okW.keep HSzz1.out hb
      clear hb hHeld
      rw [show (if (f - 1) < fi then 0 else ((f - 1) - fi) / ev + 1) = uf from HUF.out]
      dsimp only
      refine hK.out _ _ hH2 (fun hHeld => ?_)
      clear hK K hH2
      try simp only [Act.put, List.getElem_toArray, List.getElem_cons_zero, List.getElem_cons_succ, List.setIfInBounds_toArray, List.set_cons_zero, List.set_cons_succ]
      refine wpAnyH_take (i := 11) (v := .int .i64 (ut - uf)) rfl (by kernel_rfl) (by kernel_rfl) (by kernel_rfl) (fun _ _ _ h => h) (Or.inl ⟨by rfl, fun w' h => by go_simp⟩) (by assumption) ?_
      try simp only [Act.put, List.getElem_toArray, List.getElem_cons_zero, List.getElem_cons_succ, List.setIfInBounds_toArray, List.set_cons_zero, List.set_cons_succ]
      refine wpAnyH_ready (rs := [12]) (by kernel_rfl) (by simp) ?_
      refine AllReadyH.cons rfl (fun K hK => ?_) AllReadyH.nil
      refine if_wanted rfl ?_
      go_simp
      have hbz : b ≤ z2.heap.size := Nat.le_trans HBW.out hHeld.2.1.size
      refine (HTurn.out z2 hbz HSzz2.out HOz2.out).mono ?_
      rintro e z3 ⟨rfl, hO3, hB3, hG3⟩
      have hH2 : Blk z3 wr.heap.size 60 #[.int .i16 fi, .int .i16 ev, .int .i16 st, .int .i16 sp, .int .i16 co, .int .i8 tu, .int .i64 fi, .int .i64 ev, .slice (some ⟨gv, 0, none⟩) n n] ∧ Below b w z3 ∧ w.grownBy z3 (A.map (·.block)) := ⟨gk_blk hHeld.1 hG3 (fun e => by have := HQ.out _ e; have := HBr.out; omega), hHeld.2.1.trans hB3, gk_trans hHeld.2.2 hG3⟩
      have HO3 := Lib.hid hO3
      clear hO3 hB3 hG3 hHeld
      dsimp only
      refine hK.out _ _ hH2 (fun hHeld => ?_)
      clear hK K hH2
      try simp only [Act.put, List.getElem_toArray, List.getElem_cons_zero, List.getElem_cons_succ, List.setIfInBounds_toArray, List.set_cons_zero, List.set_cons_succ]
      refine wpAnyH_done (by kernel_rfl) ?_ _
      try simp only [Act.put, List.getElem_toArray, List.getElem_cons_zero, List.getElem_cons_succ, List.setIfInBounds_toArray, List.set_cons_zero, List.set_cons_succ]
      have HBf := Lib.hid hHeld.2.1
      have HGf := Lib.hid hHeld.2.2
      clear hHeld
      go_wp2
      go_roundw
      case rel => exact ⟨k + 1, by omega, by go_num, by rw [HTN.out]; exact HO3.out, HBf.out, HGf.out⟩
      case measure => simp [intOf]; omega
    · obtain rfl : k = ks.length := by omega
      go_wp2
      first | go_end0 | (refine bodyPost_ret (results_none rfl _ _ _) rfl ?_)
      exact ⟨rfl, by rw [← HLEN.out]; exact HO.out, HB.out, HG.out⟩
end Go.Proofs.YtcalooahafgfbaaDoor
