/-
  OldestOf and ChoiceOf: the contracts of the model and of the program. Condition: the rack reads as lists of things that are stored, whose numbers fit their kinds, with room (the program's); the sentinel errors lie as the row lists them.
-/
import Derived.Test.YtdgcgkeclcpafaaDoorKc6
import Derived.Test.YtdgcgkeclcpafaaDoorKc7
import Derived.Test.YtdgcgkeclcpafaaDoorEz
namespace Go.Proofs.YtdgcgkeclcpafaaDoor
open Go.ChangeShapes Go.WideShapes Go.ChangeAt Go.RowKit Go.Deep

theorem rk_days {xss : List (List Wnt)} (h : rkOk xss = true) : ∀ xs ∈ xss, ∀ x ∈ xs, x.2 ≤ 2000 := fun xs hx x hxx => by
  have := (rkOk_lane h hx).2 x hxx
  simp only [sV, Bool.and_eq_true, decide_eq_true_eq] at this
  omega
def ooT (k y : Int) (xss : List (List Wnt)) : Option Core := if (rkOk xss && vB (k, y)) = true then olT k y xss else none
def ooC (k y : Int) (xss : List (List Wnt)) : Int := if (rkOk xss && vB (k, y)) = true then (if (olT k y xss).isSome = true then 0 else 6) else 1
theorem oo_no {k y : Int} {xss : List (List Wnt)} (h : (rkOk xss && vB (k, y)) = false) : ooT k y xss = none ∧ ooC k y xss = 1 := by simp only [ooT, ooC, h]; exact ⟨rfl, rfl⟩
theorem oo_yes {k y : Int} {xss : List (List Wnt)} (h : (rkOk xss && vB (k, y)) = true) : ooT k y xss = olT k y xss ∧ ooC k y xss = (if (olT k y xss).isSome = true then 0 else 6) := by simp only [ooT, ooC, h]; exact ⟨rfl, rfl⟩
def coT' (k y s : Int) (xss : List (List Wnt)) : Option Core := if tkO xss [(k, y)] s = none then chT k y s xss else none
def coC (k y s : Int) (xss : List (List Wnt)) : Int := if tkO xss [(k, y)] s = none then (if (chT k y s xss).isSome = true then 0 else 6) else cdO (tkO xss [(k, y)] s)
theorem co_no {k y s : Int} {xss : List (List Wnt)} {i : Nat} (h : tkO xss [(k, y)] s = some i) : coT' k y s xss = none ∧ coC k y s xss = cdN i := by simp only [coT', coC, h]; exact ⟨rfl, rfl⟩
theorem co_yes {k y s : Int} {xss : List (List Wnt)} (h : tkO xss [(k, y)] s = none) : coT' k y s xss = chT k y s xss ∧ coC k y s xss = (if (chT k y s xss).isSome = true then 0 else 6) := by simp only [coT', coC, h]; exact ⟨rfl, rfl⟩
theorem olI_C {T : Option Core} (h : T.isSome = true) : olI T = ((olC T).2.1 : Int) ∧ olX T = ((olC T).2.2 : Int) := by
  cases T with
  | none => cases h
  | some c => exact ⟨rfl, rfl⟩
theorem bot_rd (w : World) (k y : Int) : Rd (w.alloc (.cells #[.int .u8 k, .int .i16 y] 32)) (w.alloc (.cells #[.int .u8 k, .int .i16 y] 32)).heap.size bcells (some ⟨w.heap.size, 0, none⟩) [(k, y)] := by
  have hK : Blk (w.alloc (.cells #[.int .u8 k, .int .i16 y] 32)) w.heap.size 32 #[.int .u8 k, .int .i16 y] := Blk.new w _ _
  refine fun _ => ⟨w.heap.size, 0, rfl, hK.lt, fun j v hv => ?_⟩
  rw [Nat.zero_add, hK.cell j]
  have : ([(k, y)] : List Bot).flatMap bcells = [Value.int .u8 k, .int .i16 y] := rfl
  rw [this] at hv
  simpa using hv

set_option maxRecDepth 100000 in
set_option maxHeartbeats 4000000 in
theorem specOldest_any (xss : List (List Wnt)) (hwf : ∀ xs ∈ xss, ∀ x ∈ xs, wfW x) (k y : Int) (hkw : wfB (k, y)) (A : Option Addr) (c : Nat) (w : World) (hl : xss.length ≤ 1048576) (hx : ∀ xs ∈ xss, xs.length ≤ 1048576) (hr : RdN w w.heap.size wcells A xss) :
    Calls Tryd.prog 8 #[.slice A xss.length c, .agg #[.int .u8 k, .int .i16 y]] w fun e w' => e = .returned (.tuple #[.int .i64 ((olC (ooT k y xss)).2.1 : Nat), .int .i64 ((olC (ooT k y xss)).2.2 : Nat), .int .i64 (ooC k y xss)]) ∧ Below w.heap.size w w' := by
  have HR := Lib.hid hr
  have HW := Lib.hid hwf
  have HX := Lib.hid hx
  have HKw := Lib.hid hkw
  clear hr hwf hx hkw
  have h1 : Blk (w.alloc (.cells #[.int .u8 k, .int .i16 y] 32)) w.heap.size 32 #[.int .u8 k, .int .i16 y] := Blk.new w _ _
  have h2 : Below w.heap.size w (w.alloc (.cells #[.int .u8 k, .int .i16 y] 32)) := (Below.refl _ w).alloc (Nat.le_refl _) _
  obtain ⟨W0, hW0⟩ : ∃ W0, w.alloc (.cells #[.int .u8 k, .int .i16 y] 32) = W0 := ⟨_, rfl⟩
  rw [hW0] at h1 h2
  have H1 := Lib.hid h1
  have H2 := Lib.hid h2
  clear h1 h2
  go_enter Tryd.func8, Tryd.ntmps8
  go_wp2_with fail
  clear hW0
  refine (l04Ok_any xss HW.out A c _ hl HX.out (HR.out.keep H2.out)).mono ?_
  rintro e w1 ⟨rfl, hb⟩
  have J1 : Hid (Blk w1 w.heap.size 32 #[.int .u8 k, .int .i16 y]) := H1.out.keep hb
  have J2 : Hid (Below w.heap.size w w1) := H2.out.trans (hb.mono H2.out.size)
  clear hb H1 H2
  cases hv : rkOk xss
  · have E := Lib.hid (oo_no (k := k) (y := y) (by rw [hv]; rfl))
    clear hv
    go_wp2
    go_ret3
    exact ⟨by (rw [E.out.1, E.out.2]; first | done | rfl), J2.out⟩
  have HV := Lib.hid hv
  have H8 := rkOk_len hv
  have H6 : Hid (∀ xs ∈ xss, xs.length ≤ 6) := fun xs h => (rkOk_lane hv h).1
  have b0 : w1.cell? ⟨w.heap.size, 0, none⟩ = some (.int .u8 k) := J1.out.cell 0
  have b1 : w1.cell? ⟨w.heap.size, 1, none⟩ = some (.int .i16 y) := J1.out.cell 1
  clear hv
  go_wp2_with fail
  refine (l01Bottle_any k y ⟨HKw.out.1, HKw.out.2.1⟩ ⟨HKw.out.2.2.1, HKw.out.2.2.2⟩ _).mono ?_
  rintro e w2 ⟨rfl, hb⟩
  have K1 : Hid (Blk w2 w.heap.size 32 #[.int .u8 k, .int .i16 y]) := J1.out.keep hb
  have K2 : Hid (Below w.heap.size w w2) := J2.out.trans (hb.mono J2.out.size)
  clear hb J1 J2 b0 b1
  cases hs : vB (k, y)
  · have E := Lib.hid (oo_no (k := k) (y := y) (xss := xss) (by rw [hs, Bool.and_false]))
    clear hs
    go_wp2
    go_ret3
    exact ⟨by (rw [E.out.1, E.out.2]; first | done | rfl), K2.out⟩
  have HE0 := Lib.hid (oo_yes (k := k) (y := y) (xss := xss) (by rw [HV.out, hs]; rfl))
  have b0 : w2.cell? ⟨w.heap.size, 0, none⟩ = some (.int .u8 k) := K1.out.cell 0
  have b1 : w2.cell? ⟨w.heap.size, 1, none⟩ = some (.int .i16 y) := K1.out.cell 1
  clear hs
  go_wp2_with fail
  refine (l04Oldest_any xss A c k y _ H8 H6.out (HR.out.keep K2.out)).mono ?_
  rintro e w3 ⟨rfl, hb⟩
  have L2 : Hid (Below w.heap.size w w3) := K2.out.trans (hb.mono K2.out.size)
  clear hb K1 K2 b0 b1
  obtain ⟨T, hT⟩ : ∃ T, olT k y xss = T := ⟨_, rfl⟩
  have HT := Lib.hid hT
  rw [hT]
  clear hT
  rcases T with _ | ⟨⟨⟨kk, yy⟩, dd⟩, ll, ii⟩
  · rw [show olI none = -1 from rfl, show olX none = 0 from rfl]
    go_wp2
    go_ret3
    exact ⟨by (rw [HE0.out.1, HE0.out.2, HT.out]; first | done | rfl), L2.out⟩
  · rw [show olI (some (((kk, yy), dd), ll, ii)) = (ll : Int) from rfl, show olX (some (((kk, yy), dd), ll, ii)) = (ii : Int) from rfl]
    have hl0 : (0 : Int) ≤ (ll : Int) := Int.natCast_nonneg _
    go_wp2
    go_ret3
    exact ⟨by (rw [HE0.out.1, HE0.out.2, HT.out]; first | done | rfl), L2.out⟩

set_option maxRecDepth 100000 in
set_option maxHeartbeats 4000000 in
theorem specChoice_any (xss : List (List Wnt)) (hwf : ∀ xs ∈ xss, ∀ x ∈ xs, wfW x) (k y s : Int) (hkw : wfB (k, y)) (A : Option Addr) (c : Nat) (w : World) (hl : xss.length ≤ 1048576) (hx : ∀ xs ∈ xss, xs.length ≤ 1048576) (hr : RdN w w.heap.size wcells A xss) :
    Calls Tryd.prog 13 #[.slice A xss.length c, .agg #[.int .u8 k, .int .i16 y], .int .i64 s] w fun e w' => e = .returned (.tuple #[.int .i64 ((olC (coT' k y s xss)).2.1 : Nat), .int .i64 ((olC (coT' k y s xss)).2.2 : Nat), .int .i64 (coC k y s xss)]) ∧ Below w.heap.size w w' := by
  have HR := Lib.hid hr
  have HW := Lib.hid hwf
  have HX := Lib.hid hx
  have HKw := Lib.hid hkw
  clear hr hwf hx hkw
  have h1 : Blk (w.alloc (.cells #[.int .u8 k, .int .i16 y] 32)) w.heap.size 32 #[.int .u8 k, .int .i16 y] := Blk.new w _ _
  have h2 : Below w.heap.size w (w.alloc (.cells #[.int .u8 k, .int .i16 y] 32)) := (Below.refl _ w).alloc (Nat.le_refl _) _
  obtain ⟨W0, hW0⟩ : ∃ W0, w.alloc (.cells #[.int .u8 k, .int .i16 y] 32) = W0 := ⟨_, rfl⟩
  rw [hW0] at h1 h2
  have H1 := Lib.hid h1
  have H2 := Lib.hid h2
  clear h1 h2
  have b0 : W0.cell? ⟨w.heap.size, 0, none⟩ = some (.int .u8 k) := H1.out.cell 0
  have b1 : W0.cell? ⟨w.heap.size, 1, none⟩ = some (.int .i16 y) := H1.out.cell 1
  have hA1 : Below w.heap.size w (W0.alloc (.cells #[.int .u8 k, .int .i16 y] 32)) := H2.out.alloc H2.out.size _
  have HTk := Lib.hid (l04TakenK_any xss HW.out [(k, y)] (fun x hx => by obtain rfl := List.mem_singleton.1 hx; exact HKw.out) s A (some ⟨W0.heap.size, 0, none⟩) c 1 (W0.alloc (.cells #[.int .u8 k, .int .i16 y] 32)) hl HX.out (by simp) (HR.out.keep hA1) (bot_rd W0 k y))
  have HA1 := Lib.hid hA1
  have HJ1 : Hid (Blk (W0.alloc (.cells #[.int .u8 k, .int .i16 y] 32)) w.heap.size 32 #[.int .u8 k, .int .i16 y]) := H1.out.alloc _
  clear hA1
  go_enter Tryd.func13, Tryd.ntmps13
  go_wp2_with fail
  clear hW0
  refine HTk.out.mono ?_
  rintro e w1 ⟨rfl, hb⟩
  have J1 : Hid (Blk w1 w.heap.size 32 #[.int .u8 k, .int .i16 y]) := HJ1.out.keep hb
  have J2 : Hid (Below w.heap.size w w1) := HA1.out.trans (hb.mono HA1.out.size)
  clear hb H1 H2 b0 b1 HTk HA1 HJ1
  cases hv : tkO xss [(k, y)] s with
  | some i =>
    have E := Lib.hid (co_no hv)
    have hne : ¬ cdN i = 0 := cdN_ne
    have hne2 : (cdN i == 0) = false := by simpa using hne
    have hne3 : (cdN i != 0) = true := by simpa using hne
    rw [show cdO (some i) = cdN i from rfl]
    obtain ⟨cd, hcd⟩ : ∃ v, cdN i = v := ⟨_, rfl⟩
    rw [hcd] at E hne hne2 hne3 ⊢
    clear hv hcd
    go_wp2
    go_ret3
    exact ⟨by (rw [E.out.1, E.out.2]; first | done | rfl), J2.out⟩
  | none =>
    obtain ⟨h1, h2, h3⟩ := tkO_none hv
    have HE0 := Lib.hid (co_yes hv)
    have H8 := rkOk_len h1
    have H6 : Hid (∀ xs ∈ xss, xs.length ≤ 6) := fun xs h => (rkOk_lane h1 h).1
    have H3 := Lib.hid h3
    have b0 : w1.cell? ⟨w.heap.size, 0, none⟩ = some (.int .u8 k) := J1.out.cell 0
    have b1 : w1.cell? ⟨w.heap.size, 1, none⟩ = some (.int .i16 y) := J1.out.cell 1
    rw [show cdO none = 0 from rfl]
    clear hv h1 h2 h3
    go_wp2_with fail
    refine (l04Choice_any xss HW.out A c k y s H3.out _ H8 H6.out (HR.out.keep J2.out)).mono ?_
    rintro e w3 ⟨rfl, hb⟩
    have L2 : Hid (Below w.heap.size w w3) := J2.out.trans (hb.mono J2.out.size)
    clear hb J1 J2 b0 b1
    obtain ⟨T, hT⟩ : ∃ T, chT k y s xss = T := ⟨_, rfl⟩
    have HT := Lib.hid hT
    rw [hT]
    clear hT
    rcases T with _ | ⟨⟨⟨kk, yy⟩, dd⟩, ll, ii⟩
    · rw [show olI none = -1 from rfl, show olX none = 0 from rfl]
      go_wp2
      go_ret3
      exact ⟨by (rw [HE0.out.1, HE0.out.2, HT.out]; first | done | rfl), L2.out⟩
    · rw [show olI (some (((kk, yy), dd), ll, ii)) = (ll : Int) from rfl, show olX (some (((kk, yy), dd), ll, ii)) = (ii : Int) from rfl]
      have hl0 : (0 : Int) ≤ (ll : Int) := Int.natCast_nonneg _
      go_wp2
      go_ret3
      exact ⟨by (rw [HE0.out.1, HE0.out.2, HT.out]; first | done | rfl), L2.out⟩

set_option maxRecDepth 100000 in
set_option maxHeartbeats 8000000 in
theorem implOldest_any (xss : List (List Wnt)) (hwf : ∀ xs ∈ xss, ∀ x ∈ xs, wfW x) (k y : Int) (A : Option Addr) (c : Nat) (ad : Nat → Addr) (w : World) (hl : xss.length ≤ 1048576) (hx : ∀ xs ∈ xss, xs.length ≤ 1048576) (hr : RdK w w.heap.size wcells A xss) (hE : EW 7 w ad) :
    Calls Tryd.prog 11 #[.slice A xss.length c, .agg #[.int .u8 k, .int .i16 y]] w fun e w' => e = .returned (.tuple #[.int .i64 ((olC (ooT k y xss)).2.1 : Nat), .int .i64 ((olC (ooT k y xss)).2.2 : Nat), .int .i64 (ooC k y xss)]) ∧ Below w.heap.size w w' := by
  have HR := Lib.hid hr
  have HW := Lib.hid hwf
  have HX := Lib.hid hx
  have HE := Lib.hid hE
  clear hr hwf hx hE
  have h1 : Blk (w.alloc (.cells #[.int .u8 k, .int .i16 y] 32)) w.heap.size 32 #[.int .u8 k, .int .i16 y] := Blk.new w _ _
  have h2 : Below w.heap.size w (w.alloc (.cells #[.int .u8 k, .int .i16 y] 32)) := (Below.refl _ w).alloc (Nat.le_refl _) _
  obtain ⟨W0, hW0⟩ : ∃ W0, w.alloc (.cells #[.int .u8 k, .int .i16 y] 32) = W0 := ⟨_, rfl⟩
  rw [hW0] at h1 h2
  have H1 := Lib.hid h1
  have H2 := Lib.hid h2
  clear h1 h2
  obtain ⟨v0, hv0⟩ : ∃ v, erO ad (chk 5 (rkOk xss)) = v := ⟨_, rfl⟩
  obtain ⟨v1, hv1⟩ : ∃ v, erO ad (chk 5 (vB (k, y))) = v := ⟨_, rfl⟩
  have P0 : Hid (isE v0) := by show isE v0; rw [← hv0]; exact erO_isE _ _
  have P1 : Hid (isE v1) := by show isE v1; rw [← hv1]; exact erO_isE _ _
  have HC0 : Hid (∀ w', RdN w' w'.heap.size wcells A xss → EW 7 w' ad → Calls Tryd.prog 33 #[.slice A xss.length c] w' fun e w'' => e = .returned v0 ∧ Below w'.heap.size w' w'') := fun w' hr hE => by
    rw [← hv0, ← erV_chk]; exact checkRack_any xss _ c ad w' hl HX.out hr hE
  have HC1 : Hid (∀ w', EW 7 w' ad → Calls Tryd.prog 34 #[.agg #[.int .u8 k, .int .i16 y]] w' fun e w'' => e = .returned v1 ∧ Below w'.heap.size w' w'') := fun w' hE => by
    rw [← hv1]; exact checkBottleK_any k y ad w' hE
  have V0 := Lib.hid hv0
  have V1 := Lib.hid hv1
  obtain ⟨oo, hoo⟩ : ∃ o, firstO [chk 5 (rkOk xss), chk 5 (vB (k, y))] = o := ⟨_, rfl⟩
  have HOO := Lib.hid hoo
  clear hv0 hv1 hoo
  go_enter Tryd.func11, Tryd.ntmps11
  go_wp2_with fail
  clear hW0
  refine wp_region_held_drew (S := fun w' => Below W0.heap.size W0 w') (by kernel_rfl) (Below.refl _ _).drew (fun hHeld => ?_)
  refine wpAnyH_take (i := 0) (v := .slice A xss.length c) rfl (by kernel_rfl) (by kernel_rfl) (by kernel_rfl) (fun _ _ _ h => h) (Or.inl ⟨by rfl, fun w' h => by go_simp⟩) (by assumption) ?_
  try simp only [Act.put, List.getElem_toArray, List.getElem_cons_zero, List.getElem_cons_succ, List.setIfInBounds_toArray, List.set_cons_zero, List.set_cons_succ]
  refine wpAnyH_take (i := 2) (v := .agg #[.int .u8 k, .int .i16 y]) rfl (by kernel_rfl) (by kernel_rfl) (by kernel_rfl) (fun _ _ _ h => h) (Or.inl ⟨by rfl, fun w' h => by (have HM := (H1.out.below h H1.out.lt); have g0 : w'.cell? ⟨w.heap.size, 0, none⟩ = some (.int .u8 k) := HM.cell 0; have g1 : w'.cell? ⟨w.heap.size, 1, none⟩ = some (.int .i16 y) := HM.cell 1; go_simp)⟩) (by assumption) ?_
  try simp only [Act.put, List.getElem_toArray, List.getElem_cons_zero, List.getElem_cons_succ, List.setIfInBounds_toArray, List.set_cons_zero, List.set_cons_succ]
  obtain ⟨D0, hD0⟩ : ∃ D0, W0.drew = D0 := ⟨_, rfl⟩
  rw [hD0] at hHeld ⊢
  clear hD0
  refine wpAnyH_ready (rs := [1]) (by kernel_rfl) (by simp) ?_
  refine AllReadyH.cons rfl (fun K hK => ?_) AllReadyH.nil
  refine if_wanted rfl ?_
  go_simp
  refine (HC0.out _ (HR.out.rd.keep (H2.out.trans (hHeld.mono H2.out.size))) (HE.out.below (H2.out.trans (hHeld.mono H2.out.size)) (Nat.le_refl _))).mono ?_
  rintro e z1 ⟨rfl, hb⟩
  have hH2 : Below W0.heap.size W0 z1 := hHeld.trans (hb.mono hHeld.size)
  clear hb hHeld
  dsimp only
  refine hK.out _ _ hH2 (fun hHeld => ?_)
  clear hK K hH2
  try simp only [Act.put, List.getElem_toArray, List.getElem_cons_zero, List.getElem_cons_succ, List.setIfInBounds_toArray, List.set_cons_zero, List.set_cons_succ]
  refine wpAnyH_ready (rs := [3]) (by kernel_rfl) (by simp) ?_
  refine AllReadyH.cons rfl (fun K hK => ?_) AllReadyH.nil
  refine if_wanted rfl ?_
  go_simp
  refine (HC1.out _ (HE.out.below (H2.out.trans (hHeld.mono H2.out.size)) (Nat.le_refl _))).mono ?_
  rintro e z2 ⟨rfl, hb⟩
  have hH2 : Below W0.heap.size W0 z2 := hHeld.trans (hb.mono hHeld.size)
  clear hb hHeld
  dsimp only
  refine hK.out _ _ hH2 (fun hHeld => ?_)
  clear hK K hH2
  try simp only [Act.put, List.getElem_toArray, List.getElem_cons_zero, List.getElem_cons_succ, List.setIfInBounds_toArray, List.set_cons_zero, List.set_cons_succ]
  refine wpAnyH_ready (rs := [4]) (by kernel_rfl) (by simp) ?_
  refine AllReadyH.cons rfl (fun K hK => ?_) AllReadyH.nil
  refine if_wanted rfl (wp_twoErrs (.tmp 11) (.tmp 13) rfl P0.out P1.out rfl rfl ?_)
  refine hK.out _ _ (hHeld.alloc hHeld.size _) (fun hHeld => ?_)
  clear hK K
  try simp only [Act.put, List.getElem_toArray, List.getElem_cons_zero, List.getElem_cons_succ, List.setIfInBounds_toArray, List.set_cons_zero, List.set_cons_succ]
  refine wpAnyH_ready (rs := [5]) (by kernel_rfl) (by simp) ?_
  refine AllReadyH.cons rfl (fun K hK => ?_) AllReadyH.nil
  have q0 := new_cell2 z2 v0 v1 62
  refine if_wanted rfl ?_
  go_simp
  rw [← V0.out, ← V1.out] at q0 ⊢
  refine (firstErr2_O ad _ _ _ _ _ q0.1 q0.2).mono ?_
  rintro e w9 ⟨rfl, rfl⟩
  rw [HOO.out]
  rw [V0.out, V1.out]
  clear q0
  dsimp only
  refine hK.out _ _ (by rw [← V0.out, ← V1.out] at hHeld ⊢; exact hHeld) (fun hHeld => ?_)
  clear hK K
  try simp only [Act.put, List.getElem_toArray, List.getElem_cons_zero, List.getElem_cons_succ, List.setIfInBounds_toArray, List.set_cons_zero, List.set_cons_succ]
  refine wpAnyH_ready (rs := [6]) (by kernel_rfl) (by simp) ?_
  refine AllReadyH.cons rfl (fun K hK => ?_) AllReadyH.nil
  refine if_wanted rfl ?_
  refine wp_assign0 (v := erO ad oo) rfl rfl ?_
  refine hK.out _ _ hHeld (fun hHeld => ?_)
  clear hK K
  try simp only [Act.put, List.getElem_toArray, List.getElem_cons_zero, List.getElem_cons_succ, List.setIfInBounds_toArray, List.set_cons_zero, List.set_cons_succ]
  refine wpAnyH_done (by kernel_rfl) ?_ _
  try simp only [Act.put, List.getElem_toArray, List.getElem_cons_zero, List.getElem_cons_succ, List.setIfInBounds_toArray, List.set_cons_zero, List.set_cons_succ]
  have hb := hHeld
  clear hHeld
  obtain ⟨w3, hw3⟩ : ∃ w3, z2.alloc (.cells #[v0, v1] 62) = w3 := ⟨_, rfl⟩
  rw [hw3] at hb ⊢
  clear hw3
  have M2 : Hid (Below w.heap.size w w3) := H2.out.trans (hb.mono H2.out.size)
  have M1 : Hid (Blk w3 w.heap.size 32 #[.int .u8 k, .int .i16 y]) := H1.out.below hb H1.out.lt
  clear hb
  cases oo with
  | some i =>
    have hi : i < 7 := firstO_lt (os := [chk 5 (rkOk xss), chk 5 (vB (k, y))]) (by simp only [List.mem_cons, List.not_mem_nil, or_false]; rintro o (rfl | rfl) <;> exact chk_lt (by omega)) i HOO.out
    have hno : (rkOk xss && vB (k, y)) = false ∧ i = 5 := by
      have := HOO.out
      cases h1 : rkOk xss <;> cases h2 : vB (k, y) <;> simp [h1, h2, firstO, chk] at this <;> exact ⟨rfl, this.symm⟩
    obtain ⟨hno, rfl⟩ := hno
    have E := Lib.hid (oo_no hno)
    rw [erO_some]
    clear hno hi HOO
    go_wp2_with fail
    refine (codeOf_5 (HE.out.below M2.out (Nat.le_refl _))).mono ?_
    rintro e w4 ⟨rfl, rfl⟩
    go_wp2
    go_ret3
    exact ⟨by (rw [E.out.1, E.out.2]; first | done | rfl), M2.out⟩
  | none =>
    have hyes : rkOk xss = true ∧ vB (k, y) = true := by
      have := HOO.out
      cases h1 : rkOk xss <;> cases h2 : vB (k, y) <;> simp [h1, h2, firstO, chk] at this <;> exact ⟨rfl, rfl⟩
    have HE0 := Lib.hid (oo_yes (k := k) (y := y) (xss := xss) (by rw [hyes.1, hyes.2]; rfl))
    have H8 := rkOk_len hyes.1
    have H6 : Hid (∀ xs ∈ xss, xs.length ≤ 6) := fun xs h => (rkOk_lane hyes.1 h).1
    have HD := Lib.hid (rk_days hyes.1)
    rw [erO_none]
    have b0 : w3.cell? ⟨w.heap.size, 0, none⟩ = some (.int .u8 k) := M1.out.cell 0
    have b1 : w3.cell? ⟨w.heap.size, 1, none⟩ = some (.int .i16 y) := M1.out.cell 1
    clear hyes V0 V1 P0 P1 HC0 HC1 HOO
    go_wp2_with fail
    refine (oldestOf_any xss HW.out HD.out A c k y ad w3 H8 H6.out (HR.out.keep M2.out) (HE.out.below M2.out (Nat.le_refl _))).mono ?_
    rintro e w5 ⟨k2, y2, d2, l2, i2, a2, n2, c2, rfl, hC0, hb⟩
    have HB5 : Hid (Below w.heap.size w w5) := M2.out.trans (hb.mono M2.out.size)
    clear hb b0 b1
    obtain ⟨T, hT⟩ : ∃ T, olT k y xss = T := ⟨_, rfl⟩
    have HT := Lib.hid hT
    rw [hT] at hC0 ⊢
    have HC0 := Lib.hid hC0
    clear hT hC0
    obtain ⟨v, hv⟩ : ∃ v, olE ad T = v := ⟨_, rfl⟩
    rw [hv]
    have HVv := Lib.hid hv
    clear hv
    go_wp2_with fail
    rw [← HVv.out]
    clear HVv
    obtain ⟨w6, hw6⟩ : ∃ v, w5.alloc (.cells #[.int .u8 k2, .int .i16 y2, .int .i64 d2, .int .i64 l2, .int .i64 i2, .slice a2 n2 c2] 68) = v := ⟨_, rfl⟩
    have hb6 : Below w5.heap.size w5 w6 := by rw [← hw6]; exact (Below.refl _ _).alloc (Nat.le_refl _) _
    have hk6 : Blk w6 w5.heap.size 68 #[.int .u8 k2, .int .i16 y2, .int .i64 d2, .int .i64 l2, .int .i64 i2, .slice a2 n2 c2] := by rw [← hw6]; exact Blk.new w5 _ _
    rw [hw6]
    clear hw6
    have HB6 : Hid (Below w.heap.size w w6) := HB5.out.trans (hb6.mono HB5.out.size)
    have HK6 := Lib.hid hk6
    clear hb6 hk6
    rcases T with _ | c0
    · rw [show olE ad none = .iface 139 (.pointer (some (ad 4))) from rfl]
      refine wp_region_held_drew (S := fun w' => Below w6.heap.size w6 w') (by kernel_rfl) (Below.refl _ _).drew (fun hHeld => ?_)
      refine wpAnyH_take (i := 0) (v := .pointer (some ⟨w5.heap.size, 3, none⟩)) rfl (by kernel_rfl) (by kernel_rfl) (by kernel_rfl) (fun _ _ _ h => h) (Or.inl ⟨by rfl, fun w' h => by go_simp⟩) (by assumption) ?_
      try simp only [Act.put, List.getElem_toArray, List.getElem_cons_zero, List.getElem_cons_succ, List.setIfInBounds_toArray, List.set_cons_zero, List.set_cons_succ]
      refine wpAnyH_take (i := 1) (v := .int .i64 l2) rfl (by kernel_rfl) (by kernel_rfl) (by kernel_rfl) (fun _ _ _ h => h) (Or.inl ⟨by rfl, fun w' h => by (have g0 : w'.cell? ⟨w5.heap.size, 3, none⟩ = some (.int .i64 l2) := (HK6.out.below h HK6.out.lt).cell 3; go_simp)⟩) (by assumption) ?_
      try simp only [Act.put, List.getElem_toArray, List.getElem_cons_zero, List.getElem_cons_succ, List.setIfInBounds_toArray, List.set_cons_zero, List.set_cons_succ]
      refine wpAnyH_take (i := 2) (v := .pointer (some ⟨w5.heap.size, 4, none⟩)) rfl (by kernel_rfl) (by kernel_rfl) (by kernel_rfl) (fun _ _ _ h => h) (Or.inl ⟨by rfl, fun w' h => by go_simp⟩) (by assumption) ?_
      try simp only [Act.put, List.getElem_toArray, List.getElem_cons_zero, List.getElem_cons_succ, List.setIfInBounds_toArray, List.set_cons_zero, List.set_cons_succ]
      refine wpAnyH_take (i := 3) (v := .int .i64 i2) rfl (by kernel_rfl) (by kernel_rfl) (by kernel_rfl) (fun _ _ _ h => h) (Or.inl ⟨by rfl, fun w' h => by (have g0 : w'.cell? ⟨w5.heap.size, 4, none⟩ = some (.int .i64 i2) := (HK6.out.below h HK6.out.lt).cell 4; go_simp)⟩) (by assumption) ?_
      try simp only [Act.put, List.getElem_toArray, List.getElem_cons_zero, List.getElem_cons_succ, List.setIfInBounds_toArray, List.set_cons_zero, List.set_cons_succ]
      refine wpAnyH_take (i := 4) (v := .iface 139 (.pointer (some (ad 4)))) rfl (by kernel_rfl) (by kernel_rfl) (by kernel_rfl) (fun _ _ _ h => h) (Or.inl ⟨by rfl, fun w' h => by go_simp⟩) (by assumption) ?_
      try simp only [Act.put, List.getElem_toArray, List.getElem_cons_zero, List.getElem_cons_succ, List.setIfInBounds_toArray, List.set_cons_zero, List.set_cons_succ]
      obtain ⟨D0, hD0⟩ : ∃ D0, w6.drew = D0 := ⟨_, rfl⟩
      rw [hD0] at hHeld ⊢
      clear hD0
      refine wpAnyH_ready (rs := [5]) (by kernel_rfl) (by simp) ?_
      refine AllReadyH.cons rfl (fun K hK => ?_) AllReadyH.nil
      refine if_wanted rfl ?_
      go_simp
      refine (codeOf_4 (EW.less (HE.out.below (HB6.out.trans (hHeld.mono HB6.out.size)) (Nat.le_refl _)) (by omega))).mono ?_
      rintro e w9 ⟨rfl, rfl⟩
      dsimp only
      refine hK.out _ _ hHeld (fun hHeld => ?_)
      clear hK K
      try simp only [Act.put, List.getElem_toArray, List.getElem_cons_zero, List.getElem_cons_succ, List.setIfInBounds_toArray, List.set_cons_zero, List.set_cons_succ]
      refine wpAnyH_ready (rs := [6]) (by kernel_rfl) (by simp) ?_
      refine AllReadyH.cons rfl (fun K hK => ?_) AllReadyH.nil
      refine if_wanted rfl ?_
      refine wp_assign0 (v := .int .i64 l2) rfl rfl ?_
      refine hK.out _ _ hHeld (fun hHeld => ?_)
      clear hK K
      try simp only [Act.put, List.getElem_toArray, List.getElem_cons_zero, List.getElem_cons_succ, List.setIfInBounds_toArray, List.set_cons_zero, List.set_cons_succ]
      refine wpAnyH_ready (rs := [7]) (by kernel_rfl) (by simp) ?_
      refine AllReadyH.cons rfl (fun K hK => ?_) AllReadyH.nil
      refine if_wanted rfl ?_
      refine wp_assign0 (v := .int .i64 i2) rfl rfl ?_
      refine hK.out _ _ hHeld (fun hHeld => ?_)
      clear hK K
      try simp only [Act.put, List.getElem_toArray, List.getElem_cons_zero, List.getElem_cons_succ, List.setIfInBounds_toArray, List.set_cons_zero, List.set_cons_succ]
      refine wpAnyH_ready (rs := [8]) (by kernel_rfl) (by simp) ?_
      refine AllReadyH.cons rfl (fun K hK => ?_) AllReadyH.nil
      refine if_wanted rfl ?_
      refine wp_assign0 (v := .int .i64 6) rfl rfl ?_
      refine hK.out _ _ hHeld (fun hHeld => ?_)
      clear hK K
      try simp only [Act.put, List.getElem_toArray, List.getElem_cons_zero, List.getElem_cons_succ, List.setIfInBounds_toArray, List.set_cons_zero, List.set_cons_succ]
      refine wpAnyH_done (by kernel_rfl) ?_ _
      try simp only [Act.put, List.getElem_toArray, List.getElem_cons_zero, List.getElem_cons_succ, List.setIfInBounds_toArray, List.set_cons_zero, List.set_cons_succ]
      have hb := hHeld
      clear hHeld
      go_wp2
      go_ret3
      exact ⟨by (rw [HE0.out.1, HE0.out.2, HT.out, HC0.out]; first | done | rfl), HB6.out.trans (hb.mono HB6.out.size)⟩
    · rw [show olE ad (some c0) = .nilIface from rfl]
      refine wp_region_held_drew (S := fun w' => Below w6.heap.size w6 w') (by kernel_rfl) (Below.refl _ _).drew (fun hHeld => ?_)
      refine wpAnyH_take (i := 0) (v := .pointer (some ⟨w5.heap.size, 3, none⟩)) rfl (by kernel_rfl) (by kernel_rfl) (by kernel_rfl) (fun _ _ _ h => h) (Or.inl ⟨by rfl, fun w' h => by go_simp⟩) (by assumption) ?_
      try simp only [Act.put, List.getElem_toArray, List.getElem_cons_zero, List.getElem_cons_succ, List.setIfInBounds_toArray, List.set_cons_zero, List.set_cons_succ]
      refine wpAnyH_take (i := 1) (v := .int .i64 l2) rfl (by kernel_rfl) (by kernel_rfl) (by kernel_rfl) (fun _ _ _ h => h) (Or.inl ⟨by rfl, fun w' h => by (have g0 : w'.cell? ⟨w5.heap.size, 3, none⟩ = some (.int .i64 l2) := (HK6.out.below h HK6.out.lt).cell 3; go_simp)⟩) (by assumption) ?_
      try simp only [Act.put, List.getElem_toArray, List.getElem_cons_zero, List.getElem_cons_succ, List.setIfInBounds_toArray, List.set_cons_zero, List.set_cons_succ]
      refine wpAnyH_take (i := 2) (v := .pointer (some ⟨w5.heap.size, 4, none⟩)) rfl (by kernel_rfl) (by kernel_rfl) (by kernel_rfl) (fun _ _ _ h => h) (Or.inl ⟨by rfl, fun w' h => by go_simp⟩) (by assumption) ?_
      try simp only [Act.put, List.getElem_toArray, List.getElem_cons_zero, List.getElem_cons_succ, List.setIfInBounds_toArray, List.set_cons_zero, List.set_cons_succ]
      refine wpAnyH_take (i := 3) (v := .int .i64 i2) rfl (by kernel_rfl) (by kernel_rfl) (by kernel_rfl) (fun _ _ _ h => h) (Or.inl ⟨by rfl, fun w' h => by (have g0 : w'.cell? ⟨w5.heap.size, 4, none⟩ = some (.int .i64 i2) := (HK6.out.below h HK6.out.lt).cell 4; go_simp)⟩) (by assumption) ?_
      try simp only [Act.put, List.getElem_toArray, List.getElem_cons_zero, List.getElem_cons_succ, List.setIfInBounds_toArray, List.set_cons_zero, List.set_cons_succ]
      refine wpAnyH_take (i := 4) (v := .nilIface) rfl (by kernel_rfl) (by kernel_rfl) (by kernel_rfl) (fun _ _ _ h => h) (Or.inl ⟨by rfl, fun w' h => by go_simp⟩) (by assumption) ?_
      try simp only [Act.put, List.getElem_toArray, List.getElem_cons_zero, List.getElem_cons_succ, List.setIfInBounds_toArray, List.set_cons_zero, List.set_cons_succ]
      obtain ⟨D0, hD0⟩ : ∃ D0, w6.drew = D0 := ⟨_, rfl⟩
      rw [hD0] at hHeld ⊢
      clear hD0
      refine wpAnyH_ready (rs := [5]) (by kernel_rfl) (by simp) ?_
      refine AllReadyH.cons rfl (fun K hK => ?_) AllReadyH.nil
      refine if_wanted rfl ?_
      go_simp
      refine (codeOf_nil _).mono ?_
      rintro e w9 ⟨rfl, rfl⟩
      dsimp only
      refine hK.out _ _ hHeld (fun hHeld => ?_)
      clear hK K
      try simp only [Act.put, List.getElem_toArray, List.getElem_cons_zero, List.getElem_cons_succ, List.setIfInBounds_toArray, List.set_cons_zero, List.set_cons_succ]
      refine wpAnyH_ready (rs := [6]) (by kernel_rfl) (by simp) ?_
      refine AllReadyH.cons rfl (fun K hK => ?_) AllReadyH.nil
      refine if_wanted rfl ?_
      refine wp_assign0 (v := .int .i64 l2) rfl rfl ?_
      refine hK.out _ _ hHeld (fun hHeld => ?_)
      clear hK K
      try simp only [Act.put, List.getElem_toArray, List.getElem_cons_zero, List.getElem_cons_succ, List.setIfInBounds_toArray, List.set_cons_zero, List.set_cons_succ]
      refine wpAnyH_ready (rs := [7]) (by kernel_rfl) (by simp) ?_
      refine AllReadyH.cons rfl (fun K hK => ?_) AllReadyH.nil
      refine if_wanted rfl ?_
      refine wp_assign0 (v := .int .i64 i2) rfl rfl ?_
      refine hK.out _ _ hHeld (fun hHeld => ?_)
      clear hK K
      try simp only [Act.put, List.getElem_toArray, List.getElem_cons_zero, List.getElem_cons_succ, List.setIfInBounds_toArray, List.set_cons_zero, List.set_cons_succ]
      refine wpAnyH_ready (rs := [8]) (by kernel_rfl) (by simp) ?_
      refine AllReadyH.cons rfl (fun K hK => ?_) AllReadyH.nil
      refine if_wanted rfl ?_
      refine wp_assign0 (v := .int .i64 0) rfl rfl ?_
      refine hK.out _ _ hHeld (fun hHeld => ?_)
      clear hK K
      try simp only [Act.put, List.getElem_toArray, List.getElem_cons_zero, List.getElem_cons_succ, List.setIfInBounds_toArray, List.set_cons_zero, List.set_cons_succ]
      refine wpAnyH_done (by kernel_rfl) ?_ _
      try simp only [Act.put, List.getElem_toArray, List.getElem_cons_zero, List.getElem_cons_succ, List.setIfInBounds_toArray, List.set_cons_zero, List.set_cons_succ]
      have hb := hHeld
      clear hHeld
      go_wp2
      go_ret3
      exact ⟨by (rw [HE0.out.1, HE0.out.2, HT.out, HC0.out]; first | done | rfl), HB6.out.trans (hb.mono HB6.out.size)⟩

set_option maxRecDepth 100000 in
set_option maxHeartbeats 8000000 in
theorem implChoice_any (xss : List (List Wnt)) (hwf : ∀ xs ∈ xss, ∀ x ∈ xs, wfW x) (k y s : Int) (A : Option Addr) (c : Nat) (ad : Nat → Addr) (w : World) (hl : xss.length ≤ 1048576) (hx : ∀ xs ∈ xss, xs.length ≤ 1048576) (hr : RdK w w.heap.size wcells A xss) (hE : EW 7 w ad) :
    Calls Tryd.prog 14 #[.slice A xss.length c, .agg #[.int .u8 k, .int .i16 y], .int .i64 s] w fun e w' => e = .returned (.tuple #[.int .i64 ((olC (coT' k y s xss)).2.1 : Nat), .int .i64 ((olC (coT' k y s xss)).2.2 : Nat), .int .i64 (coC k y s xss)]) ∧ Below w.heap.size w w' := by
  have HR := Lib.hid hr
  have HW := Lib.hid hwf
  have HX := Lib.hid hx
  have HE := Lib.hid hE
  clear hr hwf hx hE
  have h1 : Blk (w.alloc (.cells #[.int .u8 k, .int .i16 y] 32)) w.heap.size 32 #[.int .u8 k, .int .i16 y] := Blk.new w _ _
  have h2 : Below w.heap.size w (w.alloc (.cells #[.int .u8 k, .int .i16 y] 32)) := (Below.refl _ w).alloc (Nat.le_refl _) _
  obtain ⟨W0, hW0⟩ : ∃ W0, w.alloc (.cells #[.int .u8 k, .int .i16 y] 32) = W0 := ⟨_, rfl⟩
  rw [hW0] at h1 h2
  have H1 := Lib.hid h1
  have H2 := Lib.hid h2
  clear h1 h2
  have b0 : W0.cell? ⟨w.heap.size, 0, none⟩ = some (.int .u8 k) := H1.out.cell 0
  have b1 : W0.cell? ⟨w.heap.size, 1, none⟩ = some (.int .i16 y) := H1.out.cell 1
  have hA1 : Below w.heap.size w (W0.alloc (.cells #[.int .u8 k, .int .i16 y] 32)) := H2.out.alloc H2.out.size _
  have HTk := Lib.hid (checkTakingK_any xss [(k, y)] s A (some ⟨W0.heap.size, 0, none⟩) c 1 ad (W0.alloc (.cells #[.int .u8 k, .int .i16 y] 32)) hl HX.out (by simp) (HR.out.rd.keep hA1) (bot_rd W0 k y) (HE.out.below hA1 (Nat.le_refl _)))
  have HA1 := Lib.hid hA1
  have HJ1 : Hid (Blk (W0.alloc (.cells #[.int .u8 k, .int .i16 y] 32)) w.heap.size 32 #[.int .u8 k, .int .i16 y]) := H1.out.alloc _
  clear hA1
  obtain ⟨oo, hoo⟩ : ∃ o, tkO xss [(k, y)] s = o := ⟨_, rfl⟩
  have HOO := Lib.hid hoo
  rw [hoo] at HTk
  clear hoo
  obtain ⟨vv, hvv⟩ : ∃ v, erO ad oo = v := ⟨_, rfl⟩
  rw [hvv] at HTk
  have HVV := Lib.hid hvv
  clear hvv
  go_enter Tryd.func14, Tryd.ntmps14
  go_wp2_with fail
  clear hW0
  refine HTk.out.mono ?_
  rintro e w3 ⟨rfl, hb⟩
  have M1 : Hid (Blk w3 w.heap.size 32 #[.int .u8 k, .int .i16 y]) := HJ1.out.keep hb
  have M2 : Hid (Below w.heap.size w w3) := HA1.out.trans (hb.mono HA1.out.size)
  clear hb H1 H2 b0 b1 HTk HA1 HJ1
  rw [← HVV.out]
  clear HVV
  cases oo with
  | some i =>
    have HIi := Lib.hid (tkO_lt i HOO.out)
    have E := Lib.hid (co_no HOO.out)
    rw [erO_some]
    clear HOO
    go_wp2_with fail
    refine (codeOf_O (HE.out.below M2.out (Nat.le_refl _)) i HIi.out).mono ?_
    rintro e w4 ⟨rfl, rfl⟩
    go_wp2
    go_ret3
    exact ⟨by (rw [E.out.1, E.out.2]; first | done | rfl), M2.out⟩
  | none =>
    obtain ⟨h1, h2, h3⟩ := tkO_none HOO.out
    have HE0 := Lib.hid (co_yes HOO.out)
    have H8 := rkOk_len h1
    have H6 : Hid (∀ xs ∈ xss, xs.length ≤ 6) := fun xs h => (rkOk_lane h1 h).1
    have HD := Lib.hid (rk_days h1)
    have H3 := Lib.hid h3
    rw [erO_none]
    have b0 : w3.cell? ⟨w.heap.size, 0, none⟩ = some (.int .u8 k) := M1.out.cell 0
    have b1 : w3.cell? ⟨w.heap.size, 1, none⟩ = some (.int .i16 y) := M1.out.cell 1
    clear h1 h2 h3 HOO
    go_wp2_with fail
    refine (choiceOf_any xss HW.out HD.out A c k y s H3.out ad w3 H8 H6.out (HR.out.keep M2.out) (HE.out.below M2.out (Nat.le_refl _))).mono ?_
    rintro e w5 ⟨k2, y2, d2, l2, i2, a2, n2, c2, rfl, hC0, hb⟩
    have HB5 : Hid (Below w.heap.size w w5) := M2.out.trans (hb.mono M2.out.size)
    clear hb b0 b1
    obtain ⟨T, hT⟩ : ∃ T, chT k y s xss = T := ⟨_, rfl⟩
    have HT := Lib.hid hT
    rw [hT] at hC0 ⊢
    have HC0 := Lib.hid hC0
    clear hT hC0
    obtain ⟨v, hv⟩ : ∃ v, olE ad T = v := ⟨_, rfl⟩
    rw [hv]
    have HVv := Lib.hid hv
    clear hv
    go_wp2_with fail
    rw [← HVv.out]
    clear HVv
    obtain ⟨w6, hw6⟩ : ∃ v, w5.alloc (.cells #[.int .u8 k2, .int .i16 y2, .int .i64 d2, .int .i64 l2, .int .i64 i2, .slice a2 n2 c2] 68) = v := ⟨_, rfl⟩
    have hb6 : Below w5.heap.size w5 w6 := by rw [← hw6]; exact (Below.refl _ _).alloc (Nat.le_refl _) _
    have hk6 : Blk w6 w5.heap.size 68 #[.int .u8 k2, .int .i16 y2, .int .i64 d2, .int .i64 l2, .int .i64 i2, .slice a2 n2 c2] := by rw [← hw6]; exact Blk.new w5 _ _
    rw [hw6]
    clear hw6
    have HB6 : Hid (Below w.heap.size w w6) := HB5.out.trans (hb6.mono HB5.out.size)
    have HK6 := Lib.hid hk6
    clear hb6 hk6
    rcases T with _ | c0
    · rw [show olE ad none = .iface 139 (.pointer (some (ad 4))) from rfl]
      refine wp_region_held_drew (S := fun w' => Below w6.heap.size w6 w') (by kernel_rfl) (Below.refl _ _).drew (fun hHeld => ?_)
      refine wpAnyH_take (i := 0) (v := .pointer (some ⟨w5.heap.size, 3, none⟩)) rfl (by kernel_rfl) (by kernel_rfl) (by kernel_rfl) (fun _ _ _ h => h) (Or.inl ⟨by rfl, fun w' h => by go_simp⟩) (by assumption) ?_
      try simp only [Act.put, List.getElem_toArray, List.getElem_cons_zero, List.getElem_cons_succ, List.setIfInBounds_toArray, List.set_cons_zero, List.set_cons_succ]
      refine wpAnyH_take (i := 1) (v := .int .i64 l2) rfl (by kernel_rfl) (by kernel_rfl) (by kernel_rfl) (fun _ _ _ h => h) (Or.inl ⟨by rfl, fun w' h => by (have g0 : w'.cell? ⟨w5.heap.size, 3, none⟩ = some (.int .i64 l2) := (HK6.out.below h HK6.out.lt).cell 3; go_simp)⟩) (by assumption) ?_
      try simp only [Act.put, List.getElem_toArray, List.getElem_cons_zero, List.getElem_cons_succ, List.setIfInBounds_toArray, List.set_cons_zero, List.set_cons_succ]
      refine wpAnyH_take (i := 2) (v := .pointer (some ⟨w5.heap.size, 4, none⟩)) rfl (by kernel_rfl) (by kernel_rfl) (by kernel_rfl) (fun _ _ _ h => h) (Or.inl ⟨by rfl, fun w' h => by go_simp⟩) (by assumption) ?_
      try simp only [Act.put, List.getElem_toArray, List.getElem_cons_zero, List.getElem_cons_succ, List.setIfInBounds_toArray, List.set_cons_zero, List.set_cons_succ]
      refine wpAnyH_take (i := 3) (v := .int .i64 i2) rfl (by kernel_rfl) (by kernel_rfl) (by kernel_rfl) (fun _ _ _ h => h) (Or.inl ⟨by rfl, fun w' h => by (have g0 : w'.cell? ⟨w5.heap.size, 4, none⟩ = some (.int .i64 i2) := (HK6.out.below h HK6.out.lt).cell 4; go_simp)⟩) (by assumption) ?_
      try simp only [Act.put, List.getElem_toArray, List.getElem_cons_zero, List.getElem_cons_succ, List.setIfInBounds_toArray, List.set_cons_zero, List.set_cons_succ]
      refine wpAnyH_take (i := 4) (v := .iface 139 (.pointer (some (ad 4)))) rfl (by kernel_rfl) (by kernel_rfl) (by kernel_rfl) (fun _ _ _ h => h) (Or.inl ⟨by rfl, fun w' h => by go_simp⟩) (by assumption) ?_
      try simp only [Act.put, List.getElem_toArray, List.getElem_cons_zero, List.getElem_cons_succ, List.setIfInBounds_toArray, List.set_cons_zero, List.set_cons_succ]
      obtain ⟨D0, hD0⟩ : ∃ D0, w6.drew = D0 := ⟨_, rfl⟩
      rw [hD0] at hHeld ⊢
      clear hD0
      refine wpAnyH_ready (rs := [5]) (by kernel_rfl) (by simp) ?_
      refine AllReadyH.cons rfl (fun K hK => ?_) AllReadyH.nil
      refine if_wanted rfl ?_
      go_simp
      refine (codeOf_4 (EW.less (HE.out.below (HB6.out.trans (hHeld.mono HB6.out.size)) (Nat.le_refl _)) (by omega))).mono ?_
      rintro e w9 ⟨rfl, rfl⟩
      dsimp only
      refine hK.out _ _ hHeld (fun hHeld => ?_)
      clear hK K
      try simp only [Act.put, List.getElem_toArray, List.getElem_cons_zero, List.getElem_cons_succ, List.setIfInBounds_toArray, List.set_cons_zero, List.set_cons_succ]
      refine wpAnyH_ready (rs := [6]) (by kernel_rfl) (by simp) ?_
      refine AllReadyH.cons rfl (fun K hK => ?_) AllReadyH.nil
      refine if_wanted rfl ?_
      refine wp_assign0 (v := .int .i64 l2) rfl rfl ?_
      refine hK.out _ _ hHeld (fun hHeld => ?_)
      clear hK K
      try simp only [Act.put, List.getElem_toArray, List.getElem_cons_zero, List.getElem_cons_succ, List.setIfInBounds_toArray, List.set_cons_zero, List.set_cons_succ]
      refine wpAnyH_ready (rs := [7]) (by kernel_rfl) (by simp) ?_
      refine AllReadyH.cons rfl (fun K hK => ?_) AllReadyH.nil
      refine if_wanted rfl ?_
      refine wp_assign0 (v := .int .i64 i2) rfl rfl ?_
      refine hK.out _ _ hHeld (fun hHeld => ?_)
      clear hK K
      try simp only [Act.put, List.getElem_toArray, List.getElem_cons_zero, List.getElem_cons_succ, List.setIfInBounds_toArray, List.set_cons_zero, List.set_cons_succ]
      refine wpAnyH_ready (rs := [8]) (by kernel_rfl) (by simp) ?_
      refine AllReadyH.cons rfl (fun K hK => ?_) AllReadyH.nil
      refine if_wanted rfl ?_
      refine wp_assign0 (v := .int .i64 6) rfl rfl ?_
      refine hK.out _ _ hHeld (fun hHeld => ?_)
      clear hK K
      try simp only [Act.put, List.getElem_toArray, List.getElem_cons_zero, List.getElem_cons_succ, List.setIfInBounds_toArray, List.set_cons_zero, List.set_cons_succ]
      refine wpAnyH_done (by kernel_rfl) ?_ _
      try simp only [Act.put, List.getElem_toArray, List.getElem_cons_zero, List.getElem_cons_succ, List.setIfInBounds_toArray, List.set_cons_zero, List.set_cons_succ]
      have hb := hHeld
      clear hHeld
      go_wp2
      go_ret3
      exact ⟨by (rw [HE0.out.1, HE0.out.2, HT.out, HC0.out]; first | done | rfl), HB6.out.trans (hb.mono HB6.out.size)⟩
    · rw [show olE ad (some c0) = .nilIface from rfl]
      refine wp_region_held_drew (S := fun w' => Below w6.heap.size w6 w') (by kernel_rfl) (Below.refl _ _).drew (fun hHeld => ?_)
      refine wpAnyH_take (i := 0) (v := .pointer (some ⟨w5.heap.size, 3, none⟩)) rfl (by kernel_rfl) (by kernel_rfl) (by kernel_rfl) (fun _ _ _ h => h) (Or.inl ⟨by rfl, fun w' h => by go_simp⟩) (by assumption) ?_
      try simp only [Act.put, List.getElem_toArray, List.getElem_cons_zero, List.getElem_cons_succ, List.setIfInBounds_toArray, List.set_cons_zero, List.set_cons_succ]
      refine wpAnyH_take (i := 1) (v := .int .i64 l2) rfl (by kernel_rfl) (by kernel_rfl) (by kernel_rfl) (fun _ _ _ h => h) (Or.inl ⟨by rfl, fun w' h => by (have g0 : w'.cell? ⟨w5.heap.size, 3, none⟩ = some (.int .i64 l2) := (HK6.out.below h HK6.out.lt).cell 3; go_simp)⟩) (by assumption) ?_
      try simp only [Act.put, List.getElem_toArray, List.getElem_cons_zero, List.getElem_cons_succ, List.setIfInBounds_toArray, List.set_cons_zero, List.set_cons_succ]
      refine wpAnyH_take (i := 2) (v := .pointer (some ⟨w5.heap.size, 4, none⟩)) rfl (by kernel_rfl) (by kernel_rfl) (by kernel_rfl) (fun _ _ _ h => h) (Or.inl ⟨by rfl, fun w' h => by go_simp⟩) (by assumption) ?_
      try simp only [Act.put, List.getElem_toArray, List.getElem_cons_zero, List.getElem_cons_succ, List.setIfInBounds_toArray, List.set_cons_zero, List.set_cons_succ]
      refine wpAnyH_take (i := 3) (v := .int .i64 i2) rfl (by kernel_rfl) (by kernel_rfl) (by kernel_rfl) (fun _ _ _ h => h) (Or.inl ⟨by rfl, fun w' h => by (have g0 : w'.cell? ⟨w5.heap.size, 4, none⟩ = some (.int .i64 i2) := (HK6.out.below h HK6.out.lt).cell 4; go_simp)⟩) (by assumption) ?_
      try simp only [Act.put, List.getElem_toArray, List.getElem_cons_zero, List.getElem_cons_succ, List.setIfInBounds_toArray, List.set_cons_zero, List.set_cons_succ]
      refine wpAnyH_take (i := 4) (v := .nilIface) rfl (by kernel_rfl) (by kernel_rfl) (by kernel_rfl) (fun _ _ _ h => h) (Or.inl ⟨by rfl, fun w' h => by go_simp⟩) (by assumption) ?_
      try simp only [Act.put, List.getElem_toArray, List.getElem_cons_zero, List.getElem_cons_succ, List.setIfInBounds_toArray, List.set_cons_zero, List.set_cons_succ]
      obtain ⟨D0, hD0⟩ : ∃ D0, w6.drew = D0 := ⟨_, rfl⟩
      rw [hD0] at hHeld ⊢
      clear hD0
      refine wpAnyH_ready (rs := [5]) (by kernel_rfl) (by simp) ?_
      refine AllReadyH.cons rfl (fun K hK => ?_) AllReadyH.nil
      refine if_wanted rfl ?_
      go_simp
      refine (codeOf_nil _).mono ?_
      rintro e w9 ⟨rfl, rfl⟩
      dsimp only
      refine hK.out _ _ hHeld (fun hHeld => ?_)
      clear hK K
      try simp only [Act.put, List.getElem_toArray, List.getElem_cons_zero, List.getElem_cons_succ, List.setIfInBounds_toArray, List.set_cons_zero, List.set_cons_succ]
      refine wpAnyH_ready (rs := [6]) (by kernel_rfl) (by simp) ?_
      refine AllReadyH.cons rfl (fun K hK => ?_) AllReadyH.nil
      refine if_wanted rfl ?_
      refine wp_assign0 (v := .int .i64 l2) rfl rfl ?_
      refine hK.out _ _ hHeld (fun hHeld => ?_)
      clear hK K
      try simp only [Act.put, List.getElem_toArray, List.getElem_cons_zero, List.getElem_cons_succ, List.setIfInBounds_toArray, List.set_cons_zero, List.set_cons_succ]
      refine wpAnyH_ready (rs := [7]) (by kernel_rfl) (by simp) ?_
      refine AllReadyH.cons rfl (fun K hK => ?_) AllReadyH.nil
      refine if_wanted rfl ?_
      refine wp_assign0 (v := .int .i64 i2) rfl rfl ?_
      refine hK.out _ _ hHeld (fun hHeld => ?_)
      clear hK K
      try simp only [Act.put, List.getElem_toArray, List.getElem_cons_zero, List.getElem_cons_succ, List.setIfInBounds_toArray, List.set_cons_zero, List.set_cons_succ]
      refine wpAnyH_ready (rs := [8]) (by kernel_rfl) (by simp) ?_
      refine AllReadyH.cons rfl (fun K hK => ?_) AllReadyH.nil
      refine if_wanted rfl ?_
      refine wp_assign0 (v := .int .i64 0) rfl rfl ?_
      refine hK.out _ _ hHeld (fun hHeld => ?_)
      clear hK K
      try simp only [Act.put, List.getElem_toArray, List.getElem_cons_zero, List.getElem_cons_succ, List.setIfInBounds_toArray, List.set_cons_zero, List.set_cons_succ]
      refine wpAnyH_done (by kernel_rfl) ?_ _
      try simp only [Act.put, List.getElem_toArray, List.getElem_cons_zero, List.getElem_cons_succ, List.setIfInBounds_toArray, List.set_cons_zero, List.set_cons_succ]
      have hb := hHeld
      clear hHeld
      go_wp2
      go_ret3
      exact ⟨by (rw [HE0.out.1, HE0.out.2, HT.out, HC0.out]; first | done | rfl), HB6.out.trans (hb.mono HB6.out.size)⟩
end Go.Proofs.YtdgcgkeclcpafaaDoor
