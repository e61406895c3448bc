/-
  The first of the least: contracts of cmp.Compare, priorities.compare, slices.MinFunc and firstLeast. Condition: each of the numbers' functions has its contract.
-/
import Derived.Test.YtmfdgpinohbckaaDoorBk2
import Derived.BigQuiet
namespace Go.Proofs.YtmfdgpinohbckaaDoor
open Go.ChangeShapes Go.WideShapes Go.ChangeAt Go.RowKit Go.Deep

def c64 (a b : Int) : Int := if a < b then -1 else if b < a then 1 else 0
theorem cmp64_any (a b : Int) (w : World) : Calls Tryd.prog 110 #[.int .i64 a, .int .i64 b] w fun e w' => e = .returned (.int .i64 (c64 a b)) ∧ w = w' := by
  by_cases h1 : a < b
  · have E1 : Hid (c64 a b = -1) := by show c64 a b = -1; simp [c64, h1]
    go_enter Tryd.func110, Tryd.ntmps110
    go_wp2
    go_ret
    exact ⟨by (rw [E1.out]; first | done | rfl), rfl⟩
  · by_cases h2 : b < a
    · have E1 : Hid (c64 a b = 1) := by show c64 a b = 1; simp [c64, h1, h2]
      go_enter Tryd.func110, Tryd.ntmps110
      go_wp2
      go_ret
      exact ⟨by (rw [E1.out]; first | done | rfl), rfl⟩
    · have E1 : Hid (c64 a b = 0) := by show c64 a b = 0; simp [c64, h1, h2]
      go_enter Tryd.func110, Tryd.ntmps110
      go_wp2
      go_ret
      exact ⟨by (rw [E1.out]; first | done | rfl), rfl⟩

/-- A number of a spot, and the function that tells it. -/
abbrev Num := Nat × (Sp → Int)
def ncell (f : Num) : List Value := [.func (.func f.1) #[] #[]]
def cmpL : List Num → Sp → Sp → Int
  | [], _, _ => 0
  | f :: fs, s, t => if c64 (f.2 s) (f.2 t) = 0 then cmpL fs s t else c64 (f.2 s) (f.2 t)
/-- The functions tell their numbers of a spot, whatever the world behind w. -/
def Enters (fs : List Num) : Prop := ∀ f ∈ fs, ∀ args w, (callFunc f.1 args).run Tryd.prog w = .ok (.enter f.1 args) w
def Tells (w : World) (fs : List Num) (s : Sp) : Prop := ∀ f ∈ fs, ∀ w', Below w.heap.size w w' → Calls Tryd.prog f.1 #[.agg (spcells s).toArray] w' fun e w'' => e = .returned (.int .i64 (f.2 s)) ∧ Below w'.heap.size w' w''
theorem Tells.keep {w w' : World} {fs : List Num} {s : Sp} (h : Tells w fs s) (hb : Below w.heap.size w w') : Tells w' fs s := fun f hf v hv => h f hf v (hb.trans (hv.mono hb.size))

set_option maxRecDepth 100000 in
set_option maxHeartbeats 4000000 in
theorem compare_any (fs : List Num) (B c : Nat) (s t : Sp) (w : World) (hn : fs.length ≤ 1000) (hB : B < w.heap.size) (hc : ∀ (j : Nat) (f : Num), fs[j]? = some f → w.cell? ⟨B, j, none⟩ = some (.func (.func f.1) #[] #[])) (hs : Tells w fs s) (ht : Tells w fs t) (hen : Enters fs) :
    Calls Tryd.prog 105 #[.slice (some ⟨B, 0, none⟩) fs.length c, .agg (spcells s).toArray, .agg (spcells t).toArray] w fun e w' => e = .returned (.int .i64 (cmpL fs s t)) ∧ Below w.heap.size w w' := by
  have HC := Lib.hid hc
  have HS := Lib.hid hs
  have HT := Lib.hid ht
  have HEn := Lib.hid hen
  clear hc hs ht hen
  obtain ⟨⟨⟨⟨k1, y1⟩, d1⟩, l1, i1⟩, a1, n1, c1⟩ := s
  obtain ⟨⟨⟨⟨k2, y2⟩, d2⟩, l2, i2⟩, a2, n2, c2⟩ := t
  obtain ⟨s, hs⟩ : ∃ s : Sp, ((((k1, y1), d1), l1, i1), a1, n1, c1) = s := ⟨_, rfl⟩
  obtain ⟨t, ht⟩ : ∃ s : Sp, ((((k2, y2), d2), l2, i2), a2, n2, c2) = s := ⟨_, rfl⟩
  rw [hs] at HS
  rw [ht] at HT
  have VS : Hid ((spcells s).toArray = spC k1 y1 d1 l1 i1 a1 n1 c1) := by subst hs; rfl
  have VT : Hid ((spcells t).toArray = spC k2 y2 d2 l2 i2 a2 n2 c2) := by subst ht; rfl
  rw [hs, ht, VS.out, VT.out]
  clear hs ht
  unfold spC
  go_enter Tryd.func105, Tryd.ntmps105
  go_wp2_with fail
  have HS1 : Hid (∀ f ∈ fs, ∀ w', Below w.heap.size w w' → Calls Tryd.prog f.1 #[.agg #[.int .u8 k1, .int .i16 y1, .int .i64 d1, .int .i64 l1, .int .i64 i1, .slice a1 n1 c1]] w' fun e w'' => e = .returned (.int .i64 (f.2 s)) ∧ Below w'.heap.size w' w'') := fun f hf w' hb => by
    have := HS.out f hf w' hb
    rw [VS.out] at this; exact this
  have HT1 : Hid (∀ f ∈ fs, ∀ w', Below w.heap.size w w' → Calls Tryd.prog f.1 #[.agg #[.int .u8 k2, .int .i16 y2, .int .i64 d2, .int .i64 l2, .int .i64 i2, .slice a2 n2 c2]] w' fun e w'' => e = .returned (.int .i64 (f.2 t)) ∧ Below w'.heap.size w' w'') := fun f hf w' hb => by
    have := HT.out f hf w' hb
    rw [VT.out] at this; exact this
  clear HS HT VS VT
  go_loopw [12] (fun i wr => ∃ (k : Nat), k ≤ fs.length ∧ i = .int .i64 k ∧ cmpL fs s t = cmpL (fs.drop k) s t ∧ Blk wr w.heap.size 107 #[.int .u8 k1, .int .i16 y1, .int .i64 d1, .int .i64 l1, .int .i64 i1, .slice a1 n1 c1] ∧ Blk wr (w.heap.size + 1) 107 #[.int .u8 k2, .int .i16 y2, .int .i64 d2, .int .i64 l2, .int .i64 i2, .slice a2 n2 c2] ∧ Below w.heap.size w wr)
    (fun i _ => fs.length - (intOf i).toNat)
  case atStart =>
    have q1 : Below w.heap.size w (w.alloc (.cells #[.int .u8 k1, .int .i16 y1, .int .i64 d1, .int .i64 l1, .int .i64 i1, .slice a1 n1 c1] 107)) := (Below.refl _ w).alloc (Nat.le_refl _) _
    have q2 := Blk.new w 107 #[.int .u8 k1, .int .i16 y1, .int .i64 d1, .int .i64 l1, .int .i64 i1, .slice a1 n1 c1]
    have q3 := Blk.new (w.alloc (.cells #[.int .u8 k1, .int .i16 y1, .int .i64 d1, .int .i64 l1, .int .i64 i1, .slice a1 n1 c1] 107)) 107 #[.int .u8 k2, .int .i16 y2, .int .i64 d2, .int .i64 l2, .int .i64 i2, .slice a2 n2 c2]
    exact ⟨0, by omega, rfl, rfl, q2.keep ((Below.refl _ _).alloc (Nat.le_refl _) _), by simpa using q3, q1.alloc q1.size _⟩
  case round =>
    obtain ⟨k, hk, rfl, hL, hK1, hK2, hB⟩ := hrel
    have HL := Lib.hid hL
    have HK1 := Lib.hid hK1
    have HK2 := Lib.hid hK2
    have HB := Lib.hid hB
    clear hL hK1 hK2 hB
    have hk0 : (0 : Int) ≤ (k : Int) := Int.natCast_nonneg _
    by_cases hlt : k < fs.length
    · obtain ⟨f, hf⟩ : ∃ f, fs[k]? = some f := ⟨_, List.getElem?_eq_getElem hlt⟩
      have e1 := (HB.out.cell (p := ⟨B, k, none⟩) hB).trans (HC.out k f hf)
      have HF : Hid (f ∈ fs) := List.mem_of_getElem? hf
      have HD : Hid (fs.drop k = f :: fs.drop (k + 1)) := by
        show fs.drop k = f :: fs.drop (k + 1)
        rw [List.drop_eq_getElem_cons hlt, List.getElem?_eq_getElem hlt] at *
        rw [Option.some.inj hf]
      have hk8 : (k : Int) < fs.length := by omega
      clear hf
      go_wp2_with fail
      clear e1
      have eg := HEn.out f HF.out
      refine wp_region_held_drew (S := fun w' => Below wr.heap.size wr w') (by kernel_rfl) (Below.refl _ _).drew (fun hHeld => ?_)
      refine wpAnyH_take (i := 0) (v := .func (.func f.1) #[] #[]) rfl (by kernel_rfl) (by kernel_rfl) (by kernel_rfl) (fun _ _ _ h => h) (Or.inl ⟨by rfl, fun w' h => by go_simp⟩) (by assumption) ?_
      try simp only [Act.put, List.getElem_toArray, List.getElem_cons_zero, List.getElem_cons_succ, List.setIfInBounds_toArray, List.set_cons_zero, List.set_cons_succ]
      refine wpAnyH_take (i := 1) (v := .agg #[.int .u8 k1, .int .i16 y1, .int .i64 d1, .int .i64 l1, .int .i64 i1, .slice a1 n1 c1]) rfl (by kernel_rfl) (by kernel_rfl) (by kernel_rfl) (fun _ _ _ h => h) (Or.inl ⟨by rfl, fun w' h => by have HM := (HK1.out.below h HK1.out.lt); have g0 : w'.cell? ⟨w.heap.size, 0, none⟩ = some (.int .u8 k1) := HM.cell 0; have g1 : w'.cell? ⟨w.heap.size, 1, none⟩ = some (.int .i16 y1) := HM.cell 1; have g2 : w'.cell? ⟨w.heap.size, 2, none⟩ = some (.int .i64 d1) := HM.cell 2; have g3 : w'.cell? ⟨w.heap.size, 3, none⟩ = some (.int .i64 l1) := HM.cell 3; have g4 : w'.cell? ⟨w.heap.size, 4, none⟩ = some (.int .i64 i1) := HM.cell 4; have g5 : w'.cell? ⟨w.heap.size, 5, none⟩ = some (.slice a1 n1 c1) := HM.cell 5; go_simp⟩) (by assumption) ?_
      try simp only [Act.put, List.getElem_toArray, List.getElem_cons_zero, List.getElem_cons_succ, List.setIfInBounds_toArray, List.set_cons_zero, List.set_cons_succ]
      refine wpAnyH_take (i := 3) (v := .func (.func f.1) #[] #[]) rfl (by kernel_rfl) (by kernel_rfl) (by kernel_rfl) (fun _ _ _ h => h) (Or.inl ⟨by rfl, fun w' h => by go_simp⟩) (by assumption) ?_
      try simp only [Act.put, List.getElem_toArray, List.getElem_cons_zero, List.getElem_cons_succ, List.setIfInBounds_toArray, List.set_cons_zero, List.set_cons_succ]
      refine wpAnyH_take (i := 4) (v := .agg #[.int .u8 k2, .int .i16 y2, .int .i64 d2, .int .i64 l2, .int .i64 i2, .slice a2 n2 c2]) rfl (by kernel_rfl) (by kernel_rfl) (by kernel_rfl) (fun _ _ _ h => h) (Or.inl ⟨by rfl, fun w' h => by have HM := (HK2.out.below h HK2.out.lt); have g0 : w'.cell? ⟨w.heap.size + 1, 0, none⟩ = some (.int .u8 k2) := HM.cell 0; have g1 : w'.cell? ⟨w.heap.size + 1, 1, none⟩ = some (.int .i16 y2) := HM.cell 1; have g2 : w'.cell? ⟨w.heap.size + 1, 2, none⟩ = some (.int .i64 d2) := HM.cell 2; have g3 : w'.cell? ⟨w.heap.size + 1, 3, none⟩ = some (.int .i64 l2) := HM.cell 3; have g4 : w'.cell? ⟨w.heap.size + 1, 4, none⟩ = some (.int .i64 i2) := HM.cell 4; have g5 : w'.cell? ⟨w.heap.size + 1, 5, none⟩ = some (.slice a2 n2 c2) := HM.cell 5; go_simp⟩) (by assumption) ?_
      try simp only [Act.put, List.getElem_toArray, List.getElem_cons_zero, List.getElem_cons_succ, List.setIfInBounds_toArray, List.set_cons_zero, List.set_cons_succ]
      obtain ⟨D0, hD0⟩ : ∃ D0, wr.drew = D0 := ⟨_, rfl⟩
      rw [hD0] at hHeld ⊢
      clear hD0
      refine wpAnyH_ready (rs := [2]) (by kernel_rfl) (by simp) ?_
      refine AllReadyH.cons rfl (fun K hK => ?_) AllReadyH.nil
      refine if_wanted rfl ?_
      go_simp
      refine (HS1.out f HF.out _ (HB.out.trans (hHeld.mono HB.out.size))).mono ?_
      rintro e z1 ⟨rfl, hb⟩
      have hH2 : Below wr.heap.size wr z1 := hHeld.trans (hb.mono hHeld.size)
      clear hb hHeld
      dsimp only
      refine hK.out _ _ hH2 (fun hHeld => ?_)
      clear hK K hH2
      try simp only [Act.put, List.getElem_toArray, List.getElem_cons_zero, List.getElem_cons_succ, List.setIfInBounds_toArray, List.set_cons_zero, List.set_cons_succ]
      refine wpAnyH_ready (rs := [5]) (by kernel_rfl) (by simp) ?_
      refine AllReadyH.cons rfl (fun K hK => ?_) AllReadyH.nil
      refine if_wanted rfl ?_
      go_simp
      refine (HT1.out f HF.out _ (HB.out.trans (hHeld.mono HB.out.size))).mono ?_
      rintro e z2 ⟨rfl, hb⟩
      have hH2 : Below wr.heap.size wr z2 := hHeld.trans (hb.mono hHeld.size)
      clear hb hHeld
      dsimp only
      refine hK.out _ _ hH2 (fun hHeld => ?_)
      clear hK K hH2
      try simp only [Act.put, List.getElem_toArray, List.getElem_cons_zero, List.getElem_cons_succ, List.setIfInBounds_toArray, List.set_cons_zero, List.set_cons_succ]
      refine wpAnyH_ready (rs := [6]) (by kernel_rfl) (by simp) ?_
      refine AllReadyH.cons rfl (fun K hK => ?_) AllReadyH.nil
      refine if_wanted rfl ?_
      go_simp
      refine (cmp64_any (f.2 s) (f.2 t) _).mono ?_
      rintro e w9 ⟨rfl, rfl⟩
      dsimp only
      refine hK.out _ _ hHeld (fun hHeld => ?_)
      clear hK K
      try simp only [Act.put, List.getElem_toArray, List.getElem_cons_zero, List.getElem_cons_succ, List.setIfInBounds_toArray, List.set_cons_zero, List.set_cons_succ]
      refine wpAnyH_ready (rs := [7]) (by kernel_rfl) (by simp) ?_
      refine AllReadyH.cons rfl (fun K hK => ?_) AllReadyH.nil
      refine if_wanted rfl ?_
      refine wp_assign0 (v := .int .i64 (c64 (f.2 s) (f.2 t))) rfl rfl ?_
      refine hK.out _ _ hHeld (fun hHeld => ?_)
      clear hK K
      try simp only [Act.put, List.getElem_toArray, List.getElem_cons_zero, List.getElem_cons_succ, List.setIfInBounds_toArray, List.set_cons_zero, List.set_cons_succ]
      refine wpAnyH_done (by kernel_rfl) ?_ _
      try simp only [Act.put, List.getElem_toArray, List.getElem_cons_zero, List.getElem_cons_succ, List.setIfInBounds_toArray, List.set_cons_zero, List.set_cons_succ]
      have hb := hHeld
      clear hHeld
      have HB2 : Hid (Below w.heap.size w z2) := HB.out.trans (hb.mono HB.out.size)
      have HK1' : Hid (Blk z2 w.heap.size 107 #[.int .u8 k1, .int .i16 y1, .int .i64 d1, .int .i64 l1, .int .i64 i1, .slice a1 n1 c1]) := HK1.out.below hb HK1.out.lt
      have HK2' : Hid (Blk z2 (w.heap.size + 1) 107 #[.int .u8 k2, .int .i16 y2, .int .i64 d2, .int .i64 l2, .int .i64 i2, .slice a2 n2 c2]) := HK2.out.below hb HK2.out.lt
      have HL1 : Hid (cmpL fs s t = if c64 (f.2 s) (f.2 t) = 0 then cmpL (fs.drop (k + 1)) s t else c64 (f.2 s) (f.2 t)) := by show cmpL fs s t = _; rw [HL.out, HD.out]; rfl
      obtain ⟨C, hC⟩ : ∃ C, c64 (f.2 s) (f.2 t) = C := ⟨_, rfl⟩
      rw [hC] at HL1 ⊢
      clear hC hb HK1 HK2 HB HL HD eg
      by_cases hz : C = 0
      · subst hz
        have HL2 : Hid (cmpL fs s t = cmpL (fs.drop (k + 1)) s t) := HL1.out
        go_wp2
        go_roundw
        case rel => exact ⟨k + 1, by omega, by go_num, HL2.out, HK1'.out, HK2'.out, HB2.out⟩
        case measure => simp [intOf]; omega
      · have hz' : (C == 0) = false := by simpa using hz
        have HL2 : Hid (cmpL fs s t = C) := by show cmpL fs s t = C; rw [HL1.out, if_neg hz]
        go_wp2
        go_ret
        exact ⟨by (rw [HL2.out]; first | done | rfl), HB2.out⟩
    · obtain rfl : k = fs.length := by omega
      have E1 : Hid (cmpL fs s t = 0) := by show cmpL fs s t = 0; rw [HL.out, List.drop_length]; rfl
      go_wp2
      go_ret
      exact ⟨by (rw [E1.out]; first | done | rfl), HB.out⟩

/-- The first of the least: m, or what comes behind it. -/
def minL (fs : List Num) (m : Sp) : List Sp → Sp
  | [] => m
  | x :: xs => minL fs (if cmpL fs x m < 0 then x else m) xs
theorem minL_mem (fs : List Num) : ∀ (xs : List Sp) (m : Sp), minL fs m xs = m ∨ minL fs m xs ∈ xs
  | [], m => .inl rfl
  | x :: xs, m => by
    rcases minL_mem fs xs (if cmpL fs x m < 0 then x else m) with h | h
    · by_cases hc : cmpL fs x m < 0
      · right; rw [minL, h, if_pos hc]; exact List.mem_cons_self ..
      · left; rw [minL, h, if_neg hc]
    · right; rw [minL]; exact List.mem_cons_of_mem _ h

set_option maxRecDepth 100000 in
set_option maxHeartbeats 4000000 in
theorem minFunc_any (fs : List Num) (B c : Nat) (x0 : Sp) (xt : List Sp) (A : Option Addr) (cx : Nat) (w : World) (hn : fs.length ≤ 1000) (hl : (x0 :: xt).length ≤ 1000000) (hB : B < w.heap.size) (hc : ∀ (j : Nat) (f : Num), fs[j]? = some f → w.cell? ⟨B, j, none⟩ = some (.func (.func f.1) #[] #[])) (hT : ∀ s ∈ x0 :: xt, Tells w fs s) (hen : Enters fs) (hr : Rd w w.heap.size spcells A (x0 :: xt)) :
    Calls Tryd.prog 104 #[.slice A (x0 :: xt).length cx, .func (.func 105) #[.slice (some ⟨B, 0, none⟩) fs.length c] #[]] w fun e w' => e = .returned (.agg (spcells (minL fs x0 xt)).toArray) ∧ Below w.heap.size w w' := by
  obtain ⟨xs, hxs⟩ : ∃ xs, x0 :: xt = xs := ⟨_, rfl⟩
  have HX0 : Hid (xs[0]? = some x0) := by rw [← hxs]; rfl
  have HMn : Hid (minL fs x0 xt = minL fs x0 (xs.drop 1)) := by rw [← hxs]; rfl
  have hx1 : 1 ≤ xs.length := by rw [← hxs]; simp
  rw [hxs] at hl hT hr
  rw [hxs]
  clear hxs
  have HC := Lib.hid hc
  have HT := Lib.hid hT
  have HEn := Lib.hid hen
  have HR := Lib.hid hr
  clear hc hT hen hr
  obtain ⟨b, o, rfl, hb0, hrow0⟩ := HR.out.at_ spcells_length HX0.out
  have hbl0 := hb0
  obtain ⟨⟨⟨⟨⟨k0, y0⟩, d0⟩, l0, i0⟩, a0, n0, c0⟩, hz0⟩ : ∃ s, s = x0 := ⟨_, rfl⟩
  obtain ⟨D1, D2, D3, D4, D5, D6⟩ := rowSp hrow0
  rw [← hz0] at D1 D2 D3 D4 D5 D6
  rw [Nat.zero_mul, Nat.add_zero] at D1 D2 D3 D4 D5 D6
  dsimp only at D1 D2 D3 D4 D5 D6
  have hx2 : (1 : Int) ≤ xs.length := by omega
  have hx3 : ¬ ((xs.length : Int) < 1) := by omega
  have HZ0 := Lib.hid hz0
  clear hz0 hrow0
  go_enter Tryd.func104, Tryd.ntmps104
  go_wp2_with fail
  go_loopw [6] (fun i wr => ∃ (k : Nat) (m : Sp), 1 ≤ k ∧ k ≤ xs.length ∧ i = .int .i64 k ∧ minL fs x0 (xs.drop 1) = minL fs m (xs.drop k) ∧ m ∈ xs ∧ Blk wr w.heap.size 107 #[.int .u8 0, .int .i16 0, .int .i64 0, .int .i64 0, .int .i64 0, .slice none 0 0] ∧ Blk wr (w.heap.size + 1) 107 (spcells m).toArray ∧ Below w.heap.size w wr)
    (fun i _ => xs.length - (intOf i).toNat)
  case atStart =>
    have q1 : Below w.heap.size w (w.alloc (.cells #[.int .u8 0, .int .i16 0, .int .i64 0, .int .i64 0, .int .i64 0, .slice none 0 0] 107)) := (Below.refl _ w).alloc (Nat.le_refl _) _
    have q2 := Blk.new w 107 #[.int .u8 0, .int .i16 0, .int .i64 0, .int .i64 0, .int .i64 0, .slice none 0 0]
    have q3 := Blk.new (w.alloc (.cells #[.int .u8 0, .int .i16 0, .int .i64 0, .int .i64 0, .int .i64 0, .slice none 0 0] 107)) 107 #[.int .u8 k0, .int .i16 y0, .int .i64 d0, .int .i64 l0, .int .i64 i0, .slice a0 n0 c0]
    exact ⟨1, x0, by omega, by omega, rfl, rfl, List.mem_of_getElem? HX0.out, q2.keep ((Below.refl _ _).alloc (Nat.le_refl _) _), by rw [← HZ0.out]; simpa [spcells] using q3, q1.alloc q1.size _⟩
  case round =>
    clear D1 D2 D3 D4 D5 D6
    obtain ⟨k, m, hk1, hk, rfl, hM, hmx, hKZ, hK, hB⟩ := hrel
    obtain ⟨⟨⟨⟨k2, y2⟩, d2⟩, l2, i2⟩, a2, n2, c2⟩ := m
    have HM := Lib.hid hM
    have HMx := Lib.hid hmx
    have HKZ := Lib.hid hKZ
    have HK : Hid (Blk wr (w.heap.size + 1) 107 #[.int .u8 k2, .int .i16 y2, .int .i64 d2, .int .i64 l2, .int .i64 i2, .slice a2 n2 c2]) := hK
    have HB := Lib.hid hB
    clear hM hmx hKZ hK hB
    have hk0 : (0 : Int) ≤ (k : Int) := Int.natCast_nonneg _
    by_cases hlt : k < xs.length
    · obtain ⟨⟨⟨⟨⟨k1, y1⟩, d1⟩, l1, i1⟩, a1, n1, c1⟩, hf⟩ : ∃ s, xs[k]? = some s := ⟨_, List.getElem?_eq_getElem hlt⟩
      obtain ⟨b9, o9, he, hbl, hrow⟩ := (HR.out.keep HB.out).at_ spcells_length hf
      cases he
      have HRow := Lib.hid hrow
      have HSx : Hid (((((k1, y1), d1), l1, i1), a1, n1, c1) ∈ xs) := List.mem_of_getElem? hf
      have HD : Hid (xs.drop k = ((((k1, y1), d1), l1, i1), a1, n1, c1) :: xs.drop (k + 1)) := by
        show xs.drop k = _
        rw [List.drop_eq_getElem_cons hlt, List.getElem?_eq_getElem hlt] at *
        rw [Option.some.inj hf]
      have HCm : Hid (∀ w', Below w.heap.size w w' → Calls Tryd.prog 105 #[.slice (some ⟨B, 0, none⟩) fs.length c, .agg #[.int .u8 k1, .int .i16 y1, .int .i64 d1, .int .i64 l1, .int .i64 i1, .slice a1 n1 c1], .agg #[.int .u8 k2, .int .i16 y2, .int .i64 d2, .int .i64 l2, .int .i64 i2, .slice a2 n2 c2]] w' fun e w'' => e = .returned (.int .i64 (cmpL fs ((((k1, y1), d1), l1, i1), a1, n1, c1) ((((k2, y2), d2), l2, i2), a2, n2, c2))) ∧ Below w'.heap.size w' w'') := fun w' hb =>
        compare_any fs B c ((((k1, y1), d1), l1, i1), a1, n1, c1) ((((k2, y2), d2), l2, i2), a2, n2, c2) w' hn (Nat.lt_of_lt_of_le hB hb.size) (fun j f hf => (hb.cell (p := ⟨B, j, none⟩) hB).trans (HC.out j f hf)) ((HT.out _ HSx.out).keep hb) ((HT.out _ HMx.out).keep hb) HEn.out
      have HM1 : Hid (minL fs x0 (xs.drop 1) = minL fs (if cmpL fs ((((k1, y1), d1), l1, i1), a1, n1, c1) ((((k2, y2), d2), l2, i2), a2, n2, c2) < 0 then ((((k1, y1), d1), l1, i1), a1, n1, c1) else ((((k2, y2), d2), l2, i2), a2, n2, c2)) (xs.drop (k + 1))) := by show minL fs x0 (xs.drop 1) = _; rw [HM.out, HD.out]; rfl
      obtain ⟨C, hC⟩ : ∃ C, cmpL fs ((((k1, y1), d1), l1, i1), a1, n1, c1) ((((k2, y2), d2), l2, i2), a2, n2, c2) = C := ⟨_, rfl⟩
      rw [hC] at HCm HM1
      have hk8 : (k : Int) < xs.length := by omega
      clear hC hf hrow HM HD
      by_cases hcn : C < 0
      · have HM2 : Hid (minL fs x0 (xs.drop 1) = minL fs ((((k1, y1), d1), l1, i1), a1, n1, c1) (xs.drop (k + 1))) := by show minL fs x0 (xs.drop 1) = _; rw [HM1.out, if_pos hcn]
        clear HM1
        go_wp2_with fail
        refine wp_region_held_drew (S := fun w' => Below wr.heap.size wr w') (by kernel_rfl) (Below.refl _ _).drew (fun hHeld => ?_)
        refine wpAnyH_take (i := 0) (v := .func (.func 105) #[.slice (some ⟨B, 0, none⟩) fs.length c] #[]) rfl (by kernel_rfl) (by kernel_rfl) (by kernel_rfl) (fun _ _ _ h => h) (Or.inl ⟨by rfl, fun w' h => by go_simp⟩) (by assumption) ?_
        try simp only [Act.put, List.getElem_toArray, List.getElem_cons_zero, List.getElem_cons_succ, List.setIfInBounds_toArray, List.set_cons_zero, List.set_cons_succ]
        refine wpAnyH_take (i := 1) (v := .slice (some ⟨b, o, none⟩) xs.length cx) rfl (by kernel_rfl) (by kernel_rfl) (by kernel_rfl) (fun _ _ _ h => h) (Or.inl ⟨by rfl, fun w' h => by go_simp⟩) (by assumption) ?_
        try simp only [Act.put, List.getElem_toArray, List.getElem_cons_zero, List.getElem_cons_succ, List.setIfInBounds_toArray, List.set_cons_zero, List.set_cons_succ]
        refine wpAnyH_take (i := 2) (v := .int .i64 k) rfl (by kernel_rfl) (by kernel_rfl) (by kernel_rfl) (fun _ _ _ h => h) (Or.inl ⟨by rfl, fun w' h => by go_simp⟩) (by assumption) ?_
        try simp only [Act.put, List.getElem_toArray, List.getElem_cons_zero, List.getElem_cons_succ, List.setIfInBounds_toArray, List.set_cons_zero, List.set_cons_succ]
        refine wpAnyH_take (i := 3) (v := .pointer (some ⟨b, o + k * 6, none⟩)) rfl (by kernel_rfl) (by kernel_rfl) (by kernel_rfl) (fun _ _ _ h => h) (Or.inl ⟨by rfl, fun w' h => by go_simp⟩) (by assumption) ?_
        try simp only [Act.put, List.getElem_toArray, List.getElem_cons_zero, List.getElem_cons_succ, List.setIfInBounds_toArray, List.set_cons_zero, List.set_cons_succ]
        refine wpAnyH_take (i := 4) (v := .agg #[.int .u8 k1, .int .i16 y1, .int .i64 d1, .int .i64 l1, .int .i64 i1, .slice a1 n1 c1]) rfl (by kernel_rfl) (by kernel_rfl) (by kernel_rfl) (fun _ _ _ h => h) (Or.inl ⟨by rfl, fun w' h => by have HM := rangeAt_below HRow.out h hbl; have g0 : w'.cell? ⟨b, o + k * 6, none⟩ = some (.int .u8 k1) := HM 0 _ rfl; have g1 : w'.cell? ⟨b, o + k * 6 + 1, none⟩ = some (.int .i16 y1) := HM 1 _ rfl; have g2 : w'.cell? ⟨b, o + k * 6 + 2, none⟩ = some (.int .i64 d1) := HM 2 _ rfl; have g3 : w'.cell? ⟨b, o + k * 6 + 3, none⟩ = some (.int .i64 l1) := HM 3 _ rfl; have g4 : w'.cell? ⟨b, o + k * 6 + 4, none⟩ = some (.int .i64 i1) := HM 4 _ rfl; have g5 : w'.cell? ⟨b, o + k * 6 + 5, none⟩ = some (.slice a1 n1 c1) := HM 5 _ rfl; go_simp⟩) (by assumption) ?_
        try simp only [Act.put, List.getElem_toArray, List.getElem_cons_zero, List.getElem_cons_succ, List.setIfInBounds_toArray, List.set_cons_zero, List.set_cons_succ]
        refine wpAnyH_take (i := 5) (v := .agg #[.int .u8 k2, .int .i16 y2, .int .i64 d2, .int .i64 l2, .int .i64 i2, .slice a2 n2 c2]) rfl (by kernel_rfl) (by kernel_rfl) (by kernel_rfl) (fun _ _ _ h => h) (Or.inl ⟨by rfl, fun w' h => by have HM := (HK.out.below h HK.out.lt); have g0 : w'.cell? ⟨w.heap.size + 1, 0, none⟩ = some (.int .u8 k2) := HM.cell 0; have g1 : w'.cell? ⟨w.heap.size + 1, 1, none⟩ = some (.int .i16 y2) := HM.cell 1; have g2 : w'.cell? ⟨w.heap.size + 1, 2, none⟩ = some (.int .i64 d2) := HM.cell 2; have g3 : w'.cell? ⟨w.heap.size + 1, 3, none⟩ = some (.int .i64 l2) := HM.cell 3; have g4 : w'.cell? ⟨w.heap.size + 1, 4, none⟩ = some (.int .i64 i2) := HM.cell 4; have g5 : w'.cell? ⟨w.heap.size + 1, 5, none⟩ = some (.slice a2 n2 c2) := HM.cell 5; go_simp⟩) (by assumption) ?_
        try simp only [Act.put, List.getElem_toArray, List.getElem_cons_zero, List.getElem_cons_succ, List.setIfInBounds_toArray, List.set_cons_zero, List.set_cons_succ]
        obtain ⟨D0, hD0⟩ : ∃ D0, wr.drew = D0 := ⟨_, rfl⟩
        rw [hD0] at hHeld ⊢
        clear hD0
        refine wpAnyH_ready (rs := [6]) (by kernel_rfl) (by simp) ?_
        refine AllReadyH.cons rfl (fun K hK => ?_) AllReadyH.nil
        refine if_wanted rfl ?_
        go_simp
        refine (HCm.out _ (HB.out.trans (hHeld.mono HB.out.size))).mono ?_
        rintro e z1 ⟨rfl, hb⟩
        have hH2 : Below wr.heap.size wr z1 := hHeld.trans (hb.mono hHeld.size)
        clear hb hHeld
        dsimp only
        refine hK.out _ _ hH2 (fun hHeld => ?_)
        clear hK K hH2
        try simp only [Act.put, List.getElem_toArray, List.getElem_cons_zero, List.getElem_cons_succ, List.setIfInBounds_toArray, List.set_cons_zero, List.set_cons_succ]
        refine wpAnyH_take (i := 7) (v := .bool true) rfl (by kernel_rfl) (by kernel_rfl) (by kernel_rfl) (fun _ _ _ h => h) (Or.inl ⟨by rfl, fun w' h => by go_simp⟩) (by assumption) ?_
        try simp only [Act.put, List.getElem_toArray, List.getElem_cons_zero, List.getElem_cons_succ, List.setIfInBounds_toArray, List.set_cons_zero, List.set_cons_succ]
        refine wpAnyH_done (by kernel_rfl) ?_ _
        try simp only [Act.put, List.getElem_toArray, List.getElem_cons_zero, List.getElem_cons_succ, List.setIfInBounds_toArray, List.set_cons_zero, List.set_cons_succ]
        have hb := hHeld
        clear hHeld
        have HB2 : Hid (Below w.heap.size w z1) := HB.out.trans (hb.mono HB.out.size)
        have hK2 := HK.out.below hb HK.out.lt
        have HKZ2 := Lib.hid (HKZ.out.below hb HKZ.out.lt)
        have HK2 := Lib.hid hK2
        obtain ⟨D1, D2, D3, D4, D5, D6⟩ := rowSp (rangeAt_below HRow.out hb hbl)
        dsimp only at D1 D2 D3 D4 D5 D6
        have e0 : z1.cell? ⟨w.heap.size + 1, 0, none⟩ = some (.int .u8 k2) := hK2.cell 0
        have f0 : z1.frozen? ⟨w.heap.size + 1, 0, none⟩ = false := hK2.frozen 0
        have e1 : z1.cell? ⟨w.heap.size + 1, 1, none⟩ = some (.int .i16 y2) := hK2.cell 1
        have f1 : z1.frozen? ⟨w.heap.size + 1, 1, none⟩ = false := hK2.frozen 1
        have e2 : z1.cell? ⟨w.heap.size + 1, 2, none⟩ = some (.int .i64 d2) := hK2.cell 2
        have f2 : z1.frozen? ⟨w.heap.size + 1, 2, none⟩ = false := hK2.frozen 2
        have e3 : z1.cell? ⟨w.heap.size + 1, 3, none⟩ = some (.int .i64 l2) := hK2.cell 3
        have f3 : z1.frozen? ⟨w.heap.size + 1, 3, none⟩ = false := hK2.frozen 3
        have e4 : z1.cell? ⟨w.heap.size + 1, 4, none⟩ = some (.int .i64 i2) := hK2.cell 4
        have f4 : z1.frozen? ⟨w.heap.size + 1, 4, none⟩ = false := hK2.frozen 4
        have e5 : z1.cell? ⟨w.heap.size + 1, 5, none⟩ = some (.slice a2 n2 c2) := hK2.cell 5
        have f5 : z1.frozen? ⟨w.heap.size + 1, 5, none⟩ = false := hK2.frozen 5
        clear hb hK2 HKZ HK HB
        go_wp2
        go_roundw
        case rel => exact ⟨k + 1, ((((k1, y1), d1), l1, i1), a1, n1, c1), by omega, by omega, by go_num, HM2.out, HSx.out, ((((((HKZ2.out.far (p := ⟨w.heap.size + 1, 0, none⟩) (by show w.heap.size ≠ w.heap.size + 1; omega) _).far (p := ⟨w.heap.size + 1, 1, none⟩) (by show w.heap.size ≠ w.heap.size + 1; omega) _).far (p := ⟨w.heap.size + 1, 2, none⟩) (by show w.heap.size ≠ w.heap.size + 1; omega) _).far (p := ⟨w.heap.size + 1, 3, none⟩) (by show w.heap.size ≠ w.heap.size + 1; omega) _).far (p := ⟨w.heap.size + 1, 4, none⟩) (by show w.heap.size ≠ w.heap.size + 1; omega) _).far (p := ⟨w.heap.size + 1, 5, none⟩) (by show w.heap.size ≠ w.heap.size + 1; omega) _), by simpa [spcells] using ((((((HK2.out.set_ 0 (.int .u8 k1)).set_ 1 (.int .i16 y1)).set_ 2 (.int .i64 d1)).set_ 3 (.int .i64 l1)).set_ 4 (.int .i64 i1)).set_ 5 (.slice a1 n1 c1)), ((((((HB2.out.setCell (p := ⟨w.heap.size + 1, 0, none⟩) (by show w.heap.size ≤ w.heap.size + 1; omega) _).setCell (p := ⟨w.heap.size + 1, 1, none⟩) (by show w.heap.size ≤ w.heap.size + 1; omega) _).setCell (p := ⟨w.heap.size + 1, 2, none⟩) (by show w.heap.size ≤ w.heap.size + 1; omega) _).setCell (p := ⟨w.heap.size + 1, 3, none⟩) (by show w.heap.size ≤ w.heap.size + 1; omega) _).setCell (p := ⟨w.heap.size + 1, 4, none⟩) (by show w.heap.size ≤ w.heap.size + 1; omega) _).setCell (p := ⟨w.heap.size + 1, 5, none⟩) (by show w.heap.size ≤ w.heap.size + 1; omega) _)⟩
        case measure => simp [intOf]; omega
      · have HM2 : Hid (minL fs x0 (xs.drop 1) = minL fs ((((k2, y2), d2), l2, i2), a2, n2, c2) (xs.drop (k + 1))) := by show minL fs x0 (xs.drop 1) = _; rw [HM1.out, if_neg hcn]
        clear HM1
        go_wp2_with fail
        refine wp_region_held_drew (S := fun w' => Below wr.heap.size wr w') (by kernel_rfl) (Below.refl _ _).drew (fun hHeld => ?_)
        refine wpAnyH_take (i := 0) (v := .func (.func 105) #[.slice (some ⟨B, 0, none⟩) fs.length c] #[]) rfl (by kernel_rfl) (by kernel_rfl) (by kernel_rfl) (fun _ _ _ h => h) (Or.inl ⟨by rfl, fun w' h => by go_simp⟩) (by assumption) ?_
        try simp only [Act.put, List.getElem_toArray, List.getElem_cons_zero, List.getElem_cons_succ, List.setIfInBounds_toArray, List.set_cons_zero, List.set_cons_succ]
        refine wpAnyH_take (i := 1) (v := .slice (some ⟨b, o, none⟩) xs.length cx) rfl (by kernel_rfl) (by kernel_rfl) (by kernel_rfl) (fun _ _ _ h => h) (Or.inl ⟨by rfl, fun w' h => by go_simp⟩) (by assumption) ?_
        try simp only [Act.put, List.getElem_toArray, List.getElem_cons_zero, List.getElem_cons_succ, List.setIfInBounds_toArray, List.set_cons_zero, List.set_cons_succ]
        refine wpAnyH_take (i := 2) (v := .int .i64 k) rfl (by kernel_rfl) (by kernel_rfl) (by kernel_rfl) (fun _ _ _ h => h) (Or.inl ⟨by rfl, fun w' h => by go_simp⟩) (by assumption) ?_
        try simp only [Act.put, List.getElem_toArray, List.getElem_cons_zero, List.getElem_cons_succ, List.setIfInBounds_toArray, List.set_cons_zero, List.set_cons_succ]
        refine wpAnyH_take (i := 3) (v := .pointer (some ⟨b, o + k * 6, none⟩)) rfl (by kernel_rfl) (by kernel_rfl) (by kernel_rfl) (fun _ _ _ h => h) (Or.inl ⟨by rfl, fun w' h => by go_simp⟩) (by assumption) ?_
        try simp only [Act.put, List.getElem_toArray, List.getElem_cons_zero, List.getElem_cons_succ, List.setIfInBounds_toArray, List.set_cons_zero, List.set_cons_succ]
        refine wpAnyH_take (i := 4) (v := .agg #[.int .u8 k1, .int .i16 y1, .int .i64 d1, .int .i64 l1, .int .i64 i1, .slice a1 n1 c1]) rfl (by kernel_rfl) (by kernel_rfl) (by kernel_rfl) (fun _ _ _ h => h) (Or.inl ⟨by rfl, fun w' h => by have HM := rangeAt_below HRow.out h hbl; have g0 : w'.cell? ⟨b, o + k * 6, none⟩ = some (.int .u8 k1) := HM 0 _ rfl; have g1 : w'.cell? ⟨b, o + k * 6 + 1, none⟩ = some (.int .i16 y1) := HM 1 _ rfl; have g2 : w'.cell? ⟨b, o + k * 6 + 2, none⟩ = some (.int .i64 d1) := HM 2 _ rfl; have g3 : w'.cell? ⟨b, o + k * 6 + 3, none⟩ = some (.int .i64 l1) := HM 3 _ rfl; have g4 : w'.cell? ⟨b, o + k * 6 + 4, none⟩ = some (.int .i64 i1) := HM 4 _ rfl; have g5 : w'.cell? ⟨b, o + k * 6 + 5, none⟩ = some (.slice a1 n1 c1) := HM 5 _ rfl; go_simp⟩) (by assumption) ?_
        try simp only [Act.put, List.getElem_toArray, List.getElem_cons_zero, List.getElem_cons_succ, List.setIfInBounds_toArray, List.set_cons_zero, List.set_cons_succ]
        refine wpAnyH_take (i := 5) (v := .agg #[.int .u8 k2, .int .i16 y2, .int .i64 d2, .int .i64 l2, .int .i64 i2, .slice a2 n2 c2]) rfl (by kernel_rfl) (by kernel_rfl) (by kernel_rfl) (fun _ _ _ h => h) (Or.inl ⟨by rfl, fun w' h => by have HM := (HK.out.below h HK.out.lt); have g0 : w'.cell? ⟨w.heap.size + 1, 0, none⟩ = some (.int .u8 k2) := HM.cell 0; have g1 : w'.cell? ⟨w.heap.size + 1, 1, none⟩ = some (.int .i16 y2) := HM.cell 1; have g2 : w'.cell? ⟨w.heap.size + 1, 2, none⟩ = some (.int .i64 d2) := HM.cell 2; have g3 : w'.cell? ⟨w.heap.size + 1, 3, none⟩ = some (.int .i64 l2) := HM.cell 3; have g4 : w'.cell? ⟨w.heap.size + 1, 4, none⟩ = some (.int .i64 i2) := HM.cell 4; have g5 : w'.cell? ⟨w.heap.size + 1, 5, none⟩ = some (.slice a2 n2 c2) := HM.cell 5; go_simp⟩) (by assumption) ?_
        try simp only [Act.put, List.getElem_toArray, List.getElem_cons_zero, List.getElem_cons_succ, List.setIfInBounds_toArray, List.set_cons_zero, List.set_cons_succ]
        obtain ⟨D0, hD0⟩ : ∃ D0, wr.drew = D0 := ⟨_, rfl⟩
        rw [hD0] at hHeld ⊢
        clear hD0
        refine wpAnyH_ready (rs := [6]) (by kernel_rfl) (by simp) ?_
        refine AllReadyH.cons rfl (fun K hK => ?_) AllReadyH.nil
        refine if_wanted rfl ?_
        go_simp
        refine (HCm.out _ (HB.out.trans (hHeld.mono HB.out.size))).mono ?_
        rintro e z1 ⟨rfl, hb⟩
        have hH2 : Below wr.heap.size wr z1 := hHeld.trans (hb.mono hHeld.size)
        clear hb hHeld
        dsimp only
        refine hK.out _ _ hH2 (fun hHeld => ?_)
        clear hK K hH2
        try simp only [Act.put, List.getElem_toArray, List.getElem_cons_zero, List.getElem_cons_succ, List.setIfInBounds_toArray, List.set_cons_zero, List.set_cons_succ]
        refine wpAnyH_take (i := 7) (v := .bool false) rfl (by kernel_rfl) (by kernel_rfl) (by kernel_rfl) (fun _ _ _ h => h) (Or.inl ⟨by rfl, fun w' h => by go_simp⟩) (by assumption) ?_
        try simp only [Act.put, List.getElem_toArray, List.getElem_cons_zero, List.getElem_cons_succ, List.setIfInBounds_toArray, List.set_cons_zero, List.set_cons_succ]
        refine wpAnyH_done (by kernel_rfl) ?_ _
        try simp only [Act.put, List.getElem_toArray, List.getElem_cons_zero, List.getElem_cons_succ, List.setIfInBounds_toArray, List.set_cons_zero, List.set_cons_succ]
        have hb := hHeld
        clear hHeld
        have HB2 : Hid (Below w.heap.size w z1) := HB.out.trans (hb.mono HB.out.size)
        have HK2 := Lib.hid (HK.out.below hb HK.out.lt)
        have HKZ2 := Lib.hid (HKZ.out.below hb HKZ.out.lt)
        clear hb HKZ HK HB
        go_wp2
        go_roundw
        case rel => exact ⟨k + 1, ((((k2, y2), d2), l2, i2), a2, n2, c2), by omega, by omega, by go_num, HM2.out, HMx.out, HKZ2.out, HK2.out, HB2.out⟩
        case measure => simp [intOf]; omega
    · obtain rfl : k = xs.length := by omega
      have HM3 : Hid (minL fs x0 (xs.drop 1) = ((((k2, y2), d2), l2, i2), a2, n2, c2)) := by show minL fs x0 (xs.drop 1) = _; rw [HM.out, List.drop_length]; rfl
      have e0 : wr.cell? ⟨w.heap.size + 1, 0, none⟩ = some (.int .u8 k2) := HK.out.cell 0
      have e1 : wr.cell? ⟨w.heap.size + 1, 1, none⟩ = some (.int .i16 y2) := HK.out.cell 1
      have e2 : wr.cell? ⟨w.heap.size + 1, 2, none⟩ = some (.int .i64 d2) := HK.out.cell 2
      have e3 : wr.cell? ⟨w.heap.size + 1, 3, none⟩ = some (.int .i64 l2) := HK.out.cell 3
      have e4 : wr.cell? ⟨w.heap.size + 1, 4, none⟩ = some (.int .i64 i2) := HK.out.cell 4
      have e5 : wr.cell? ⟨w.heap.size + 1, 5, none⟩ = some (.slice a2 n2 c2) := HK.out.cell 5
      have z0 : wr.cell? ⟨w.heap.size, 0, none⟩ = some (.int .u8 0) := HKZ.out.cell 0
      have f0 : wr.frozen? ⟨w.heap.size, 0, none⟩ = false := HKZ.out.frozen 0
      have z1 : wr.cell? ⟨w.heap.size, 1, none⟩ = some (.int .i16 0) := HKZ.out.cell 1
      have f1 : wr.frozen? ⟨w.heap.size, 1, none⟩ = false := HKZ.out.frozen 1
      have z2 : wr.cell? ⟨w.heap.size, 2, none⟩ = some (.int .i64 0) := HKZ.out.cell 2
      have f2 : wr.frozen? ⟨w.heap.size, 2, none⟩ = false := HKZ.out.frozen 2
      have z3 : wr.cell? ⟨w.heap.size, 3, none⟩ = some (.int .i64 0) := HKZ.out.cell 3
      have f3 : wr.frozen? ⟨w.heap.size, 3, none⟩ = false := HKZ.out.frozen 3
      have z4 : wr.cell? ⟨w.heap.size, 4, none⟩ = some (.int .i64 0) := HKZ.out.cell 4
      have f4 : wr.frozen? ⟨w.heap.size, 4, none⟩ = false := HKZ.out.frozen 4
      have z5 : wr.cell? ⟨w.heap.size, 5, none⟩ = some (.slice none 0 0) := HKZ.out.cell 5
      have f5 : wr.frozen? ⟨w.heap.size, 5, none⟩ = false := HKZ.out.frozen 5
      have hd1 : w.heap.size ≠ w.heap.size + 1 := by omega
      go_wp2
      refine bodyPost_ret (v := .agg #[.int .u8 k2, .int .i16 y2, .int .i64 d2, .int .i64 l2, .int .i64 i2, .slice a2 n2 c2]) (by simp [results, Tryd.results104, go_sem, *]) rfl ?_
      exact ⟨by (rw [HMn.out, HM3.out]; rfl), ((((((HB.out.setCell (p := ⟨w.heap.size, 0, none⟩) (Nat.le_refl _) _).setCell (p := ⟨w.heap.size, 1, none⟩) (Nat.le_refl _) _).setCell (p := ⟨w.heap.size, 2, none⟩) (Nat.le_refl _) _).setCell (p := ⟨w.heap.size, 3, none⟩) (Nat.le_refl _) _).setCell (p := ⟨w.heap.size, 4, none⟩) (Nat.le_refl _) _).setCell (p := ⟨w.heap.size, 5, none⟩) (Nat.le_refl _) _)⟩
end Go.Proofs.YtmfdgpinohbckaaDoor
