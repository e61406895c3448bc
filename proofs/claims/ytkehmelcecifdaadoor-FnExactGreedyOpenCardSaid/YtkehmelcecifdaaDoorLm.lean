/-
  The contracts of the model's l02Useful, l02Asked, l02Opened, UsefulIn, ShortIn, CanFill, LackBehind and CheckOpen. Condition: the lists read as crates, wants and numbers, which fit their kinds.
-/
import Derived.Test.YtkehmelcecifdaaDoorLl
import Derived.Test.YtkehmelcecifdaaDoorVs
import Derived.Test.YtkehmelcecifdaaDoorMg9
namespace Go.Proofs.YtkehmelcecifdaaDoor
open Go.ChangeShapes Go.WideShapes Go.ChangeAt Go.RowKit Go.Deep

theorem ordOk_mem {xs : List Wnt} (h : ordOk xs = true) : ∀ x ∈ xs, vW x = true := by
  intro x hx
  obtain ⟨k, hk, rfl⟩ := List.mem_iff_getElem.1 hx
  simp only [ordOk, Bool.and_eq_true, List.all_eq_true, List.mem_range] at h
  have := h.1 k hk
  rw [okAt, List.getElem?_eq_getElem hk] at this
  simp only [Bool.and_eq_true] at this
  exact this.1
theorem ordOk_len {xs : List Wnt} (h : ordOk xs = true) : xs.length ≤ 8 := by
  simp only [ordOk, Bool.and_eq_true, decide_eq_true_eq] at h
  exact h.2
theorem ordOk_eB {xs : List Wnt} (h : ordOk xs = true) : ∀ x ∈ xs, eB x.1 = false := fun x hx => by
  have := ordOk_mem h x hx
  simp only [vW, Bool.and_eq_true] at this
  exact vB_eB this.1
theorem okS_len {xs : List Crt} (h : okS xs = true) : xs.length ≤ 12 := by
  simp only [okS, Bool.and_eq_true, decide_eq_true_eq] at h
  exact h.2
/-- How many bottles an order can use, of its first k wants. -/
def usTo (f : Bot → Nat) (ord : List Wnt) : Nat → Int
  | 0 => 0
  | k + 1 => usTo f ord k + (match ord[k]? with | some x => min x.2 (f x.1) | none => 0)
theorem usTo_succ {f : Bot → Nat} {ord : List Wnt} {k : Nat} {x : Wnt} (h : ord[k]? = some x) : usTo f ord (k + 1) = usTo f ord k + min x.2 (f x.1) := by simp [usTo, h]
theorem usTo_bound {f : Bot → Nat} {ord : List Wnt} (hw : ∀ x ∈ ord, wfW x) (k : Nat) : -(32768 * (k : Int)) ≤ usTo f ord k ∧ usTo f ord k ≤ 32768 * (k : Int) := by
  induction k with
  | zero => simp [usTo]
  | succ k ih =>
    cases h : ord[k]? with
    | none => simp only [usTo, h]; omega
    | some x =>
      have hx := (hw x (List.mem_of_getElem? h)).2
      rw [usTo_succ h]
      have : (0 : Int) ≤ (f x.1 : Int) := Int.natCast_nonneg _
      omega
def askOk (xs : List Crt) (ord : List Wnt) : Bool := okS xs && ordOk ord
def askC (xs : List Crt) (ord : List Wnt) : Int := if askOk xs ord = true then 0 else 1
def inR (n : Nat) (cr : List Int) : Bool := cr.all fun i => decide (0 ≤ i) && decide (i < n)
theorem inR_mem {n : Nat} {cr : List Int} (h : inR n cr = true) : ∀ i ∈ cr, 0 ≤ i ∧ i < n := fun i hi => by
  have := List.all_eq_true.1 h i hi
  simpa only [Bool.and_eq_true, decide_eq_true_eq] using this
theorem inR_no {n : Nat} {cr : List Int} {k : Nat} {i : Int} (h : cr[k]? = some i) (hi : ¬ (0 ≤ i ∧ i < n)) : inR n cr = false := by
  rw [inR, List.all_eq_false]
  exact ⟨i, List.mem_of_getElem? h, by simp only [Bool.and_eq_true, decide_eq_true_eq]; exact hi⟩
theorem inR_all {n : Nat} {cr : List Int} (h : ∀ j i, j < cr.length → cr[j]? = some i → 0 ≤ i ∧ i < n) : inR n cr = true := by
  rw [inR, List.all_eq_true]
  intro i hi
  obtain ⟨k, hk, rfl⟩ := List.mem_iff_getElem.1 hi
  simpa only [Bool.and_eq_true, decide_eq_true_eq] using h k _ hk (List.getElem?_eq_getElem hk)
def opC (xs : List Crt) (ord : List Wnt) (cr : List Int) : Int := if askOk xs ord = true then (if inR xs.length cr = true then 0 else 2) else 1
/-- What ShortIn, LackBehind, UsefulIn answer. -/
def siL (xs : List Crt) (ord : List Wnt) : List Wnt := if askOk xs ord = true then lack (cntAll xs) ord else []
def lbL (xs : List Crt) (ord : List Wnt) (cr : List Int) : List Wnt := if opC xs ord cr = 0 then lack (cntOf xs cr) ord else []
def cfB (xs : List Crt) (ord : List Wnt) : Bool := askOk xs ord && decide ((lack (cntAll xs) ord).length = 0)
def coB (xs : List Crt) (ord : List Wnt) (cr : List Int) : Bool := decide (opC xs ord cr = 0) && decide ((lack (cntOf xs cr) ord).length = 0)
def uiOk (x : Crt) (ord : List Wnt) : Bool := okC x.1 && ordOk ord
def uiN (x : Crt) (ord : List Wnt) : Int := if uiOk x ord = true then usTo (mult x) ord ord.length else 0
def uiC (x : Crt) (ord : List Wnt) : Int := if uiOk x ord = true then 0 else 1
theorem ask_yes {xs : List Crt} {ord : List Wnt} (h : askOk xs ord = true) : okS xs = true ∧ ordOk ord = true := by simpa [askOk] using h
theorem si_yes {xs : List Crt} {ord : List Wnt} (h : askOk xs ord = true) : siL xs ord = lack (cntAll xs) ord ∧ askC xs ord = 0 ∧ cfB xs ord = decide ((lack (cntAll xs) ord).length = 0) := by simp [siL, askC, cfB, h]
theorem si_no {xs : List Crt} {ord : List Wnt} (h : askOk xs ord = false) : siL xs ord = [] ∧ askC xs ord = 1 ∧ cfB xs ord = false := by simp [siL, askC, cfB, h]
theorem op_yes {xs : List Crt} {ord : List Wnt} {cr : List Int} (h : opC xs ord cr = 0) : askOk xs ord = true ∧ inR xs.length cr = true ∧ lbL xs ord cr = lack (cntOf xs cr) ord ∧ coB xs ord cr = decide ((lack (cntOf xs cr) ord).length = 0) := by
  have h' := h
  unfold opC at h
  cases ha : askOk xs ord <;> cases hi : inR xs.length cr <;> simp [ha, hi] at h
  simp [lbL, coB, h']
theorem op_no {xs : List Crt} {ord : List Wnt} {cr : List Int} (h : opC xs ord cr ≠ 0) : lbL xs ord cr = [] ∧ coB xs ord cr = false := by simp [lbL, coB, h]
theorem op_cases (xs : List Crt) (ord : List Wnt) (cr : List Int) : opC xs ord cr = 0 ∨ opC xs ord cr = 1 ∨ opC xs ord cr = 2 := by
  unfold opC; split
  · split <;> simp
  · simp
theorem ui_yes {x : Crt} {ord : List Wnt} (h : uiOk x ord = true) : uiN x ord = usTo (mult x) ord ord.length ∧ uiC x ord = 0 := by simp [uiN, uiC, h]
theorem ui_no {x : Crt} {ord : List Wnt} (h : uiOk x ord = false) : uiN x ord = 0 ∧ uiC x ord = 1 := by simp [uiN, uiC, h]

set_option maxRecDepth 100000 in
set_option maxHeartbeats 4000000 in
theorem l02Useful_any (x : Crt) (ord : List Wnt) (B o : Nat) (A2 : Option Addr) (c2 : Nat) (w : World) (hl2 : ord.length ≤ 1048576)
    (hw : ∀ x ∈ ord, wfW x) (hv : ∀ x ∈ ord, eB x.1 = false) (hBl : B < w.heap.size) (hB : w.rangeAt B o (ccells x.1)) (hr2 : Rd w w.heap.size wcells A2 ord) :
    Calls Tryd.prog 63 #[.pointer (some ⟨B, o, none⟩), .slice A2 ord.length c2] w fun e w' => e = .returned (.int .i64 (usTo (mult x) ord ord.length)) ∧ Below w.heap.size w w' := by
  have HR := Lib.hid hB
  have HR2 := Lib.hid hr2
  have HW := Lib.hid hw
  have HV := Lib.hid hv
  have HBl : Hid (B < w.heap.size) := hBl
  clear hB hr2 hw hv
  go_enter Tryd.func63, Tryd.ntmps63
  go_wp2_with fail
  go_loopw [5, 6] (fun s i wr => ∃ k : Nat, k ≤ ord.length ∧ i = .int .i64 k ∧ s = .int .i64 (usTo (mult x) ord k) ∧ Below w.heap.size w wr) (fun _ i _ => ord.length - (intOf i).toNat)
  case atStart => exact ⟨0, by omega, rfl, rfl, Below.refl _ _⟩
  case round =>
    obtain ⟨k, hk, rfl, rfl, hb⟩ := hrel
    have Hb := Lib.hid hb
    clear hb
    by_cases hlt : k < ord.length
    · obtain ⟨⟨⟨k1, y1⟩, n1⟩, hx⟩ : ∃ x, ord[k]? = some x := ⟨_, List.getElem?_eq_getElem hlt⟩
      have hwx := HW.out _ (List.mem_of_getElem? hx)
      have HE1 : Hid (eB (k1, y1) = false) := HV.out _ (List.mem_of_getElem? hx)
      obtain ⟨b2, o2, rfl, hbl2, hrow2⟩ := HR2.out.at_ wcells_length hx
      have HRow2 := Lib.hid hrow2
      have HX := Lib.hid hx
      have HBl2 : Hid (b2 < w.heap.size) := hbl2
      have hk0 : (0 : Int) ≤ (k : Int) := Int.natCast_nonneg _
      have hk8 : (k : Int) < ord.length := by omega
      have hn1 : -32768 ≤ n1 := hwx.2.1
      have hn2 : n1 ≤ 32767 := hwx.2.2
      have hbd := usTo_bound (f := mult x) HW.out k
      have hmul := mult_le x (k1, y1)
      have HSt := Lib.hid (usTo_succ (f := mult x) hx)
      clear hx hwx hrow2 hbl2
      obtain ⟨un, hun⟩ : ∃ n, usTo (mult x) ord k = n := ⟨_, rfl⟩
      rw [hun] at hbd HSt ⊢
      clear hun
      obtain ⟨mn, hmn⟩ : ∃ n, mult x (k1, y1) = n := ⟨_, rfl⟩
      have HMn := Lib.hid hmn
      rw [hmn] at hmul
      have HSt2 : Hid (usTo (mult x) ord (k + 1) = un + min n1 (mn : Int)) := by rw [← hmn]; exact HSt.out
      clear hmn HSt
      have hs1 : IntKind.i64.wrap (un + min n1 (mn : Int)) = un + min n1 (mn : Int) := IntWalk.i64_in _ ⟨by omega, by omega⟩
      have hs2 : wrap64 (un + min n1 (mn : Int)) = un + min n1 (mn : Int) := IntWalk.wrap64_in _ ⟨by omega, by omega⟩
      go_wp2_with fail
      refine wp_region_held_drew (S := fun w' => Below wr.heap.size wr w') (by kernel_rfl) (Below.refl _ _).drew (fun hHeld => ?_)
      refine wpAnyH_take (i := 0) (v := .int .i64 un) rfl (by kernel_rfl) (by kernel_rfl) (by kernel_rfl) (fun _ _ _ h => h) (Or.inl ⟨by rfl, fun w' h => by go_simp⟩) (by assumption) ?_
      try simp only [Act.put, List.getElem_toArray, List.getElem_cons_zero, List.getElem_cons_succ, List.setIfInBounds_toArray, List.set_cons_zero, List.set_cons_succ]
      refine wpAnyH_take (i := 1) (v := .slice (some ⟨b2, o2, none⟩) ord.length c2) rfl (by kernel_rfl) (by kernel_rfl) (by kernel_rfl) (fun _ _ _ h => h) (Or.inl ⟨by rfl, fun w' h => by go_simp⟩) (by assumption) ?_
      try simp only [Act.put, List.getElem_toArray, List.getElem_cons_zero, List.getElem_cons_succ, List.setIfInBounds_toArray, List.set_cons_zero, List.set_cons_succ]
      refine wpAnyH_take (i := 2) (v := .int .i64 k) rfl (by kernel_rfl) (by kernel_rfl) (by kernel_rfl) (fun _ _ _ h => h) (Or.inl ⟨by rfl, fun w' h => by go_simp⟩) (by assumption) ?_
      try simp only [Act.put, List.getElem_toArray, List.getElem_cons_zero, List.getElem_cons_succ, List.setIfInBounds_toArray, List.set_cons_zero, List.set_cons_succ]
      refine wpAnyH_take (i := 3) (v := .pointer (some ⟨b2, o2 + k * 3, none⟩)) rfl (by kernel_rfl) (by kernel_rfl) (by kernel_rfl) (fun _ _ _ h => h) (Or.inl ⟨by rfl, fun w' h => by go_simp⟩) (by assumption) ?_
      try simp only [Act.put, List.getElem_toArray, List.getElem_cons_zero, List.getElem_cons_succ, List.setIfInBounds_toArray, List.set_cons_zero, List.set_cons_succ]
      refine wpAnyH_take (i := 4) (v := .pointer (some ⟨b2, o2 + k * 3 + 2, none⟩)) rfl (by kernel_rfl) (by kernel_rfl) (by kernel_rfl) (fun _ _ _ h => h) (Or.inl ⟨by rfl, fun w' h => by go_simp⟩) (by assumption) ?_
      try simp only [Act.put, List.getElem_toArray, List.getElem_cons_zero, List.getElem_cons_succ, List.setIfInBounds_toArray, List.set_cons_zero, List.set_cons_succ]
      refine wpAnyH_take (i := 5) (v := .int .i16 n1) rfl (by kernel_rfl) (by kernel_rfl) (by kernel_rfl) (fun _ _ _ h => h) (Or.inl ⟨by rfl, fun w' h => by obtain ⟨f1, f2, f3⟩ := rowW (rangeAt_below HRow2.out (Hb.out.trans (h.mono Hb.out.size)) HBl2.out); go_simp⟩) (by assumption) ?_
      try simp only [Act.put, List.getElem_toArray, List.getElem_cons_zero, List.getElem_cons_succ, List.setIfInBounds_toArray, List.set_cons_zero, List.set_cons_succ]
      refine wpAnyH_take (i := 6) (v := .int .i64 n1) rfl (by kernel_rfl) (by kernel_rfl) (by kernel_rfl) (fun _ _ _ h => h) (Or.inl ⟨by rfl, fun w' h => by have hw64 : IntKind.i64.wrap n1 = n1 := IntWalk.i64_in _ ⟨by omega, by omega⟩; have hw64' : wrap64 n1 = n1 := IntWalk.wrap64_in _ ⟨by omega, by omega⟩; go_simp⟩) (by assumption) ?_
      try simp only [Act.put, List.getElem_toArray, List.getElem_cons_zero, List.getElem_cons_succ, List.setIfInBounds_toArray, List.set_cons_zero, List.set_cons_succ]
      refine wpAnyH_take (i := 7) (v := .pointer (some ⟨B, o, none⟩)) rfl (by kernel_rfl) (by kernel_rfl) (by kernel_rfl) (fun _ _ _ h => h) (Or.inl ⟨by rfl, fun w' h => by go_simp⟩) (by assumption) ?_
      try simp only [Act.put, List.getElem_toArray, List.getElem_cons_zero, List.getElem_cons_succ, List.setIfInBounds_toArray, List.set_cons_zero, List.set_cons_succ]
      refine wpAnyH_take (i := 8) (v := .slice (some ⟨b2, o2, none⟩) ord.length c2) rfl (by kernel_rfl) (by kernel_rfl) (by kernel_rfl) (fun _ _ _ h => h) (Or.inl ⟨by rfl, fun w' h => by go_simp⟩) (by assumption) ?_
      try simp only [Act.put, List.getElem_toArray, List.getElem_cons_zero, List.getElem_cons_succ, List.setIfInBounds_toArray, List.set_cons_zero, List.set_cons_succ]
      refine wpAnyH_take (i := 9) (v := .int .i64 k) rfl (by kernel_rfl) (by kernel_rfl) (by kernel_rfl) (fun _ _ _ h => h) (Or.inl ⟨by rfl, fun w' h => by go_simp⟩) (by assumption) ?_
      try simp only [Act.put, List.getElem_toArray, List.getElem_cons_zero, List.getElem_cons_succ, List.setIfInBounds_toArray, List.set_cons_zero, List.set_cons_succ]
      refine wpAnyH_take (i := 10) (v := .pointer (some ⟨b2, o2 + k * 3, none⟩)) rfl (by kernel_rfl) (by kernel_rfl) (by kernel_rfl) (fun _ _ _ h => h) (Or.inl ⟨by rfl, fun w' h => by go_simp⟩) (by assumption) ?_
      try simp only [Act.put, List.getElem_toArray, List.getElem_cons_zero, List.getElem_cons_succ, List.setIfInBounds_toArray, List.set_cons_zero, List.set_cons_succ]
      refine wpAnyH_take (i := 11) (v := .pointer (some ⟨b2, o2 + k * 3, none⟩)) rfl (by kernel_rfl) (by kernel_rfl) (by kernel_rfl) (fun _ _ _ h => h) (Or.inl ⟨by rfl, fun w' h => by go_simp⟩) (by assumption) ?_
      try simp only [Act.put, List.getElem_toArray, List.getElem_cons_zero, List.getElem_cons_succ, List.setIfInBounds_toArray, List.set_cons_zero, List.set_cons_succ]
      refine wpAnyH_take (i := 12) (v := .agg #[.int .u8 k1, .int .i16 y1]) rfl (by kernel_rfl) (by kernel_rfl) (by kernel_rfl) (fun _ _ _ h => h) (Or.inl ⟨by rfl, fun w' h => by obtain ⟨f1, f2, f3⟩ := rowW (rangeAt_below HRow2.out (Hb.out.trans (h.mono Hb.out.size)) HBl2.out); go_simp⟩) (by assumption) ?_
      try simp only [Act.put, List.getElem_toArray, List.getElem_cons_zero, List.getElem_cons_succ, List.setIfInBounds_toArray, List.set_cons_zero, List.set_cons_succ]
      obtain ⟨D0, hD0⟩ : ∃ D0, wr.drew = D0 := ⟨_, rfl⟩
      rw [hD0] at hHeld ⊢
      clear hD0
      refine wpAnyH_ready (rs := [13]) (by kernel_rfl) (by simp) ?_
      refine AllReadyH.cons rfl (fun K hK => ?_) AllReadyH.nil
      refine if_wanted rfl ?_
      go_simp
      refine (l02Has_any x k1 y1 HE1.out B o _ (Nat.lt_of_lt_of_le HBl.out (Hb.out.trans (hHeld.mono Hb.out.size)).size) (rangeAt_below HR.out (Hb.out.trans (hHeld.mono Hb.out.size)) HBl.out)).mono ?_
      rintro e w4 ⟨rfl, hb⟩
      have hH2 : Below wr.heap.size wr w4 := hHeld.trans (hb.mono hHeld.size)
      rw [HMn.out]
      clear hb hHeld
      dsimp only
      refine hK.out _ _ hH2 (fun hHeld => ?_)
      clear hK K hH2
      try simp only [Act.put, List.getElem_toArray, List.getElem_cons_zero, List.getElem_cons_succ, List.setIfInBounds_toArray, List.set_cons_zero, List.set_cons_succ]
      refine wpAnyH_ready (rs := [14]) (by kernel_rfl) (by simp) ?_
      refine AllReadyH.cons rfl (fun K hK => ?_) AllReadyH.nil
      refine if_wanted rfl ?_
      go_simp
      refine (l00Min_any n1 (mn : Int) _).mono ?_
      rintro e w9 ⟨rfl, rfl⟩
      dsimp only
      refine hK.out _ _ hHeld (fun hHeld => ?_)
      clear hK K
      try simp only [Act.put, List.getElem_toArray, List.getElem_cons_zero, List.getElem_cons_succ, List.setIfInBounds_toArray, List.set_cons_zero, List.set_cons_succ]
      refine wpAnyH_take (i := 15) (v := .int .i64 (un + min n1 (mn : Int))) rfl (by kernel_rfl) (by kernel_rfl) (by kernel_rfl) (fun _ _ _ h => h) (Or.inl ⟨by rfl, fun w' h => by go_simp⟩) (by assumption) ?_
      try simp only [Act.put, List.getElem_toArray, List.getElem_cons_zero, List.getElem_cons_succ, List.setIfInBounds_toArray, List.set_cons_zero, List.set_cons_succ]
      refine wpAnyH_ready (rs := [16]) (by kernel_rfl) (by simp) ?_
      refine AllReadyH.cons rfl (fun K hK => ?_) AllReadyH.nil
      refine if_wanted rfl ?_
      refine wp_assign0 (v := .int .i64 (un + min n1 (mn : Int))) rfl rfl ?_
      refine hK.out _ _ hHeld (fun hHeld => ?_)
      clear hK K
      try simp only [Act.put, List.getElem_toArray, List.getElem_cons_zero, List.getElem_cons_succ, List.setIfInBounds_toArray, List.set_cons_zero, List.set_cons_succ]
      refine wpAnyH_done (by kernel_rfl) ?_ _
      try simp only [Act.put, List.getElem_toArray, List.getElem_cons_zero, List.getElem_cons_succ, List.setIfInBounds_toArray, List.set_cons_zero, List.set_cons_succ]
      have hb := hHeld
      clear hHeld
      have Q5 : Hid (Below w.heap.size w w4) := Hb.out.trans (hb.mono Hb.out.size)
      clear hb Hb
      go_wp2
      go_roundw
      case rel => exact ⟨k + 1, by omega, by go_num, by rw [HSt2.out], Q5.out⟩
      case measure => simp [intOf]; omega
    · obtain rfl : k = ord.length := by omega
      go_wp2
      go_ret
      exact ⟨rfl, Hb.out⟩

theorem l02Asked_any (xs : List Crt) (ord : List Wnt) (hw : ∀ x ∈ ord, wfW x) (A A2 : Option Addr) (c c2 : Nat) (w : World) (hl : xs.length ≤ 1048576) (hl2 : ord.length ≤ 1048576) (hr : Rd w w.heap.size kcells A xs) (hr2 : Rd w w.heap.size wcells A2 ord) :
    Calls Tryd.prog 90 #[.slice A xs.length c, .slice A2 ord.length c2] w fun e w' => e = .returned (.int .i64 (askC xs ord)) ∧ Below w.heap.size w w' := by
  have HR := Lib.hid hr
  have HR2 := Lib.hid hr2
  have HW := Lib.hid hw
  clear hr hr2 hw
  go_enter Tryd.func90, Tryd.ntmps90
  go_wp2_with fail
  refine (l01Stack_any xs A c w hl HR.out).mono ?_
  rintro e w1 ⟨rfl, hb⟩
  have HB := Lib.hid hb
  clear hb
  cases ho : okS xs
  · go_wp2
    go_ret
    exact ⟨by simp [askC, askOk, ho], HB.out⟩
  · go_wp2_with fail
    refine (l02Ok_any ord HW.out A2 c2 w1 hl2 (HR2.out.keep HB.out)).mono ?_
    rintro e w2 ⟨rfl, hb⟩
    have HB2 : Hid (Below w.heap.size w w2) := HB.out.trans (hb.mono HB.out.size)
    clear hb HB
    cases ho2 : ordOk ord
    · go_wp2
      go_ret
      exact ⟨by simp [askC, askOk, ho2], HB2.out⟩
    · go_wp2
      go_ret
      exact ⟨by simp [askC, askOk, ho, ho2], HB2.out⟩

theorem nat_zero (n : Nat) : ((n : Int) == 0) = decide (n = 0) := by
  by_cases h : n = 0
  · subst h; rfl
  · have : ((n : Int) == 0) = false := by simp; omega
    rw [this, decide_eq_false h]

end Go.Proofs.YtkehmelcecifdaaDoor
