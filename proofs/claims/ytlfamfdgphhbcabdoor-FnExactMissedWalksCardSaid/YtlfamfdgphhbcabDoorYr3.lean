/-
  RowOn: the contracts, of the model and of the program. Condition: the row and the walkers read as told; the sentinel errors lie as the row lists them (the program's).
-/
import Derived.Test.YtlfamfdgphhbcabDoorYr2
namespace Go.Proofs.YtlfamfdgphhbcabDoor
open Go.ChangeShapes Go.WideShapes Go.ChangeAt Go.RowKit Go.Deep

def rwO (r : List Int) (l : List Wal) : Option Nat := firstO [chk 5 (yOk r), chk 5 (vsOk r.length l)]
theorem rwO_lt {r : List Int} {l : List Wal} : ∀ i, rwO r l = some i → i < 7 := by
  refine firstO_lt ?_
  simp only [List.mem_cons, List.not_mem_nil, or_false]
  rintro o (rfl | rfl) <;> exact chk_lt (by omega)
def roO (r : List Int) (l : List Wal) (d : Int) : Option Nat := firstO [rwO r l, chk 0 (inS d)]
theorem roO_lt {r : List Int} {l : List Wal} {d : Int} : ∀ i, roO r l d = some i → i < 7 := by
  refine firstO_lt ?_
  simp only [List.mem_cons, List.not_mem_nil, or_false]
  rintro o (rfl | rfl)
  · exact rwO_lt
  · exact chk_lt (by omega)
def roC (r : List Int) (l : List Wal) (d : Int) : Int := cdO (roO r l d)
def roL (r : List Int) (l : List Wal) (d : Int) : List Int := if roC r l d = 0 then tnA r.length l (fun x => unD x d) r l.length else []
theorem roL_len (r : List Int) (l : List Wal) (d : Int) : (roL r l d).length ≤ r.length := by
  unfold roL; split
  · rw [tnA_len]; exact Nat.le_refl _
  · simp
theorem ro_bad {r : List Int} {l : List Wal} {d : Int} {i : Nat} (h : roO r l d = some i) : roC r l d = cdN i ∧ roL r l d = [] := by
  have h1 : roC r l d = cdN i := by rw [roC, h]; rfl
  exact ⟨h1, by rw [roL, if_neg (by rw [h1]; exact cdN_ne)]⟩
theorem ro_ok {r : List Int} {l : List Wal} {d : Int} (h : roO r l d = none) : roC r l d = 0 ∧ roL r l d = tnA r.length l (fun x => unD x d) r l.length ∧ yOk r = true ∧ vsOk r.length l = true ∧ inS d = true := by
  have h1 : roC r l d = 0 := by rw [roC, h]; rfl
  have hy : yOk r = true := by
    cases hy : yOk r
    · rw [roO, rwO, hy] at h; cases h
    · rfl
  have hv : vsOk r.length l = true := by
    cases hv : vsOk r.length l
    · rw [roO, rwO, hy, hv] at h; cases h
    · rfl
  have hd : inS d = true := by
    cases hd : inS d
    · rw [roO, rwO, hy, hv, hd] at h; cases h
    · rfl
  exact ⟨h1, by rw [roL, if_pos h1], hy, hv, hd⟩
theorem ro_code (r : List Int) (l : List Wal) (d : Int) : (if yOk r = true then akV r.length l (inS d) else 1) = roC r l d := by
  cases hy : yOk r
  · rw [if_neg (by decide), roC, roO, rwO, hy]; rfl
  rw [if_pos rfl]
  cases hv : vsOk r.length l
  · rw [show akV r.length l (inS d) = 1 from by simp [akV, hv], roC, roO, rwO, hy, hv]; rfl
  cases hd : inS d
  · rw [show akV r.length l false = 2 from by simp [akV, hv], roC, roO, rwO, hy, hv, hd]; rfl
  · rw [show akV r.length l true = 0 from by simp [akV, hv], roC, roO, rwO, hy, hv, hd]; rfl
theorem unD_m1 {x : Wal} (hf : 0 ≤ x.fi) : unD x (0 - 1) = 0 := by rw [unD, if_pos (by omega)]
theorem tnA_congr {n : Nat} {l : List Wal} {m m' : Wal → Int} {r : List Int} (h : ∀ x ∈ l, m x = m' x) : ∀ k, k ≤ l.length → tnA n l m r k = tnA n l m' r k
  | 0, _ => rfl
  | k + 1, hk => by
    have hx : l[k]? = some l[k] := List.getElem?_eq_getElem (by omega)
    rw [tnA_succ hx, tnA_succ hx, tnA_congr h k (by omega), h _ (List.getElem_mem _)]
theorem nil_ownR (w : World) (b : Nat) : w.ownsRow b 5 1 (.slice none 0 0) ([] : List Int).length (([] : List Int).flatMap ycells) := ⟨rfl, .inl ⟨rfl, rfl⟩⟩
theorem empty_ownR (w : World) (b : Nat) (hb : b ≤ w.heap.size) : (w.alloc (.cells #[] 5)).ownsRow b 5 1 (.slice (some ⟨w.heap.size, 0, none⟩) 0 0) ([] : List Int).length (([] : List Int).flatMap ycells) :=
  ⟨rfl, .inr ⟨w.heap.size, 0, #[], rfl, hb, heap_alloc_new w _, Nat.le_refl _, by unfold maxLen; omega, by simp, by simp⟩⟩

set_option maxHeartbeats 1000000 in
theorem l05Row_any (r : List Int) (l : List Wal) (hwf : ∀ x ∈ l, wfV x) (f : Bool) (A B : Option Addr) (ca c : Nat) (w : World) (hrl : r.length ≤ 1048576) (hl : l.length ≤ 1048576) (hra : Rd w w.heap.size ycells A r) (hr : Rd w w.heap.size vcells B l) :
    Calls Tryd.prog 41 #[.slice A r.length ca, .slice B l.length c, .bool f] w fun e w' => e = .returned (.int .i64 (if yOk r = true then akV r.length l f else 1)) ∧ Below w.heap.size w w' := by
  have HRa := Lib.hid hra
  have HR := Lib.hid hr
  clear hra hr
  obtain ⟨u, hu⟩ : ∃ u : Int, (if yOk r = true then akV r.length l f else 1) = u := ⟨_, rfl⟩
  rw [hu]
  go_enter Tryd.func41, Tryd.ntmps41
  go_wp2_with fail
  refine (l05Ok_any r A ca w hrl HRa.out).mono ?_
  rintro e w1 ⟨rfl, rfl⟩
  cases hy : yOk r
  · have E : Hid (u = 1) := by show u = 1; rw [← hu, hy]; rfl
    clear hy hu
    go_wp2
    go_ret
    exact ⟨by (rw [E.out]; first | done | rfl), Below.refl _ _⟩
  have E : Hid (akV r.length l f = u) := by show _ = u; rw [← hu, hy]; rfl
  clear hy hu
  go_wp2_with fail
  refine (l05Asked_any r.length ⟨by omega, by omega⟩ l hwf f B c w hl HR.out).mono ?_
  rintro e w1 ⟨rfl, hb⟩
  have HB := Lib.hid hb
  rw [E.out]
  clear hb
  go_wp2
  go_ret
  exact ⟨rfl, HB.out⟩

set_option maxRecDepth 100000 in
set_option maxHeartbeats 2000000 in
theorem turned_any (n : Nat) (h60 : n ≤ 60) (l : List Wal) (hv : ∀ x ∈ l, vOk n x = true) (ks : List KW) (hkl : ks.map (·.1) = l) (hl : l.length ≤ 8) (f t : Int) (hf : -1 ≤ f - 1 ∧ f ≤ 19000000) (ht : -1 ≤ t ∧ t ≤ 19000000) (r : List Int) (hrn : r.length = n) (hr7 : ∀ a ∈ r, 0 ≤ a ∧ a ≤ 7)
    (A Ak : Option Addr) (c ck : Nat) (w : World) (hr : Rd w w.heap.size ycells A r) (hs : ∀ s ∈ ks, okW n w s) (hkr : Rd w w.heap.size (kcw n) Ak ks) :
    Calls Tryd.prog 55 #[.slice A n c, .slice Ak ks.length ck, .int .i64 f, .int .i64 t] w fun e w' => ∃ A' c', e = .returned (.slice A' n c') ∧ w'.ownsRow w.heap.size 5 1 (.slice A' n c') n ((tnA n l (mW f t) r l.length).flatMap ycells) ∧ Below w.heap.size w w' := by
  have HS := Lib.hid hs
  have HKR := Lib.hid hkr
  have HClone : Hid (Calls Tryd.prog 81 #[.slice A n c] w fun e w' => ∃ A' c', e = .returned (.slice A' n c') ∧ w'.ownsRow w.heap.size 5 1 (.slice A' n c') n (r.flatMap ycells) ∧ Below w.heap.size w w') := by
    have := cloneY_any r A c w (by omega) hr
    rw [hrn] at this
    exact this
  have HAll : Hid (∀ (z : World) (A' : Option Addr) (c' : Nat), Below w.heap.size w z → z.ownsRow w.heap.size 5 1 (.slice A' n c') n (r.flatMap ycells) → Calls Tryd.prog 86 #[.slice A' n c', .slice Ak ks.length ck, .int .i64 f, .int .i64 t] z fun e w' => e = .returned (.tuple #[]) ∧ w'.ownsRow w.heap.size 5 1 (.slice A' n c') n ((tnA n l (mW f t) r l.length).flatMap ycells) ∧ Below w.heap.size z w' ∧ z.grownBy w' (A'.map (·.block))) :=
    fun z A' c' hz hO => turnAll_any n h60 l hv ks hkl hl f t hf ht r hrn hr7 w.heap.size A' Ak c' ck z hz.size (fun s hm => ⟨(HS.out s hm).keep hz, Blk.lt (HS.out s hm)⟩) (HKR.out.below (Nat.le_refl _) hz) hO
  clear hs hkr hr hv hkl hf ht hrn hr7
  go_enter Tryd.func55, Tryd.ntmps55
  go_wp2_with fail
  refine HClone.out.mono ?_
  rintro e w1 ⟨A', c', rfl, hO, hb⟩
  have HB1 := Lib.hid hb
  have HO := Lib.hid hO
  clear hO hb
  go_wp2_with fail
  refine (HAll.out w1 A' c' HB1.out HO.out).mono ?_
  rintro e w2 ⟨rfl, hO, hb, -⟩
  have HB2 : Hid (Below w.heap.size w w2) := HB1.out.trans hb
  have HO2 := Lib.hid hO
  clear hO hb
  go_wp2
  go_ret
  exact ⟨_, _, rfl, HO2.out, HB2.out⟩

set_option maxRecDepth 100000 in
set_option maxHeartbeats 2000000 in
theorem checkRowWalkers_any (r : List Int) (l : List Wal) (hwf : ∀ x ∈ l, wfV x) (A B : Option Addr) (ca c : Nat) (ad : Nat → Addr) (w : World) (hrl : r.length ≤ 1048576) (hl : l.length ≤ 1048576) (hra : Rd w w.heap.size ycells A r) (hr : Rd w w.heap.size vcells B l) (hE : EW 7 w ad) :
    Calls Tryd.prog 49 #[.slice A r.length ca, .slice B l.length c] w fun e w' => e = .returned (erO ad (rwO r l)) ∧ Below w.heap.size w w' := by
  have HRa := Lib.hid hra
  have HR := Lib.hid hr
  have HE := Lib.hid hE
  clear hra hr hE
  have hA0 : Below w.heap.size w (w.alloc (.cells #[.slice A r.length ca] 37)) := (Below.refl _ w).alloc (Nat.le_refl _) _
  have hc0 : (w.alloc (.cells #[.slice A r.length ca] 37)).cell? ⟨w.heap.size, 0, none⟩ = some (.slice A r.length ca) := by
    rw [cell_of_row _ _ _ _ _ _ (heap_alloc_new w (.cells #[.slice A r.length ca] 37))]; rfl
  have HCh : Hid (Calls Tryd.prog 50 #[.slice (some ⟨w.heap.size, 0, none⟩) 1 1] (w.alloc (.cells #[.slice A r.length ca] 37)) fun e w' => e = .returned (erO ad (chk 5 (yOk r))) ∧ Below (w.alloc (.cells #[.slice A r.length ca] 37)).heap.size (w.alloc (.cells #[.slice A r.length ca] 37)) w') :=
    checkRows1_any r A ca w.heap.size 1 ad _ hrl hc0 (HRa.out.keep hA0) (HE.out.below hA0 (Nat.le_refl _))
  clear hc0
  go_enter Tryd.func49, Tryd.ntmps49
  go_wp2_with fail
  refine HCh.out.mono ?_
  rintro e w1 ⟨rfl, hb⟩
  have HB1 : Hid (Below w.heap.size w w1) := hA0.trans (hb.mono hA0.size)
  clear hb hA0 HCh
  obtain ⟨v0, hv0⟩ : ∃ v, erO ad (chk 5 (yOk r)) = v := ⟨_, rfl⟩
  have HV0 := Lib.hid hv0
  have P0 : Hid (isE v0) := by show isE v0; rw [← hv0]; exact erO_isE _ _
  rw [hv0]
  clear hv0
  go_wp2_with fail
  refine (checkWalkers_any r.length ⟨by omega, by omega⟩ l hwf B c ad _ hl (HR.out.keep HB1.out) (HE.out.below HB1.out (Nat.le_refl _))).mono ?_
  rintro e w2 ⟨rfl, hb⟩
  have HB2 : Hid (Below w.heap.size w w2) := HB1.out.trans (hb.mono HB1.out.size)
  clear hb HB1
  obtain ⟨v1, hv1⟩ : ∃ v, erO ad (chk 5 (vsOk r.length l)) = v := ⟨_, rfl⟩
  have HV1 := Lib.hid hv1
  have P1 : Hid (isE v1) := by show isE v1; rw [← hv1]; exact erO_isE _ _
  rw [hv1]
  clear hv1
  go_wp2_with (refine wpList_twoErrs rfl (.tmp 7) (.tmp 11) rfl P0.out P1.out rfl rfl ?_)
  have q0 := new_cell2 w2 v0 v1 71
  rw [← HV0.out, ← HV1.out] at q0 ⊢
  refine (firstErr2_O ad _ _ _ _ _ q0.1 q0.2).mono ?_
  rintro e w9 ⟨rfl, rfl⟩
  rw [show firstO [chk 5 (yOk r), chk 5 (vsOk r.length l)] = rwO r l from rfl]
  obtain ⟨v2, hv2⟩ : ∃ v, erO ad (rwO r l) = v := ⟨_, rfl⟩
  have HV2 := Lib.hid hv2
  rw [hv2]
  clear q0 hv2
  have L2 := Lib.hid (HB2.out.alloc HB2.out.size (.cells #[erO ad (chk 5 (yOk r)), erO ad (chk 5 (vsOk r.length l))] 71))
  go_wp2
  go_ret
  exact ⟨by (rw [HV2.out]; first | done | rfl), L2.out⟩
end Go.Proofs.YtlfamfdgphhbcabDoor
