/-
  BusiestDay: the contracts, of the model and of the program. Condition: the walkers' numbers fit their kinds; the sentinel errors lie as the row lists them (the program's).
-/
import Derived.Test.YtjiihdljchaeiacDoorYd
import Derived.Test.YtjiihdljchaeiacDoorYh
namespace Go.Proofs.YtjiihdljchaeiacDoor
open Go.ChangeShapes Go.WideShapes Go.ChangeAt Go.RowKit Go.Deep

/-- How many bottles are come to on a day. -/
def coT (l : List Wal) (d : Int) : Nat → Int
  | 0 => 0
  | k + 1 => coT l d k + (if onD (l.getD k ⟨0, 1, 0, 0, 0, 0⟩) d = true then (l.getD k ⟨0, 1, 0, 0, 0, 0⟩).co else 0)
theorem coT_yes {l : List Wal} {d : Int} {k : Nat} {x : Wal} (h : l[k]? = some x) (ho : onD x d = true) : coT l d (k + 1) = coT l d k + x.co := by
  rw [coT, List.getD_eq_getElem?_getD, h, Option.getD_some, if_pos ho]
theorem coT_no {l : List Wal} {d : Int} {k : Nat} {x : Wal} (h : l[k]? = some x) (ho : onD x d = false) : coT l d (k + 1) = coT l d k := by
  rw [coT, List.getD_eq_getElem?_getD, h, Option.getD_some, if_neg (by rw [ho]; decide), Int.add_zero]
theorem coT_in {l : List Wal} {d : Int} (hv : ∀ x ∈ l, 1 ≤ x.co ∧ x.co ≤ 60) : ∀ k, k ≤ l.length → 0 ≤ coT l d k ∧ coT l d k ≤ 60 * k
  | 0, _ => by simp [coT]
  | k + 1, hk => by
    have ih := coT_in (d := d) hv k (by omega)
    have hx : l[k]? = some l[k] := List.getElem?_eq_getElem (by omega)
    have h1 := hv _ (List.getElem_mem (by omega : k < l.length))
    cases ho : onD l[k] d
    · rw [coT_no hx ho]; omega
    · rw [coT_yes hx ho]; omega
def cnD (l : List Wal) (d : Int) : Int := coT l d l.length
def bdT (l : List Wal) (f : Int) : Nat → Int × Int
  | 0 => (f, cnD l f)
  | m + 1 => if (bdT l f m).2 < cnD l (f + m + 1) then (f + m + 1, cnD l (f + m + 1)) else bdT l f m
theorem bdT_in {l : List Wal} {f : Int} (hv : ∀ x ∈ l, 1 ≤ x.co ∧ x.co ≤ 60) (h8 : l.length ≤ 8) (hf : 0 ≤ f ∧ f ≤ 10000) : ∀ m : Nat, m ≤ 400 → (0 ≤ (bdT l f m).1 ∧ (bdT l f m).1 ≤ 10400) ∧ (0 ≤ (bdT l f m).2 ∧ (bdT l f m).2 ≤ 480)
  | 0, _ => by
    have := coT_in (d := f) hv l.length (Nat.le_refl _)
    simp only [bdT, cnD]; omega
  | m + 1, hm => by
    have ih := bdT_in hv h8 hf m (by omega)
    have := coT_in (d := f + m + 1) hv l.length (Nat.le_refl _)
    rw [bdT]
    split
    · simp only [cnD]; omega
    · exact ih
def bdO (n : Int) (l : List Wal) (f t : Int) : Option Nat := firstO [chk 5 (vsOk n l), spO f t]
def bdC (n : Int) (l : List Wal) (f t : Int) : Int := cdO (bdO n l f t)
def bdN (n : Int) (l : List Wal) (f t : Int) : Int × Int := if bdC n l f t = 0 then bdT l f (t - f).toNat else (0, 0)
theorem bd_bad {n : Int} {l : List Wal} {f t : Int} {i : Nat} (h : bdO n l f t = some i) : bdC n l f t = cdN i ∧ bdN n l f t = (0, 0) := by
  have h1 : bdC n l f t = cdN i := by rw [bdC, h]; rfl
  exact ⟨h1, by rw [bdN, if_neg (by rw [h1]; exact cdN_ne)]⟩
theorem bd_ok {n : Int} {l : List Wal} {f t : Int} (h : bdO n l f t = none) : bdC n l f t = 0 ∧ bdN n l f t = bdT l f (t - f).toNat ∧ vsOk n l = true ∧ spB f t = true ∧ t - f + 1 ≤ 400 := by
  have h1 : bdC n l f t = 0 := by rw [bdC, h]; rfl
  have hv : vsOk n l = true := by
    cases hv : vsOk n l
    · rw [bdO, hv] at h; cases h
    · rfl
  have hs : spB f t = true := by
    cases hs : spB f t
    · rw [bdO, hv, spO_no hs] at h; cases h
    · rfl
  have h4 : t - f + 1 ≤ 400 := by
    apply Classical.byContradiction
    intro hn
    rw [bdO, hv, spO_yes hs, decide_eq_false hn] at h; cases h
  exact ⟨h1, by rw [bdN, if_pos h1], hv, hs, h4⟩
theorem akV_inv' {n : Int} {l : List Wal} {f : Bool} (h : vsOk n l = false) : akV n l f = 1 := by simp [akV, h]
theorem akV_ok' {n : Int} {l : List Wal} {f : Bool} (h : vsOk n l = true) : akV n l f = if f = true then 0 else 2 := by simp [akV, h]
theorem bd_code (n : Int) (l : List Wal) (f t : Int) : spC (akV n l (spB f t)) f t = bdC n l f t := by
  cases hv : vsOk n l
  · rw [akV_inv' hv, bdC, bdO, hv]; rfl
  cases hs : spB f t
  · rw [akV_ok' hv, bdC, bdO, hv, spO_no hs]; rfl
  rw [akV_ok' hv, bdC, bdO, hv, spO_yes hs, if_pos rfl, spC, if_pos rfl]
  by_cases h : t - f + 1 ≤ 400
  · rw [if_pos h, decide_eq_true h]; rfl
  · rw [if_neg h, decide_eq_false h]; rfl

set_option maxRecDepth 100000 in
set_option maxHeartbeats 4000000 in
theorem visitsOn_any (n : Nat) (l : List Wal) (hv : ∀ x ∈ l, vOk n x = true) (ks : List KW) (hk : ks.map (·.1) = l) (A : Option Addr) (c : Nat) (d : Int) (hd : dayB d) (w : World) (hl : l.length ≤ 8) (hr : Rd w w.heap.size (kcw n) A ks) :
    Calls Tryd.prog 45 #[.slice A ks.length c, .int .i64 d] w fun e w' => e = .returned (.int .i64 (cnD l d)) ∧ Below w.heap.size w w' := by
  have HR := Lib.hid hr
  have HV := Lib.hid hv
  have HD := Lib.hid hd
  have hkl : ks.length = l.length := by rw [← hk, List.length_map]
  have HKL := Lib.hid hkl
  have HK := Lib.hid hk
  have h8 : ks.length ≤ 8 := by omega
  have hco : ∀ x ∈ l, 1 ≤ x.co ∧ x.co ≤ 60 := fun x hx => (vOk_out (hv x hx)).2.2.2.2.1
  have HCo := Lib.hid hco
  clear hr hv hd hkl hk hco
  go_enter Tryd.func45, Tryd.ntmps45
  go_wp2_with fail
  go_loopw [5, 10] (fun v i wr => ∃ (k : Nat), k ≤ ks.length ∧ i = .int .i64 k ∧ v = .int .i64 (coT l d k) ∧ Below w.heap.size w wr)
    (fun _ i _ => ks.length - (intOf i).toNat)
  case atStart => exact ⟨0, by omega, rfl, rfl, Below.refl _ _⟩
  case round =>
    obtain ⟨k, hk, rfl, rfl, hB⟩ := hrel
    have HB := Lib.hid hB
    clear hB
    by_cases hlt : k < ks.length
    · obtain ⟨⟨⟨fi, ev, st, sp, co, tu⟩, g⟩, hx⟩ : ∃ x, ks[k]? = some x := ⟨_, List.getElem?_eq_getElem hlt⟩
      have hxl : l[k]? = some ⟨fi, ev, st, sp, co, tu⟩ := by rw [← HK.out, List.getElem?_map, hx]; rfl
      have hxo := vOk_out (HV.out _ (List.mem_of_getElem? hxl))
      simp only at hxo
      have hin := coT_in (d := d) HCo.out k (by have := HKL.out; omega)
      obtain ⟨b, o, rfl, hbl, hrow⟩ := (HR.out.below (Nat.le_refl _) HB.out).at_ (kcw_length n) hx
      have d0 : wr.cell? ⟨b, o + k * 9, none⟩ = some (.int .i16 fi) := hrow 0 _ rfl
      have d1 : wr.cell? ⟨b, o + k * 9 + 1, none⟩ = some (.int .i16 ev) := hrow 1 _ rfl
      have d2 : wr.cell? ⟨b, o + k * 9 + 2, none⟩ = some (.int .i16 st) := hrow 2 _ rfl
      have d3 : wr.cell? ⟨b, o + k * 9 + 3, none⟩ = some (.int .i16 sp) := hrow 3 _ rfl
      have d4 : wr.cell? ⟨b, o + k * 9 + 4, none⟩ = some (.int .i16 co) := hrow 4 _ rfl
      have d5 : wr.cell? ⟨b, o + k * 9 + 5, none⟩ = some (.int .i8 tu) := hrow 5 _ rfl
      have d6 : wr.cell? ⟨b, o + k * 9 + 6, none⟩ = some (.int .i64 fi) := hrow 6 _ rfl
      have d7 : wr.cell? ⟨b, o + k * 9 + 7, none⟩ = some (.int .i64 ev) := hrow 7 _ rfl
      have d8 : wr.cell? ⟨b, o + k * 9 + 8, none⟩ = some (.slice (some ⟨g, 0, none⟩) n n) := hrow 8 _ rfl
      have hk0 : (0 : Int) ≤ (k : Int) := Int.natCast_nonneg _
      have hk8 : (k : Int) < ks.length := by omega
      have HXL := Lib.hid hxl
      have HXO := Lib.hid hxo
      have HIN := Lib.hid hin
      have HA1 : Hid (Below w.heap.size w (wr.alloc (.cells #[.int .i16 fi, .int .i16 ev, .int .i16 st, .int .i16 sp, .int .i16 co, .int .i8 tu, .int .i64 fi, .int .i64 ev, .slice (some ⟨g, 0, none⟩) n n] 66))) := HB.out.alloc HB.out.size _
      have HK1 : Hid (Blk (wr.alloc (.cells #[.int .i16 fi, .int .i16 ev, .int .i16 st, .int .i16 sp, .int .i16 co, .int .i8 tu, .int .i64 fi, .int .i64 ev, .slice (some ⟨g, 0, none⟩) n n] 66)) wr.heap.size 66 #[.int .i16 fi, .int .i16 ev, .int .i16 st, .int .i16 sp, .int .i16 co, .int .i8 tu, .int .i64 fi, .int .i64 ev, .slice (some ⟨g, 0, none⟩) n n]) := Blk.new wr _ _
      clear hx hxl hxo hin hrow
      obtain ⟨v, hvv⟩ : ∃ v, coT l d k = v := ⟨_, rfl⟩
      have HVV := Lib.hid hvv
      rw [hvv]
      clear hvv
      go_wp2_with fail
      refine (include_any fi ev HXO.out.1 HXO.out.2.1 d HD.out _).mono ?_
      rintro e w2 ⟨rfl, hb⟩
      have HB2 : Hid (Below w.heap.size w w2) := HA1.out.trans (hb.mono HA1.out.size)
      have e4 : w2.cell? ⟨wr.heap.size, 4, none⟩ = some (.int .i16 co) := Blk.cell (HK1.out.below hb HK1.out.lt) 4
      clear hb d0 d1 d2 d3 d4 d5 d6 d7 d8
      rw [show (decide (fi ≤ d) && decide ((d - fi) % ev = 0)) = onD ⟨fi, ev, st, sp, co, tu⟩ d from rfl]
      cases ho : onD ⟨fi, ev, st, sp, co, tu⟩ d
      · have E : Hid (coT l d (k + 1) = v) := by show _ = v; rw [coT_no HXL.out ho, HVV.out]
        clear ho
        go_wp2
        go_roundw
        case rel => exact ⟨k + 1, by omega, by go_num, by rw [E.out], HB2.out⟩
        case measure => simp [intOf]; omega
      · have E : Hid (coT l d (k + 1) = v + co) := by show _ = v + co; rw [coT_yes HXL.out ho, HVV.out]
        have hb1 := HIN.out
        rw [HVV.out] at hb1
        have hb2 := HXO.out.2.2.2.2.1
        have u1 : IntKind.i64.wrap co = co := IntWalk.i64_in _ ⟨by omega, by omega⟩
        have u2 : wrap64 co = co := IntWalk.wrap64_in _ ⟨by omega, by omega⟩
        have u3 : IntKind.i64.wrap (v + co) = v + co := IntWalk.i64_in _ ⟨by omega, by omega⟩
        have u4 : wrap64 (v + co) = v + co := IntWalk.wrap64_in _ ⟨by omega, by omega⟩
        clear ho hb1 hb2
        go_wp2
        go_roundw
        case rel => exact ⟨k + 1, by omega, by go_num, by rw [E.out], HB2.out⟩
        case measure => simp [intOf]; omega
    · obtain rfl : k = ks.length := by omega
      have E : Hid (coT l d ks.length = cnD l d) := by show _ = cnD l d; rw [cnD, HKL.out]
      go_wp2
      go_ret
      exact ⟨by (rw [E.out]; first | done | rfl), HB.out⟩
end Go.Proofs.YtjiihdljchaeiacDoor
