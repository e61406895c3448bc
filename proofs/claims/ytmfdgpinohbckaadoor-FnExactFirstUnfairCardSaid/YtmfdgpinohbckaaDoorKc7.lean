/-
  What bottles are taken with: checks of bottles and a slack. Condition: the lists are read; the sentinel errors lie as the row lists them.
-/
import Derived.Test.YtmfdgpinohbckaaDoorRs
import Derived.Test.YtmfdgpinohbckaaDoorEo
import Derived.Test.YtmfdgpinohbckaaDoorTq
import Derived.Test.YtmfdgpinohbckaaDoorBv9
namespace Go.Proofs.YtmfdgpinohbckaaDoor
open Go.ChangeShapes Go.WideShapes Go.ChangeAt Go.RowKit Go.Deep

theorem rowB2K {w : World} {b o k : Nat} {x y : Int} (h : w.rangeAt b (o + k * 2) (bcells (x, y))) : w.cell? ⟨b, o + k * 2, none⟩ = some (.int .u8 x) ∧ w.cell? ⟨b, o + k * 2 + 1, none⟩ = some (.int .i16 y) :=
  ⟨h 0 _ rfl, h 1 _ rfl⟩
set_option maxRecDepth 100000 in
set_option maxHeartbeats 4000000 in
theorem checkEachBoK_any (xs : List Bot) (A : Option Addr) (c : Nat) (ad : Nat → Addr) (w : World) (hl : xs.length ≤ 1048576) (hr : Rd w w.heap.size bcells A xs) (hE : EW 7 w ad) :
    Calls Tryd.prog 75 #[.slice A xs.length c, .func (.func 76) #[] #[]] w fun e w' => e = .returned (erO ad (chk 5 (xs.all vB))) ∧ Below w.heap.size w w' := by
  have HR := Lib.hid hr
  have HE := Lib.hid hE
  clear hr hE
  go_enter Tryd.func75, Tryd.ntmps75
  go_wp2_with fail
  go_loopw [9] (fun i wr => ∃ (k : Nat), k ≤ xs.length ∧ i = .int .i64 k ∧ AllU vB xs k ∧ Below w.heap.size w wr) (fun i _ => xs.length - (intOf i).toNat)
  case atStart => exact ⟨0, by omega, rfl, AllU.zero _ _, Below.refl _ _⟩
  case round =>
    obtain ⟨k, hk, rfl, hT, hB⟩ := hrel
    have HT := Lib.hid hT
    have HB := Lib.hid hB
    clear hT hB
    by_cases hlt : k < xs.length
    · obtain ⟨⟨bo, ct⟩, hx⟩ : ∃ x, xs[k]? = some x := ⟨_, List.getElem?_eq_getElem hlt⟩
      obtain ⟨b, o, rfl, hbl, hrow⟩ := (HR.out.below (Nat.le_refl _) HB.out).at_ bcells_length hx
      obtain ⟨e0, e1⟩ := rowB2K hrow
      have HX := Lib.hid hx
      have hk0 : (0 : Int) ≤ (k : Int) := Int.natCast_nonneg _
      have hk8 : (k : Int) < xs.length := by omega
      have HA : Hid (Below w.heap.size w (wr.alloc (.cells #[.int .u8 bo, .int .i16 ct] 28))) := HB.out.alloc HB.out.size _
      clear hx hrow
      go_wp2_with fail
      refine (validBottle_any bo ct _).mono ?_
      rintro e w1 ⟨rfl, hb1⟩
      have HB1 : Hid (Below w.heap.size w w1) := HA.out.trans (hb1.mono HA.out.size)
      have c0 : w1.cell? ⟨1, 0, none⟩ = some (.iface 165 (.pointer (some (ad 5)))) := ((HE.out).below HB1.out (Nat.le_refl _)).cell 5 (by omega)
      clear hb1 HA e0 e1
      cases hv : vB (bo, ct)
      · have HV := Lib.hid hv
        clear hv
        go_wp2
        first | go_ret | skip
        exact ⟨by rw [allU_no HX.out HV.out]; rfl, HB1.out⟩
      · have HV := Lib.hid hv
        clear hv
        go_wp2
        go_roundw
        case rel => exact ⟨k + 1, by omega, by go_num, HT.out.step HX.out HV.out, HB1.out⟩
        case measure => simp [intOf]; omega
    · obtain rfl : k = xs.length := by omega
      go_wp2
      first | go_ret | skip
      exact ⟨by rw [HT.out.all]; rfl, HB.out⟩


set_option maxRecDepth 100000 in
set_option maxHeartbeats 4000000 in
theorem checkSlackK_any (s : Int) (ad : Nat → Addr) (w : World) (hE : EW 7 w ad) :
    Calls Tryd.prog 58 #[.int .i64 s] w fun e w' => e = .returned (erO ad (chk 0 (wi 0 2000 s))) ∧ Below w.heap.size w w' := by
  have c0 : w.cell? ⟨2, 0, none⟩ = some (.iface 165 (.pointer (some (ad 0)))) := hE.cell 0 (by omega)
  clear hE
  by_cases h0 : s < 0
  · have e : Hid (wi 0 2000 s = false) := by show _ = _; simp [wi]; omega
    go_enter Tryd.func58, Tryd.ntmps58
    go_wp2_with fail
    go_ret
    exact ⟨by rw [e.out]; rfl, by first | exact Below.refl _ _ | exact (Below.refl _ _).drew⟩
  · by_cases h1 : 2000 < s
    · have e : Hid (wi 0 2000 s = false) := by show _ = _; simp [wi]; omega
      have h00 : decide (s < 0) = false := by simpa using h0
      go_enter Tryd.func58, Tryd.ntmps58
      go_wp2_with fail
      go_ret
      exact ⟨by rw [e.out]; rfl, by first | exact Below.refl _ _ | exact (Below.refl _ _).drew⟩
    · have e : Hid (wi 0 2000 s = true) := by show _ = _; simp [wi]; omega
      have h00 : decide (s < 0) = false := by simpa using h0
      have h01 : decide (2000 < s) = false := by simpa using h1
      go_enter Tryd.func58, Tryd.ntmps58
      go_wp2_with fail
      go_ret
      exact ⟨by rw [e.out]; rfl, by first | exact Below.refl _ _ | exact (Below.refl _ _).drew⟩

set_option maxRecDepth 100000 in
set_option maxHeartbeats 4000000 in
theorem l04SlackK_any (s : Int) (w : World) : Calls Tryd.prog 54 #[.int .i64 s] w fun e w' => e = .returned (.bool (wi 0 2000 s)) ∧ w = w' := by
  go_enter Tryd.func54, Tryd.ntmps54
  go_wp2_with fail
  refine (l00In_any s 0 2000 _).mono ?_
  rintro e w1 ⟨rfl, rfl⟩
  go_wp2
  go_ret
  exact ⟨rfl, rfl⟩

/-- What is asked of a rack, of bottles and of a slack. -/
def tkO (xss : List (List Wnt)) (bs : List Bot) (s : Int) : Option Nat := firstO [chk 5 (rkOk xss), chk 5 (bs.all vB), chk 0 (wi 0 2000 s)]
theorem tkO_is (xss : List (List Wnt)) (bs : List Bot) (s : Int) : tkO xss bs s = if rkOk xss = true then (if bs.all vB = true then (if wi 0 2000 s = true then none else some 0) else some 5) else some 5 := by
  unfold tkO
  cases rkOk xss <;> cases bs.all vB <;> cases wi 0 2000 s <;> rfl
theorem tkO_none {xss : List (List Wnt)} {bs : List Bot} {s : Int} (h : tkO xss bs s = none) : rkOk xss = true ∧ bs.all vB = true ∧ (0 ≤ s ∧ s ≤ 2000) := by
  rw [tkO_is] at h
  cases h1 : rkOk xss <;> cases h2 : bs.all vB <;> cases h3 : wi 0 2000 s <;> simp [h1, h2, h3] at h
  refine ⟨rfl, rfl, ?_⟩
  simpa [wi] using h3
theorem tkO_lt {xss : List (List Wnt)} {bs : List Bot} {s : Int} : ∀ i, tkO xss bs s = some i → i < 7 := firstO_lt (by simp only [List.mem_cons, List.not_mem_nil, or_false]; rintro o (rfl | rfl | rfl) <;> exact chk_lt (by omega))

set_option maxRecDepth 100000 in
set_option maxHeartbeats 4000000 in
theorem l04TakenK_any (xss : List (List Wnt)) (hwf : ∀ xs ∈ xss, ∀ x ∈ xs, wfW x) (bs : List Bot) (hwb : ∀ x ∈ bs, wfB x) (s : Int) (A B : Option Addr) (c d : Nat) (w : World) (hl : xss.length ≤ 1048576) (hx : ∀ xs ∈ xss, xs.length ≤ 1048576) (hlb : bs.length ≤ 1048576) (hr : RdN w w.heap.size wcells A xss) (hrb : Rd w w.heap.size bcells B bs) :
    Calls Tryd.prog 46 #[.slice A xss.length c, .slice B bs.length d, .int .i64 s] w fun e w' => e = .returned (.int .i64 (cdO (tkO xss bs s))) ∧ Below w.heap.size w w' := by
  have HR := Lib.hid hr
  have HRb := Lib.hid hrb
  have HW := Lib.hid hwf
  have HWb := Lib.hid hwb
  have HX := Lib.hid hx
  clear hr hrb hwf hwb hx
  go_enter Tryd.func46, Tryd.ntmps46
  go_wp2_with fail
  refine (l04Ok_any xss HW.out A c _ hl HX.out HR.out).mono ?_
  rintro e w1 ⟨rfl, hb⟩
  have HB := Lib.hid hb
  clear hb
  cases hv : rkOk xss
  · have E : Hid (tkO xss bs s = some 5) := by show _ = _; rw [tkO_is, hv]; rfl
    clear hv
    go_wp2
    go_ret
    exact ⟨by rw [E.out]; rfl, HB.out⟩
  have HV := Lib.hid hv
  clear hv
  go_wp2_with fail
  go_loopw [7] (fun i wr => ∃ (k : Nat), k ≤ bs.length ∧ i = .int .i64 k ∧ AllU vB bs k ∧ Below w.heap.size w wr) (fun i _ => bs.length - (intOf i).toNat)
  case atStart => exact ⟨0, by omega, rfl, AllU.zero _ _, HB.out⟩
  case round =>
    clear HB
    obtain ⟨k, hk, rfl, hT, hB⟩ := hrel
    have HT := Lib.hid hT
    have HB := Lib.hid hB
    clear hT hB
    by_cases hlt : k < bs.length
    · obtain ⟨⟨bo, ct⟩, hx⟩ : ∃ x, bs[k]? = some x := ⟨_, List.getElem?_eq_getElem hlt⟩
      obtain ⟨b, o, rfl, hbl, hrow⟩ := (HRb.out.below (Nat.le_refl _) HB.out).at_ bcells_length hx
      obtain ⟨e0, e1⟩ := rowB2K hrow
      obtain ⟨w1', w2', w3', w4'⟩ := HWb.out _ (List.mem_of_getElem? hx)
      have HX2 := Lib.hid hx
      have hk0 : (0 : Int) ≤ (k : Int) := Int.natCast_nonneg _
      have hk8 : (k : Int) < bs.length := by omega
      clear hx hrow
      go_wp2_with fail
      refine (l01Bottle_any bo ct ⟨w1', w2'⟩ ⟨w3', w4'⟩ _).mono ?_
      rintro e w3 ⟨rfl, hb1⟩
      have HB1 : Hid (Below w.heap.size w w3) := HB.out.trans (hb1.mono HB.out.size)
      clear hb1 e0 e1 w1' w2' w3' w4'
      cases hv : vB (bo, ct)
      · have E : Hid (tkO xss bs s = some 5) := by show _ = _; rw [tkO_is, HV.out, allU_no HX2.out hv]; rfl
        clear hv
        go_wp2
        go_ret
        exact ⟨by rw [E.out]; rfl, HB1.out⟩
      · have HV2 := Lib.hid hv
        clear hv
        go_wp2
        go_roundw
        case rel => exact ⟨k + 1, by omega, by go_num, HT.out.step HX2.out HV2.out, HB1.out⟩
        case measure => simp [intOf]; omega
    · obtain rfl : k = bs.length := by omega
      have HA := Lib.hid HT.out.all
      go_wp2_with fail
      refine (l04SlackK_any s _).mono ?_
      rintro e w3 ⟨rfl, rfl⟩
      cases hv : wi 0 2000 s
      · have E : Hid (tkO xss bs s = some 0) := by show _ = _; rw [tkO_is, HV.out, HA.out, hv]; rfl
        clear hv
        go_wp2
        go_ret
        exact ⟨by rw [E.out]; rfl, HB.out⟩
      · have E : Hid (tkO xss bs s = none) := by show _ = _; rw [tkO_is, HV.out, HA.out, hv]; rfl
        clear hv
        go_wp2
        go_ret
        exact ⟨by rw [E.out]; rfl, HB.out⟩

set_option maxRecDepth 100000 in
set_option maxHeartbeats 4000000 in
theorem checkTakingK_any (xss : List (List Wnt)) (bs : List Bot) (s : Int) (A B : Option Addr) (c d : Nat) (ad : Nat → Addr) (w : World) (hl : xss.length ≤ 1048576) (hx : ∀ xs ∈ xss, xs.length ≤ 1048576) (hlb : bs.length ≤ 1048576) (hr : RdN w w.heap.size wcells A xss) (hrb : Rd w w.heap.size bcells B bs) (hE : EW 7 w ad) :
    Calls Tryd.prog 49 #[.slice A xss.length c, .slice B bs.length d, .int .i64 s] w fun e w' => e = .returned (erO ad (tkO xss bs s)) ∧ Below w.heap.size w w' := by
  have HR := Lib.hid hr
  have HRb := Lib.hid hrb
  have HX := Lib.hid hx
  have HE := Lib.hid hE
  clear hr hrb hx hE
  obtain ⟨v0, hv0⟩ : ∃ v, erO ad (chk 5 (rkOk xss)) = v := ⟨_, rfl⟩
  obtain ⟨v1, hv1⟩ : ∃ v, erO ad (chk 5 (bs.all vB)) = v := ⟨_, rfl⟩
  obtain ⟨v2, hv2⟩ : ∃ v, erO ad (chk 0 (wi 0 2000 s)) = v := ⟨_, rfl⟩
  have P0 : Hid (isE v0) := by show isE v0; rw [← hv0]; exact erO_isE _ _
  have P1 : Hid (isE v1) := by show isE v1; rw [← hv1]; exact erO_isE _ _
  have P2 : Hid (isE v2) := by show isE v2; rw [← hv2]; exact erO_isE _ _
  have V0 := Lib.hid hv0
  have V1 := Lib.hid hv1
  have V2 := Lib.hid hv2
  clear hv0 hv1 hv2
  go_enter Tryd.func49, Tryd.ntmps49
  go_wp2_with fail
  refine (checkRack_any xss A c ad _ hl HX.out HR.out HE.out).mono ?_
  rintro e w1 ⟨he, hb⟩
  rw [erV_chk, V0.out] at he
  subst he
  have HB1 := Lib.hid hb
  clear hb
  go_wp2_with fail
  refine (checkEachBoK_any bs B d ad _ hlb (HRb.out.keep HB1.out) (HE.out.below HB1.out (Nat.le_refl _))).mono ?_
  rintro e w2 ⟨he, hb⟩
  rw [V1.out] at he
  subst he
  have HB2 : Hid (Below w.heap.size w w2) := HB1.out.trans (hb.mono HB1.out.size)
  clear hb HB1
  go_wp2_with fail
  refine (checkSlackK_any s ad _ (HE.out.below HB2.out (Nat.le_refl _))).mono ?_
  rintro e w3 ⟨he, hb⟩
  rw [V2.out] at he
  subst he
  have HB3 : Hid (Below w.heap.size w w3) := HB2.out.trans (hb.mono HB2.out.size)
  clear hb HB2
  go_wp2_with (refine wpList_threeErrs rfl (.tmp 8) (.tmp 10) (.tmp 12) rfl P0.out P1.out P2.out rfl rfl rfl ?_)
  have q0 := cells3 w3 v0 v1 v2 67
  have q00 := q0 0 _ rfl
  have q01 := q0 1 _ rfl
  have q02 := q0 2 _ rfl
  rw [← V0.out, ← V1.out, ← V2.out] at q00 q01 q02 ⊢
  refine (firstErr3_O ad _ _ _ _ _ _ q00 q01 q02).mono ?_
  rintro e w9 ⟨rfl, rfl⟩
  rw [V0.out, V1.out, V2.out]
  have L2 : Hid (Below w.heap.size w (w3.alloc (.cells #[v0, v1, v2] 67))) := HB3.out.alloc HB3.out.size _
  clear q0 q00 q01 q02
  obtain ⟨r, hr⟩ : ∃ v, erO ad (firstO [chk 5 (rkOk xss), chk 5 (bs.all vB), chk 0 (wi 0 2000 s)]) = v := ⟨_, rfl⟩
  rw [hr]
  have HRr := Lib.hid hr
  clear hr
  go_wp2
  go_ret
  exact ⟨by rw [tkO, HRr.out]; rfl, L2.out⟩
end Go.Proofs.YtmfdgpinohbckaaDoor
