/-
  The contract of the model's l03Same. Condition: the crates' length, and that their numbers fit their kinds.
-/
import Derived.Test.YtbdjmacjmkcafaaDoorGb
import Derived.Test.YtbdjmacjmkcafaaDoorKm
namespace Go.Proofs.YtbdjmacjmkcafaaDoor
open Go.ChangeShapes Go.WideShapes Go.ChangeAt Go.RowKit Go.Deep

/-- Have two crates the same bottles? -/
def smB (X Y : List Bot) : Bool := (allB X 12).isPerm (allB Y 12)
theorem own_src {w : World} {base : Nat} {v : Value} {X : List Bot} (h : w.ownsRow base 28 2 v X.length (ccells X)) : ∃ ao c, v = .slice ao X.length c ∧ (ao = none → X.length = 0 ∧ c = 0) ∧ (∀ ad, ao = some ad → ∀ j u, (ccells X)[j]? = some u → w.cell? (ad.add j) = some u) ∧ ∀ ad, ao = some ad → ad.block < w.heap.size := by
  obtain ⟨rfl, rfl⟩ | ⟨g, cap, rfl, -, hob⟩ := OB.of h
  · exact ⟨none, 0, rfl, fun _ => ⟨rfl, rfl⟩, fun ad h => (by cases h), fun ad h => (by cases h)⟩
  · refine ⟨some ⟨g, 0, none⟩, cap, rfl, fun h => (by cases h), fun ad h j u hu => ?_, fun ad h => ?_⟩
    · cases h
      rw [Addr.add_lit, Nat.zero_add]; exact hob.cell hu
    · cases h; exact hob.lt
theorem same_perm {A B Y Z : List Bot} (h1 : Y.Perm A) (h2 : Z.Perm B) (s1 : SrtTo Y Y.length) (s2 : SrtTo Z Z.length) : A.isPerm B = decide (Y = Z) := by
  by_cases e : Y = Z
  · subst e
    rw [decide_eq_true rfl, List.isPerm_iff]
    exact h1.symm.trans h2
  · rw [decide_eq_false e]
    cases hp : A.isPerm B
    · rfl
    · exact absurd (SrtTo.same (h1.trans ((List.isPerm_iff.1 hp).trans h2.symm)) s1 s2) e

set_option maxRecDepth 100000 in
set_option maxHeartbeats 4000000 in
theorem l03Same_any (bs bt : List Bot) (hwf : WfC bs) (hwt : WfC bt) (B C : Nat) (w : World) (hB : CBlk w B 30 bs) (hC : CBlk w C 30 bt) :
    Calls Tryd.prog 8 #[.pointer (some ⟨B, 0, none⟩), .pointer (some ⟨C, 0, none⟩)] w fun e w' => e = .returned (.bool (smB bs bt)) ∧ Below w.heap.size w w' := by
  have HW := Lib.hid hwf
  have HV := Lib.hid hwt
  have HB := Lib.hid hB
  have HC := Lib.hid hC
  clear hwf hwt hB hC
  go_enter Tryd.func8, Tryd.ntmps8
  go_wp2_with fail
  refine (l01All_any bs HW.out B _ HB.out).mono ?_
  rintro e w1 ⟨v, rfl, hown, hb⟩
  obtain ⟨ao, c, rfl, hn, hc, hlt⟩ := own_src hown
  have HB1 := Lib.hid hb
  have HN := Lib.hid hn
  have HCc := Lib.hid hc
  have HL := Lib.hid hlt
  clear hown hb hn hc hlt
  go_wp2_with fail
  refine (l01Sorted_any _ (allB_wf HW.out) (by have := allB_length bs 12; omega) ao c _ HN.out HCc.out HL.out).mono ?_
  rintro e w2 ⟨g, cap, Y, rfl, hp, hs, hg, ho, hb⟩
  have P1 := Lib.hid hp
  have S1 := Lib.hid hs
  have O1 := Lib.hid ho
  have HB2 : Hid (Below w.heap.size w w2) := HB1.out.trans (hb.mono HB1.out.size)
  clear hp hs hg ho hb HN HCc HL HB1
  go_wp2_with fail
  refine (l01All_any bt HV.out C _ (HC.out.below HB2.out HC.out.lt)).mono ?_
  rintro e w3 ⟨v, rfl, hown, hb⟩
  obtain ⟨ao', c', rfl, hn, hc, hlt⟩ := own_src hown
  have HB3 : Hid (Below w.heap.size w w3) := HB2.out.trans (hb.mono HB2.out.size)
  have O2 : Hid (OB w3 g Y cap) := O1.out.keep hb
  have HN := Lib.hid hn
  have HCc := Lib.hid hc
  have HL := Lib.hid hlt
  clear hown hb hn hc hlt O1 HB2
  go_wp2_with fail
  refine (l01Sorted_any _ (allB_wf HV.out) (by have := allB_length bt 12; omega) ao' c' _ HN.out HCc.out HL.out).mono ?_
  rintro e w4 ⟨g', cap', Z, rfl, hp, hs, hg, ho, hb⟩
  have P2 := Lib.hid hp
  have S2 := Lib.hid hs
  have O4 := Lib.hid ho
  have O3 : Hid (OB w4 g Y cap) := O2.out.keep hb
  have HB4 : Hid (Below w.heap.size w w4) := HB3.out.trans (hb.mono HB3.out.size)
  have HSM : Hid (smB bs bt = decide (Y = Z)) := same_perm P1.out P2.out S1.out S2.out
  have hY12 : Y.length ≤ 12 := by rw [P1.out.length_eq]; exact allB_length bs 12
  clear hp hs hg ho hb HN HCc HL HB3 O2 P1 P2 S1 S2
  by_cases hne : Y.length = Z.length
  rotate_left
  · have hne2 : ¬ (Y.length : Int) = Z.length := by omega
    have hne3 : ((Y.length : Int) != Z.length) = true := by rw [bne_iff_ne]; omega
    go_wp2_with fail
    go_ret
    exact ⟨ret_bool (by rw [HSM.out, decide_eq_false (fun e => hne (by rw [e]))]), HB4.out⟩
  have HNe := Lib.hid hne
  rw [← hne]
  clear hne
  go_wp2_with fail
  go_loopw [7] (fun i wr => ∃ k : Nat, k ≤ Y.length ∧ i = .int .i64 k ∧ (∀ j, j < k → Y[j]? = Z[j]?) ∧ Below w4.heap.size w4 wr) (fun i _ => Y.length - (intOf i).toNat)
  case atStart => exact ⟨0, by omega, rfl, fun j h => by omega, Below.refl _ _⟩
  case round =>
    obtain ⟨k, hk, rfl, hT, hb⟩ := hrel
    have HT := Lib.hid hT
    have Hb := Lib.hid hb
    clear hT hb
    by_cases hlt : k < Y.length
    · obtain ⟨⟨a, b⟩, hz⟩ : ∃ z, Y[k]? = some z := ⟨_, List.getElem?_eq_getElem hlt⟩
      obtain ⟨⟨p, q⟩, hy⟩ : ∃ z, Z[k]? = some z := ⟨_, List.getElem?_eq_getElem (by have := HNe.out; omega)⟩
      have o1 := O3.out.below Hb.out O3.out.lt
      have o2 := O4.out.below Hb.out O4.out.lt
      have e1 := o1.kind hz
      have e2 := o1.year hz
      have e3 := o2.kind hy
      have e4 := o2.year hy
      have HZ := Lib.hid hz
      have HY := Lib.hid hy
      have hk0 : (0 : Int) ≤ (k : Int) := Int.natCast_nonneg _
      have hk8 : (k : Int) < Y.length := by omega
      clear hz hy o1 o2
      by_cases hx : a = p
      · by_cases hyq : b = q
        · have hx2 := hx.symm; have hy2 := hyq.symm; subst hx2; subst hy2
          go_wp2_with fail
          go_region_held3 (fun w' => w'.cell? ⟨g, k * 2, none⟩ = some (.int .u8 p) ∧ w'.cell? ⟨g, k * 2 + 1, none⟩ = some (.int .i16 q) ∧ w'.cell? ⟨g', k * 2, none⟩ = some (.int .u8 p) ∧ w'.cell? ⟨g', k * 2 + 1, none⟩ = some (.int .i16 q)) (go_keep) (fail)
          go_wp2
          go_roundw
          case rel => exact ⟨k + 1, by omega, by go_num, fun j hj => by
            by_cases e : j = k
            · subst e; rw [HZ.out, HY.out]
            · exact HT.out j (by omega), Hb.out.drew⟩
          case measure => simp [intOf]; omega
        · have hx2 := hx.symm; subst hx2
          have hy' : (b == q) = false := by simpa using hyq
          go_wp2_with fail
          go_region_held3 (fun w' => w'.cell? ⟨g, k * 2, none⟩ = some (.int .u8 p) ∧ w'.cell? ⟨g, k * 2 + 1, none⟩ = some (.int .i16 b) ∧ w'.cell? ⟨g', k * 2, none⟩ = some (.int .u8 p) ∧ w'.cell? ⟨g', k * 2 + 1, none⟩ = some (.int .i16 q)) (go_keep) (fail)
          go_wp2
          go_ret
          exact ⟨ret_bool (by rw [HSM.out, decide_eq_false (fun e => by rw [e, HY.out] at HZ; exact hyq (by have := HZ.out; simp at this; omega))]), HB4.out.trans (Hb.out.drew.mono HB4.out.size)⟩
      · have hx' : (a == p) = false := by simpa using hx
        go_wp2_with fail
        go_region_held3 (fun w' => w'.cell? ⟨g, k * 2, none⟩ = some (.int .u8 a) ∧ w'.cell? ⟨g, k * 2 + 1, none⟩ = some (.int .i16 b) ∧ w'.cell? ⟨g', k * 2, none⟩ = some (.int .u8 p) ∧ w'.cell? ⟨g', k * 2 + 1, none⟩ = some (.int .i16 q)) (go_keep) (fail)
        go_wp2
        go_ret
        exact ⟨ret_bool (by rw [HSM.out, decide_eq_false (fun e => by rw [e, HY.out] at HZ; exact hx (by have := HZ.out; simp at this; omega))]), HB4.out.trans (Hb.out.drew.mono HB4.out.size)⟩
    · have hge : ¬ (k : Int) < Y.length := by omega
      go_wp2
      go_ret
      exact ⟨ret_bool (by rw [HSM.out, decide_eq_true (List.ext_getElem? fun j => by
        by_cases hj : j < k
        · exact HT.out j hj
        · rw [List.getElem?_eq_none (by omega), List.getElem?_eq_none (by have := HNe.out; omega)])]), HB4.out.trans (Hb.out.mono HB4.out.size)⟩
end Go.Proofs.YtbdjmacjmkcafaaDoor
