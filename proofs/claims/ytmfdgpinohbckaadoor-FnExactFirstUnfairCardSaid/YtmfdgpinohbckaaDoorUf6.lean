/-
  FirstUnfair: the program's contract. Condition: both lists read, their numbers fit, not more than 1048576; the sentinel errors lie as the row lists them.
-/
import Derived.Test.YtmfdgpinohbckaaDoorUf5
import Derived.Test.YtmfdgpinohbckaaDoorKc7
namespace Go.Proofs.YtmfdgpinohbckaaDoor
open Go.ChangeShapes Go.WideShapes Go.ChangeAt Go.RowKit Go.Deep

theorem checkStoredU_any (ys : List Wnt) (B : Option Addr) (c : Nat) (ad : Nat → Addr) (w : World) (hl : ys.length ≤ 1048576) (hr : Rd w w.heap.size wcells B ys) (hE : EW 7 w ad) :
    Calls Tryd.prog 57 #[.slice B ys.length c] w fun e w' => e = .returned (erO ad (chk 5 (ys.all sV))) ∧ Below w.heap.size w w' := by
  have HR := Lib.hid hr
  have HE := Lib.hid hE
  clear hr hE
  go_enter Tryd.func57, Tryd.ntmps57
  go_wp2_with fail
  refine (checkEachS_any ys _ c ad w hl HR.out HE.out.i5).mono ?_
  rintro e w1 ⟨rfl, hb⟩
  have HB1 := Lib.hid hb
  clear hb
  rw [erV_chk]
  obtain ⟨v, hv⟩ : ∃ v, erO ad (chk 5 (ys.all sV)) = v := ⟨_, rfl⟩
  have HV := Lib.hid hv
  rw [hv]
  clear hv
  go_wp2
  go_ret
  exact ⟨by first | rfl | (rw [HV.out]; rfl), HB1.out⟩
theorem ueV_O (ad : Nat → Addr) (o : Option Nat) : ueV ad o = erO ad (if o.isSome = true then none else some 4) := by cases o <;> rfl
theorem cd_ue (o : Option Nat) : cdO (if o.isSome = true then none else some 4) = if o.isSome = true then 0 else 6 := by cases o <;> rfl

set_option maxRecDepth 100000 in
set_option maxHeartbeats 4000000 in
theorem implUnfair_any (ts : List Wnt) (hwt : ∀ x ∈ ts, wfW x) (ls : List Wnt) (hwl : ∀ x ∈ ls, wfW x) (s : Int) (A B : Option Addr) (c d : Nat) (ad : Nat → Addr) (w : World) (hlt : ts.length ≤ 1048576) (hll : ls.length ≤ 1048576) (hr : Rd w w.heap.size wcells A ts) (hb : Rd w w.heap.size wcells B ls) (hE : EW 7 w ad) :
    Calls Tryd.prog 36 #[.slice A ts.length c, .slice B ls.length d, .int .i64 s] w fun e w' => e = .returned (.tuple #[.int .i64 (ufN s ts ls : Nat), .int .i64 (ufC s ts ls)]) ∧ Below w.heap.size w w' := by
  have HR := Lib.hid hr
  have HRb := Lib.hid hb
  have HWt := Lib.hid hwt
  have HWl := Lib.hid hwl
  have HE := Lib.hid hE
  clear hr hb hwl hE
  obtain ⟨v0, hv0⟩ : ∃ v, erO ad (chk 5 (ts.all sV)) = v := ⟨_, rfl⟩
  obtain ⟨v1, hv1⟩ : ∃ v, erO ad (chk 5 (ls.all sV)) = v := ⟨_, rfl⟩
  obtain ⟨v2, hv2⟩ : ∃ v, erO ad (chk 0 (wi 0 2000 s)) = v := ⟨_, rfl⟩
  have P0 : Hid (isE v0) := by show isE v0; rw [← hv0]; exact erO_isE _ _
  have P1 : Hid (isE v1) := by show isE v1; rw [← hv1]; exact erO_isE _ _
  have P2 : Hid (isE v2) := by show isE v2; rw [← hv2]; exact erO_isE _ _
  have V0 := Lib.hid hv0
  have V1 := Lib.hid hv1
  have V2 := Lib.hid hv2
  clear hv0 hv1 hv2
  go_enter Tryd.func36, Tryd.ntmps36
  go_wp2_with fail
  refine (checkStoredU_any ts A c ad _ hlt HR.out HE.out).mono ?_
  rintro e w1 ⟨he, hb⟩
  rw [V0.out] at he
  subst he
  have HB1 := Lib.hid hb
  clear hb
  go_wp2_with fail
  refine (checkStoredU_any ls B d ad _ hll (HRb.out.keep HB1.out) (HE.out.below HB1.out (Nat.le_refl _))).mono ?_
  rintro e w2 ⟨he, hb⟩
  rw [V1.out] at he
  subst he
  have HB2 : Hid (Below w.heap.size w w2) := HB1.out.trans (hb.mono HB1.out.size)
  clear hb HB1
  go_wp2_with fail
  refine (checkSlackK_any s ad _ (HE.out.below HB2.out (Nat.le_refl _))).mono ?_
  rintro e w3 ⟨he, hb⟩
  rw [V2.out] at he
  subst he
  have HB3 : Hid (Below w.heap.size w w3) := HB2.out.trans (hb.mono HB2.out.size)
  clear hb HB2
  go_wp2_with (refine wpList_threeErrs rfl (.tmp 11) (.tmp 13) (.tmp 15) rfl P0.out P1.out P2.out rfl rfl rfl ?_)
  have q0 := cells3 w3 v0 v1 v2 67
  have q00 := q0 0 _ rfl
  have q01 := q0 1 _ rfl
  have q02 := q0 2 _ rfl
  rw [← V0.out, ← V1.out, ← V2.out] at q00 q01 q02 ⊢
  refine (firstErr3_O ad _ _ _ _ _ _ q00 q01 q02).mono ?_
  rintro e w9 ⟨rfl, rfl⟩
  rw [V0.out, V1.out, V2.out]
  have L2 : Hid (Below w.heap.size w (w3.alloc (.cells #[v0, v1, v2] 67))) := HB3.out.alloc HB3.out.size _
  obtain ⟨w4, hw4⟩ : ∃ w4, w3.alloc (.cells #[v0, v1, v2] 67) = w4 := ⟨_, rfl⟩
  rw [hw4] at L2 ⊢
  clear q0 q00 q01 q02 hw4
  have HO : Hid (firstO [chk 5 (ts.all sV), chk 5 (ls.all sV), chk 0 (wi 0 2000 s)] = ufO s ts ls) := rfl
  rw [HO.out]
  cases ho : ufO s ts ls with
  | some i =>
    have hi : i < 7 := by
      rw [ufO_is] at ho
      split at ho
      · split at ho
        · split at ho
          · cases ho
          · cases ho; omega
        · cases ho; omega
      · cases ho; omega
    have E := Lib.hid (uf_no ho)
    rw [erO_some]
    clear ho
    go_wp2_with fail
    refine (codeOf_O (HE.out.below L2.out (Nat.le_refl _)) i hi).mono ?_
    rintro e w5 ⟨rfl, rfl⟩
    go_wp2
    go_ret2
    exact ⟨by (rw [E.out.1, E.out.2]; first | done | rfl), L2.out⟩
  | none =>
    have hsl : 0 ≤ s ∧ s ≤ 2000 := by
      rw [ufO_is] at ho
      split at ho
      · split at ho
        · split at ho
          · rename_i h; simp only [wi, Bool.and_eq_true, decide_eq_true_eq] at h; exact h
          · cases ho
        · cases ho
      · cases ho
    have E := Lib.hid (uq_all HWt.out hlt ho)
    have HSl := Lib.hid hsl
    rw [erO_none]
    clear ho hsl
    go_wp2_with fail
    refine (firstUnfair_any ts HWt.out ls HWl.out s HSl.out A B c d ad _ hlt hll (HR.out.keep L2.out) (HRb.out.keep L2.out) (HE.out.below L2.out (Nat.le_refl _))).mono ?_
    rintro e w5 ⟨he, hb⟩
    obtain ⟨o, hoo⟩ : ∃ o, (uqL s ls (bwL ts HWt.out hlt ts.length)).1 = o := ⟨_, rfl⟩
    rw [hoo] at he E
    have HB5 : Hid (Below w.heap.size w w5) := L2.out.trans (hb.mono L2.out.size)
    clear hb hoo L2
    rw [ueV_O] at he
    obtain ⟨q, hq⟩ : ∃ q, (if o.isSome = true then none else some 4 : Option Nat) = q := ⟨_, rfl⟩
    have hq7 : ∀ i, q = some i → i < 7 := fun i hi => by rw [← hq] at hi; split at hi <;> cases hi; omega
    have HC := Lib.hid (cd_ue o)
    rw [hq] at he HC
    obtain ⟨v, hv⟩ : ∃ v, erO ad q = v := ⟨_, rfl⟩
    rw [hv] at he
    have HV := Lib.hid hv
    have HQ7 := Lib.hid hq7
    obtain ⟨N, hN⟩ : ∃ N : Nat, o.getD 0 = N := ⟨_, rfl⟩
    rw [hN] at he E
    subst he
    clear hv hq hq7 hN
    go_wp2_with fail
    have hco := codeOf_any (HE.out.below HB5.out (Nat.le_refl _)) q HQ7.out
    rw [HV.out] at hco
    refine hco.mono ?_
    rintro e w6 ⟨rfl, rfl⟩
    rw [HC.out]
    clear hco
    obtain ⟨C, hC⟩ : ∃ C : Int, (if o.isSome = true then 0 else 6 : Int) = C := ⟨_, rfl⟩
    rw [hC] at E ⊢
    go_wp2
    go_ret2
    exact ⟨by (rw [E.out.1, E.out.2]; first | done | rfl), HB5.out⟩
end Go.Proofs.YtmfdgpinohbckaaDoor
