/-
  FnExactStoreAll: for all arguments the law returns true, and they read as before. No condition but that the sentinel errors hold what the program's text lays (tied).
-/
import Derived.Test.YtdgcgkeclcpafaaDoorL
import Derived.Test.YtdgcgkeclcpafaaDoorGk
import Derived.Test.YtdgcgkeclcpafaaDoorCards
import Derived.Test.YtdgcgkeclcpafaaDoorTie
import Derived.Test.YtdgcgkeclcpafaaDoorG
import Derived.Test.YtdgcgkeclcpafaaDoorSaB
import Derived.Test.YtdgcgkeclcpafaaDoorMkRk
import Derived.Test.YtdgcgkeclcpafaaDoorTb
import Derived.SevenTiedAt
namespace Go.Proofs.YtdgcgkeclcpafaaDoor
open Go.ChangeShapes Go.WideShapes Go.ChangeAt Go.RowKit Go.Deep

/-- A list's cells hold numbers from k0 on. -/
def MkdI (w : World) (A : Option Addr) (n : Nat) (k0 : Int) : Prop := ∀ j : Nat, j < n → ∃ g, A = some ⟨g, 0, none⟩ ∧ g < w.heap.size ∧ w.cell? ⟨g, j, none⟩ = some (.int .i64 (IntKind.i64.wrap (k0 + 1 * (j : Int))))
theorem MkdI.below {w w' : World} {A : Option Addr} {n : Nat} {k0 : Int} (h : MkdI w A n k0) (hb : Below w.heap.size w w') : MkdI w' A n k0 := fun j hj => by
  obtain ⟨g, rfl, hg, h0⟩ := h j hj
  exact ⟨g, rfl, Nat.lt_of_lt_of_le hg hb.size, (hb.cell (p := ⟨g, j, none⟩) hg).trans h0⟩

set_option maxRecDepth 100000 in
set_option maxHeartbeats 2000000 in
theorem mkNi_any (n : Nat) (A : Option Addr) (c : Nat) (k0 : Int) (w : World) (hk0 : 0 ≤ k0) (hk1 : k0 + 1 * (n : Int) ≤ 4611686018427387904) (h : n = 0 ∨ ∃ g cur, A = some ⟨g, 0, none⟩ ∧ Blk w g 2 cur ∧ n * 1 ≤ cur.size) :
    Calls Tryd.prog 23 #[.slice A n c, .int .i64 k0] w fun e w' => e = .returned (.int .i64 (k0 + 1 * n)) ∧ MkdI w' A n k0 ∧ w.grownBy w' (A.map (·.block)) ∧ (n = 0 → w = w') := by
  by_cases hn0 : n = 0
  · subst hn0
    go_enter Tryd.func23, Tryd.ntmps23
    go_wp2
    refine wp_loop_rounds 1 ?_
    rw [rounds_succ]
    go_wp2
    go_ret
    exact ⟨by simp, fun j hj => absurd hj (by omega), ⟨rfl, rfl, rfl, Nat.le_refl _, fun _ _ _ => rfl⟩, fun _ => rfl⟩
  obtain ⟨g, cur, rfl, hK, hcs⟩ := h.resolve_left hn0
  have HN0 := Lib.hid hn0
  clear hn0 h
  have HK := Lib.hid hK
  have HC := Lib.hid hcs
  clear hK hcs
  go_enter Tryd.func23, Tryd.ntmps23
  go_wp2_with fail
  go_loopw [1, 5] (fun s i wr => ∃ (k : Nat) (cu : Array Value), k ≤ n ∧ i = .int .i64 k ∧ s = .int .i64 (k0 + 1 * k) ∧ Blk wr g 2 cu ∧ cu.size = cur.size ∧ (∀ j : Nat, j < k → cu[j]? = some (.int .i64 (IntKind.i64.wrap (k0 + 1 * (j : Int))))) ∧ w.grownBy wr (some g)) (fun _ i _ => n - (intOf i).toNat)
  case atStart => exact ⟨0, cur, by omega, rfl, by simp, HK.out, rfl, fun j h => absurd h (by omega), ⟨rfl, rfl, rfl, Nat.le_refl _, fun _ _ _ => rfl⟩⟩
  case round =>
    clear HK
    obtain ⟨k, cu, hk, rfl, rfl, hB, hsz', hm, hT⟩ := hrel
    have HB := Lib.hid hB
    have HM := Lib.hid hm
    have HT := Lib.hid hT
    have HS := Lib.hid hsz'
    clear hB hT hm hsz'
    obtain ⟨m, hmm⟩ : ∃ m : Int, k0 + 1 * (k : Int) = m := ⟨_, rfl⟩
    have HMM := Lib.hid hmm
    rw [hmm]
    by_cases hlt : k < n
    · have hcs := HC.out
      obtain ⟨u0, hu0⟩ : ∃ u, cu[k]? = some u := ⟨_, Array.getElem?_eq_getElem (by have := HS.out; omega)⟩
      have e0 : wr.cell? ⟨g, k, none⟩ = some u0 := (HB.out.cell _).trans hu0
      have f0 := HB.out.frozen (k)
      have hkk0 : (0 : Int) ≤ (k : Int) := Int.natCast_nonneg _
      have hkk8 : (k : Int) < n := by omega
      have hw0 : IntKind.i64.wrap (m) = m := IntWalk.i64_in _ ⟨by omega, by omega⟩
      have hs0 : IntKind.i64.wrap (m + 1) = m + 1 := IntWalk.i64_in _ ⟨by omega, by omega⟩
      have hs1 : wrap64 (m + 1) = m + 1 := IntWalk.wrap64_in _ ⟨by omega, by omega⟩
      clear hu0 hmm hcs
      go_wp2
      go_roundw
      case rel =>
        have hmm := HMM.out
        have hcs := HC.out
        refine ⟨k + 1, (cu.setIfInBounds (k) (.int .i64 (m))), by omega, by go_num, by rw [show k0 + 1 * ((k + 1 : Nat) : Int) = m + 1 from by omega], (HB.out.set_ (k) _), by simp [HS.out], fun j hj => ?_, (gk_set HT.out _)⟩
        have hsz2 := HS.out
        by_cases e : j = k
        · subst e
          have q0 : k0 + 1 * (j : Int) = m := by omega
          rw [Array.getElem?_setIfInBounds, if_pos rfl, if_pos (by have := HS.out; (try simp only [Array.size_setIfInBounds]); omega), q0, hw0]
        · have hm1 := HM.out j (by omega)
          rw [Array.getElem?_setIfInBounds, if_neg (by omega)]; exact hm1
      case measure => simp [intOf]; omega
    · obtain rfl : k = n := by omega
      go_wp2
      go_ret
      exact ⟨by rw [HMM.out]; first | done | rfl, fun j hj => ⟨g, rfl, HB.out.lt, (HB.out.cell _).trans (HM.out j hj)⟩, HT.out, fun e => absurd e HN0.out⟩

set_option maxRecDepth 100000 in
set_option maxHeartbeats 2000000 in
theorem hdNi_any (n : Nat) (A : Option Addr) (c : Nat) (k0 : Int) (w : World) (hk0 : 0 ≤ k0) (hk1 : k0 + 1 * (n : Int) ≤ 4611686018427387904) (h : MkdI w A n k0) :
    Calls Tryd.prog 25 #[.slice A n c, .int .i64 k0] w fun e w' => e = .returned (.int .i64 (k0 + 1 * n)) ∧ w = w' := by
  have H := Lib.hid h
  clear h
  go_enter Tryd.func25, Tryd.ntmps25
  go_wp2_with fail
  go_loop [1, 5] (fun s i => ∃ (k : Nat), k ≤ n ∧ i = .int .i64 k ∧ s = .int .i64 (k0 + 1 * k)) (fun _ i => n - (intOf i).toNat)
  case atStart => exact ⟨0, by omega, rfl, by simp⟩
  case round =>
    obtain ⟨k, hk, rfl, rfl⟩ := hrel
    obtain ⟨m, hmm⟩ : ∃ m : Int, k0 + 1 * (k : Int) = m := ⟨_, rfl⟩
    have HMM := Lib.hid hmm
    by_cases hlt : k < n
    · obtain ⟨g, rfl, hg, c0⟩ := H.out k hlt
      rw [hmm] at c0 ⊢
      have hkk0 : (0 : Int) ≤ (k : Int) := Int.natCast_nonneg _
      have hkk8 : (k : Int) < n := by omega
      have hw0 : IntKind.i64.wrap (m) = m := IntWalk.i64_in _ ⟨by omega, by omega⟩
      rw [hw0] at c0
      have hs0 : IntKind.i64.wrap (m + 1) = m + 1 := IntWalk.i64_in _ ⟨by omega, by omega⟩
      have hs1 : wrap64 (m + 1) = m + 1 := IntWalk.wrap64_in _ ⟨by omega, by omega⟩
      clear hmm
      go_wp2
      go_round
      case rel => exact ⟨k + 1, by omega, by go_num, by have := HMM.out; rw [show k0 + 1 * ((k + 1 : Nat) : Int) = m + 1 from by omega]⟩
      case measure => simp [intOf]; omega
    · obtain rfl : k = n := by omega
      clear hmm
      go_wp2
      go_ret
      exact ⟨rfl, rfl⟩
end Go.Proofs.YtdgcgkeclcpafaaDoor

namespace Go.Proofs.YtdgcgkeclcpafaaDoor
open Go.ChangeShapes Go.WideShapes Go.ChangeAt Go.RowKit Go.Deep

theorem sum_boundA {T : Type} : ∀ (xss : List (List T)) (m : Nat), (∀ xs ∈ xss, xs.length ≤ m) → sumL xss ≤ xss.length * m
  | [], _, _ => by simp [sumL]
  | xs :: xss, m, h => by
    have h1 := sum_boundA xss m (fun ys hy => h ys (List.mem_cons_of_mem _ hy))
    have h2 := h xs (List.mem_cons_self ..)
    unfold sumL at h1 ⊢
    simp only [List.map_cons, List.sum_cons, List.length_cons, Nat.succ_mul]
    omega
theorem sa_bounds {xss : List (List Wnt)} {ys : List Wnt} (hwf : ∀ xs ∈ xss, ∀ x ∈ xs, wfW x) (hwy : ∀ x ∈ ys, wfW x) : (saR xss ys).length ≤ 8 ∧ (∀ zs ∈ saR xss ys, zs.length ≤ 6) ∧ (saL xss ys).length ≤ ys.length := by
  unfold saR saL
  cases hg : saG xss ys with
  | none => exact ⟨by simp, by simp, by simp⟩
  | some p =>
    obtain ⟨r, ls⟩ := p
    unfold saG at hg
    split at hg
    · rename_i hok
      simp only [Bool.and_eq_true] at hok
      obtain ⟨h1, h2, h3, -⟩ := saS_ok (fun xs h => (rkOk_lane hok.1 h).1) hwf hwy _ (Nat.le_refl _) r ls hg
      have := rkOk_len hok.1
      exact ⟨by simp; omega, h3, by simp; omega⟩
    · cases hg
theorem sep_inHs {A L : Option Addr} {hs : List Hd} {n c m q : Nat} (hS : SepL A hs L) (e : (Value.slice L n c).ownBlock = some q) : ¬ inHs hs m q := fun ⟨i, h, _, hi, _, e2⟩ => by
  rw [ownBlock_slice] at e
  exact (hS q e).2 i h hi e2
theorem mkd_grown {w w' : World} {A L : Option Addr} {hs : List Hd} {xss : List (List Wnt)} {k0 : Int} (h : MkdN w A hs xss k0) (hg : w.grownBy w' (L.map (·.block))) (hS : SepL A hs L) : MkdN w' A hs xss k0 := by
  have hO : Only (fun q => L.map (·.block) = some q) w w' := Only.of_grown hg (fun k e => e)
  exact ⟨h.1, hO.rd h.2.1 (fun k e e2 => (hS k e2).1 e), fun i hd xs hi hx => ⟨(h.2.2 i hd xs hi hx).1, (h.2.2 i hd xs hi hx).2.only hO (fun k _ e e2 => (hS k e2).2 i hd hi e)⟩⟩

set_option maxRecDepth 100000 in
set_option maxHeartbeats 8000000 in
theorem saLaw_any (xss : List (List Wnt)) (ys : List Wnt) (A B : Option Addr) (c d : Nat) (ad : Nat → Addr) (w : World) (hl0 : xss.length ≤ 9223372036854775807) (hr0 : RdN w w.heap.size wcells A xss) (hx0 : ∀ xs ∈ xss, xs.length ≤ 9223372036854775807) (hw0 : ∀ xs ∈ xss, ∀ x ∈ xs, wfW x) (hly0 : ys.length ≤ 9223372036854775807) (hy0 : Rd w w.heap.size wcells B ys) (hwy0 : ∀ x ∈ ys, wfW x) (hE : EW 7 w ad) :
    Calls Tryd.prog 5 #[.slice A xss.length c, .slice B ys.length d] w (Good w) := by
  have HR0 := Lib.hid hr0
  have HRy := Lib.hid hy0
  have HW0 := Lib.hid hw0
  have HWy := Lib.hid hwy0
  have HE := Lib.hid hE
  clear hE hr0 hw0 hy0 hwy0
  have HB_0 : Hid (Below w.heap.size w w) := Below.refl _ _
  go_enter Tryd.func5, Tryd.ntmps5
  go_wp2_with fail
  refine (szRack_any xss A c (1048576) hl0 hx0 ⟨by omega, by omega⟩ _ (HR0.out.keep HB_0.out)).mono ?_
  rintro e w' ⟨rfl, rfl⟩
  by_cases hn0 : (1048576 : Int) < (xss.length + sumL xss)
  · rw [if_pos hn0]
    go_wp2
    go_ret
    exact ⟨rfl, HB_0.out⟩
  rw [if_neg hn0]
  obtain ⟨lf, hlf⟩ : ∃ l : Int, 1048576 - (xss.length + sumL xss : Int) = l := ⟨_, rfl⟩
  rw [hlf]
  have hz0 : ¬ lf < 0 := by omega
  have hm0 : xss.length ≤ 1048576 := by omega
  have hsm0 : sumL xss ≤ 1048576 := by omega
  have hxm0 : ∀ xs ∈ xss, xs.length ≤ 1048576 := fun xs hxs => by obtain ⟨j, hj, rfl⟩ := List.mem_iff_getElem.1 hxs; have := le_sumL (List.getElem?_eq_getElem hj); omega
  have hlb : 0 ≤ lf ∧ lf ≤ 1048576 := by omega
  have HLb := Lib.hid hlb
  clear hlf hlb
  go_wp2_with fail
  refine (szStoredS_any B ys.length d lf hly0 HLb.out _).mono ?_
  rintro e w' ⟨rfl, rfl⟩
  by_cases hn2 : lf < ys.length
  · rw [if_pos hn2]
    go_wp2
    go_ret
    exact ⟨rfl, HB_0.out⟩
  rw [if_neg hn2]
  obtain ⟨lg, hlg⟩ : ∃ l : Int, lf - (ys.length : Int) = l := ⟨_, rfl⟩
  rw [hlg]
  have hz1 : ¬ lg < 0 := by omega
  have hmy : ys.length ≤ 1048576 := by have := HLb.out; omega
  obtain ⟨L, hL⟩ : ∃ L, saR xss ys = L := ⟨_, rfl⟩
  obtain ⟨ls, hls⟩ : ∃ L, saL xss ys = L := ⟨_, rfl⟩
  obtain ⟨cd, hcd⟩ : ∃ cd, saC xss ys = cd := ⟨_, rfl⟩
  have hLs := sa_bounds HW0.out HWy.out
  rw [hL, hls] at hLs
  have hLl : L.length ≤ 1048576 := by omega
  have hLx : ∀ ys ∈ L, ys.length ≤ 1048576 := fun ys hy => by have := hLs.2.1 ys hy; omega
  have hLn : sumL L ≤ 1000 := by have := sum_boundA L 6 hLs.2.1; omega
  have hll : ls.length ≤ 1048576 := by omega
  have HLx := Lib.hid hLx
  clear hLs hLx hx0 hl0 hly0 hlg HLb
  have HS : Hid (∀ A B c d w, RdN w w.heap.size wcells A xss → Rd w w.heap.size wcells B ys → Calls Tryd.prog 16 #[.slice A xss.length c, .slice B ys.length d] w fun e w' => ∃ A' c' K lc, e = .returned (.tuple #[.slice A' L.length c', .slice K ls.length lc, .int .i64 cd]) ∧ RdN w' w'.heap.size wcells A' L ∧ Rd w' w'.heap.size icells K ls ∧ Below w.heap.size w w') := by
    have := fun A B c d w hr hb => specStoreAll_any xss HW0.out ys HWy.out A B c d w hm0 hxm0 hmy hr hb
    rw [hL, hls, hcd] at this; exact this
  have HI : Hid (∀ A B c d w, RdK w w.heap.size wcells A xss → Rd w w.heap.size wcells B ys → EW 7 w ad → Calls Tryd.prog 18 #[.slice A xss.length c, .slice B ys.length d] w fun e w' => ∃ A' c' hs K lc, e = .returned (.tuple #[.slice A' L.length c', .slice K ls.length lc, .int .i64 cd]) ∧ OwnN w' w.heap.size 43 52 3 wcells A' c' hs L ∧ w'.ownsRow w.heap.size 2 1 (.slice K ls.length lc) ls.length (ls.flatMap icells) ∧ SepL A' hs K ∧ Below w.heap.size w w') := by
    have := fun A B c d w hr hb hE => implStoreAll_any xss HW0.out ys HWy.out A B c d ad w hm0 hxm0 hmy hr hb hE
    rw [hL, hls, hcd] at this; exact this
  clear hL hls hcd
  go_wp2_with fail
  refine (toRack_any xss A c _ hm0 hxm0 (HR0.out.keep HB_0.out)).mono ?_
  rintro e w1 ⟨rfl, ⟨gsS0, hR⟩, hb⟩
  have HB_1 : Hid (Below w.heap.size w w1) := HB_0.out.trans (hb.mono HB_0.out.size)
  clear hb HB_0
  have S0_1 : Hid (RsN w1 w.heap.size 43 52 wcells xss gsS0) := hR
  clear hR
  go_wp2_with fail
  refine (toStoredS_any ys B d _ hmy (HRy.out.keep HB_1.out)).mono ?_
  rintro e w2 ⟨rfl, hR, hb⟩
  have HB_2 : Hid (Below w.heap.size w w2) := HB_1.out.trans (hb.mono HB_1.out.size)
  have S0_2 : Hid (RsN w2 w.heap.size 43 52 wcells xss gsS0) := S0_1.out.keep hb
  clear hb HB_1 S0_1
  have S1_2 : Hid (Rs w2 w1.heap.size 52 wcells ys) := hR
  clear hR
  go_wp2_with fail
  refine (HS.out _ _ _ _ _ S0_2.out.rd (Rs.rd S1_2.out (Blk.lt S1_2.out))).mono ?_
  rintro e w3 ⟨A0, c0, K0, d0, rfl, hV, hU, hb⟩
  clear S0_2
  clear S1_2
  have HB_3 : Hid (Below w.heap.size w w3) := HB_2.out.trans (hb.mono HB_2.out.size)
  clear hb HB_2
  have RV := Lib.hid hV
  have RU := Lib.hid hU
  clear hV hU
  have HV_3 : Hid (Below w3.heap.size w3 w3) := Below.refl _ _
  go_wp2_with fail
  refine (toRack_any xss A c _ hm0 hxm0 (HR0.out.keep HB_3.out)).mono ?_
  rintro e w4 ⟨rfl, ⟨gsX, hR⟩, hb⟩
  have LE0 : Hid (w.heap.size ≤ w3.heap.size) := HB_3.out.size
  have LE1 : Hid (w3.heap.size ≤ w3.heap.size) := HV_3.out.size
  have HB_4 : Hid (Below w.heap.size w w4) := HB_3.out.trans (hb.mono HB_3.out.size)
  have HV_4 : Hid (Below w3.heap.size w3 w4) := HV_3.out.trans (hb.mono HV_3.out.size)
  clear hb HB_3 HV_3
  have X_4 : Hid (RsN w4 w3.heap.size 43 52 wcells xss gsX) := hR
  clear hR
  have HXS := Lib.hid (rk_src X_4.out).2.2.2.2.2
  have HX_4 : Hid (Below w4.heap.size w4 w4) := Below.refl _ _
  have LE2 : Hid (w3.heap.size < w4.heap.size) := X_4.out.lt
  go_wp2_with fail
  refine (toStoredS_any ys B d _ hmy (HRy.out.keep HB_4.out)).mono ?_
  rintro e w5 ⟨rfl, hR, hb⟩
  have HB_5 : Hid (Below w.heap.size w w5) := HB_4.out.trans (hb.mono HB_4.out.size)
  have HV_5 : Hid (Below w3.heap.size w3 w5) := HV_4.out.trans (hb.mono HV_4.out.size)
  have X_5 : Hid (RsN w5 w3.heap.size 43 52 wcells xss gsX) := X_4.out.keep hb
  have HX_5 : Hid (Below w4.heap.size w4 w5) := HX_4.out.trans (hb.mono HX_4.out.size)
  clear hb HB_4 HV_4 X_4 HX_4
  have Y_5 : Hid (Rs w5 w4.heap.size 52 wcells ys) := hR
  clear hR
  go_wp2_with fail
  refine (HI.out _ _ _ _ _ X_5.out.rdK (Rs.rd Y_5.out (Blk.lt Y_5.out)) (HE.out.below HB_5.out (Nat.le_refl _))).mono ?_
  rintro e w6 ⟨Ag, cg, hsg, Lg, lcg, rfl, hN, hM, hP, hb⟩
  have LE3 : Hid (w.heap.size ≤ w5.heap.size) := HB_5.out.size
  have LE4 : Hid (w3.heap.size ≤ w5.heap.size) := HV_5.out.size
  have LE5 : Hid (w4.heap.size ≤ w5.heap.size) := HX_5.out.size
  have LE6 : Hid (w4.heap.size < w5.heap.size) := Blk.lt Y_5.out
  have HB_6 : Hid (Below w.heap.size w w6) := HB_5.out.trans (hb.mono HB_5.out.size)
  have HV_6 : Hid (Below w3.heap.size w3 w6) := HV_5.out.trans (hb.mono HV_5.out.size)
  have X_6 : Hid (RsN w6 w3.heap.size 43 52 wcells xss gsX) := X_5.out.keep hb
  have HX_6 : Hid (Below w4.heap.size w4 w6) := HX_5.out.trans (hb.mono HX_5.out.size)
  have Y_6 : Hid (Rs w6 w4.heap.size 52 wcells ys) := Blk.keep Y_5.out hb
  clear hb HB_5 HV_5 X_5 HX_5 Y_5
  have GN_6 := Lib.hid hN
  have GL_6 := Lib.hid hM
  have GS := Lib.hid hP
  clear hN hM hP
  go_wp2_with fail
  refine (eqRack_same L _ _ _ _ _ hLl HLx.out (GN_6.out.rd wcells_length) (RV.out.keep HV_6.out)).mono ?_
  rintro e w7 ⟨rfl, hb⟩
  have HB_7 : Hid (Below w.heap.size w w7) := HB_6.out.trans (hb.mono HB_6.out.size)
  have HV_7 : Hid (Below w3.heap.size w3 w7) := HV_6.out.trans (hb.mono HV_6.out.size)
  have X_7 : Hid (RsN w7 w3.heap.size 43 52 wcells xss gsX) := X_6.out.keep hb
  have HX_7 : Hid (Below w4.heap.size w4 w7) := HX_6.out.trans (hb.mono HX_6.out.size)
  have Y_7 : Hid (Rs w7 w4.heap.size 52 wcells ys) := Blk.keep Y_6.out hb
  have GN_7 : Hid (OwnN w7 w5.heap.size 43 52 3 wcells Ag cg hsg (L)) := GN_6.out.keep hb
  have GL_7 : Hid (w7.ownsRow w5.heap.size 2 1 (.slice Lg ls.length lcg) ls.length (ls.flatMap icells)) := own_keep' GL_6.out hb
  clear hb HB_6 HV_6 X_6 HX_6 Y_6 GN_6 GL_6
  go_wp2_with fail
  refine (eqInt64S_same ls _ _ _ _ _ (by omega) (own_rd2 icells_length GL_7.out) (RU.out.keep HV_7.out)).mono ?_
  rintro e w8 ⟨rfl, hb⟩
  have HB_8 : Hid (Below w.heap.size w w8) := HB_7.out.trans (hb.mono HB_7.out.size)
  have HV_8 : Hid (Below w3.heap.size w3 w8) := HV_7.out.trans (hb.mono HV_7.out.size)
  have X_8 : Hid (RsN w8 w3.heap.size 43 52 wcells xss gsX) := X_7.out.keep hb
  have HX_8 : Hid (Below w4.heap.size w4 w8) := HX_7.out.trans (hb.mono HX_7.out.size)
  have Y_8 : Hid (Rs w8 w4.heap.size 52 wcells ys) := Blk.keep Y_7.out hb
  have GN_8 : Hid (OwnN w8 w5.heap.size 43 52 3 wcells Ag cg hsg (L)) := GN_7.out.keep hb
  have GL_8 : Hid (w8.ownsRow w5.heap.size 2 1 (.slice Lg ls.length lcg) ls.length (ls.flatMap icells)) := own_keep' GL_7.out hb
  clear hb HB_7 HV_7 X_7 HX_7 Y_7 GN_7 GL_7
  go_wp2_with fail
  refine (toRack_any xss A c _ hm0 hxm0 (HR0.out.keep HB_8.out)).mono ?_
  rintro e w9 ⟨rfl, ⟨gsZ, hR⟩, hb⟩
  have HB_9 : Hid (Below w.heap.size w w9) := HB_8.out.trans (hb.mono HB_8.out.size)
  have HV_9 : Hid (Below w3.heap.size w3 w9) := HV_8.out.trans (hb.mono HV_8.out.size)
  have X_9 : Hid (RsN w9 w3.heap.size 43 52 wcells xss gsX) := X_8.out.keep hb
  have HX_9 : Hid (Below w4.heap.size w4 w9) := HX_8.out.trans (hb.mono HX_8.out.size)
  have Y_9 : Hid (Rs w9 w4.heap.size 52 wcells ys) := Blk.keep Y_8.out hb
  have GN_9 : Hid (OwnN w9 w5.heap.size 43 52 3 wcells Ag cg hsg (L)) := GN_8.out.keep hb
  have GL_9 : Hid (w9.ownsRow w5.heap.size 2 1 (.slice Lg ls.length lcg) ls.length (ls.flatMap icells)) := own_keep' GL_8.out hb
  clear hb HB_8 HV_8 X_8 HX_8 Y_8 GN_8 GL_8
  have Z_9 : Hid (RsN w9 w8.heap.size 43 52 wcells xss gsZ) := hR
  clear hR
  go_wp2_with fail
  refine (eqRack_same xss _ _ _ _ _ hm0 hxm0 X_9.out.rd Z_9.out.rd).mono ?_
  rintro e w10 ⟨rfl, hb⟩
  clear Z_9
  have HB_10 : Hid (Below w.heap.size w w10) := HB_9.out.trans (hb.mono HB_9.out.size)
  have HV_10 : Hid (Below w3.heap.size w3 w10) := HV_9.out.trans (hb.mono HV_9.out.size)
  have X_10 : Hid (RsN w10 w3.heap.size 43 52 wcells xss gsX) := X_9.out.keep hb
  have HX_10 : Hid (Below w4.heap.size w4 w10) := HX_9.out.trans (hb.mono HX_9.out.size)
  have Y_10 : Hid (Rs w10 w4.heap.size 52 wcells ys) := Blk.keep Y_9.out hb
  have GN_10 : Hid (OwnN w10 w5.heap.size 43 52 3 wcells Ag cg hsg (L)) := GN_9.out.keep hb
  have GL_10 : Hid (w10.ownsRow w5.heap.size 2 1 (.slice Lg ls.length lcg) ls.length (ls.flatMap icells)) := own_keep' GL_9.out hb
  clear hb HB_9 HV_9 X_9 HX_9 Y_9 GN_9 GL_9
  go_wp2_with fail
  refine (toStoredS_any ys B d _ hmy (HRy.out.keep HB_10.out)).mono ?_
  rintro e w11 ⟨rfl, hR, hb⟩
  have HB_11 : Hid (Below w.heap.size w w11) := HB_10.out.trans (hb.mono HB_10.out.size)
  have HV_11 : Hid (Below w3.heap.size w3 w11) := HV_10.out.trans (hb.mono HV_10.out.size)
  have X_11 : Hid (RsN w11 w3.heap.size 43 52 wcells xss gsX) := X_10.out.keep hb
  have HX_11 : Hid (Below w4.heap.size w4 w11) := HX_10.out.trans (hb.mono HX_10.out.size)
  have Y_11 : Hid (Rs w11 w4.heap.size 52 wcells ys) := Blk.keep Y_10.out hb
  have GN_11 : Hid (OwnN w11 w5.heap.size 43 52 3 wcells Ag cg hsg (L)) := GN_10.out.keep hb
  have GL_11 : Hid (w11.ownsRow w5.heap.size 2 1 (.slice Lg ls.length lcg) ls.length (ls.flatMap icells)) := own_keep' GL_10.out hb
  clear hb HB_10 HV_10 X_10 HX_10 Y_10 GN_10 GL_10
  have Z_11 : Hid (Rs w11 w10.heap.size 52 wcells ys) := hR
  clear hR
  go_wp2_with fail
  refine (eqStoredS_same ys _ _ _ _ _ (by omega) (Rs.rd Y_11.out (Blk.lt Y_11.out)) (Rs.rd Z_11.out (Blk.lt Z_11.out))).mono ?_
  rintro e w12 ⟨rfl, hb⟩
  clear Z_11
  have HB_12 : Hid (Below w.heap.size w w12) := HB_11.out.trans (hb.mono HB_11.out.size)
  have HV_12 : Hid (Below w3.heap.size w3 w12) := HV_11.out.trans (hb.mono HV_11.out.size)
  have X_12 : Hid (RsN w12 w3.heap.size 43 52 wcells xss gsX) := X_11.out.keep hb
  have HX_12 : Hid (Below w4.heap.size w4 w12) := HX_11.out.trans (hb.mono HX_11.out.size)
  have Y_12 : Hid (Rs w12 w4.heap.size 52 wcells ys) := Blk.keep Y_11.out hb
  have GN_12 : Hid (OwnN w12 w5.heap.size 43 52 3 wcells Ag cg hsg (L)) := GN_11.out.keep hb
  have GL_12 : Hid (w12.ownsRow w5.heap.size 2 1 (.slice Lg ls.length lcg) ls.length (ls.flatMap icells)) := own_keep' GL_11.out hb
  clear hb HB_11 HV_11 X_11 HX_11 Y_11 GN_11 GL_11
  obtain ⟨q1, q2, q3, q4, q5, q6⟩ := rk_src X_12.out
  clear X_12
  clear HX_12
  go_wp2_with fail
  refine (mkRk_any xss _ _ _ (1) _ (by omega) (by omega) hm0 q1 q2 q3 q4 q5).mono ?_
  rintro e w13 ⟨rfl, -, hO⟩
  have hS := HXS.out
  clear q1 q2 q3 q4 q5 q6 HXS
  have HB_13 : Hid (Below w.heap.size w w13) := hO.below HB_12.out HB_12.out.size (fun k e => by have lk := hS k e; have l0 := LE0.out; have l1 := LE1.out; have l2 := LE2.out; have l3 := LE3.out; have l4 := LE4.out; have l5 := LE5.out; have l6 := LE6.out; omega)
  have HV_13 : Hid (Below w3.heap.size w3 w13) := hO.below HV_12.out HV_12.out.size (fun k e => by have lk := hS k e; have l0 := LE0.out; have l1 := LE1.out; have l2 := LE2.out; have l3 := LE3.out; have l4 := LE4.out; have l5 := LE5.out; have l6 := LE6.out; omega)
  have Y_13 : Hid (Rs w13 w4.heap.size 52 wcells ys) := hO.blk Y_12.out (fun e => by have lk := hS _ e; have l0 := LE0.out; have l1 := LE1.out; have l2 := LE2.out; have l3 := LE3.out; have l4 := LE4.out; have l5 := LE5.out; have l6 := LE6.out; omega)
  have GN_13 : Hid (OwnN w13 w5.heap.size 43 52 3 wcells Ag cg hsg (L)) := GN_12.out.only hO (fun k e => by have lk := hS k e; have l0 := LE0.out; have l1 := LE1.out; have l2 := LE2.out; have l3 := LE3.out; have l4 := LE4.out; have l5 := LE5.out; have l6 := LE6.out; omega)
  have GL_13 : Hid (w13.ownsRow w5.heap.size 2 1 (.slice Lg ls.length lcg) ls.length (ls.flatMap icells)) := hO.own GL_12.out (fun q e lk0 => by have lq := own_block GL_12.out e; have lk := hS q lk0; have l0 := LE0.out; have l1 := LE1.out; have l2 := LE2.out; have l3 := LE3.out; have l4 := LE4.out; have l5 := LE5.out; have l6 := LE6.out; omega)
  clear hO hS HB_12 HV_12 Y_12 GN_12 GL_12
  obtain ⟨m1, hm1⟩ : ∃ m : Int, 1 + 3 * (sumL xss : Int) = m := ⟨_, rfl⟩
  rw [hm1]
  have hm1p : 0 ≤ m1 ∧ m1 ≤ 4194304 := by omega
  clear hm1
  have hq := gk_rs wcells_length Y_13.out
  clear Y_13
  go_wp2_with fail
  refine (mkT_any ys.length _ _ m1 _ (by omega) (by omega) hq).mono ?_
  rintro e w14 ⟨rfl, -, hg, -⟩
  have hO : Only (fun q => q = w4.heap.size) w13 w14 := Only.of_grown hg (fun k e => (Option.some.inj e).symm)
  have hS : ∀ k, k = w4.heap.size → w4.heap.size ≤ k ∧ k < w4.heap.size + 1 := fun k e => by omega
  clear hg hq
  have HB_14 : Hid (Below w.heap.size w w14) := hO.below HB_13.out HB_13.out.size (fun k e => by have lk := hS k e; have l0 := LE0.out; have l1 := LE1.out; have l2 := LE2.out; have l3 := LE3.out; have l4 := LE4.out; have l5 := LE5.out; have l6 := LE6.out; omega)
  have HV_14 : Hid (Below w3.heap.size w3 w14) := hO.below HV_13.out HV_13.out.size (fun k e => by have lk := hS k e; have l0 := LE0.out; have l1 := LE1.out; have l2 := LE2.out; have l3 := LE3.out; have l4 := LE4.out; have l5 := LE5.out; have l6 := LE6.out; omega)
  have GN_14 : Hid (OwnN w14 w5.heap.size 43 52 3 wcells Ag cg hsg (L)) := GN_13.out.only hO (fun k e => by have lk := hS k e; have l0 := LE0.out; have l1 := LE1.out; have l2 := LE2.out; have l3 := LE3.out; have l4 := LE4.out; have l5 := LE5.out; have l6 := LE6.out; omega)
  have GL_14 : Hid (w14.ownsRow w5.heap.size 2 1 (.slice Lg ls.length lcg) ls.length (ls.flatMap icells)) := hO.own GL_13.out (fun q e lk0 => by have lq := own_block GL_13.out e; have lk := hS q lk0; have l0 := LE0.out; have l1 := LE1.out; have l2 := LE2.out; have l3 := LE3.out; have l4 := LE4.out; have l5 := LE5.out; have l6 := LE6.out; omega)
  clear hO hS HB_13 HV_13 GN_13 GL_13
  obtain ⟨m2, hm2⟩ : ∃ m : Int, m1 + 3 * (ys.length : Int) = m := ⟨_, rfl⟩
  rw [hm2]
  have hm2n : ¬ m2 < 0 := by omega
  clear hm2
  go_wp2_with fail
  refine (eqRack_same L _ _ _ _ _ hLl HLx.out (GN_14.out.rd wcells_length) (RV.out.keep HV_14.out)).mono ?_
  rintro e w15 ⟨rfl, hb⟩
  have HB_15 : Hid (Below w.heap.size w w15) := HB_14.out.trans (hb.mono HB_14.out.size)
  have HV_15 : Hid (Below w3.heap.size w3 w15) := HV_14.out.trans (hb.mono HV_14.out.size)
  have GN_15 : Hid (OwnN w15 w5.heap.size 43 52 3 wcells Ag cg hsg (L)) := GN_14.out.keep hb
  have GL_15 : Hid (w15.ownsRow w5.heap.size 2 1 (.slice Lg ls.length lcg) ls.length (ls.flatMap icells)) := own_keep' GL_14.out hb
  clear hb HB_14 HV_14 GN_14 GL_14
  go_wp2_with fail
  refine (eqInt64S_same ls _ _ _ _ _ (by omega) (own_rd2 icells_length GL_15.out) (RU.out.keep HV_15.out)).mono ?_
  rintro e w16 ⟨rfl, hb⟩
  have HB_16 : Hid (Below w.heap.size w w16) := HB_15.out.trans (hb.mono HB_15.out.size)
  have HV_16 : Hid (Below w3.heap.size w3 w16) := HV_15.out.trans (hb.mono HV_15.out.size)
  have GN_16 : Hid (OwnN w16 w5.heap.size 43 52 3 wcells Ag cg hsg (L)) := GN_15.out.keep hb
  have GL_16 : Hid (w16.ownsRow w5.heap.size 2 1 (.slice Lg ls.length lcg) ls.length (ls.flatMap icells)) := own_keep' GL_15.out hb
  clear hb HB_15 HV_15 GN_15 GL_15
  obtain ⟨q1, q2, q3, q4, q5, q6⟩ := own_src GN_16.out
  clear GN_16
  go_wp2_with fail
  refine (mkRk_any L hsg Ag _ (1) _ (by omega) (by omega) hLl q1 q2 q3 q4 q5).mono ?_
  rintro e w17 ⟨rfl, hM, hO⟩
  have hS := q6
  clear q1 q2 q3 q4 q5 q6
  have HB_17 : Hid (Below w.heap.size w w17) := hO.below HB_16.out HB_16.out.size (fun k e => by have lk := hS k e; have l0 := LE0.out; have l1 := LE1.out; have l2 := LE2.out; have l3 := LE3.out; have l4 := LE4.out; have l5 := LE5.out; have l6 := LE6.out; omega)
  have HV_17 : Hid (Below w3.heap.size w3 w17) := hO.below HV_16.out HV_16.out.size (fun k e => by have lk := hS k e; have l0 := LE0.out; have l1 := LE1.out; have l2 := LE2.out; have l3 := LE3.out; have l4 := LE4.out; have l5 := LE5.out; have l6 := LE6.out; omega)
  have GL_17 : Hid (w17.ownsRow w5.heap.size 2 1 (.slice Lg ls.length lcg) ls.length (ls.flatMap icells)) := hO.own GL_16.out (fun q e => sep_inHs GS.out e)
  clear hO hS HB_16 HV_16 GL_16
  have MG_17 : Hid (MkdN w17 Ag hsg (L) 1) := hM
  clear hM
  obtain ⟨k1, hk1⟩ : ∃ m : Int, 1 + 3 * (sumL L : Int) = m := ⟨_, rfl⟩
  have HK1 := Lib.hid hk1
  rw [hk1]
  have hk1p : 0 ≤ k1 ∧ k1 ≤ 4194304 := by omega
  have hk1n : ¬ k1 < 0 := by omega
  clear hk1
  go_wp2_with fail
  refine (mkNi_any ls.length Lg _ k1 _ (by omega) (by omega) (gk_src GL_17.out)).mono ?_
  rintro e w18 ⟨rfl, hM, hg, -⟩
  have HB_18 : Hid (Below w.heap.size w w18) := HB_17.out.grown hg HB_17.out.size (fun k e => by have lk := gk_ge GL_17.out k e; have l0 := LE0.out; have l1 := LE1.out; have l2 := LE2.out; have l3 := LE3.out; have l4 := LE4.out; have l5 := LE5.out; have l6 := LE6.out; omega)
  have HV_18 : Hid (Below w3.heap.size w3 w18) := HV_17.out.grown hg HV_17.out.size (fun k e => by have lk := gk_ge GL_17.out k e; have l0 := LE0.out; have l1 := LE1.out; have l2 := LE2.out; have l3 := LE3.out; have l4 := LE4.out; have l5 := LE5.out; have l6 := LE6.out; omega)
  have MG_18 : Hid (MkdN w18 Ag hsg (L) 1) := mkd_grown MG_17.out hg GS.out
  have MI_18 : Hid (MkdI w18 Lg ls.length k1) := hM
  clear hM hg HB_17 HV_17 GL_17 MG_17
  obtain ⟨k2, hk2⟩ : ∃ m : Int, k1 + 1 * (ls.length : Int) = m := ⟨_, rfl⟩
  have HK2 := Lib.hid hk2
  rw [hk2]
  have hk2n : ¬ k2 < 0 := by omega
  clear hk2
  go_wp2_with fail
  refine (hdRk_any L hsg Ag _ (1) _ (by omega) (by omega) hLl MG_18.out).mono ?_
  rintro e w' ⟨rfl, rfl⟩
  rw [HK1.out]
  go_wp2_with fail
  refine (hdNi_any ls.length Lg _ k1 _ (by omega) (by omega) MI_18.out).mono ?_
  rintro e w' ⟨rfl, rfl⟩
  rw [HK2.out]
  go_wp2_with fail
  refine (toRack_any xss A c _ hm0 hxm0 (HR0.out.keep HB_18.out)).mono ?_
  rintro e w19 ⟨rfl, ⟨gsT0, hR⟩, hb⟩
  have HB_19 : Hid (Below w.heap.size w w19) := HB_18.out.trans (hb.mono HB_18.out.size)
  have HV_19 : Hid (Below w3.heap.size w3 w19) := HV_18.out.trans (hb.mono HV_18.out.size)
  have MG_19 : Hid (MkdN w19 Ag hsg (L) 1) := MG_18.out.below hb
  have MI_19 : Hid (MkdI w19 Lg ls.length k1) := MI_18.out.below hb
  clear hb HB_18 HV_18 MG_18 MI_18
  have T0_19 : Hid (RsN w19 w18.heap.size 43 52 wcells xss gsT0) := hR
  clear hR
  go_wp2_with fail
  refine (toStoredS_any ys B d _ hmy (HRy.out.keep HB_19.out)).mono ?_
  rintro e w20 ⟨rfl, hR, hb⟩
  have HB_20 : Hid (Below w.heap.size w w20) := HB_19.out.trans (hb.mono HB_19.out.size)
  have HV_20 : Hid (Below w3.heap.size w3 w20) := HV_19.out.trans (hb.mono HV_19.out.size)
  have MG_20 : Hid (MkdN w20 Ag hsg (L) 1) := MG_19.out.below hb
  have MI_20 : Hid (MkdI w20 Lg ls.length k1) := MI_19.out.below hb
  have T0_20 : Hid (RsN w20 w18.heap.size 43 52 wcells xss gsT0) := T0_19.out.keep hb
  clear hb HB_19 HV_19 MG_19 MI_19 T0_19
  have T1_20 : Hid (Rs w20 w19.heap.size 52 wcells ys) := hR
  clear hR
  go_wp2_with fail
  refine (HI.out _ _ _ _ _ T0_20.out.rdK (Rs.rd T1_20.out (Blk.lt T1_20.out)) (HE.out.below HB_20.out (Nat.le_refl _))).mono ?_
  rintro e w21 ⟨A2, c2, hs2, L2, lc2, rfl, hN, hM, -, hb⟩
  clear T0_20
  clear T1_20
  have HB_21 : Hid (Below w.heap.size w w21) := HB_20.out.trans (hb.mono HB_20.out.size)
  have HV_21 : Hid (Below w3.heap.size w3 w21) := HV_20.out.trans (hb.mono HV_20.out.size)
  have MG_21 : Hid (MkdN w21 Ag hsg (L) 1) := MG_20.out.below hb
  have MI_21 : Hid (MkdI w21 Lg ls.length k1) := MI_20.out.below hb
  clear hb HB_20 HV_20 MG_20 MI_20
  have HN_21 := Lib.hid hN
  have HL_21 := Lib.hid hM
  clear hN hM
  go_wp2_with fail
  refine (eqRack_same L _ _ _ _ _ hLl HLx.out (HN_21.out.rd wcells_length) (RV.out.keep HV_21.out)).mono ?_
  rintro e w22 ⟨rfl, hb⟩
  have HB_22 : Hid (Below w.heap.size w w22) := HB_21.out.trans (hb.mono HB_21.out.size)
  have HV_22 : Hid (Below w3.heap.size w3 w22) := HV_21.out.trans (hb.mono HV_21.out.size)
  have MG_22 : Hid (MkdN w22 Ag hsg (L) 1) := MG_21.out.below hb
  have MI_22 : Hid (MkdI w22 Lg ls.length k1) := MI_21.out.below hb
  have HN_22 : Hid (OwnN w22 w20.heap.size 43 52 3 wcells A2 c2 hs2 (L)) := HN_21.out.keep hb
  have HL_22 : Hid (w22.ownsRow w20.heap.size 2 1 (.slice L2 ls.length lc2) ls.length (ls.flatMap icells)) := own_keep' HL_21.out hb
  clear hb HB_21 HV_21 MG_21 MI_21 HN_21 HL_21
  go_wp2_with fail
  refine (eqInt64S_same ls _ _ _ _ _ (by omega) (own_rd2 icells_length HL_22.out) (RU.out.keep HV_22.out)).mono ?_
  rintro e w23 ⟨rfl, hb⟩
  have HB_23 : Hid (Below w.heap.size w w23) := HB_22.out.trans (hb.mono HB_22.out.size)
  have HV_23 : Hid (Below w3.heap.size w3 w23) := HV_22.out.trans (hb.mono HV_22.out.size)
  have MG_23 : Hid (MkdN w23 Ag hsg (L) 1) := MG_22.out.below hb
  have MI_23 : Hid (MkdI w23 Lg ls.length k1) := MI_22.out.below hb
  have HN_23 : Hid (OwnN w23 w20.heap.size 43 52 3 wcells A2 c2 hs2 (L)) := HN_22.out.keep hb
  have HL_23 : Hid (w23.ownsRow w20.heap.size 2 1 (.slice L2 ls.length lc2) ls.length (ls.flatMap icells)) := own_keep' HL_22.out hb
  clear hb HB_22 HV_22 MG_22 MI_22 HN_22 HL_22
  go_wp2_with fail
  refine (hdRk_any L hsg Ag _ (1) _ (by omega) (by omega) hLl MG_23.out).mono ?_
  rintro e w' ⟨rfl, rfl⟩
  rw [HK1.out]
  go_wp2_with fail
  refine (hdNi_any ls.length Lg _ k1 _ (by omega) (by omega) MI_23.out).mono ?_
  rintro e w' ⟨rfl, rfl⟩
  rw [HK2.out]
  go_wp2
  go_ret
  exact ⟨rfl, HB_23.out⟩
end Go.Proofs.YtdgcgkeclcpafaaDoor

namespace Go.Proofs.YtdgcgkeclcpafaaDoor
open Go.ChangeShapes Go.WideShapes Go.ChangeAt Go.RowKit Go.Deep

set_option maxRecDepth 100000 in
theorem fnExactStoreAll_lifted (os : Os) (started : os.Started) (H : Type) (enc : TypeId × Value → H) :
    ReturnsInHanded {} Tryd.checked os 5 .any (fun w args => (Rows.fnExactStoreAllSpec.pre enc Tryd.prog Tryd.f5 Rows.fnExactStoreAllRow.domain false w args ∧ laidMetH Tryd.prog (lay sl7) w) ∧ sizedMet enc Tryd.prog Tryd.f5 (OpenSpec.ofChange Rows.fnExactStoreAllSpec) false w args)
      (Rows.fnExactStoreAllSpec.post enc Tryd.prog Tryd.f5 false true false false) := by
  refine law_liftL (C := Tryd.checked) 2 7 Tryd.own started (by kernel_rfl) Tryd.func5
    (ChangeSpec.witness_shaped (enc := enc) (C := Tryd.checked) (os := os) (X := fun w _ => laidMetH Tryd.prog (lay sl7) w) false (World.doorLaid Tryd.prog 142 os) #[.slice none 0 0, .slice none 0 0] 8 rfl (World.shaped_of_RefB (by kernel_rfl) (by kernel_rfl)) (by kernel_rfl) (by kernel_rfl) (by kernel_rfl)
      (laidMetH_of_parts3 (fuel := 8) (laidMet_of_run' 8 (by kernel_rfl) (by kernel_rfl)) (by kernel_rfl) (by kernel_rfl)))
    Tryd.laidOut (by kernel_rfl) rfl (by kernel_rfl) Tryd.underlying4 (by kernel_rfl) (by kernel_rfl)
    (fun ds gs h h' => by match ds, gs, h, h' with | [d1, d2], [g1, g2, g3, g4, g5, g6, g7], _, _ => rfl) ?_
  intro W base args ds p hL hval hA
  rw [Tryd.params5] at hA hval
  obtain ⟨v0, v1, d0, d1, p0, p1, rfl, rfl, rfl, h0, h1⟩ := trodAll_two hA
  obtain ⟨A, n, c, rfl⟩ := okWide_slice Tryd.underlying22 (hval 0 22 v0 rfl rfl)
  obtain ⟨A, c, xss, he, _, hcm, hall, hR⟩ := open_nested wcells wfW Tryd.underlying22 Tryd.underlying38 (by kernel_rfl) Tryd.flatTL Tryd.cellsTL (by decide) wcells_length wcells_of rfl h0
  cases he
  have hxl : ∀ xs ∈ xss, xs.length ≤ 9223372036854775807 := fun xs hxs => by have := (hall xs hxs).1; unfold maxLen at this; omega
  unfold maxLen at hcm
  obtain ⟨A1, n1, c1, rfl⟩ := okWide_slice Tryd.underlying38 (hval 1 38 v1 rfl rfl)
  obtain ⟨A1, c1, ys, he1, _, hcm1, hwf1, hR1⟩ := open_rows wcells wfW Tryd.underlying38 Tryd.flatTL Tryd.cellsTL (by decide) wcells_length wcells_of rfl h1
  cases he1
  unfold maxLen at hcm1
  obtain ⟨ad, hE⟩ := ew7_of hL
  exact saLaw_any xss ys A A1 c c1 ad W (by omega) hR hxl (fun xs h => (hall xs h).2) (by omega) hR1 hwf1 hE

theorem fnExactStoreAll_row : Rows.FnExactStoreAllSaid :=
  OpenClaim.holds_of_wide 5 Tryd.f5 rfl rfl rfl rfl rfl rfl rfl ⟨rfl, rfl, rfl, rfl, rfl⟩ rfl rfl rfl rfl rfl (by kernel_rfl) Tryd.func5 (by kernel_rfl)
    (of_decide_eq_true (by kernel_rfl)) (by unfold Func.isWrapper; rw [if_neg (of_decide_eq_false (by kernel_rfl))]; exact ⟨rfl, rfl⟩)
    (fun os started H enc _ => fnExactStoreAll_lifted os started H enc)

theorem fnExactStoreAll_card : Rows.FnExactStoreAllCardSaid :=
  Claim7.holds_tied_plain_at .later [] [.sentinel, .sentinel, .sentinel, .sentinel, .sentinel, .sentinel, .sentinel] true (true, "5f72cc5735b1eb4a03df5fc92bdd85c8a520b2a8d5a43f4c212d2369bc7a6efc") true
    fnExactStoreAll_row (fun _ h => by cases h) (by kernel_rfl) (fun _ h => by cases h) fnExactStoreAll_row_tie rfl ⟨rfl, rfl⟩ (by kernel_rfl) rfl
    (fun f fn hf hfn => by
      obtain rfl : f = 5 := Option.some.inj ((show Tryd.prog.funcNamed "loop.example/g01353/laws.FnExactStoreAll" = some 5 by kernel_rfl).symm.trans hf) |>.symm
      obtain rfl : fn = Tryd.f5 := (Option.some.inj (Tryd.func5.symm.trans hfn)).symm
      exact ⟨by kernel_rfl, fun j t ht => by
        have hm : t ∈ Tryd.f5.params.toList := Array.mem_toList_iff.2 (Array.mem_of_getElem? ht)
        have hall : (Tryd.f5.params.toList.all fun u => !Tryd.prog.wantsStandIn u) = true := by kernel_rfl
        exact (show Tryd.prog.wantsStandIn t = false by simpa using List.all_eq_true.1 hall t hm)⟩)
    (by kernel_rfl)
#print axioms fnExactStoreAll_card
end Go.Proofs.YtdgcgkeclcpafaaDoor
