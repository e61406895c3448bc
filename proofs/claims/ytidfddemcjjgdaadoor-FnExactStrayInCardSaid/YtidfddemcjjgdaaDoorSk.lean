/-
  The contracts of the program's checkStack, checkLabels, StrayIn. Condition: the lists read as crates and bottles whose numbers fit their kinds; the sentinel errors lie as the row lists them.
-/
import Derived.Test.YtidfddemcjjgdaaDoorSj
import Derived.Test.YtidfddemcjjgdaaDoorQn
namespace Go.Proofs.YtidfddemcjjgdaaDoor
open Go.ChangeShapes Go.WideShapes Go.ChangeAt Go.RowKit Go.Deep

theorem checkStack_any (xs : List Crt) (A : Option Addr) (c : Nat) (ad : Nat → Addr) (w : World) (hl : xs.length ≤ 1048576) (hr : Rd w w.heap.size kcells A xs) (hE : EW 7 w ad) :
    Calls Tryd.prog 79 #[.slice A xs.length c] w fun e w' => e = .returned (erV ad 5 (okS xs)) ∧ Below w.heap.size w w' := by
  have HE := Lib.hid hE
  have HR := Lib.hid hr
  clear hE hr
  go_enter Tryd.func79, Tryd.ntmps79
  go_wp2_with fail
  refine (validStack_any xs A c _ hl HR.out).mono ?_
  rintro e w1 ⟨rfl, hb⟩
  have HB := Lib.hid hb
  have c5 : w1.cell? ⟨0, 0, none⟩ = some (.iface 202 (.pointer (some (ad 5)))) := (HE.out.below hb (Nat.le_refl _)).cell 5 (by omega)
  clear hb
  cases hv : okS xs
  · have Hv := Lib.hid hv
    clear hv
    go_wp2
    go_ret
    exact ⟨by rw [Hv.out]; rfl, HB.out⟩
  · have Hv := Lib.hid hv
    clear hv
    go_wp2
    go_ret
    exact ⟨by rw [Hv.out]; rfl, HB.out⟩

def vbTo (ls : List Bot) (k : Nat) : Prop := ∀ j l, j < k → ls[j]? = some l → vB l = true
theorem vbTo_step {ls : List Bot} {k : Nat} (h : vbTo ls k) {l : Bot} (hl : ls[k]? = some l) (ho : vB l = true) : vbTo ls (k + 1) := by
  intro j c hj hc
  by_cases e : j = k
  · subst e; rw [hl] at hc; cases hc; exact ho
  · exact h j c (by omega) hc
theorem vbTo_all {ls : List Bot} (h : vbTo ls ls.length) : ls.all vB = true := by
  rw [List.all_eq_true]
  intro b hb
  obtain ⟨j, hj, rfl⟩ := List.mem_iff_getElem.1 hb
  exact h j _ hj (List.getElem?_eq_getElem hj)
theorem vb_no {ls : List Bot} {k : Nat} {l : Bot} (hl : ls[k]? = some l) (ho : vB l = false) : ls.all vB = false := by
  rw [List.all_eq_false]
  exact ⟨l, List.mem_of_getElem? hl, by simp [ho]⟩
/-- What checkLabels answers. -/
def laV (ad : Nat → Addr) (n : Nat) (ls : List Bot) : Value := if ls.all vB = true then erV ad 0 (decide (ls.length = n)) else errV (ad 5)
theorem laV_isE (ad : Nat → Addr) (n : Nat) (ls : List Bot) : isE (laV ad n ls) := by
  unfold laV
  split
  · exact erV_isE _ _ _
  · exact .inr ⟨_, rfl⟩

set_option maxRecDepth 100000 in
set_option maxHeartbeats 1000000 in
theorem checkLabels_any (n : Nat) (B : Option Addr) (d : Nat) (hn : n ≤ 1048576) (ls : List Bot) (A : Option Addr) (c : Nat) (ad : Nat → Addr) (w : World) (hl : ls.length ≤ 1048576) (hr : Rd w w.heap.size bcells A ls) (hE : EW 7 w ad) :
    Calls Tryd.prog 82 #[.slice B n d, .slice A ls.length c] w fun e w' => e = .returned (laV ad n ls) ∧ Below w.heap.size w w' := by
  have HR := Lib.hid hr
  have HE := Lib.hid hE
  clear hr hE
  go_enter Tryd.func82, Tryd.ntmps82
  go_wp2_with fail
  go_loopw [10] (fun i wr => ∃ k : Nat, k ≤ ls.length ∧ i = .int .i64 k ∧ vbTo ls k ∧ Below w.heap.size w wr) (fun i _ => ls.length - (intOf i).toNat)
  case atStart => exact ⟨0, by omega, rfl, fun j s h => by omega, Below.refl _ _⟩
  case round =>
    obtain ⟨k, hk, rfl, q1, q4⟩ := hrel
    have Q1 := Lib.hid q1
    have Q4 := Lib.hid q4
    clear q1 q4
    by_cases hlt : k < ls.length
    · obtain ⟨⟨x, y⟩, hx⟩ : ∃ x, ls[k]? = some x := ⟨_, List.getElem?_eq_getElem hlt⟩
      obtain ⟨b, o, rfl, hbl, hrow⟩ := (HR.out.below (Nat.le_refl _) Q4.out).at_ bcells_length hx
      obtain ⟨e1, e2⟩ := rowB hrow
      have hk0 : (0 : Int) ≤ (k : Int) := Int.natCast_nonneg _
      have hk8 : (k : Int) < ls.length := by omega
      have HXk := Lib.hid hx
      have HA : Hid (Below w.heap.size w (wr.alloc (.cells #[.int .u8 x, .int .i16 y] 29))) := Q4.out.alloc Q4.out.size _
      clear hx hrow hbl
      go_wp2_with fail
      refine (checkBottle_any x y ad _ (HE.out.below HA.out (Nat.le_refl _))).mono ?_
      rintro e w2 ⟨rfl, hb2⟩
      have P4 : Hid (Below w.heap.size w w2) := HA.out.trans (hb2.mono HA.out.size)
      clear hb2 e1 e2 HA
      cases hcan : vB (x, y)
      · have HC := Lib.hid (vb_no HXk.out hcan)
        have e5 : btV ad (x, y) = .iface 202 (.pointer (some (ad 5))) := by unfold btV; rw [hcan]; rfl
        rw [e5]
        clear hcan e5
        go_wp2
        go_ret
        exact ⟨by rw [laV, HC.out]; rfl, P4.out⟩
      · have hcs := Lib.hid (vbTo_step Q1.out HXk.out hcan)
        have e5 : btV ad (x, y) = .nilIface := by unfold btV; rw [hcan]; rfl
        rw [e5]
        clear hcan e5
        go_wp2
        go_roundw
        case rel => exact ⟨k + 1, by omega, by go_num, hcs.out, P4.out⟩
        case measure => simp [intOf]; omega
    · obtain rfl : k = ls.length := by omega
      have HC : Hid (ls.all vB = true) := vbTo_all Q1.out
      by_cases hlen : ls.length = n
      · subst hlen
        go_wp2
        go_ret
        exact ⟨by rw [laV, HC.out]; simp [erV], Q4.out⟩
      · have hlen3 : ¬ (ls.length : Int) = n := by omega
        have hlen2 : ((ls.length : Int) == n) = false := by simp; omega
        have c0 : wr.cell? ⟨1, 0, none⟩ = some (.iface 202 (.pointer (some (ad 0)))) := (HE.out.below Q4.out (Nat.le_refl _)).cell 0 (by omega)
        go_wp2
        go_ret
        exact ⟨by rw [laV, HC.out]; simp [erV, hlen, errV], Q4.out⟩

/-! ### The count over a crate's bottles -/
def cntB (Y : List Bot) (l : Bot) (m : Nat) : Nat := ((Y.take m).filter fun b => decide (b ≠ l)).length
theorem cntB_le (Y : List Bot) (l : Bot) (m : Nat) : cntB Y l m ≤ m := Nat.le_trans (List.length_filter_le _ _) (by rw [List.length_take]; omega)
theorem cntB_like {Y : List Bot} {l : Bot} {m : Nat} (h : Y[m]? = some l) : cntB Y l (m + 1) = cntB Y l m := by
  obtain ⟨hlt, he⟩ := List.getElem?_eq_some_iff.1 h
  simp [cntB, List.take_succ_eq_append_getElem hlt, he]
theorem cntB_other {Y : List Bot} {l b : Bot} {m : Nat} (h : Y[m]? = some b) (hn : b ≠ l) : cntB Y l (m + 1) = cntB Y l m + 1 := by
  obtain ⟨hlt, he⟩ := List.getElem?_eq_some_iff.1 h
  simp [cntB, List.take_succ_eq_append_getElem hlt, he, hn]
theorem cntB_all (X : List Bot) (l : Bot) : cntB (allB X 12) l (allB X 12).length = strN X l 12 := by rw [cntB, strN, List.take_length]
theorem own_readS {w : World} {b : Nat} {e : TypeId} {v : Value} {X : List Bot} (h : w.ownsRow b e 2 v X.length (ccells X)) : ∃ A c, v = .slice A X.length c ∧ ∀ j k y, X[j]? = some (k, y) → ∃ g, A = some ⟨g, 0, none⟩ ∧ b ≤ g ∧ g < w.heap.size ∧ w.cell? ⟨g, j * 2, none⟩ = some (.int .u8 k) ∧ w.cell? ⟨g, j * 2 + 1, none⟩ = some (.int .i16 y) := by
  rcases h.2 with ⟨rfl, h0⟩ | ⟨g, cap, cur, rfl, hb, hg, -, -, -, -⟩
  · refine ⟨none, 0, by rw [h0], fun j k y hx => ?_⟩
    have := (List.getElem?_eq_some_iff.1 hx).1
    omega
  · refine ⟨some ⟨g, 0, none⟩, cap, rfl, fun j k y hx => ?_⟩
    obtain ⟨hj, he⟩ := List.getElem?_eq_some_iff.1 hx
    refine ⟨g, rfl, hb, (Array.getElem?_eq_some_iff.1 hg).1, ?_, ?_⟩
    · rw [h.cellAt (j * 2) (by omega), Nat.mul_comm, ccells_even X j hj, he]
    · rw [h.cellAt (j * 2 + 1) (by omega), Nat.mul_comm, ccells_odd X j hj, he]

set_option maxRecDepth 100000 in
set_option maxHeartbeats 8000000 in
theorem implStray_any (xs : List Crt) (ls : List Bot) (hls : ∀ l ∈ ls, wfB l) (A A2 : Option Addr) (c c2 : Nat) (ad : Nat → Addr) (w : World) (hl : xs.length ≤ 1048576) (hl2 : ls.length ≤ 1048576) (hr : Rd w w.heap.size kcells A xs) (hr2 : Rd w w.heap.size bcells A2 ls) (hE : EW 7 w ad) :
    Calls Tryd.prog 44 #[.slice A xs.length c, .slice A2 ls.length c2] w fun e w' => e = .returned (siV xs ls) ∧ Below w.heap.size w w' := by
  have HR := Lib.hid hr
  have HR2 := Lib.hid hr2
  have HW := Lib.hid hls
  have HE := Lib.hid hE
  clear hr hr2 hls hE
  go_enter Tryd.func44, Tryd.ntmps44
  go_wp2_with fail
  refine (checkStack_any xs A c ad _ hl HR.out HE.out).mono ?_
  rintro e w1 ⟨rfl, hb⟩
  have HB1 := Lib.hid hb
  clear hb
  have hp0 := erV_isE ad 5 (okS xs)
  have hp1 := laV_isE ad xs.length ls
  obtain ⟨v0, hv0⟩ : ∃ v, erV ad 5 (okS xs) = v := ⟨_, rfl⟩
  rw [hv0] at hp0 ⊢
  have V0 := Lib.hid hv0
  have P0 := Lib.hid hp0
  have P1 := Lib.hid hp1
  clear hv0 hp0 hp1
  go_wp2_with fail
  refine (checkLabels_any xs.length A c hl ls A2 c2 ad _ hl2 (HR2.out.keep HB1.out) (HE.out.below HB1.out (Nat.le_refl _))).mono ?_
  rintro e w2 ⟨rfl, hb⟩
  have HB2 : Hid (Below w.heap.size w w2) := HB1.out.trans (hb.mono HB1.out.size)
  clear hb HB1
  obtain ⟨v1, hv1⟩ : ∃ v, laV ad xs.length ls = v := ⟨_, rfl⟩
  rw [hv1] at P1 ⊢
  have V1 := Lib.hid hv1
  clear hv1
  go_wp2_with (refine wpList_twoErrs rfl (.tmp 13) (.tmp 16) rfl P0.out P1.out rfl rfl ?_)
  have q0 := new_cell2 w2 v0 v1 90
  have hB3 : Below w.heap.size w (w2.alloc (.cells #[v0, v1] 90)) := HB2.out.alloc HB2.out.size _
  refine (first2_any P0.out P1.out _ _ _ q0.1 q0.2).mono ?_
  rintro e w3 ⟨rfl, hw3⟩
  rw [hw3] at hB3
  have HB3 := Lib.hid hB3
  clear q0 hB3 hw3 HB2
  cases hok : okS xs
  · have hv : firstV v0 v1 = .iface 202 (.pointer (some (ad 5))) := by rw [← V0.out, hok]; rfl
    rw [hv]
    have HN := Lib.hid (si_bad (xs := xs) (ls := ls) (by rw [siOk, hok]; rfl))
    clear hv hok V0 V1
    go_wp2_with fail
    refine (codeOf_5 ((HE.out.below HB3.out (Nat.le_refl _)))).mono ?_
    rintro e w4 ⟨rfl, rfl⟩
    go_wp2
    go_ret2
    exact ⟨by rw [siV, HN.out.1, HN.out.2]; first | done | rfl, HB3.out⟩
  have Hok := Lib.hid hok
  have hf : firstV v0 v1 = v1 := by rw [← V0.out, hok]; rfl
  rw [hf]
  clear hok hf V0
  cases hall : ls.all vB
  · have hv : v1 = .iface 202 (.pointer (some (ad 5))) := by rw [← V1.out, laV, hall]; rfl
    rw [hv]
    have HN := Lib.hid (si_bad (xs := xs) (ls := ls) (by rw [siOk, hall, Bool.and_false]))
    clear hv hall V1
    go_wp2_with fail
    refine (codeOf_5 ((HE.out.below HB3.out (Nat.le_refl _)))).mono ?_
    rintro e w4 ⟨rfl, rfl⟩
    go_wp2
    go_ret2
    exact ⟨by rw [siV, HN.out.1, HN.out.2]; first | done | rfl, HB3.out⟩
  have Hall := Lib.hid hall
  by_cases hlen : ls.length = xs.length
  case neg =>
    have hv : v1 = .iface 202 (.pointer (some (ad 0))) := by rw [← V1.out, laV, hall]; simp [erV, hlen, errV]
    rw [hv]
    have HN := Lib.hid (si_len (xs := xs) (ls := ls) (by rw [siOk, Hok.out, hall]; rfl) hlen)
    clear hv hall V1
    go_wp2_with fail
    refine (codeOf_0 ((HE.out.below HB3.out (Nat.le_refl _)).less (by omega))).mono ?_
    rintro e w4 ⟨rfl, rfl⟩
    go_wp2
    go_ret2
    exact ⟨by rw [siV, HN.out.1, HN.out.2]; first | done | rfl, HB3.out⟩
  have hv : v1 = .nilIface := by rw [← V1.out, laV, hall]; simp [erV, hlen]
  rw [hv]
  have HN := Lib.hid (si_ok (xs := xs) (ls := ls) (by rw [siOk, Hok.out, hall]; rfl) hlen)
  have HLen := Lib.hid hlen
  clear hv hall V1 P0 P1 hlen
  go_wp2_with fail
  go_loopw [7, 25] (fun s i wr => ∃ k : Nat, k ≤ xs.length ∧ i = .int .i64 k ∧ s = .int .i64 (sumS xs ls k : Nat) ∧ Below w.heap.size w wr) (fun _ i _ => xs.length - (intOf i).toNat)
  case atStart => exact ⟨0, by omega, rfl, rfl, HB3.out⟩
  case round =>
    clear HB3
    obtain ⟨k, hk, rfl, rfl, hb⟩ := hrel
    have Hb := Lib.hid hb
    clear hb
    by_cases hlt : k < xs.length
    · obtain ⟨x, hx⟩ : ∃ x, xs[k]? = some x := ⟨_, List.getElem?_eq_getElem hlt⟩
      obtain ⟨⟨p, q⟩, hy⟩ : ∃ x, ls[k]? = some x := ⟨_, List.getElem?_eq_getElem (by rw [HLen.out]; exact hlt)⟩
      obtain ⟨b, o, rfl, hbl, hrow⟩ := (HR.out.below (Nat.le_refl _) Hb.out).at_ kcells_length hx
      have hk0 : (0 : Int) ≤ (k : Int) := Int.natCast_nonneg _
      have hk8 : (k : Int) < xs.length := by omega
      have hk9 : (k : Int) < ls.length := by rw [HLen.out]; omega
      have HX := Lib.hid (sumS_succ hx hy)
      have HY := Lib.hid hy
      have HRow := Lib.hid hrow
      have hbd := sumS_le xs ls k
      clear hx hy hrow hbl
      have H1 : Hid (CBlk (wr.alloc (.cells (ccells noB).toArray 31)) wr.heap.size 31 noB) := CBlk.new wr 31 noB
      have H2 : Hid (CBlk ((wr.alloc (.cells (ccells noB).toArray 31)).setRow wr.heap.size (ccells x.1).toArray) wr.heap.size 31 x.1) := CBlk.setRow H1.out
      have H3 : Hid (Below w.heap.size w ((wr.alloc (.cells (ccells noB).toArray 31)).setRow wr.heap.size (ccells x.1).toArray)) := Below.setRow (Hb.out.alloc Hb.out.size _) _ _ Hb.out.size
      go_wp2_with (first
        | (refine wpList_load_mid rfl 31 (.tmp 28) rfl b (o + k * 24) rfl (kcells x) _ HRow.out Tryd.underlying31 rfl (size_k Tryd.sizeCr x) ?_)
        | (refine wpList_store_row rfl 31 (.tmp 9) (.tmp 29) rfl wr.heap.size (ccells x.1).toArray rfl rfl 31 _ H1.out (size_of_crate Tryd.sizeCr _ x.2.1) (by rw [ccells_size _ x.2.1]; rfl) (ccells_one _) ?_)
        | (refine wpList_load_row rfl 31 (.tmp 9) rfl wr.heap.size rfl 31 _ (0, 0) _ H2.out Tryd.underlying31 rfl (size_of_crate Tryd.sizeCr _ x.2.1) ?_))
      refine (callsIn_wide.1 (bottlesOf_in 6 (Nat.le_refl _) x.1 x.2 _)).mono ?_
      rintro e w2 ⟨v, rfl, hown, hb2⟩
      have HB2 : Hid (Below w.heap.size w w2) := H3.out.trans (hb2.mono H3.out.size)
      have hYl := allB_length x.1 12
      have hYa := cntB_all x.1 (p, q)
      obtain ⟨Y, hYe⟩ : ∃ Y, allB x.1 12 = Y := ⟨_, rfl⟩
      rw [hYe] at hown hYl hYa
      obtain ⟨D, cd, rfl, hrd⟩ := own_readS hown
      have HRD := Lib.hid hrd
      have HYa := Lib.hid hYa
      clear hb2 hown hrd hYe hYa H1 H2 H3 HRow
      obtain ⟨sn, hsn⟩ : ∃ n, sumS xs ls k = n := ⟨_, rfl⟩
      rw [hsn] at hbd HX ⊢
      clear hsn
      go_wp2_with fail
      go_loopw [7, 33] (fun s i wr => ∃ m : Nat, m ≤ Y.length ∧ i = .int .i64 m ∧ s = .int .i64 ((sn + cntB Y (p, q) m : Nat)) ∧ Below w2.heap.size w2 wr) (fun _ i _ => Y.length - (intOf i).toNat)
      case atStart => exact ⟨0, by omega, rfl, by simp [cntB], Below.refl _ _⟩
      case round =>
        obtain ⟨m, hm, rfl, rfl, hb⟩ := hrel
        have Hb3 := Lib.hid hb
        clear hb
        by_cases hlt2 : m < Y.length
        · obtain ⟨⟨k1, y1⟩, hz⟩ : ∃ z, Y[m]? = some z := ⟨_, List.getElem?_eq_getElem hlt2⟩
          obtain ⟨g, rfl, -, hgl, hc1, hc2⟩ := HRD.out m _ _ hz
          have hB4 : Below w.heap.size w wr := HB2.out.trans (Hb3.out.mono HB2.out.size)
          obtain ⟨b', o', rfl, hbl', hrow'⟩ := (HR2.out.below (Nat.le_refl _) hB4).at_ bcells_length HY.out
          have hlb : b' < wr.heap.size := Nat.lt_of_lt_of_le hbl' hB4.size
          have e1 := (Hb3.out.cell (p := ⟨g, m * 2, none⟩) hgl).trans hc1
          have e2 := (Hb3.out.cell (p := ⟨g, m * 2 + 1, none⟩) hgl).trans hc2
          have hm0 : (0 : Int) ≤ (m : Int) := Int.natCast_nonneg _
          have hm8 : (m : Int) < Y.length := by omega
          have hcb := cntB_le Y (p, q) m
          obtain ⟨cn, hcn⟩ : ∃ n, cntB Y (p, q) m = n := ⟨_, rfl⟩
          rw [hcn] at hcb ⊢
          have HCn := Lib.hid hcn
          have HZ := Lib.hid hz
          have f1 : (wr.alloc (.cells #[.int .u8 k1, .int .i16 y1] 29)).cell? ⟨wr.heap.size, 0, none⟩ = some (.int .u8 k1) := (new_cell2 _ _ _ _).1
          have f2 : (wr.alloc (.cells #[.int .u8 k1, .int .i16 y1] 29)).cell? ⟨wr.heap.size, 1, none⟩ = some (.int .i16 y1) := (new_cell2 _ _ _ _).2
          have hrw : (wr.alloc (.cells #[.int .u8 k1, .int .i16 y1] 29)).rangeAt b' (o' + k * 2) (bcells (p, q)) := rangeAt_below hrow' ((Below.refl _ wr).alloc (Nat.le_refl _) _) hlb
          have hB5 : Below w2.heap.size w2 (wr.alloc (.cells #[.int .u8 k1, .int .i16 y1] 29)) := Hb3.out.alloc Hb3.out.size _
          obtain ⟨w3, hw3⟩ : ∃ w3, (wr.alloc (.cells #[.int .u8 k1, .int .i16 y1] 29)) = w3 := ⟨_, rfl⟩
          rw [hw3] at f1 f2 hrw hB5
          obtain ⟨f3, f4⟩ := rowB hrw
          have HB5 := Lib.hid hB5
          have hs1 : IntKind.i64.wrap (((sn + cn : Nat) : Int) + 1) = ((sn + cn : Nat) : Int) + 1 := IntWalk.i64_in _ ⟨by omega, by omega⟩
          have hs2 : wrap64 (((sn + cn : Nat) : Int) + 1) = ((sn + cn : Nat) : Int) + 1 := IntWalk.wrap64_in _ ⟨by omega, by omega⟩
          clear hB4 hbl' hlb hc1 hc2 hgl hcn hz hrow' hrw hB5 HX
          by_cases hx : k1 = p
          · by_cases hy : y1 = q
            · have hx2 := hx.symm; have hy2 := hy.symm; subst hx2; subst hy2
              go_wp2_with fail
              clear hw3 e1 e2
              go_region_held3 (fun w' => w'.cell? ⟨wr.heap.size, 0, none⟩ = some (.int .u8 p) ∧ w'.cell? ⟨wr.heap.size, 1, none⟩ = some (.int .i16 q) ∧ w'.cell? ⟨b', o' + k * 2, none⟩ = some (.int .u8 p) ∧ w'.cell? ⟨b', o' + k * 2 + 1, none⟩ = some (.int .i16 q)) (go_keep) (fail)
              go_wp2
              go_roundw
              case rel => exact ⟨m + 1, by omega, by go_num, by rw [cntB_like HZ.out, HCn.out]; simp, HB5.out.drew⟩
              case measure => simp [intOf]; omega
            · have hx2 := hx.symm; subst hx2
              have hy' : (y1 == q) = false := by simpa using hy
              go_wp2_with fail
              clear hw3 e1 e2
              go_region_held3 (fun w' => w'.cell? ⟨wr.heap.size, 0, none⟩ = some (.int .u8 p) ∧ w'.cell? ⟨wr.heap.size, 1, none⟩ = some (.int .i16 y1) ∧ w'.cell? ⟨b', o' + k * 2, none⟩ = some (.int .u8 p) ∧ w'.cell? ⟨b', o' + k * 2 + 1, none⟩ = some (.int .i16 q)) (go_keep) (fail)
              go_wp2
              go_roundw
              case rel => exact ⟨m + 1, by omega, by go_num, by rw [cntB_other HZ.out (by simp [hy]), HCn.out]; rfl, HB5.out.drew⟩
              case measure => simp [intOf]; omega
          · have hx' : (k1 == p) = false := by simpa using hx
            go_wp2_with fail
            clear hw3 e1 e2
            go_region_held3 (fun w' => w'.cell? ⟨wr.heap.size, 0, none⟩ = some (.int .u8 k1) ∧ w'.cell? ⟨wr.heap.size, 1, none⟩ = some (.int .i16 y1) ∧ w'.cell? ⟨b', o' + k * 2, none⟩ = some (.int .u8 p) ∧ w'.cell? ⟨b', o' + k * 2 + 1, none⟩ = some (.int .i16 q)) (go_keep) (fail)
            go_wp2
            go_roundw
            case rel => exact ⟨m + 1, by omega, by go_num, by rw [cntB_other HZ.out (by simp [hx]), HCn.out]; rfl, HB5.out.drew⟩
            case measure => simp [intOf]; omega
        · obtain rfl : m = Y.length := by omega
          have HB4 : Hid (Below w.heap.size w wr) := HB2.out.trans (Hb3.out.mono HB2.out.size)
          go_wp2
          go_roundw
          case rel => exact ⟨k + 1, by omega, by go_num, by rw [HX.out, HYa.out], HB4.out⟩
          case measure => simp [intOf]; omega
    · obtain rfl : k = xs.length := by omega
      go_wp2
      go_ret2
      exact ⟨by rw [siV, HN.out.1, HN.out.2]; first | done | rfl, Hb.out⟩
end Go.Proofs.YtidfddemcjjgdaaDoor
