/-
  GreedyOpen: the model's contract. Condition: the lists read as crates and wants, which fit their kinds, not more than 1048576.
-/
import Derived.Test.YtkehmelcecifdaaDoorGo0
import Derived.Test.YtkehmelcecifdaaDoorOy
import Derived.BigQuiet
namespace Go.Proofs.YtkehmelcecifdaaDoor
open Go.ChangeShapes Go.WideShapes Go.ChangeAt Go.RowKit Go.Deep

theorem ordOk_num {ord : List Wnt} (h : ordOk ord = true) : ∀ w ∈ ord, 0 < w.2 := by
  intro x hx
  simp only [ordOk, Bool.and_eq_true, List.all_eq_true, List.mem_range] at h
  obtain ⟨k, hk⟩ := List.mem_iff_getElem?.1 hx
  have h1 := h.1 k (List.getElem?_eq_some_iff.1 hk).1
  simp only [okAt, hk, Bool.and_eq_true] at h1
  have h2 := h1.1
  simp only [vW, Bool.and_eq_true, decide_eq_true_eq] at h2
  omega
theorem empty_ownG (w : World) (t : TypeId) (size : Nat) : (w.alloc (.cells #[] t)).ownsRow w.heap.size t size (.slice (some ⟨w.heap.size, 0, none⟩) 0 0) 0 [] :=
  ⟨by simp, .inr ⟨w.heap.size, 0, #[], rfl, Nat.le_refl _, heap_alloc_new w _, Nat.le_refl _, by unfold maxLen; omega, by simp, by simp⟩⟩
theorem own_capG {w : World} {b size n c : Nat} {e : TypeId} {A : Option Addr} {xs : List Value} (h : w.ownsRow b e size (.slice A n c) n xs) : n ≤ c := by
  obtain ⟨-, ⟨h1, h2⟩ | ⟨g, cap, cur, h1, h2, h3, h4, h5, h6⟩⟩ := h
  · omega
  · cases h1; exact h4
theorem cell1G (W : World) (v : Value) (t : TypeId) : ∀ (j : Nat) (u : Value), [v][j]? = some u → (W.alloc (.cells #[v] t)).cell? ((⟨W.heap.size, 0, none⟩ : Addr).add j) = some u := fun j u hu => by
  have e : (⟨W.heap.size, 0, none⟩ : Addr).add j = ⟨W.heap.size, j, none⟩ := by cases j <;> simp [Addr.add]
  rw [e, Blk.cell (Blk.new W t #[v])]
  simpa using hu
theorem lack_wf {f : Bot → Nat} {ord : List Wnt} (hw : ∀ x ∈ ord, wfW x) : ∀ x ∈ lack f ord, wfW x := by
  intro w h
  obtain ⟨x, hx, hb⟩ := List.mem_filterMap.1 h
  simp only [beyond] at hb
  split at hb
  · rename_i h1
    obtain rfl := Option.some.inj hb
    have h2 := hw x hx
    exact ⟨h2.1, by show -32768 ≤ x.2 - _; have := h2.2; omega, by show x.2 - _ ≤ 32767; have := h2.2; omega⟩
  · cases hb
theorem lack_eB {f : Bot → Nat} {ord : List Wnt} (hw : ∀ x ∈ ord, eB x.1 = false) : ∀ x ∈ lack f ord, eB x.1 = false := by
  intro w h
  obtain ⟨x, hx, hb⟩ := List.mem_filterMap.1 h
  simp only [beyond] at hb
  split at hb
  · obtain rfl := Option.some.inj hb
    exact hw x hx
  · cases hb
def fiC (xs : List Crt) (ord : List Wnt) : Int := if askOk xs ord = true then (if lack (cntAll xs) ord = [] then 0 else 6) else 1

set_option maxRecDepth 100000 in
set_option maxHeartbeats 4000000 in
theorem l02Filled_any (xs : List Crt) (ord : List Wnt) (hw : ∀ x ∈ ord, wfW x) (A A2 : Option Addr) (c c2 : Nat) (w : World) (hl : xs.length ≤ 1048576) (hl2 : ord.length ≤ 1048576) (hr : Rd w w.heap.size kcells A xs) (hr2 : Rd w w.heap.size wcells A2 ord) :
    Calls Tryd.prog 60 #[.slice A xs.length c, .slice A2 ord.length c2] w fun e w' => e = .returned (.int .i64 (fiC xs ord)) ∧ Below w.heap.size w w' := by
  have HR := Lib.hid hr
  have HR2 := Lib.hid hr2
  have HW := Lib.hid hw
  clear hr hr2 hw
  go_enter Tryd.func60, Tryd.ntmps60
  go_wp2_with fail
  refine (l02Asked_any xs ord HW.out A A2 c c2 w hl hl2 HR.out HR2.out).mono ?_
  rintro e w1 ⟨rfl, hb⟩
  have HB := Lib.hid hb
  clear hb
  cases ha : askOk xs ord
  · have e0 : askC xs ord = 1 := by simp [askC, ha]
    have E : Hid (fiC xs ord = 1) := by show _ = _; simp [fiC, ha]
    rw [e0]
    clear e0 ha
    go_wp2
    go_ret
    exact ⟨by rw [E.out]; rfl, HB.out⟩
  · have e0 : askC xs ord = 0 := by simp [askC, ha]
    have HA := Lib.hid (ask_yes ha)
    have HF : Hid (fiC xs ord = if lack (cntAll xs) ord = [] then 0 else 6) := by show _ = _; simp [fiC, ha]
    rw [e0]
    clear e0 ha
    go_wp2_with fail
    refine (l02Every_any xs.length A c w1 (by omega)).mono ?_
    rintro e w2 ⟨v2, rfl, hown2, hb⟩
    have HB2 : Hid (Below w.heap.size w w2) := HB.out.trans (hb.mono HB.out.size)
    obtain ⟨A3, c3, rfl, hc3, hr3⟩ := own_rd icells_length hown2
    have HR3 := Lib.hid hr3
    clear hb hown2 hr3
    go_wp2_with fail
    refine (l02Lack_any xs ord (every xs.length) A A2 A3 c c2 c3 w2 hl hl2 (by rw [every_length]; exact hl) hc3 HW.out (ordOk_eB HA.out.2) every_in (HR.out.keep HB2.out) (HR2.out.keep HB2.out) HR3.out).mono ?_
    rintro e w3 ⟨v3, rfl, hown, hb⟩
    have e9 : lack (cntOf xs (every xs.length)) ord = lack (cntAll xs) ord := lack_congr (fun x _ => cntOf_every xs x.1)
    rw [e9] at hown
    have HB3 : Hid (Below w.heap.size w w3) := HB2.out.trans (hb.mono HB2.out.size)
    clear hb e9
    obtain ⟨A4, c4, rfl, -, -⟩ := own_rd wcells_length hown
    clear hown
    by_cases h0 : lack (cntAll xs) ord = []
    · have E : Hid (fiC xs ord = 0) := by show _ = _; rw [HF.out, if_pos h0]
      rw [h0]
      clear h0 HF
      dsimp only [List.length_nil]
      go_wp2
      go_ret
      exact ⟨by rw [E.out]; rfl, HB3.out⟩
    · have E : Hid (fiC xs ord = 6) := by show _ = _; rw [HF.out, if_neg h0]
      obtain ⟨n, hn⟩ : ∃ n, (lack (cntAll xs) ord).length = n := ⟨_, rfl⟩
      have hn0 : 0 < n := by rw [← hn]; exact List.length_pos_iff.2 h0
      have hn1 : (0 : Int) < (n : Int) := by omega
      rw [hn]
      clear h0 HF hn
      go_wp2
      go_ret
      exact ⟨by rw [E.out]; rfl, HB3.out⟩

set_option maxRecDepth 100000 in
set_option maxHeartbeats 8000000 in
theorem specGreedy_any (xs : List Crt) (ord : List Wnt) (hw : ∀ x ∈ ord, wfW x) (A A2 : Option Addr) (c c2 : Nat) (w : World) (hl : xs.length ≤ 1048576) (hl2 : ord.length ≤ 1048576) (hr : Rd w w.heap.size kcells A xs) (hr2 : Rd w w.heap.size wcells A2 ord) :
    Calls Tryd.prog 30 #[.slice A xs.length c, .slice A2 ord.length c2] w fun e w' => ∃ v, e = .returned (.tuple #[v, .int .i64 (goC xs ord)]) ∧ w'.ownsRow w.heap.size 2 1 v (goL xs ord).length ((goL xs ord).flatMap icells) ∧ Below w.heap.size w w' := by
  obtain ⟨j0, hj, hy0, hy1, hy2⟩ := info_parts Tryd.info64
  have HJ := Lib.hid hj
  have HY0 := Lib.hid hy0
  have HY1 := Lib.hid hy1
  have HY2 := Lib.hid hy2
  clear hj hy0 hy1 hy2
  have HR := Lib.hid hr
  have HR2 := Lib.hid hr2
  have HW := Lib.hid hw
  clear hr hr2 hw
  go_enter Tryd.func30, Tryd.ntmps30
  go_wp2_with fail
  refine (l02Filled_any xs ord HW.out A A2 c c2 w hl hl2 HR.out HR2.out).mono ?_
  rintro e w1 ⟨rfl, hb⟩
  have HB := Lib.hid hb
  clear hb
  by_cases hz : fiC xs ord = 0
  · have HA : Hid (askOk xs ord = true ∧ lack (cntAll xs) ord = []) := by
      show _ ∧ _
      unfold fiC at hz
      split at hz
      · rename_i h1
        split at hz
        · rename_i h2; exact ⟨h1, h2⟩
        · cases hz
      · cases hz
    have HAk := Lib.hid (ask_yes HA.out.1)
    have HP := Lib.hid (ordOk_num HAk.out.2)
    have HEb := Lib.hid (ordOk_eB HAk.out.2)
    have E := Lib.hid (go_ok HA.out.1 HA.out.2)
    have hx12 : xs.length ≤ 12 := okS_len HAk.out.1
    rw [hz]
    clear hz
    have HO0 : Hid ((w1.alloc (.cells #[] 2)).ownsRow w.heap.size 2 1 (.slice (some ⟨w1.heap.size, 0, none⟩) ([] : List Int).length 0) ([] : List Int).length (([] : List Int).flatMap icells)) := own_base (empty_ownG w1 _ 1) HB.out.size
    have HB0 : Hid (Below w.heap.size w (w1.alloc (.cells #[] 2))) := HB.out.alloc HB.out.size _
    clear HB
    go_wp2_with fail
    go_loopw [7] (fun ov wr => ∃ (j : Nat) (L : Option Addr) (lc : Nat), j ≤ xs.length ∧ (grS xs ord j).1.length = j ∧ ov = .slice L (grS xs ord j).1.length lc ∧ wr.ownsRow w.heap.size 2 1 (.slice L (grS xs ord j).1.length lc) (grS xs ord j).1.length ((grS xs ord j).1.flatMap icells) ∧ Below w.heap.size w wr)
      (fun ov _ => xs.length - (match ov with | .slice _ n _ => n | _ => 0))
    case atStart => exact ⟨0, _, 0, Nat.zero_le _, rfl, rfl, HO0.out, HB0.out⟩
    case round =>
      clear HO0 HB0
      obtain ⟨j, L, lc, hj, hjl, rfl, hO, hB⟩ := hrel
      obtain ⟨wa, rfl⟩ : ∃ u, u = wr := ⟨_, rfl⟩
      have hG := grS_GI (xs := xs) HP.out j
      have HRm := Lib.hid (fun h => grS_room (xs := xs) HP.out hjl h)
      have HFn := Lib.hid (fun h => grS_fin (xs := xs) (ord := ord) (j := j) (by omega) h)
      obtain ⟨S, hS⟩ : ∃ S, grS xs ord j = S := ⟨_, rfl⟩
      rw [hS] at hG hjl hO HRm HFn ⊢
      obtain ⟨out, cs, lk⟩ := S
      dsimp only at hjl hO ⊢
      have HG := Lib.hid hG
      have HO := Lib.hid hO
      have HB := Lib.hid hB
      have HJl := Lib.hid hjl
      have HS := Lib.hid hS
      have HLr := Lib.hid (own_rd2 icells_length hO)
      have HLc := Lib.hid (own_capG hO)
      have HO12 : Hid (out.length ≤ 12) := by show _ ≤ _; omega
      clear hO hB hjl hG hS
      go_wp2_with fail
      refine (l02Lack_any xs ord out A A2 L c c2 lc wa hl hl2 (by have := HO12.out; omega) HLc.out HW.out HEb.out HG.out.inn (HR.out.keep HB.out) (HR2.out.keep HB.out) HLr.out).mono ?_
      rintro e w3 ⟨v3, rfl, hown, hb⟩
      rw [show lack (cntOf xs out) ord = lk from HG.out.lk.symm] at hown
      obtain ⟨A4, c4, rfl, -, hr4⟩ := own_rd wcells_length hown
      have HR4 := Lib.hid hr4
      have HB3 : Hid (Below w.heap.size w w3) := HB.out.trans (hb.mono HB.out.size)
      have HO3 := Lib.hid (own_keep' HO.out hb)
      have HLr3 := Lib.hid (HLr.out.keep hb)
      have HLkw : Hid (∀ x ∈ lk, wfW x) := by show ∀ x ∈ lk, _; rw [show lk = _ from HG.out.lk]; exact lack_wf HW.out
      have HLke : Hid (∀ x ∈ lk, eB x.1 = false) := by show ∀ x ∈ lk, _; rw [show lk = _ from HG.out.lk]; exact lack_eB HEb.out
      have HLkl : Hid (lk.length ≤ 1048576) := by show _ ≤ _; rw [show lk = _ from HG.out.lk]; exact Nat.le_trans (lack_length _ _) hl2
      clear hb hown hr4 HB HO HLr
      by_cases h0 : lk = []
      · have E2 : Hid (goL xs ord = out) := by show _ = _; rw [E.out.1, HFn.out (.inl h0)]
        subst h0
        dsimp only [List.length_nil]
        go_wp2
        try simp only [Exit.inBlock, Exit.then]
        refine bodyPost_ret (v := .tuple #[.slice L out.length lc, .int .i64 0]) (by simp [results, Tryd.results30, go_sem, *]) rfl ?_
        exact ⟨_, by (rw [E.out.2]; first | done | rfl), by rw [E2.out]; exact HO3.out, HB3.out⟩
      · have hns : ¬ gStk (out, cs, lk) := fun h => h0 (HG.out.helps HA.out.2 h)
        have HN := Lib.hid (HRm.out hns)
        have hmu0 : 0 < (muS cs lk xs.length).2 := by
          have h1 : (muS cs lk cs.length).2 = (muS cs lk xs.length).2 := by rw [show cs.length = xs.length from HG.out.len]
          rcases Int.lt_or_le 0 (muS cs lk xs.length).2 with h2 | h2
          · exact h2
          · exact absurd (.inr (by show (muS cs lk cs.length).2 ≤ 0; rw [h1]; exact h2)) hns
        have HMu := Lib.hid hmu0
        have hln : ¬ lk.length = 0 := fun e => h0 (List.eq_nil_of_length_eq_zero e)
        have hlb : ((lk.length : Int) == 0) = false := by simp; omega
        clear hns hmu0 h0
        obtain ⟨LN, hLN⟩ : ∃ n, lk.length = n := ⟨_, rfl⟩
        rw [hLN] at hlb hln ⊢
        go_wp2_with fail
        rw [← hLN]
        clear hLN hln hlb
        go_loopw [9, 10, 11] (fun bv mv iv wr => ∃ k : Nat, k ≤ xs.length ∧ bv = .int .i64 (mbS xs lk out k).1 ∧ mv = .int .i64 (mbS xs lk out k).2 ∧ iv = .int .i64 k ∧ Below w3.heap.size w3 wr) (fun _ _ i _ => xs.length - (intOf i).toNat)
        case atStart => exact ⟨0, Nat.zero_le _, rfl, rfl, rfl, Below.refl _ _⟩
        case round =>
          obtain ⟨k, hk, rfl, rfl, rfl, hB⟩ := hrel
          obtain ⟨wb, rfl⟩ : ∃ u, u = wr := ⟨_, rfl⟩
          have HBk := Lib.hid hB
          clear hB
          have hk0 : (0 : Int) ≤ (k : Int) := Int.natCast_nonneg _
          obtain ⟨mb, hmb⟩ : ∃ m, mbS xs lk out k = m := ⟨_, rfl⟩
          have HMb := Lib.hid hmb
          rw [hmb]
          clear hmb
          obtain ⟨b0, m0⟩ := mb
          dsimp only
          by_cases hlt : k < xs.length
          · have hk8 : (k : Int) < xs.length := by omega
            obtain ⟨x, hx⟩ : ∃ x, xs[k]? = some x := ⟨_, List.getElem?_eq_getElem hlt⟩
            have HX := Lib.hid hx
            obtain ⟨b, o, rfl, hbl, hrow⟩ := ((HR.out.keep HB3.out).keep HBk.out).at_ kcells_length hx
            have HRow : Hid (wb.rangeAt b (o + k * 24) (ccells x.1)) := hrow
            have HBl : Hid (b < wb.heap.size) := hbl
            clear hx hrow hbl
            go_wp2_with fail
            refine (l00Has_any out k L lc wb (by have := HO12.out; omega) (HLr3.out.keep HBk.out)).mono ?_
            rintro e w5 ⟨rfl, rfl⟩
            by_cases hin : (k : Int) ∈ out
            · have hd : decide ((k : Int) ∈ out) = true := decide_eq_true hin
              have hS2 : Hid (mbS xs lk out (k + 1) = (b0, m0)) := (mbS_in hin).trans HMb.out
              rw [hd]
              clear hd hin
              go_wp2
              go_roundw
              case rel => exact ⟨k + 1, by omega, by rw [hS2.out], by rw [hS2.out], by go_num, HBk.out⟩
              case measure => simp [intOf]; omega
            · have hd : decide ((k : Int) ∈ out) = false := decide_eq_false hin
              have HIn : Hid (¬ (k : Int) ∈ out) := hin
              rw [hd]
              clear hd hin
              go_wp2_with fail
              refine (l02Useful_any x lk b (o + k * 24) A4 c4 wb HLkl.out HLkw.out HLke.out HBl.out HRow.out (HR4.out.keep HBk.out)).mono ?_
              rintro e w5 ⟨rfl, hb⟩
              have HB5 := Lib.hid (HBk.out.trans (hb.mono HBk.out.size))
              clear hb
              obtain ⟨us, hus⟩ : ∃ u, usTo (mult x) lk lk.length = u := ⟨_, rfl⟩
              have HUs : Hid (usW x lk = us) := hus
              rw [hus]
              clear hus
              by_cases hb0 : b0 < 0
              · have hS2 : Hid (mbS xs lk out (k + 1) = ((k : Int), us)) := by show _ = _; rw [mbS_yes HIn.out HX.out (.inl (by rw [HMb.out]; exact hb0)), HUs.out]
                go_wp2
                go_roundw
                case rel => exact ⟨k + 1, by omega, by rw [hS2.out], by rw [hS2.out], by go_num, HB5.out⟩
                case measure => simp [intOf]; omega
              · by_cases hm0 : m0 < us
                · have hS2 : Hid (mbS xs lk out (k + 1) = ((k : Int), us)) := by show _ = _; rw [mbS_yes HIn.out HX.out (.inr (by rw [HMb.out, HUs.out]; exact hm0)), HUs.out]
                  go_wp2
                  go_roundw
                  case rel => exact ⟨k + 1, by omega, by rw [hS2.out], by rw [hS2.out], by go_num, HB5.out⟩
                  case measure => simp [intOf]; omega
                · have hS2 : Hid (mbS xs lk out (k + 1) = (b0, m0)) := by show _ = _; rw [mbS_no HIn.out HX.out (by rw [HMb.out, HUs.out]; exact fun h => h.elim hb0 hm0)]; exact HMb.out
                  go_wp2
                  go_roundw
                  case rel => exact ⟨k + 1, by omega, by rw [hS2.out], by rw [hS2.out], by go_num, HB5.out⟩
                  case measure => simp [intOf]; omega
          · obtain rfl : k = xs.length := by omega
            have hb0 : b0 = ((muS cs lk xs.length).1 : Int) := by
              rcases mb_mu HG.out.pos HG.out.at_ xs.length (Nat.le_refl _) with ⟨-, h2⟩ | ⟨h1, -⟩
              · have := HMb.out.symm.trans h2
                exact congrArg Prod.fst this
              · have h1' : (muS cs lk xs.length).2 = 0 := h1
                have := HMu.out; omega
            have hN1 : (grS xs ord (j + 1)).1 = out ++ [b0] := by
              rw [HN.out.1, hb0]
              show out ++ [((muS cs lk cs.length).1 : Int)] = _
              rw [show cs.length = xs.length from HG.out.len]
            have HN1 := Lib.hid hN1
            have HO5 := Lib.hid (own_keep' HO3.out HBk.out)
            have HB5 := Lib.hid (HB3.out.trans (HBk.out.mono HB3.out.size))
            have HSz : Hid (w.heap.size ≤ wb.heap.size) := HB5.out.size
            clear hb0 hN1 HBk
            go_wp2_with (at_builtin; refine wpList_append_own _ rfl (.tmp 52) (.tmp 54) 26 rfl w.heap.size 2 j0 (.int .i64 0) 1 8 Tryd.underlying26 HJ.out HY0.out HY1.out HY2.out rfl (by decide) _ _ _ rfl (HO5.out.alloc _) ⟨wb.heap.size, 0, none⟩ 1 1 [.int .i64 b0] rfl rfl ?f1 ?f2 ?f3 ?f4 ?f5 ?_)
            case f1 => exact cell1G _ _ _
            case f2 => intro u hu; simp at hu; subst hu; rfl
            case f3 => have := HO12.out; unfold maxLen; omega
            case f4 => have := HO12.out; omega
            case f5 => have := HSz.out; simp; omega
            intro v8 w8 hown8 hg8 _
            have hown9 : w8.ownsRow w.heap.size 2 1 v8 (out ++ [b0]).length ((out ++ [b0]).flatMap icells) := by rw [List.length_append, List.flatMap_append]; simpa [icells] using hown8
            obtain ⟨A8, c8, rfl, -, -⟩ := own_rd icells_length hown9
            have HO9 := Lib.hid hown9
            have HB8 : Hid (Below w.heap.size w w8) := (HB5.out.alloc HB5.out.size _).grown hg8 (HB5.out.alloc HB5.out.size _).size (fun q e => by have := own_blockG HO5.out e; omega)
            clear hown8 hown9 hg8
            have HN2 : Hid ((grS xs ord (j + 1)).1.length = j + 1 ∧ j + 1 ≤ xs.length) := HN.out.2
            obtain ⟨o2, ho2⟩ : ∃ o2, out ++ [b0] = o2 := ⟨_, rfl⟩
            rw [ho2] at HO9 HN1 ⊢
            clear ho2
            go_wp2
            go_roundw
            case rel => exact ⟨j + 1, A8, c8, HN2.out.2, HN2.out.1, by rw [HN1.out], by rw [HN1.out]; exact HO9.out, HB8.out⟩
            case measure => have h1 := HN2.out; rw [HN1.out] at h1; have := HJl.out; dsimp only; omega
  · have hne : (fiC xs ord == 0) = false := by simpa using hz
    have E : Hid (goL xs ord = [] ∧ goC xs ord = fiC xs ord) := by
      show _ ∧ _
      cases ha : askOk xs ord with
      | false => have h1 := go_bad ha; exact ⟨h1.1, by rw [h1.2]; simp [fiC, ha]⟩
      | true =>
        by_cases h2 : lack (cntAll xs) ord = []
        · exact absurd (by simp [fiC, ha, h2]) hz
        · have h1 := go_lack ha h2; exact ⟨h1.1, by rw [h1.2]; simp [fiC, ha, h2]⟩
    obtain ⟨C, hC⟩ : ∃ C, fiC xs ord = C := ⟨_, rfl⟩
    have HC := Lib.hid hC
    rw [hC] at hz hne ⊢
    clear hC
    go_wp2
    go_ret2
    exact ⟨_, by (rw [E.out.2, HC.out]; first | done | rfl), by rw [E.out.1]; exact own_base (empty_ownG w1 _ 1) HB.out.size, HB.out.alloc HB.out.size _⟩
end Go.Proofs.YtkehmelcecifdaaDoor
