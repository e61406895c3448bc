/-
  AgreementOf: both contracts. Condition: the sentinel errors lie as the row lists them; the model's order as long as its capacity at most.
-/
import Derived.Test.YtglhjdnencpdiaaDoorZs
import Derived.Test.YtglhjdnencpdiaaDoorZg
import Derived.Test.YtglhjdnencpdiaaDoorEo
import Derived.Test.YtglhjdnencpdiaaDoorTv
namespace Go.Proofs.YtglhjdnencpdiaaDoor
open Go.ChangeShapes Go.WideShapes Go.ChangeAt Go.RowKit Go.Deep

def nP (f : Nat → Nat → Nat) (p : Pq) : Int := ((f p.1.toNat p.2.toNat : Nat) : Int)
def agA (n : Int) (m : List (List Int)) (xs : List Int) : Int := if mkOk n m = true then (if orB n xs = true then suP (nP (prF m m.length)) (opI xs xs.length) else 0) else 0
def agC (n : Int) (m : List (List Int)) (xs : List Int) : Int := if mkOk n m = true then (if orB n xs = true then 0 else 4) else 1
theorem ag_inv {n : Int} {m : List (List Int)} (xs : List Int) (h : mkOk n m = false) : agA n m xs = 0 ∧ agC n m xs = 1 := by simp [agA, agC, h]
theorem ag_ord {n : Int} {m : List (List Int)} {xs : List Int} (h : mkOk n m = true) (h2 : orB n xs = false) : agA n m xs = 0 ∧ agC n m xs = 4 := by simp [agA, agC, h, h2]
theorem ag_yes {n : Int} {m : List (List Int)} {xs : List Int} (h : mkOk n m = true) (h2 : orB n xs = true) : agA n m xs = suP (nP (prF m m.length)) (opI xs xs.length) ∧ agC n m xs = 0 := by simp [agA, agC, h, h2]
theorem one_rdN9 {w : World} {xs : List Int} {a : Option Addr} {c : Nat} (h : Rd w w.heap.size icells a xs) : RdN (w.alloc (.cells #[.slice a xs.length c] 34)) (w.alloc (.cells #[.slice a xs.length c] 34)).heap.size icells (some ⟨w.heap.size, 0, none⟩) [xs] := by
  have hb : Below w.heap.size w (w.alloc (.cells #[.slice a xs.length c] 34)) := (Below.refl _ _).alloc (Nat.le_refl _) _
  have hK : Rs (w.alloc (.cells #[.slice a xs.length c] 34)) w.heap.size 34 hcells [(a, xs.length, c)] := by
    have := Blk.new w 34 (hcells (a, xs.length, c)).toArray
    simpa [Rs, hcells] using this
  refine ⟨[(a, xs.length, c)], rfl, hK.rd hK.lt, fun i hd ys hi hy => ?_⟩
  match i with
  | 0 =>
    obtain rfl := Option.some.inj hi
    obtain rfl := Option.some.inj hy
    exact ⟨rfl, h.keep hb⟩
  | _ + 1 => simp at hi
theorem new_cellW9 (W : World) (u v : Value) (t : TypeId) : (W.alloc (.cells #[u, v] t)).cell? ⟨W.heap.size, 0, none⟩ = some u ∧ (W.alloc (.cells #[u, v] t)).cell? ⟨W.heap.size, 1, none⟩ = some v := new_cell2 W u v t
theorem ag_first (b0 b1 : Bool) : (b0 = false → firstO [chk 5 b0, chk 2 b1] = some 5) ∧ (b0 = true → b1 = false → firstO [chk 5 b0, chk 2 b1] = some 2) ∧ (b0 = true → b1 = true → firstO [chk 5 b0, chk 2 b1] = none) := by
  revert b0 b1; decide

set_option maxRecDepth 100000 in
set_option maxHeartbeats 8000000 in
theorem l07Agreement_any (N : Nat) (hN8 : N ≤ 8) (f : Nat → Nat → Nat) (hf : ∀ a b, f a b ≤ 12) (xs : List Int) (hxl : xs.length = N) (hxb : ∀ x ∈ xs, 0 ≤ x ∧ x < N) (A B : Option Addr) (c d : Nat) (w : World) (hm : RdN w w.heap.size icells A (mat N f)) (hr : Rd w w.heap.size icells B xs) :
    Calls Tryd.prog 40 #[.slice A N c, .slice B N d] w fun e w' => e = .returned (.int .i64 (suP (nP f) (opI xs xs.length))) ∧ Below w.heap.size w w' := by
  have HM := Lib.hid hm
  have HR := Lib.hid hr
  have HX := Lib.hid hxb
  have HF : Hid (∀ p, 0 ≤ nP f p ∧ nP f p ≤ 12) := fun p => by have := hf p.1.toNat p.2.toNat; unfold nP; omega
  have HLx := Lib.hid hxl
  clear hm hr hxb hf hxl
  go_enter Tryd.func40, Tryd.ntmps40
  go_wp2_with fail
  go_loopw [5, 6] (fun s j wr => ∃ (i : Nat), i ≤ N ∧ j = .int .i64 i ∧ s = .int .i64 (suP (nP f) (opI xs i)) ∧ Below w.heap.size w wr) (fun _ j _ => N - (intOf j).toNat)
  case atStart => exact ⟨0, by omega, rfl, rfl, Below.refl _ _⟩
  case round =>
    obtain ⟨i, hi, rfl, rfl, hb2⟩ := hrel
    obtain ⟨wa, rfl⟩ : ∃ u, u = wr := ⟨_, rfl⟩
    have HB2 := Lib.hid hb2
    clear hb2
    have hi0 : (0 : Int) ≤ (i : Int) := Int.natCast_nonneg _
    by_cases hlt : i < N
    · have hi8 : (i : Int) < N := by omega
      have HS0 : Hid (suP (nP f) (opI xs i) = suP (nP f) (opI xs i ++ opK xs i (i + 1))) := by show _ = _; rw [opK_low xs i (i + 1) (by omega), List.append_nil]
      obtain ⟨x, hx⟩ : ∃ x, xs[i]? = some x := ⟨_, List.getElem?_eq_getElem (by rw [HLx.out]; exact hlt)⟩
      have HXi := Lib.hid hx
      have hxb := HX.out x (List.mem_of_getElem? hx)
      obtain ⟨a, rfl⟩ : ∃ a : Nat, x = (a : Int) := ⟨x.toNat, by omega⟩
      have haN : a < N := by omega
      have hl64 := opI_len (xs := xs) (by rw [HLx.out]; exact hN8) i
      have u0 : IntKind.i64.wrap ((i : Int) + 1) = (i : Int) + 1 := IntWalk.i64_in _ ⟨by omega, by omega⟩
      have u00 : wrap64 ((i : Int) + 1) = (i : Int) + 1 := IntWalk.wrap64_in _ ⟨by omega, by omega⟩
      clear hx hxb
      go_wp2_with fail
      go_loopw [5, 7] (fun s j wr => ∃ (k : Nat), i < k ∧ k ≤ N ∧ j = .int .i64 k ∧ s = .int .i64 (suP (nP f) (opI xs i ++ opK xs i k)) ∧ Below w.heap.size w wr) (fun _ j _ => N - (intOf j).toNat)
      case atStart => exact ⟨i + 1, by omega, by omega, by go_num, by rw [HS0.out], HB2.out⟩
      case round =>
        clear HS0 HB2
        obtain ⟨k, hik, hk, rfl, rfl, hb2⟩ := hrel
        obtain ⟨wb, rfl⟩ : ∃ u, u = wr := ⟨_, rfl⟩
        have HB2 := Lib.hid hb2
        clear hb2
        have hk0 : (0 : Int) ≤ (k : Int) := Int.natCast_nonneg _
        by_cases hlt2 : k < N
        · have hk8 : (k : Int) < N := by omega
          obtain ⟨y, hy⟩ : ∃ y, xs[k]? = some y := ⟨_, List.getElem?_eq_getElem (by rw [HLx.out]; exact hlt2)⟩
          have hyb := HX.out y (List.mem_of_getElem? hy)
          obtain ⟨b, rfl⟩ : ∃ b : Nat, y = (b : Int) := ⟨y.toNat, by omega⟩
          have hbN : b < N := by omega
          have haN8 : (a : Int) < N := by omega
          have hbN8 : (b : Int) < N := by omega
          have ha0 : (0 : Int) ≤ (a : Int) := Int.natCast_nonneg _
          have hb0 : (0 : Int) ≤ (b : Int) := Int.natCast_nonneg _
          have hRx := HR.out.keep HB2.out
          obtain ⟨b3, o3, rfl, hbl, hrow⟩ := hRx.at_ icells_length HXi.out
          obtain ⟨b4, o4, eA, hbl4, hrow4⟩ := hRx.at_ icells_length hy
          obtain ⟨rfl, rfl⟩ : b3 = b4 ∧ o3 = o4 := by simpa using eA
          have e1 := rowI hrow
          have e2 := rowI hrow4
          obtain ⟨b5, o5, a5, c5, rfl, hb5, hc5, hrd5⟩ := (HM.out.keep HB2.out).at_ (mat_at f haN)
          obtain ⟨b6, o6, rfl, hbl6, hrow6⟩ := hrd5.at_ icells_length (mRow_at f a hbN)
          have e3 := rowI hrow6
          rw [mRow_len] at hc5
          have hSt : suP (nP f) (opI xs i ++ opK xs i (k + 1)) = suP (nP f) (opI xs i ++ opK xs i k) + ((f a b : Nat) : Int) := by
            rw [opK_succ HXi.out hy hik, ← List.append_assoc, suP_snoc]
            simp [nP]
          have hsb := suP_b (g := nP f) (M := 12) (qs := opI xs i ++ opK xs i k) (fun q _ => HF.out q)
          have hsl := opK_len xs i k
          rw [List.length_append] at hsb
          have hpb := HF.out ((a : Int), (b : Int))
          have hpe : nP f ((a : Int), (b : Int)) = ((f a b : Nat) : Int) := by simp [nP]
          rw [hpe] at hpb
          obtain ⟨z, hz⟩ : ∃ z, ((f a b : Nat) : Int) = z := ⟨_, rfl⟩
          rw [hz] at e3 hSt hpb
          have HSt := Lib.hid hSt
          obtain ⟨s, hs⟩ : ∃ s, suP (nP f) (opI xs i ++ opK xs i k) = s := ⟨_, rfl⟩
          rw [hs] at hsb HSt ⊢
          have u1 : IntKind.i64.wrap (s + z) = s + z := IntWalk.i64_in _ ⟨by omega, by omega⟩
          have u2 : wrap64 (s + z) = s + z := IntWalk.wrap64_in _ ⟨by omega, by omega⟩
          have HB3 : Hid (Below w.heap.size w wb.drew) := HB2.out.drew
          clear hRx eA hrow hrow4 hrow6 hrd5 hSt hs hsb hpe hpb hz hy hsl hyb
          go_wp2_with fail
          go_region
          go_wp2
          go_roundw
          case rel => exact ⟨k + 1, by omega, by omega, by go_num, by rw [HSt.out], by first | exact HB2.out | exact HB3.out⟩
          case measure => simp [intOf]; omega
        · obtain rfl : k = N := by omega
          have HE9 : Hid (suP (nP f) (opI xs i ++ opK xs i k) = suP (nP f) (opI xs (i + 1))) := by show _ = _; rw [opI, HLx.out]
          go_wp2
          go_roundw
          case rel => exact ⟨i + 1, by omega, by go_num, by rw [HE9.out], HB2.out⟩
          case measure => simp [intOf]; omega
    · obtain rfl : i = N := by omega
      have HE9 : Hid (suP (nP f) (opI xs i) = suP (nP f) (opI xs xs.length)) := by show _ = _; rw [HLx.out]
      go_wp2
      go_ret
      exact ⟨by (rw [HE9.out]; first | done | rfl), HB2.out⟩

set_option maxRecDepth 100000 in
set_option maxHeartbeats 4000000 in
theorem specAgreement_any (n : Int) (m : List (List Int)) (xs : List Int) (A B : Option Addr) (c d : Nat) (w : World) (hl : m.length ≤ 1048576) (hx : ∀ xs ∈ m, xs.length ≤ 1048576) (hl2 : xs.length ≤ 1048576) (hd : xs.length ≤ d) (hr : RdN w w.heap.size icells A m) (hr2 : Rd w w.heap.size icells B xs) :
    Calls Tryd.prog 20 #[.int .i64 n, .slice A m.length c, .slice B xs.length d] w fun e w' => e = .returned (.tuple #[.int .i64 (agA n m xs), .int .i64 (agC n m xs)]) ∧ Below w.heap.size w w' := by
  have HC := Lib.hid (l07Ok_any n m A c w hl hx hr)
  have HR := Lib.hid hr
  have HR2 := Lib.hid hr2
  clear hx hr hr2
  go_enter Tryd.func20, Tryd.ntmps20
  go_wp2_with fail
  refine HC.out.mono ?_
  rintro e w1 ⟨rfl, rfl⟩
  clear HC
  cases h0 : mkOk n m
  · have E := Lib.hid (ag_inv xs h0)
    clear h0
    go_wp2
    go_ret2
    exact ⟨by (rw [E.out.1, E.out.2]; first | done | rfl), Below.refl _ _⟩
  have HO := Lib.hid (l07Order_any n (mkOk_iff.1 h0).1 xs B d w hl2 hd HR2.out)
  cases h1 : orB n xs
  · have E := Lib.hid (ag_ord h0 h1)
    rw [h1] at HO
    clear h0 h1
    go_wp2_with fail
    refine HO.out.mono ?_
    rintro e w2 ⟨rfl, hb⟩
    have HB := Lib.hid hb
    clear HO hb
    go_wp2
    go_ret2
    exact ⟨by (rw [E.out.1, E.out.2]; first | done | rfl), HB.out⟩
  have E := Lib.hid (ag_yes h0 h1)
  obtain ⟨hxl, hxb, -⟩ := orB_iff.1 h1
  rw [h1] at HO
  obtain ⟨⟨hn1, hn8⟩, hm12, hrows⟩ := mkOk_iff.1 h0
  have HP : Hid (∀ (W : World), Below w.heap.size w W → Calls Tryd.prog 26 #[.int .i64 n, .slice A m.length c] W fun e w' => ∃ A' c' hs, e = .returned (.slice A' n.toNat c') ∧ OwnN w' W.heap.size 34 2 1 icells A' c' hs (mat n.toNat (prF m m.length)) ∧ Below W.heap.size W w') := fun W hW => l07Pairs_any n m h0 A c W (HR.out.keep hW)
  obtain ⟨N, hN⟩ : ∃ N : Nat, n.toNat = N := ⟨_, rfl⟩
  have hnN : n = (N : Int) := by omega
  rw [hN] at HP
  subst hnN
  have hxN : xs.length = N := by omega
  have hN8 : N ≤ 8 := by omega
  have HXb : Hid (∀ x ∈ xs, 0 ≤ x ∧ x < (N : Int)) := fun x hx => by have := hxb x hx; omega
  have HF : Hid (∀ a b, prF m m.length a b ≤ 12) := fun a b => by have := prTo_le m a b m.length; unfold prF; omega
  have HxN := Lib.hid hxN
  clear h0 h1 hN hxb hrows hxl
  rw [hxN] at HO ⊢
  go_wp2_with fail
  refine HO.out.mono ?_
  rintro e w2 ⟨rfl, hb⟩
  have HB := Lib.hid hb
  have HP2 := Lib.hid (HP.out w2 hb)
  clear hb HO HP
  go_wp2_with fail
  refine HP2.out.mono ?_
  rintro e w3 ⟨Aq, cq, hsq, rfl, hO, hb⟩
  have HB3 := Lib.hid (HB.out.trans (hb.mono HB.out.size))
  have HA := Lib.hid (l07Agreement_any N hN8 (prF m m.length) HF.out xs HxN.out HXb.out Aq B cq d w3 (hO.rd icells_length) (HR2.out.keep HB3.out))
  clear hO hb HP2
  go_wp2_with fail
  refine HA.out.mono ?_
  rintro e w4 ⟨rfl, hb⟩
  have HB4 := Lib.hid (HB3.out.trans (hb.mono HB3.out.size))
  clear hb HA
  go_wp2
  go_ret2
  exact ⟨by (rw [E.out.1, E.out.2, HxN.out]; first | done | rfl), HB4.out⟩

set_option maxRecDepth 100000 in
set_option maxHeartbeats 4000000 in
theorem implAgreement_any (n : Int) (m : List (List Int)) (xs : List Int) (A B : Option Addr) (c d : Nat) (ad : Nat → Addr) (w : World) (hl : m.length ≤ 1048576) (hx : ∀ xs ∈ m, xs.length ≤ 1048576) (hl2 : xs.length ≤ 1048576) (hr : RdN w w.heap.size icells A m) (hr2 : Rd w w.heap.size icells B xs) (hE : EW 7 w ad) :
    Calls Tryd.prog 22 #[.int .i64 n, .slice A m.length c, .slice B xs.length d] w fun e w' => e = .returned (.tuple #[.int .i64 (agA n m xs), .int .i64 (agC n m xs)]) ∧ Below w.heap.size w w' := by
  have HE := Lib.hid hE
  have HCm := Lib.hid (checkMarks_any n m A c ad w hl hx hr hE)
  have HR := Lib.hid hr
  have HR2 := Lib.hid hr2
  clear hx hr hE hr2
  obtain ⟨v0, hv0⟩ : ∃ v, erO ad (chk 5 (mkOk n m)) = v := ⟨_, rfl⟩
  have HV0 := Lib.hid hv0
  have P0 : Hid (isE v0) := by show isE v0; rw [← hv0]; exact erO_isE _ _
  rw [hv0] at HCm
  clear hv0
  go_enter Tryd.func22, Tryd.ntmps22
  go_wp2_with fail
  refine HCm.out.mono ?_
  rintro e w1 ⟨rfl, hb⟩
  have HB1 := Lib.hid hb
  clear hb HCm
  have hA1 : Below w.heap.size w (w1.alloc (.cells #[.slice B xs.length d] 34)) := HB1.out.alloc HB1.out.size _
  have HCi := Lib.hid (checkServings_any n [xs] (some ⟨w1.heap.size, 0, none⟩) 1 ad _ (by simp) (by simpa using hl2) (one_rdN9 (c := d) (HR2.out.keep HB1.out)) (HE.out.below hA1 (Nat.le_refl _)))
  rw [show [xs].all (ioB n) = ioB n xs from by simp] at HCi
  obtain ⟨v1, hv1⟩ : ∃ v, erO ad (chk 2 (ioB n xs)) = v := ⟨_, rfl⟩
  have HV1 := Lib.hid hv1
  have P1 : Hid (isE v1) := by show isE v1; rw [← hv1]; exact erO_isE _ _
  rw [hv1] at HCi
  have HCi : Hid (Calls Tryd.prog 42 #[.int .i64 n, .slice (some ⟨w1.heap.size, 0, none⟩) 1 1] (w1.alloc (.cells #[.slice B xs.length d] 34)) fun e w' => e = .returned v1 ∧ Below (w1.alloc (.cells #[.slice B xs.length d] 34)).heap.size (w1.alloc (.cells #[.slice B xs.length d] 34)) w') := HCi
  have HA1 := Lib.hid hA1
  clear hv1 hA1
  go_wp2_with fail
  refine HCi.out.mono ?_
  rintro e w2 ⟨rfl, hb⟩
  have HA2 : Hid (Below w.heap.size w w2) := HA1.out.trans (hb.mono HA1.out.size)
  clear HCi hb HA1
  go_wp2_with (refine wpList_twoErrs rfl (.tmp 11) (.tmp 15) rfl P0.out P1.out rfl rfl ?_)
  have q0 := new_cellW9 w2 v0 v1 43
  rw [← HV0.out, ← HV1.out] at q0 ⊢
  refine (firstErr2_O ad _ _ _ _ _ q0.1 q0.2).mono ?_
  rintro e w9 ⟨rfl, rfl⟩
  rw [HV0.out, HV1.out]
  have L2 : Below w.heap.size w (w2.alloc (.cells #[v0, v1] 43)) := HA2.out.alloc HA2.out.size _
  obtain ⟨w3, hw3⟩ : ∃ w3, w2.alloc (.cells #[v0, v1] 43) = w3 := ⟨_, rfl⟩
  rw [hw3] at L2 ⊢
  have M2 := Lib.hid L2
  have hF := ag_first (mkOk n m) (ioB n xs)
  obtain ⟨o, ho⟩ : ∃ o, firstO [chk 5 (mkOk n m), chk 2 (ioB n xs)] = o := ⟨_, rfl⟩
  rw [ho] at hF ⊢
  have HF := Lib.hid hF
  clear hF ho
  clear q0 hw3 L2 HA2 HB1 HV0 HV1 P0 P1
  cases h0 : mkOk n m
  · have E := Lib.hid (ag_inv xs h0)
    rw [HF.out.1 h0, erO_some]
    clear h0
    go_wp2_with fail
    refine (codeOf_5 (HE.out.below M2.out (Nat.le_refl _))).mono ?_
    rintro e w4 ⟨rfl, rfl⟩
    go_wp2
    go_ret2
    exact ⟨by (rw [E.out.1, E.out.2]; first | done | rfl), M2.out⟩
  have hnw : wi 1 8 n = true := wi_iff.2 (mkOk_iff.1 h0).1
  have hio : ioB n xs = orB n xs := by rw [ioB, hnw]; rfl
  cases h1 : orB n xs
  · have E := Lib.hid (ag_ord h0 h1)
    rw [HF.out.2.1 h0 (by rw [hio, h1]), erO_some]
    clear h0 h1 hio hnw
    go_wp2_with fail
    refine (codeOf_2 ((HE.out.below M2.out (Nat.le_refl _)).less (by omega))).mono ?_
    rintro e w4 ⟨rfl, rfl⟩
    go_wp2
    go_ret2
    exact ⟨by (rw [E.out.1, E.out.2]; first | done | rfl), M2.out⟩
  have E := Lib.hid (ag_yes h0 h1)
  obtain ⟨hxl, hxb, -⟩ := orB_iff.1 h1
  rw [HF.out.2.2 h0 (by rw [hio, h1]), erO_none]
  obtain ⟨⟨hn1, hn8⟩, hm12, hrows⟩ := mkOk_iff.1 h0
  obtain ⟨N, hN⟩ : ∃ N : Nat, n.toNat = N := ⟨_, rfl⟩
  have hnN : n = (N : Int) := by omega
  subst hnN
  have HRow : ∀ xs ∈ m, xs.length = N := fun xs h => by have := (mkRow_iff.1 (hrows xs h)).1; omega
  have hN8 : N ≤ 8 := by omega
  have hps := prPs_len hN8 m m.length
  have HPs : Hid ((prPs N m m.length).length ≤ 6500) := by show _ ≤ _; omega
  have HXb : Hid (∀ x ∈ xs, 0 ≤ x ∧ x < 9) := fun x hx => by have := hxb x hx; omega
  have HX0 : Hid (0 < xs.length) := by show _ < _; omega
  have HX8 : Hid (xs.length ≤ 8) := by show _ ≤ _; omega
  have HSe : Hid (suP (fun p => ((cntP (prPs N m m.length) p : Nat) : Int)) (opI xs xs.length) = suP (nP (prF m m.length)) (opI xs xs.length)) := suP_congr fun p hp => by
    obtain ⟨m1, m2⟩ := opI_mem (Nat.le_refl _) hp
    obtain ⟨p1, p2⟩ := p
    have b1 := hxb p1 m1
    have b2 := hxb p2 m2
    obtain ⟨a, rfl⟩ : ∃ a : Nat, p1 = (a : Int) := ⟨p1.toNat, by omega⟩
    obtain ⟨b, rfl⟩ : ∃ b : Nat, p2 = (b : Int) := ⟨p2.toNat, by omega⟩
    simp only [nP, Int.toNat_natCast]
    rw [prPs_cnt m (by omega) (by omega)]; rfl
  have HC := Lib.hid (preferences_any N hN8 m HRow hm12 A c w3 (HR.out.keep M2.out))
  clear h0 h1 hrows hN HRow hxb hio hnw hxl HF hps
  go_wp2_with fail
  refine HC.out.mono ?_
  rintro e w4 ⟨Bm, k, D, rfl, q1, q2, q3, q4, q5⟩
  have HB4 := Lib.hid (M2.out.trans (q5.mono M2.out.size))
  have HG := Lib.hid (agreementG_any xs HXb.out HX0.out HX8.out (prPs N m m.length) HPs.out Bm k D B d w4 (HR2.out.keep HB4.out) q3 q4)
  rw [HSe.out] at HG
  clear q1 q3 q4 q5 HC
  go_wp2_with fail
  refine HG.out.mono ?_
  rintro e w5 ⟨rfl, hb5⟩
  have HB5 := Lib.hid (HB4.out.trans (hb5.mono HB4.out.size))
  clear hb5 HG
  go_wp2
  go_ret2
  exact ⟨by (rw [E.out.1, E.out.2]; first | done | rfl), HB5.out⟩
end Go.Proofs.YtglhjdnencpdiaaDoor
