/-
  DiscordOf: both contracts. Condition: the sentinel errors lie as the row lists them; the model's orders as long as their capacities at most.
-/
import Derived.Test.YtabajhblgnlhgaaDoorZy
import Derived.Test.YtabajhblgnlhgaaDoorEo
import Derived.Test.YtabajhblgnlhgaaDoorCw
namespace Go.Proofs.YtabajhblgnlhgaaDoor
open Go.ChangeShapes Go.WideShapes Go.ChangeAt Go.RowKit Go.Deep

def dcA (n : Int) (a b : List Int) : Int := if wi 1 8 n = true then (if (orB n a && orB n b) = true then dcS a b else 0) else 0
def dcC (n : Int) (a b : List Int) : Int := if wi 1 8 n = true then (if (orB n a && orB n b) = true then 0 else 4) else 2
theorem dc_rng {n : Int} (a b : List Int) (h : wi 1 8 n = false) : dcA n a b = 0 ∧ dcC n a b = 2 := by simp [dcA, dcC, h]
theorem dc_ord {n : Int} {a b : List Int} (h : wi 1 8 n = true) (h2 : (orB n a && orB n b) = false) : dcA n a b = 0 ∧ dcC n a b = 4 := by simp only [dcA, dcC, h, h2]; exact ⟨rfl, rfl⟩
theorem dc_yes {n : Int} {a b : List Int} (h : wi 1 8 n = true) (h2 : (orB n a && orB n b) = true) : dcA n a b = dcS a b ∧ dcC n a b = 0 := by simp only [dcA, dcC, h, h2]; exact ⟨rfl, rfl⟩
def dP (b : List Int) (p : Pq) : Int := if wb b p.2 < wb b p.1 then 1 else 0
theorem dP_b (b : List Int) (p : Pq) : 0 ≤ dP b p ∧ dP b p ≤ 1 := by unfold dP; split <;> omega
theorem new_cellW8 (W : World) (u v : Value) (t : TypeId) : (W.alloc (.cells #[u, v] t)).cell? ⟨W.heap.size, 0, none⟩ = some u ∧ (W.alloc (.cells #[u, v] t)).cell? ⟨W.heap.size, 1, none⟩ = some v := new_cell2 W u v t
theorem dc_first (b0 b1 : Bool) : (b0 = false → firstO [chk 0 b0, chk 2 b1] = some 0) ∧ (b0 = true → b1 = false → firstO [chk 0 b0, chk 2 b1] = some 2) ∧ (b0 = true → b1 = true → firstO [chk 0 b0, chk 2 b1] = none) := by
  revert b0 b1; decide
theorem two_rdN {w : World} {xs ys : List Int} {a b : Option Addr} {c d : Nat} (h : Rd w w.heap.size icells a xs) (h2 : Rd w w.heap.size icells b ys) : RdN (w.alloc (.cells #[.slice a xs.length c, .slice b ys.length d] 23)) (w.alloc (.cells #[.slice a xs.length c, .slice b ys.length d] 23)).heap.size icells (some ⟨w.heap.size, 0, none⟩) [xs, ys] := by
  have hb : Below w.heap.size w (w.alloc (.cells #[.slice a xs.length c, .slice b ys.length d] 23)) := (Below.refl _ _).alloc (Nat.le_refl _) _
  have hK : Rs (w.alloc (.cells #[.slice a xs.length c, .slice b ys.length d] 23)) w.heap.size 23 hcells [(a, xs.length, c), (b, ys.length, d)] := by
    have := Blk.new w 23 #[.slice a xs.length c, .slice b ys.length d]
    simpa [Rs, hcells] using this
  refine ⟨[(a, xs.length, c), (b, ys.length, d)], rfl, hK.rd hK.lt, fun i hd zs hi hy => ?_⟩
  match i with
  | 0 =>
    obtain rfl := Option.some.inj hi
    obtain rfl := Option.some.inj hy
    exact ⟨rfl, h.keep hb⟩
  | 1 =>
    obtain rfl := Option.some.inj hi
    obtain rfl := Option.some.inj hy
    exact ⟨rfl, h2.keep hb⟩
  | _ + 2 => simp at hi

set_option maxRecDepth 100000 in
set_option maxHeartbeats 8000000 in
theorem specDiscord_any (n : Int) (a b : List Int) (A B : Option Addr) (c d : Nat) (w : World) (hl : a.length ≤ 1048576) (hl2 : b.length ≤ 1048576) (hc : a.length ≤ c) (hd : b.length ≤ d) (hr : Rd w w.heap.size icells A a) (hr2 : Rd w w.heap.size icells B b) :
    Calls Tryd.prog 14 #[.int .i64 n, .slice A a.length c, .slice B b.length d] w fun e w' => e = .returned (.tuple #[.int .i64 (dcA n a b), .int .i64 (dcC n a b)]) ∧ Below w.heap.size w w' := by
  have HC := Lib.hid (l07Samples_any n w)
  have HR := Lib.hid hr
  have HR2 := Lib.hid hr2
  clear hr hr2
  go_enter Tryd.func14, Tryd.ntmps14
  go_wp2_with fail
  refine HC.out.mono ?_
  rintro e w1 ⟨rfl, rfl⟩
  clear HC
  cases h0 : wi 1 8 n
  · have E := Lib.hid (dc_rng a b h0)
    clear h0
    go_wp2
    go_ret2
    exact ⟨by (rw [E.out.1, E.out.2]; first | done | rfl), Below.refl _ _⟩
  have hn := wi_iff.1 h0
  have HOa := Lib.hid (l07Order_any n hn a A c w hl hc HR.out)
  have HOb : Hid (∀ (W : World), Below w.heap.size w W → Calls Tryd.prog 27 #[.int .i64 n, .slice B b.length d] W fun e w' => e = .returned (.bool (orB n b)) ∧ Below W.heap.size W w') := fun W hW => l07Order_any n hn b B d W hl2 hd (HR2.out.keep hW)
  cases h1 : orB n a
  · have E := Lib.hid (dc_ord (a := a) (b := b) h0 (by rw [h1]; rfl))
    rw [h1] at HOa
    clear h0 h1
    go_wp2_with fail
    refine HOa.out.mono ?_
    rintro e w2 ⟨rfl, hb⟩
    have HB := Lib.hid hb
    clear HOa hb HOb
    go_wp2
    go_ret2
    exact ⟨by (rw [E.out.1, E.out.2]; first | done | rfl), HB.out⟩
  cases h2 : orB n b
  · have E := Lib.hid (dc_ord (a := a) (b := b) h0 (by rw [h1, h2]; rfl))
    rw [h1] at HOa
    rw [h2] at HOb
    clear h0 h1 h2
    go_wp2_with fail
    refine HOa.out.mono ?_
    rintro e w2 ⟨rfl, hb⟩
    have HOb2 := Lib.hid (HOb.out w2 hb)
    have HB := Lib.hid hb
    clear HOa hb HOb
    go_wp2_with fail
    refine HOb2.out.mono ?_
    rintro e w3 ⟨rfl, hb⟩
    have HB2 := Lib.hid (HB.out.trans (hb.mono HB.out.size))
    clear hb HOb2
    go_wp2
    go_ret2
    exact ⟨by (rw [E.out.1, E.out.2]; first | done | rfl), HB2.out⟩
  have E := Lib.hid (dc_yes (a := a) (b := b) h0 (by rw [h1, h2]; rfl))
  have HAb : Hid (∀ x ∈ a, x ∈ b) := fun x hx => by
    have := (orB_iff.1 h1).2.1 x hx
    exact orB_mem h2 this.1 (by omega)
  have hal := (orB_iff.1 h1).1
  have hbl := (orB_iff.1 h2).1
  obtain ⟨N, hN⟩ : ∃ N : Nat, n.toNat = N := ⟨_, rfl⟩
  have hnN : n = (N : Int) := by omega
  subst hnN
  have HLa : Hid (a.length = N) := by show _ = _; omega
  have HLb : Hid (b.length = N) := by show _ = _; omega
  have hN8 : N ≤ 8 := by omega
  have HWh : Hid (∀ (x : Int), x ∈ a → ∀ (W : World), Below w.heap.size w W → Calls Tryd.prog 37 #[.slice B b.length d, .int .i64 x] W fun e w' => e = .returned (.int .i64 (wb b x : Nat)) ∧ W = w') := fun x hx W hW => l07Where_any b (by rw [HLb.out]; omega) x (HAb.out x hx) B d W (HR2.out.keep hW)
  rw [h1] at HOa
  rw [h2] at HOb
  rw [HLb.out] at HWh HOb
  rw [HLa.out] at HOa
  rw [HLa.out, HLb.out]
  clear h0 h1 h2 hal hbl hN
  go_wp2_with fail
  refine HOa.out.mono ?_
  rintro e w2 ⟨rfl, hb⟩
  have HOb2 := Lib.hid (HOb.out w2 hb)
  have HB := Lib.hid hb
  clear HOa hb HOb
  go_wp2_with fail
  refine HOb2.out.mono ?_
  rintro e w3 ⟨rfl, hb⟩
  have HB2 := Lib.hid (HB.out.trans (hb.mono HB.out.size))
  clear hb HOb2 HB
  go_wp2_with fail
  go_loopw [8, 9] (fun s j wr => ∃ (i : Nat), i ≤ N ∧ j = .int .i64 i ∧ s = .int .i64 (suP (dP b) (opI a i)) ∧ Below w.heap.size w wr) (fun _ j _ => N - (intOf j).toNat)
  case atStart => exact ⟨0, by omega, rfl, rfl, HB2.out⟩
  case round =>
    clear HB2
    obtain ⟨i, hi, rfl, rfl, hb2⟩ := hrel
    obtain ⟨wa, rfl⟩ : ∃ u, u = wr := ⟨_, rfl⟩
    have HB2 := Lib.hid hb2
    clear hb2
    have hi0 : (0 : Int) ≤ (i : Int) := Int.natCast_nonneg _
    by_cases hlt : i < N
    · have hi8 : (i : Int) < N := by omega
      have HS0 : Hid (suP (dP b) (opI a i) = suP (dP b) (opI a i ++ opK a i (i + 1))) := by show _ = _; rw [opK_low a i (i + 1) (by omega), List.append_nil]
      obtain ⟨x, hx⟩ : ∃ x, a[i]? = some x := ⟨_, List.getElem?_eq_getElem (by rw [HLa.out]; exact hlt)⟩
      have HXi := Lib.hid hx
      have hl64 := opI_len (xs := a) (by rw [HLa.out]; exact hN8) i
      have u0 : IntKind.i64.wrap ((i : Int) + 1) = (i : Int) + 1 := IntWalk.i64_in _ ⟨by omega, by omega⟩
      have u00 : wrap64 ((i : Int) + 1) = (i : Int) + 1 := IntWalk.wrap64_in _ ⟨by omega, by omega⟩
      clear hx
      go_wp2_with fail
      go_loopw [8, 10] (fun s j wr => ∃ (k : Nat), i < k ∧ k ≤ N ∧ j = .int .i64 k ∧ s = .int .i64 (suP (dP b) (opI a i ++ opK a i k)) ∧ Below w.heap.size w wr) (fun _ j _ => N - (intOf j).toNat)
      case atStart => exact ⟨i + 1, by omega, by omega, by go_num, by rw [HS0.out], HB2.out⟩
      case round =>
        clear HS0 HB2
        obtain ⟨k, hik, hk, rfl, rfl, hb2⟩ := hrel
        obtain ⟨wq, rfl⟩ : ∃ u, u = wr := ⟨_, rfl⟩
        have HB2 := Lib.hid hb2
        clear hb2
        have hk0 : (0 : Int) ≤ (k : Int) := Int.natCast_nonneg _
        by_cases hlt2 : k < N
        · have hk8 : (k : Int) < N := by omega
          obtain ⟨y, hy⟩ : ∃ y, a[k]? = some y := ⟨_, List.getElem?_eq_getElem (by rw [HLa.out]; exact hlt2)⟩
          have hRx := HR.out.keep HB2.out
          obtain ⟨b3, o3, rfl, hbl, hrow⟩ := hRx.at_ icells_length HXi.out
          obtain ⟨b4, o4, eA, hbl4, hrow4⟩ := hRx.at_ icells_length hy
          obtain ⟨rfl, rfl⟩ : b3 = b4 ∧ o3 = o4 := by simpa using eA
          have e1 := rowI hrow
          have e2 := rowI hrow4
          have l3 := cell_lt9 e1
          have F1 := Lib.hid e1
          have F2 := Lib.hid e2
          have HWx := Lib.hid (HWh.out x (List.mem_of_getElem? HXi.out))
          have HWy := Lib.hid (HWh.out y (List.mem_of_getElem? hy))
          have hwx : wb b x < N := by have := (List.getElem?_eq_some_iff.1 (wb_at (HAb.out x (List.mem_of_getElem? HXi.out)))).1; rw [HLb.out] at this; exact this
          have hwy : wb b y < N := by have := (List.getElem?_eq_some_iff.1 (wb_at (HAb.out y (List.mem_of_getElem? hy)))).1; rw [HLb.out] at this; exact this
          have hSt : suP (dP b) (opI a i ++ opK a i (k + 1)) = suP (dP b) (opI a i ++ opK a i k) + (if wb b y < wb b x then 1 else 0) := by
            rw [opK_succ HXi.out hy hik, ← List.append_assoc, suP_snoc]; rfl
          have hsb := suP_b (g := dP b) (M := 1) (qs := opI a i ++ opK a i k) (fun q _ => dP_b b q)
          have hsl := opK_len a i k
          rw [List.length_append] at hsb
          obtain ⟨p, hp⟩ : ∃ p, wb b x = p := ⟨_, rfl⟩
          obtain ⟨q, hq⟩ : ∃ q, wb b y = q := ⟨_, rfl⟩
          rw [hp] at HWx hwx hSt
          rw [hq] at HWy hwy hSt
          obtain ⟨s, hs⟩ : ∃ s, suP (dP b) (opI a i ++ opK a i k) = s := ⟨_, rfl⟩
          rw [hs] at hsb hSt ⊢
          have u1 : IntKind.i64.wrap (s + 1) = s + 1 := IntWalk.i64_in _ ⟨by omega, by omega⟩
          have u2 : wrap64 (s + 1) = s + 1 := IntWalk.wrap64_in _ ⟨by omega, by omega⟩
          clear hRx eA hrow hrow4 hs hsb hy hsl hp hq e1 e2
          by_cases hqp : q < p
          · have HSt : Hid (suP (dP b) (opI a i ++ opK a i (k + 1)) = s + 1) := by show _ = _; rw [hSt, if_pos hqp]
            clear hSt
            go_wp2_with fail
            refine wp_region_held_drew (S := fun w' => Below wq.heap.size wq w') (by kernel_rfl) (Below.refl _ _).drew (fun hHeld => ?_)
            refine wpAnyH_take (i := 0) (v := .slice B N d) rfl (by kernel_rfl) (by kernel_rfl) (by kernel_rfl) (fun _ _ _ h => h) (Or.inl ⟨by rfl, fun w' h => by go_simp⟩) (by assumption) ?_
            try simp only [Act.put, List.getElem_toArray, List.getElem_cons_zero, List.getElem_cons_succ, List.setIfInBounds_toArray, List.set_cons_zero, List.set_cons_succ]
            refine wpAnyH_take (i := 1) (v := .slice (some ⟨b3, o3, none⟩) N c) rfl (by kernel_rfl) (by kernel_rfl) (by kernel_rfl) (fun _ _ _ h => h) (Or.inl ⟨by rfl, fun w' h => by go_simp⟩) (by assumption) ?_
            try simp only [Act.put, List.getElem_toArray, List.getElem_cons_zero, List.getElem_cons_succ, List.setIfInBounds_toArray, List.set_cons_zero, List.set_cons_succ]
            refine wpAnyH_take (i := 2) (v := .int .i64 i) rfl (by kernel_rfl) (by kernel_rfl) (by kernel_rfl) (fun _ _ _ h => h) (Or.inl ⟨by rfl, fun w' h => by go_simp⟩) (by assumption) ?_
            try simp only [Act.put, List.getElem_toArray, List.getElem_cons_zero, List.getElem_cons_succ, List.setIfInBounds_toArray, List.set_cons_zero, List.set_cons_succ]
            refine wpAnyH_take (i := 3) (v := .pointer (some ⟨b3, o3 + i, none⟩)) rfl (by kernel_rfl) (by kernel_rfl) (by kernel_rfl) (fun _ _ _ h => h) (Or.inl ⟨by rfl, fun w' h => by go_simp⟩) (by assumption) ?_
            try simp only [Act.put, List.getElem_toArray, List.getElem_cons_zero, List.getElem_cons_succ, List.setIfInBounds_toArray, List.set_cons_zero, List.set_cons_succ]
            refine wpAnyH_take (i := 4) (v := .int .i64 x) rfl (by kernel_rfl) (by kernel_rfl) (by kernel_rfl) (fun _ _ _ h => h) (Or.inl ⟨by rfl, fun w' h => by have q9 : w'.cell? ⟨b3, o3 + i, none⟩ = some (.int .i64 x) := (h.cell (p := ⟨b3, o3 + i, none⟩) l3).trans F1.out; go_simp⟩) (by assumption) ?_
            try simp only [Act.put, List.getElem_toArray, List.getElem_cons_zero, List.getElem_cons_succ, List.setIfInBounds_toArray, List.set_cons_zero, List.set_cons_succ]
            refine wpAnyH_take (i := 6) (v := .slice B N d) rfl (by kernel_rfl) (by kernel_rfl) (by kernel_rfl) (fun _ _ _ h => h) (Or.inl ⟨by rfl, fun w' h => by go_simp⟩) (by assumption) ?_
            try simp only [Act.put, List.getElem_toArray, List.getElem_cons_zero, List.getElem_cons_succ, List.setIfInBounds_toArray, List.set_cons_zero, List.set_cons_succ]
            refine wpAnyH_take (i := 7) (v := .slice (some ⟨b3, o3, none⟩) N c) rfl (by kernel_rfl) (by kernel_rfl) (by kernel_rfl) (fun _ _ _ h => h) (Or.inl ⟨by rfl, fun w' h => by go_simp⟩) (by assumption) ?_
            try simp only [Act.put, List.getElem_toArray, List.getElem_cons_zero, List.getElem_cons_succ, List.setIfInBounds_toArray, List.set_cons_zero, List.set_cons_succ]
            refine wpAnyH_take (i := 8) (v := .int .i64 k) rfl (by kernel_rfl) (by kernel_rfl) (by kernel_rfl) (fun _ _ _ h => h) (Or.inl ⟨by rfl, fun w' h => by go_simp⟩) (by assumption) ?_
            try simp only [Act.put, List.getElem_toArray, List.getElem_cons_zero, List.getElem_cons_succ, List.setIfInBounds_toArray, List.set_cons_zero, List.set_cons_succ]
            refine wpAnyH_take (i := 9) (v := .pointer (some ⟨b3, o3 + k, none⟩)) rfl (by kernel_rfl) (by kernel_rfl) (by kernel_rfl) (fun _ _ _ h => h) (Or.inl ⟨by rfl, fun w' h => by go_simp⟩) (by assumption) ?_
            try simp only [Act.put, List.getElem_toArray, List.getElem_cons_zero, List.getElem_cons_succ, List.setIfInBounds_toArray, List.set_cons_zero, List.set_cons_succ]
            refine wpAnyH_take (i := 10) (v := .int .i64 y) rfl (by kernel_rfl) (by kernel_rfl) (by kernel_rfl) (fun _ _ _ h => h) (Or.inl ⟨by rfl, fun w' h => by have q9 : w'.cell? ⟨b3, o3 + k, none⟩ = some (.int .i64 y) := (h.cell (p := ⟨b3, o3 + k, none⟩) l3).trans F2.out; go_simp⟩) (by assumption) ?_
            try simp only [Act.put, List.getElem_toArray, List.getElem_cons_zero, List.getElem_cons_succ, List.setIfInBounds_toArray, List.set_cons_zero, List.set_cons_succ]
            obtain ⟨D0, hD0⟩ : ∃ D0, wq.drew = D0 := ⟨_, rfl⟩
            rw [hD0] at hHeld ⊢
            clear hD0
            refine wpAnyH_ready (rs := [5]) (by kernel_rfl) (by simp) ?_
            refine AllReadyH.cons rfl (fun K hK => ?_) AllReadyH.nil
            refine if_wanted rfl ?_
            go_simp
            refine (HWx.out _ (HB2.out.trans (hHeld.mono HB2.out.size))).mono ?_
            rintro e w5 ⟨rfl, rfl⟩
            dsimp only
            refine hK.out _ _ hHeld (fun hHeld => ?_)
            clear hK K
            try simp only [Act.put, List.getElem_toArray, List.getElem_cons_zero, List.getElem_cons_succ, List.setIfInBounds_toArray, List.set_cons_zero, List.set_cons_succ]
            refine wpAnyH_ready (rs := [11]) (by kernel_rfl) (by simp) ?_
            refine AllReadyH.cons rfl (fun K hK => ?_) AllReadyH.nil
            refine if_wanted rfl ?_
            go_simp
            refine (HWy.out _ (HB2.out.trans (hHeld.mono HB2.out.size))).mono ?_
            rintro e w6 ⟨rfl, rfl⟩
            dsimp only
            refine hK.out _ _ hHeld (fun hHeld => ?_)
            clear hK K
            try simp only [Act.put, List.getElem_toArray, List.getElem_cons_zero, List.getElem_cons_succ, List.setIfInBounds_toArray, List.set_cons_zero, List.set_cons_succ]
            refine wpAnyH_take (i := 12) (v := .bool true) rfl (by kernel_rfl) (by kernel_rfl) (by kernel_rfl) (fun _ _ _ h => h) (Or.inl ⟨by rfl, fun w' h => by go_simp⟩) (by assumption) ?_
            try simp only [Act.put, List.getElem_toArray, List.getElem_cons_zero, List.getElem_cons_succ, List.setIfInBounds_toArray, List.set_cons_zero, List.set_cons_succ]
            refine wpAnyH_done (by kernel_rfl) ?_ _
            try simp only [Act.put, List.getElem_toArray, List.getElem_cons_zero, List.getElem_cons_succ, List.setIfInBounds_toArray, List.set_cons_zero, List.set_cons_succ]
            have hb := hHeld
            clear hHeld
            have HB3 := Lib.hid (HB2.out.trans (hb.mono HB2.out.size))
            clear hb
            go_wp2
            go_roundw
            case rel => exact ⟨k + 1, by omega, by omega, by go_num, by rw [HSt.out], HB3.out⟩
            case measure => simp [intOf]; omega
          · have HSt : Hid (suP (dP b) (opI a i ++ opK a i (k + 1)) = s) := by show _ = _; rw [hSt, if_neg hqp, Int.add_zero]
            clear hSt
            go_wp2_with fail
            refine wp_region_held_drew (S := fun w' => Below wq.heap.size wq w') (by kernel_rfl) (Below.refl _ _).drew (fun hHeld => ?_)
            refine wpAnyH_take (i := 0) (v := .slice B N d) rfl (by kernel_rfl) (by kernel_rfl) (by kernel_rfl) (fun _ _ _ h => h) (Or.inl ⟨by rfl, fun w' h => by go_simp⟩) (by assumption) ?_
            try simp only [Act.put, List.getElem_toArray, List.getElem_cons_zero, List.getElem_cons_succ, List.setIfInBounds_toArray, List.set_cons_zero, List.set_cons_succ]
            refine wpAnyH_take (i := 1) (v := .slice (some ⟨b3, o3, none⟩) N c) rfl (by kernel_rfl) (by kernel_rfl) (by kernel_rfl) (fun _ _ _ h => h) (Or.inl ⟨by rfl, fun w' h => by go_simp⟩) (by assumption) ?_
            try simp only [Act.put, List.getElem_toArray, List.getElem_cons_zero, List.getElem_cons_succ, List.setIfInBounds_toArray, List.set_cons_zero, List.set_cons_succ]
            refine wpAnyH_take (i := 2) (v := .int .i64 i) rfl (by kernel_rfl) (by kernel_rfl) (by kernel_rfl) (fun _ _ _ h => h) (Or.inl ⟨by rfl, fun w' h => by go_simp⟩) (by assumption) ?_
            try simp only [Act.put, List.getElem_toArray, List.getElem_cons_zero, List.getElem_cons_succ, List.setIfInBounds_toArray, List.set_cons_zero, List.set_cons_succ]
            refine wpAnyH_take (i := 3) (v := .pointer (some ⟨b3, o3 + i, none⟩)) rfl (by kernel_rfl) (by kernel_rfl) (by kernel_rfl) (fun _ _ _ h => h) (Or.inl ⟨by rfl, fun w' h => by go_simp⟩) (by assumption) ?_
            try simp only [Act.put, List.getElem_toArray, List.getElem_cons_zero, List.getElem_cons_succ, List.setIfInBounds_toArray, List.set_cons_zero, List.set_cons_succ]
            refine wpAnyH_take (i := 4) (v := .int .i64 x) rfl (by kernel_rfl) (by kernel_rfl) (by kernel_rfl) (fun _ _ _ h => h) (Or.inl ⟨by rfl, fun w' h => by have q9 : w'.cell? ⟨b3, o3 + i, none⟩ = some (.int .i64 x) := (h.cell (p := ⟨b3, o3 + i, none⟩) l3).trans F1.out; go_simp⟩) (by assumption) ?_
            try simp only [Act.put, List.getElem_toArray, List.getElem_cons_zero, List.getElem_cons_succ, List.setIfInBounds_toArray, List.set_cons_zero, List.set_cons_succ]
            refine wpAnyH_take (i := 6) (v := .slice B N d) rfl (by kernel_rfl) (by kernel_rfl) (by kernel_rfl) (fun _ _ _ h => h) (Or.inl ⟨by rfl, fun w' h => by go_simp⟩) (by assumption) ?_
            try simp only [Act.put, List.getElem_toArray, List.getElem_cons_zero, List.getElem_cons_succ, List.setIfInBounds_toArray, List.set_cons_zero, List.set_cons_succ]
            refine wpAnyH_take (i := 7) (v := .slice (some ⟨b3, o3, none⟩) N c) rfl (by kernel_rfl) (by kernel_rfl) (by kernel_rfl) (fun _ _ _ h => h) (Or.inl ⟨by rfl, fun w' h => by go_simp⟩) (by assumption) ?_
            try simp only [Act.put, List.getElem_toArray, List.getElem_cons_zero, List.getElem_cons_succ, List.setIfInBounds_toArray, List.set_cons_zero, List.set_cons_succ]
            refine wpAnyH_take (i := 8) (v := .int .i64 k) rfl (by kernel_rfl) (by kernel_rfl) (by kernel_rfl) (fun _ _ _ h => h) (Or.inl ⟨by rfl, fun w' h => by go_simp⟩) (by assumption) ?_
            try simp only [Act.put, List.getElem_toArray, List.getElem_cons_zero, List.getElem_cons_succ, List.setIfInBounds_toArray, List.set_cons_zero, List.set_cons_succ]
            refine wpAnyH_take (i := 9) (v := .pointer (some ⟨b3, o3 + k, none⟩)) rfl (by kernel_rfl) (by kernel_rfl) (by kernel_rfl) (fun _ _ _ h => h) (Or.inl ⟨by rfl, fun w' h => by go_simp⟩) (by assumption) ?_
            try simp only [Act.put, List.getElem_toArray, List.getElem_cons_zero, List.getElem_cons_succ, List.setIfInBounds_toArray, List.set_cons_zero, List.set_cons_succ]
            refine wpAnyH_take (i := 10) (v := .int .i64 y) rfl (by kernel_rfl) (by kernel_rfl) (by kernel_rfl) (fun _ _ _ h => h) (Or.inl ⟨by rfl, fun w' h => by have q9 : w'.cell? ⟨b3, o3 + k, none⟩ = some (.int .i64 y) := (h.cell (p := ⟨b3, o3 + k, none⟩) l3).trans F2.out; go_simp⟩) (by assumption) ?_
            try simp only [Act.put, List.getElem_toArray, List.getElem_cons_zero, List.getElem_cons_succ, List.setIfInBounds_toArray, List.set_cons_zero, List.set_cons_succ]
            obtain ⟨D0, hD0⟩ : ∃ D0, wq.drew = D0 := ⟨_, rfl⟩
            rw [hD0] at hHeld ⊢
            clear hD0
            refine wpAnyH_ready (rs := [5]) (by kernel_rfl) (by simp) ?_
            refine AllReadyH.cons rfl (fun K hK => ?_) AllReadyH.nil
            refine if_wanted rfl ?_
            go_simp
            refine (HWx.out _ (HB2.out.trans (hHeld.mono HB2.out.size))).mono ?_
            rintro e w5 ⟨rfl, rfl⟩
            dsimp only
            refine hK.out _ _ hHeld (fun hHeld => ?_)
            clear hK K
            try simp only [Act.put, List.getElem_toArray, List.getElem_cons_zero, List.getElem_cons_succ, List.setIfInBounds_toArray, List.set_cons_zero, List.set_cons_succ]
            refine wpAnyH_ready (rs := [11]) (by kernel_rfl) (by simp) ?_
            refine AllReadyH.cons rfl (fun K hK => ?_) AllReadyH.nil
            refine if_wanted rfl ?_
            go_simp
            refine (HWy.out _ (HB2.out.trans (hHeld.mono HB2.out.size))).mono ?_
            rintro e w6 ⟨rfl, rfl⟩
            dsimp only
            refine hK.out _ _ hHeld (fun hHeld => ?_)
            clear hK K
            try simp only [Act.put, List.getElem_toArray, List.getElem_cons_zero, List.getElem_cons_succ, List.setIfInBounds_toArray, List.set_cons_zero, List.set_cons_succ]
            refine wpAnyH_take (i := 12) (v := .bool false) rfl (by kernel_rfl) (by kernel_rfl) (by kernel_rfl) (fun _ _ _ h => h) (Or.inl ⟨by rfl, fun w' h => by go_simp⟩) (by assumption) ?_
            try simp only [Act.put, List.getElem_toArray, List.getElem_cons_zero, List.getElem_cons_succ, List.setIfInBounds_toArray, List.set_cons_zero, List.set_cons_succ]
            refine wpAnyH_done (by kernel_rfl) ?_ _
            try simp only [Act.put, List.getElem_toArray, List.getElem_cons_zero, List.getElem_cons_succ, List.setIfInBounds_toArray, List.set_cons_zero, List.set_cons_succ]
            have hb := hHeld
            clear hHeld
            have HB3 := Lib.hid (HB2.out.trans (hb.mono HB2.out.size))
            clear hb
            go_wp2
            go_roundw
            case rel => exact ⟨k + 1, by omega, by omega, by go_num, by rw [HSt.out], HB3.out⟩
            case measure => simp [intOf]; omega
        · obtain rfl : k = N := by omega
          have HE9 : Hid (suP (dP b) (opI a i ++ opK a i k) = suP (dP b) (opI a (i + 1))) := by show _ = _; rw [opI, HLa.out]
          go_wp2
          go_roundw
          case rel => exact ⟨i + 1, by omega, by go_num, by rw [HE9.out], HB2.out⟩
          case measure => simp [intOf]; omega
    · obtain rfl : i = N := by omega
      have HE9 : Hid (suP (dP b) (opI a i) = dcS a b) := by show _ = _; rw [← HLa.out]; rfl
      go_wp2
      go_ret2
      exact ⟨by (rw [E.out.1, E.out.2, ← HE9.out]; first | done | rfl), HB2.out⟩

set_option maxRecDepth 100000 in
set_option maxHeartbeats 4000000 in
theorem implDiscord_any (n : Int) (a b : List Int) (A B : Option Addr) (c d : Nat) (ad : Nat → Addr) (w : World) (hl : a.length ≤ 1048576) (hl2 : b.length ≤ 1048576) (hr : Rd w w.heap.size icells A a) (hr2 : Rd w w.heap.size icells B b) (hE : EW 5 w ad) :
    Calls Tryd.prog 15 #[.int .i64 n, .slice A a.length c, .slice B b.length d] w fun e w' => e = .returned (.tuple #[.int .i64 (dcA n a b), .int .i64 (dcC n a b)]) ∧ Below w.heap.size w w' := by
  have HE := Lib.hid hE
  have HCm := Lib.hid (checkSamples_any n ad w (hE.cell 0 (by omega)))
  have HR := Lib.hid hr
  have HR2 := Lib.hid hr2
  clear hr hE hr2
  obtain ⟨v0, hv0⟩ : ∃ v, erO ad (chk 0 (wi 1 8 n)) = v := ⟨_, rfl⟩
  have HV0 := Lib.hid hv0
  have P0 : Hid (isE v0) := by show isE v0; rw [← hv0]; exact erO_isE _ _
  rw [show (decide (1 ≤ n) && decide (n ≤ 8)) = wi 1 8 n from rfl, hv0] at HCm
  clear hv0
  go_enter Tryd.func15, Tryd.ntmps15
  go_wp2_with fail
  refine HCm.out.mono ?_
  rintro e w1 ⟨rfl, rfl⟩
  clear HCm
  have hA1 : Below w.heap.size w (w.alloc (.cells #[.slice A a.length c, .slice B b.length d] 23)) := (Below.refl _ _).alloc (Nat.le_refl _) _
  have HCi := Lib.hid (checkServings5_any n [a, b] (some ⟨w.heap.size, 0, none⟩) 2 ad _ (by simp) (by intro xs hx; simp at hx; rcases hx with rfl | rfl <;> assumption) (two_rdN (c := c) (d := d) HR.out HR2.out) (HE.out.below hA1 (Nat.le_refl _)))
  rw [show [a, b].all (ioB n) = (ioB n a && ioB n b) from by simp] at HCi
  obtain ⟨v1, hv1⟩ : ∃ v, erO ad (chk 2 (ioB n a && ioB n b)) = v := ⟨_, rfl⟩
  have HV1 := Lib.hid hv1
  have P1 : Hid (isE v1) := by show isE v1; rw [← hv1]; exact erO_isE _ _
  rw [hv1] at HCi
  have HCi : Hid (Calls Tryd.prog 32 #[.int .i64 n, .slice (some ⟨w.heap.size, 0, none⟩) 2 2] (w.alloc (.cells #[.slice A a.length c, .slice B b.length d] 23)) fun e w' => e = .returned v1 ∧ Below (w.alloc (.cells #[.slice A a.length c, .slice B b.length d] 23)).heap.size (w.alloc (.cells #[.slice A a.length c, .slice B b.length d] 23)) w') := HCi
  have HA1 := Lib.hid hA1
  clear hv1 hA1
  go_wp2_with fail
  refine HCi.out.mono ?_
  rintro e w2 ⟨rfl, hb⟩
  have HA2 : Hid (Below w.heap.size w w2) := HA1.out.trans (hb.mono HA1.out.size)
  clear HCi hb HA1
  go_wp2_with (refine wpList_twoErrs rfl (.tmp 10) (.tmp 15) rfl P0.out P1.out rfl rfl ?_)
  have q0 := new_cellW8 w2 v0 v1 48
  rw [← HV0.out, ← HV1.out] at q0 ⊢
  refine (firstErr2_O ad _ _ _ _ _ q0.1 q0.2).mono ?_
  rintro e w9 ⟨rfl, rfl⟩
  rw [HV0.out, HV1.out]
  have L2 : Below w.heap.size w (w2.alloc (.cells #[v0, v1] 48)) := HA2.out.alloc HA2.out.size _
  obtain ⟨w3, hw3⟩ : ∃ w3, w2.alloc (.cells #[v0, v1] 48) = w3 := ⟨_, rfl⟩
  rw [hw3] at L2 ⊢
  have M2 := Lib.hid L2
  have hF := dc_first (wi 1 8 n) (ioB n a && ioB n b)
  obtain ⟨o, ho⟩ : ∃ o, firstO [chk 0 (wi 1 8 n), chk 2 (ioB n a && ioB n b)] = o := ⟨_, rfl⟩
  rw [ho] at hF ⊢
  have HF := Lib.hid hF
  clear hF ho
  clear q0 hw3 L2 HA2 HV0 HV1 P0 P1
  cases h0 : wi 1 8 n
  · have E := Lib.hid (dc_rng a b h0)
    rw [HF.out.1 h0, erO_some]
    clear h0
    go_wp2_with fail
    refine (codeOf_0 (HE.out.below M2.out (Nat.le_refl _))).mono ?_
    rintro e w4 ⟨rfl, rfl⟩
    go_wp2
    go_ret2
    exact ⟨by (rw [E.out.1, E.out.2]; first | done | rfl), M2.out⟩
  have hio : ∀ xs, ioB n xs = orB n xs := fun xs => by rw [ioB, h0]; rfl
  cases h1 : (orB n a && orB n b)
  · have E := Lib.hid (dc_ord h0 h1)
    rw [HF.out.2.1 h0 (by rw [hio, hio, h1]), erO_some]
    clear h0 h1 hio
    go_wp2_with fail
    refine (codeOf_2 (HE.out.below M2.out (Nat.le_refl _))).mono ?_
    rintro e w4 ⟨rfl, rfl⟩
    go_wp2
    go_ret2
    exact ⟨by (rw [E.out.1, E.out.2]; first | done | rfl), M2.out⟩
  have E := Lib.hid (dc_yes h0 h1)
  have h1a : orB n a = true := (Bool.and_eq_true _ _ ▸ h1).1
  have h1b : orB n b = true := (Bool.and_eq_true _ _ ▸ h1).2
  obtain ⟨hal, hab, -⟩ := orB_iff.1 h1a
  obtain ⟨hbl, hbb, -⟩ := orB_iff.1 h1b
  have hn := wi_iff.1 h0
  rw [HF.out.2.2 h0 (by rw [hio, hio, h1]), erO_none]
  have HXb : Hid (∀ x ∈ b.reverse, 0 ≤ x ∧ x < 9) := fun x hx => by have := hbb x (List.mem_reverse.1 hx); omega
  have HXa : Hid (∀ p ∈ opI a a.length, ok2 p) := fun p hp => by
    obtain ⟨m1, m2⟩ := opI_mem (Nat.le_refl _) hp
    have b1 := hab _ m1
    have b2 := hab _ m2
    exact ⟨⟨by omega, by omega⟩, ⟨by omega, by omega⟩⟩
  have ha0 : 0 < a.length := by omega
  have ha8 : a.length ≤ 8 := by omega
  have hb0 : 0 < b.length := by omega
  have hb8 : b.length ≤ 8 := by omega
  have HLa := Lib.hid (opI_len ha8 a.length)
  have HDe := Lib.hid (dcS_eq h1a h1b)
  have HPa := Lib.hid (pairsInG_any a ha0 ha8 A c w3 (HR.out.keep M2.out))
  have HLe : Hid ((opI a a.length).length ≤ 6500) := by have := HLa.out; show _ ≤ _; omega
  have HR8 : Hid (0 < b.reverse.length ∧ b.reverse.length ≤ 8) := by show _ ∧ _; rw [List.length_reverse]; exact ⟨hb0, hb8⟩
  clear h0 h1 hio h1a h1b hab hbb HF hal hbl
  go_wp2_with fail
  refine HPa.out.mono ?_
  rintro e w4 ⟨A4, c4, rfl, hO4, hb4⟩
  have HB4 := Lib.hid (M2.out.trans (hb4.mono M2.out.size))
  have HT := Lib.hid (tallyOf_any (opI a a.length) HXa.out HLe.out A4 c4 w4 (own_rd2 pqc_length hO4))
  clear hO4 hb4 HPa
  go_wp2_with fail
  refine HT.out.mono ?_
  rintro e w5 ⟨Bm, k, D, rfl, q1, q2, q3, q4, q5⟩
  have HB5 := Lib.hid (HB4.out.trans (q5.mono HB4.out.size))
  have HL5 := listOfB_any b hb0 hb8 B d w5 (HR2.out.keep HB5.out)
  have HP5 := pairsInV_any (.iface 67 (.agg #[.iface 57 (.slice B b.length d)])) b.reverse HR8.out.1 HR8.out.2 w5 HL5
  have HG := Lib.hid (agreementV_any (.iface 67 (.agg #[.iface 57 (.slice B b.length d)])) b.reverse HXb.out HR8.out.1 HR8.out.2 (opI a a.length) HLe.out Bm k D w5 HP5 q3 q4)
  rw [HDe.out] at HG
  clear q1 q3 q4 q5 HT HL5 HP5
  go_wp2_with fail
  refine HG.out.mono ?_
  rintro e w6 ⟨rfl, hb6⟩
  have HB6 := Lib.hid (HB5.out.trans (hb6.mono HB5.out.size))
  clear hb6 HG
  go_wp2
  go_ret2
  exact ⟨by (rw [E.out.1, E.out.2]; first | done | rfl), HB6.out⟩
end Go.Proofs.YtabajhblgnlhgaaDoor
