/-
  The contracts of the laws' markWantSS and heldWantSS. Condition: no two lists lie in one block, nor in that of the list of them; the numbers are small enough for an int.
-/
import Derived.Test.YtkehmelcecifdaaDoorNo
import Derived.Test.YtkehmelcecifdaaDoorWb
import Derived.Deep.RegionHeld3
import Derived.WalkSmall
import Derived.Test.YtkehmelcecifdaaDoorMg1
import Derived.Test.YtkehmelcecifdaaDoorMkW
namespace Go.Proofs.YtkehmelcecifdaaDoor
open Go.ChangeShapes Go.WideShapes Go.ChangeAt Go.RowKit Go.Deep

theorem MkdW.only {S : Nat → Prop} {w w' : World} {A : Option Addr} {n : Nat} {k0 : Int} (h : MkdW w A n k0) (ho : Only S w w') (hne : ∀ k, 0 < n → A.map (·.block) = some k → ¬ S k) : MkdW w' A n k0 := fun j hj => by
  obtain ⟨g, rfl, hg, h0, h1, h2⟩ := h j hj
  have key : ∀ o, w'.cell? ⟨g, o, none⟩ = w.cell? ⟨g, o, none⟩ := fun o => World.cell?_of_block (w := w) (w' := w') (a := ⟨g, o, none⟩) (ho.block g hg (hne g (by omega) rfl))
  exact ⟨g, rfl, Nat.lt_of_lt_of_le hg ho.size, (key _).trans h0, (key _).trans h1, (key _).trans h2⟩
/-- The lists' cells hold numbers from k0 on. -/
def MkdWS (w : World) (A : Option Addr) (hs : List Hd) (xss : List (List Wnt)) (k0 : Int) : Prop :=
  hs.length = xss.length ∧ Rd w w.heap.size hcells A hs ∧ ∀ (i : Nat) (h : Hd) (xs : List Wnt), hs[i]? = some h → xss[i]? = some xs → h.2.1 = xs.length ∧ MkdW w h.1 xs.length (k0 + 3 * (sumTo xss i : Int))
theorem MkdWS.below {w w' : World} {A : Option Addr} {hs : List Hd} {xss : List (List Wnt)} {k0 : Int} (h : MkdWS w A hs xss k0) (hb : Below w.heap.size w w') : MkdWS w' A hs xss k0 :=
  ⟨h.1, h.2.1.keep hb, fun i hd xs hi hx => ⟨(h.2.2 i hd xs hi hx).1, (h.2.2 i hd xs hi hx).2.below hb⟩⟩

set_option maxRecDepth 100000 in
set_option maxHeartbeats 2000000 in
theorem mkWantSS_any (xss : List (List Wnt)) (hs : List Hd) (A : Option Addr) (c : Nat) (k0 : Int) (w : World) (hk0 : 0 ≤ k0) (hk1 : k0 + 3 * (sumL xss : Int) ≤ 4611686018427387904) (hn : xss.length ≤ 1048576) (hlen : hs.length = xss.length) (hr : Rd w w.heap.size hcells A hs)
    (hL : ∀ (i : Nat) (h : Hd) (xs : List Wnt), hs[i]? = some h → xss[i]? = some xs → h.2.1 = xs.length ∧ (xs.length = 0 ∨ ∃ g cur, h.1 = some ⟨g, 0, none⟩ ∧ Blk w g 91 cur ∧ xs.length * 3 ≤ cur.size))
    (hD : ∀ (i j : Nat) (h h' : Hd), i ≠ j → hs[i]? = some h → hs[j]? = some h' → ∀ k, h.1.map (·.block) = some k → h'.1.map (·.block) ≠ some k)
    (hA : ∀ (i : Nat) (h : Hd), hs[i]? = some h → ∀ k, A.map (·.block) = some k → h.1.map (·.block) ≠ some k) :
    Calls Tryd.prog 27 #[.slice A xss.length c, .int .i64 k0] w fun e w' => e = .returned (.int .i64 (k0 + 3 * (sumL xss : Int))) ∧ MkdWS w' A hs xss k0 ∧ Only (inHs hs hs.length) w w' := by
  have HR := Lib.hid hr
  have HL := Lib.hid hL
  have HD := Lib.hid hD
  have HA := Lib.hid hA
  have HN := Lib.hid hlen
  clear hr hL hD hA hlen
  go_enter Tryd.func27, Tryd.ntmps27
  go_wp2_with fail
  go_loopw [1, 5] (fun s i wr => ∃ k : Nat, k ≤ xss.length ∧ i = .int .i64 k ∧ s = .int .i64 (k0 + 3 * (sumTo xss k : Int)) ∧ Only (inHs hs k) w wr ∧ (∀ (i : Nat) (h : Hd) (xs : List Wnt), i < k → hs[i]? = some h → xss[i]? = some xs → MkdW wr h.1 xs.length (k0 + 3 * (sumTo xss i : Int)))) (fun _ i _ => xss.length - (intOf i).toNat)
  case atStart => exact ⟨0, by omega, rfl, by simp [sumTo, sumL], Only.refl _ _, fun i h xs hi => absurd hi (Nat.not_lt_zero _)⟩
  case round =>
    obtain ⟨k, hk, rfl, rfl, hO, hM⟩ := hrel
    have HO := Lib.hid hO
    have HM := Lib.hid hM
    clear hO hM
    by_cases hlt : k < xss.length
    · obtain ⟨xs, hxs⟩ : ∃ x, xss[k]? = some x := ⟨_, List.getElem?_eq_getElem hlt⟩
      obtain ⟨⟨a, n, c'⟩, hh⟩ : ∃ h, hs[k]? = some h := ⟨_, List.getElem?_eq_getElem (by have := HN.out; omega)⟩
      obtain ⟨en, hsrc⟩ := HL.out k _ xs hh hxs
      dsimp only at en hsrc
      subst en
      obtain ⟨b, o, rfl, hb, hrow⟩ := HR.out.at_ hcells_length hh
      have hnb : ¬ inHs hs k b := fun ⟨i, h, hi, hih, _, e⟩ => HA.out i h hih b rfl e
      have hc := rowH hrow
      have hc2 : wr.cell? ⟨b, o + k, none⟩ = some (.slice a xs.length c') := (World.cell?_of_block (w := w) (w' := wr) (a := ⟨b, o + k, none⟩) (HO.out.block b hb hnb)).trans hc
      have hk0' : (0 : Int) ≤ (k : Int) := Int.natCast_nonneg _
      have hk8 : (k : Int) < xss.length := by omega
      have hsu := sumTo_succ hxs
      have hle := sumTo_le xss (k + 1)
      have hsn : (0 : Int) ≤ (sumTo xss k : Int) := Int.natCast_nonneg _
      have hsrc2 : xs.length = 0 ∨ ∃ g cur, a = some ⟨g, 0, none⟩ ∧ Blk wr g 91 cur ∧ xs.length * 3 ≤ cur.size := by
        rcases hsrc with h0 | ⟨g, cur, rfl, hK, hz⟩
        · exact .inl h0
        · exact .inr ⟨g, cur, rfl, HO.out.blk hK (fun ⟨i, h, hi, hih, _, e⟩ => HD.out i k h _ (by omega) hih hh g e rfl), hz⟩
      have HX := Lib.hid hxs
      have HH := Lib.hid hh
      have HSrc := Lib.hid hsrc2
      have HSu := Lib.hid hsu
      clear hxs hh hsrc hsrc2 hrow hc hnb hsu
      go_wp2_with fail
      refine (mkW_any xs.length a c' (k0 + 3 * (sumTo xss k : Int)) _ (by omega) (by have := HSu.out; omega) HSrc.out).mono ?_
      rintro e w2 ⟨rfl, hm, hg, hz⟩
      have HM2 := Lib.hid hm
      have hO1 : Only (fun q => 0 < xs.length ∧ a.map (·.block) = some q) wr w2 := by
        rcases Nat.eq_zero_or_pos xs.length with h0 | h0
        · rw [← hz h0]; exact Only.refl _ _
        · exact Only.of_grown hg (fun q e => ⟨h0, e⟩)
      have HO2 : Hid (Only (inHs hs (k + 1)) w w2) :=
        (HO.out.mono fun q ⟨i, h, hi, r⟩ => ⟨i, h, by omega, r⟩).trans (hO1.mono fun q ⟨h0, e⟩ => ⟨k, _, by omega, HH.out, h0, e⟩)
      have HM3 : Hid (∀ (i : Nat) (h : Hd) (ys : List Wnt), i < k + 1 → hs[i]? = some h → xss[i]? = some ys → MkdW w2 h.1 ys.length (k0 + 3 * (sumTo xss i : Int))) := fun i h ys hi hih hiy => by
        by_cases e : i = k
        · subst e
          obtain rfl := Option.some.inj (HX.out.symm.trans hiy)
          obtain rfl := Option.some.inj (HH.out.symm.trans hih)
          exact HM2.out
        · exact (HM.out i h ys (by omega) hih hiy).only hO1 (fun q _ e1 ⟨_, e2⟩ => HD.out i k h _ e hih HH.out q e1 e2)
      clear hm hg hz hO1
      obtain ⟨z, hz⟩ : ∃ z : Int, k0 + 3 * (sumTo xss k : Int) + 3 * (xs.length : Int) = z := ⟨_, rfl⟩
      have HZ := Lib.hid hz
      rw [hz]
      clear hz
      go_wp2
      go_roundw
      case rel => exact ⟨k + 1, by omega, by go_num, by rw [← HZ.out, HSu.out]; congr 1; omega, HO2.out, HM3.out⟩
      case measure => simp [intOf]; omega
    · obtain rfl : k = xss.length := by omega
      go_wp2
      go_ret
      refine ⟨by rw [← sumTo_all]; first | done | rfl, ⟨HN.out, HO.out.rd HR.out (fun q e ⟨i, h, hi, hih, _, e2⟩ => HA.out i h hih q e e2), fun i h xs hih hiy => ⟨(HL.out i h xs hih hiy).1, HM.out i h xs (List.getElem?_eq_some_iff.1 hiy).1 hih hiy⟩⟩, ?_⟩
      rw [HN.out]; exact HO.out

set_option maxRecDepth 100000 in
set_option maxHeartbeats 2000000 in
theorem hdWantSS_any (xss : List (List Wnt)) (hs : List Hd) (A : Option Addr) (c : Nat) (k0 : Int) (w : World) (hk0 : 0 ≤ k0) (hk1 : k0 + 3 * (sumL xss : Int) ≤ 4611686018427387904) (hn : xss.length ≤ 1048576) (h : MkdWS w A hs xss k0) :
    Calls Tryd.prog 28 #[.slice A xss.length c, .int .i64 k0] w fun e w' => e = .returned (.int .i64 (k0 + 3 * (sumL xss : Int))) ∧ w = w' := by
  have HR := Lib.hid h.2.1
  have HM := Lib.hid h.2.2
  have HN := Lib.hid h.1
  clear h
  go_enter Tryd.func28, Tryd.ntmps28
  go_wp2_with fail
  go_loop [1, 5] (fun s i => ∃ k : Nat, k ≤ xss.length ∧ i = .int .i64 k ∧ s = .int .i64 (k0 + 3 * (sumTo xss k : Int))) (fun _ i => xss.length - (intOf i).toNat)
  case atStart => exact ⟨0, by omega, rfl, by simp [sumTo, sumL]⟩
  case round =>
    obtain ⟨k, hk, rfl, rfl⟩ := hrel
    by_cases hlt : k < xss.length
    · obtain ⟨xs, hxs⟩ : ∃ x, xss[k]? = some x := ⟨_, List.getElem?_eq_getElem hlt⟩
      obtain ⟨⟨a, n, c'⟩, hh⟩ : ∃ h, hs[k]? = some h := ⟨_, List.getElem?_eq_getElem (by have := HN.out; omega)⟩
      obtain ⟨en, hmk⟩ := HM.out k _ xs hh hxs
      dsimp only at en hmk
      subst en
      obtain ⟨b, o, rfl, hb, hrow⟩ := HR.out.at_ hcells_length hh
      have hc := rowH hrow
      have hk0' : (0 : Int) ≤ (k : Int) := Int.natCast_nonneg _
      have hk8 : (k : Int) < xss.length := by omega
      have hsu := sumTo_succ hxs
      have hle := sumTo_le xss (k + 1)
      have hsn : (0 : Int) ≤ (sumTo xss k : Int) := Int.natCast_nonneg _
      have HMk := Lib.hid hmk
      have HSu := Lib.hid hsu
      clear hxs hh hrow hmk hsu
      go_wp2_with fail
      refine (hdW_any xs.length a c' (k0 + 3 * (sumTo xss k : Int)) _ (by omega) (by have := HSu.out; omega) HMk.out).mono ?_
      rintro e w2 ⟨rfl, rfl⟩
      obtain ⟨z, hz⟩ : ∃ z : Int, k0 + 3 * (sumTo xss k : Int) + 3 * (xs.length : Int) = z := ⟨_, rfl⟩
      have HZ := Lib.hid hz
      have hz0 : ¬ z < 0 := by omega
      rw [hz]
      clear hz
      go_wp2
      go_round
      case rel => exact ⟨k + 1, by omega, by go_num, by rw [← HZ.out, HSu.out]; congr 1; omega⟩
      case measure => simp [intOf]; omega
    · obtain rfl : k = xss.length := by omega
      go_wp2
      go_ret
      exact ⟨by rw [← sumTo_all]; first | done | rfl, rfl⟩

/-- Lists that have just been made, as what mark wants. -/
theorem rw_src {w : World} {g : Nat} {xss : List (List Wnt)} {gs : List Nat} (h : RsN w g 46 91 wcells xss gs) :
    (List.zipWith hdOf gs xss).length = xss.length ∧ Rd w w.heap.size hcells (some ⟨g, 0, none⟩) (List.zipWith hdOf gs xss) ∧
    (∀ (i : Nat) (h : Hd) (xs : List Wnt), (List.zipWith hdOf gs xss)[i]? = some h → xss[i]? = some xs → h.2.1 = xs.length ∧ (xs.length = 0 ∨ ∃ g cur, h.1 = some ⟨g, 0, none⟩ ∧ Blk w g 91 cur ∧ xs.length * 3 ≤ cur.size)) ∧
    (∀ (i j : Nat) (h h' : Hd), i ≠ j → (List.zipWith hdOf gs xss)[i]? = some h → (List.zipWith hdOf gs xss)[j]? = some h' → ∀ k, h.1.map (·.block) = some k → h'.1.map (·.block) ≠ some k) ∧
    (∀ (i : Nat) (h : Hd), (List.zipWith hdOf gs xss)[i]? = some h → ∀ k, (some ⟨g, 0, none⟩ : Option Addr).map (·.block) = some k → h.1.map (·.block) ≠ some k) ∧
    (∀ k, inHs (List.zipWith hdOf gs xss) (List.zipWith hdOf gs xss).length k → g < k ∧ k < w.heap.size) := by
  obtain ⟨h1, h2, h3, h4⟩ := h
  have at_ : ∀ (i : Nat) (h : Hd), (List.zipWith hdOf gs xss)[i]? = some h → ∃ g' xs, gs[i]? = some g' ∧ xss[i]? = some xs ∧ h = hdOf g' xs := fun i h hi => by
    have hil := (List.getElem?_eq_some_iff.1 hi).1
    simp only [List.length_zipWith] at hil
    have e1 : gs[i]? = some (gs[i]'(by omega)) := List.getElem?_eq_getElem (by omega)
    have e2 : xss[i]? = some (xss[i]'(by omega)) := List.getElem?_eq_getElem (by omega)
    rw [List.getElem?_zipWith, e1, e2] at hi
    exact ⟨_, _, e1, e2, (Option.some.inj hi).symm⟩
  rw [List.pairwise_cons] at h4
  refine ⟨by simp [h1], h2.rd (Blk.lt h2), fun i h xs hi hx => ?_, fun i j h h' hij hi hj k e e' => ?_, fun i h hi k e e' => ?_, fun k ⟨i, h, _, hi, _, e⟩ => ?_⟩
  · obtain ⟨g', ys, e1, e2, rfl⟩ := at_ i h hi
    obtain rfl := Option.some.inj (hx.symm.trans e2)
    exact ⟨rfl, .inr ⟨g', _, rfl, h3 i g' xs e1 hx, by rw [List.size_toArray, rows_length wcells_length]; exact Nat.le_refl _⟩⟩
  · obtain ⟨g1, ys1, e1, _, rfl⟩ := at_ i h hi
    obtain ⟨g2, ys2, e2, _, rfl⟩ := at_ j h' hj
    obtain rfl : g1 = k := by simpa [hdOf] using e
    obtain rfl : g2 = g1 := by simpa [hdOf] using e'
    rcases Nat.lt_or_gt_of_ne hij with hl | hl
    · have := (List.pairwise_iff_getElem.1 h4.2) i j (List.getElem?_eq_some_iff.1 e1).1 (List.getElem?_eq_some_iff.1 e2).1 hl
      rw [(List.getElem?_eq_some_iff.1 e1).2, (List.getElem?_eq_some_iff.1 e2).2] at this
      omega
    · have := (List.pairwise_iff_getElem.1 h4.2) j i (List.getElem?_eq_some_iff.1 e2).1 (List.getElem?_eq_some_iff.1 e1).1 hl
      rw [(List.getElem?_eq_some_iff.1 e1).2, (List.getElem?_eq_some_iff.1 e2).2] at this
      omega
  · obtain ⟨g1, ys1, e1, _, rfl⟩ := at_ i h hi
    obtain rfl : g = k := by simpa using e
    obtain rfl : g1 = g := by simpa [hdOf] using e'
    have := h4.1 g1 (List.mem_of_getElem? e1)
    omega
  · obtain ⟨g1, ys1, e1, e2, rfl⟩ := at_ i h hi
    obtain rfl : g1 = k := by simpa [hdOf] using e
    exact ⟨h4.1 g1 (List.mem_of_getElem? e1), Blk.lt (h3 i g1 ys1 e1 e2)⟩
/-- The same of lists that a call has made. -/
theorem own_srcW {w : World} {b : Nat} {A : Option Addr} {c : Nat} {hs : List Hd} {xss : List (List Wnt)} (h : OwnN w b 46 91 3 wcells A c hs xss) :
    hs.length = xss.length ∧ Rd w w.heap.size hcells A hs ∧
    (∀ (i : Nat) (h : Hd) (xs : List Wnt), hs[i]? = some h → xss[i]? = some xs → h.2.1 = xs.length ∧ (xs.length = 0 ∨ ∃ g cur, h.1 = some ⟨g, 0, none⟩ ∧ Blk w g 91 cur ∧ xs.length * 3 ≤ cur.size)) ∧
    (∀ (i j : Nat) (h h' : Hd), i ≠ j → hs[i]? = some h → hs[j]? = some h' → ∀ k, h.1.map (·.block) = some k → h'.1.map (·.block) ≠ some k) ∧
    (∀ (i : Nat) (h : Hd), hs[i]? = some h → ∀ k, A.map (·.block) = some k → h.1.map (·.block) ≠ some k) ∧
    (∀ k, inHs hs hs.length k → b ≤ k ∧ k < w.heap.size) := by
  obtain ⟨h1, h2, h3, h4, h5⟩ := h
  refine ⟨h2, own_rd2 hcells_length h1, fun i h xs hi hx => ?_, h4, h5, fun k ⟨i, h, _, hi, _, e⟩ => ?_⟩
  · obtain ⟨e, ho⟩ := h3 i h xs hi hx
    rw [e] at ho
    exact ⟨e, gk_src ho⟩
  · have hil := (List.getElem?_eq_some_iff.1 hi).1
    obtain ⟨e2, ho⟩ := h3 i h _ hi (List.getElem?_eq_getElem (by omega))
    exact own_block ho (by rw [ownBlock_slice]; exact e)
theorem keptH {W0 w1 w2 : World} {b o b' o' : Nat} {v v' : Value} (hg : b < W0.heap.size) (hg' : b' < W0.heap.size) (h : Below W0.heap.size W0 w1) (hb : Below w1.heap.size w1 w2)
    (a0 : w1.cell? ⟨b, o, none⟩ = some v) (b0 : w1.cell? ⟨b', o', none⟩ = some v') : w2.cell? ⟨b, o, none⟩ = some v ∧ w2.cell? ⟨b', o', none⟩ = some v' ∧ Below W0.heap.size W0 w2 := by
  have hs := h.size
  exact ⟨(hb.cell (p := ⟨b, o, none⟩) (by show b < _; omega)).trans a0, (hb.cell (p := ⟨b', o', none⟩) (by show b' < _; omega)).trans b0, h.trans (hb.mono hs)⟩

set_option maxRecDepth 100000 in
set_option maxHeartbeats 2000000 in
theorem eqWantSS_same (xss : List (List Wnt)) (A B : Option Addr) (c d : Nat) (w : World) (hl : xss.length ≤ 1048576) (hx : ∀ xs ∈ xss, xs.length ≤ 1048576) (hA : RdN w w.heap.size wcells A xss) (hB : RdN w w.heap.size wcells B xss) :
    Calls Tryd.prog 24 #[.slice A xss.length c, .slice B xss.length d] w fun e w' => e = .returned (.bool true) ∧ Below w.heap.size w w' := by
  have HA := Lib.hid hA
  have HB := Lib.hid hB
  have HX := Lib.hid hx
  clear hA hB hx
  go_enter Tryd.func24, Tryd.ntmps24
  go_wp2_with fail
  go_loopw [5] (fun i wr => ∃ (k : Nat), k ≤ xss.length ∧ i = .int .i64 k ∧ Below w.heap.size w wr)
    (fun i _ => xss.length - (intOf i).toNat)
  case atStart => exact ⟨0, by omega, rfl, Below.refl _ _⟩
  case round =>
    obtain ⟨k, hk, rfl, hT⟩ := hrel
    have HT := Lib.hid hT
    clear hT
    by_cases hlt : k < xss.length
    · obtain ⟨xs, hxs⟩ : ∃ x, xss[k]? = some x := ⟨_, List.getElem?_eq_getElem hlt⟩
      obtain ⟨b, o, a, c1, rfl, hb1, e1, r1⟩ := (HA.out.keep HT.out).at_ hxs
      obtain ⟨b', o', a', c2, rfl, hb2, e2, r2⟩ := (HB.out.keep HT.out).at_ hxs
      have hxl := HX.out xs (List.mem_of_getElem? hxs)
      have hk0 : (0 : Int) ≤ (k : Int) := Int.natCast_nonneg _
      have hk8 : (k : Int) < xss.length := by omega
      have R1 := Lib.hid r1
      have R2 := Lib.hid r2
      have hs0 : Below wr.heap.size wr wr := Below.refl _ _
      clear hxs r1 r2
      go_wp2_with fail
      go_region_held3 (fun w' => w'.cell? ⟨b, o + k, none⟩ = some (.slice a xs.length c1) ∧ w'.cell? ⟨b', o' + k, none⟩ = some (.slice a' xs.length c2) ∧ Below wr.heap.size wr w') ((refine ⟨?_, ?_, ?_⟩ <;> (first | assumption | exact Below.drew ‹_› | (simp [*]; done))))
        (first
          | (go_at_call 25; refine (eqWantS_same xs a a' c1 c2 _ (by omega) (R1.out.keep (by first | assumption | exact Below.drew (by assumption))) (R2.out.keep (by first | assumption | exact Below.drew (by assumption)))).mono ?_; rintro e w2 ⟨rfl, hb⟩; obtain ⟨r0, r1, r2⟩ := keptH (b := b) (b' := b') (o := o + k) (o' := o' + k) hb1 hb2 (by first | assumption | exact Below.drew (by assumption)) hb (by assumption) (by assumption)))
      have HR : Hid (Below wr.heap.size wr w2) := (by assumption : Below wr.heap.size wr w2)
      go_wp2
      go_roundw
      case rel => exact ⟨k + 1, by omega, by go_num, HT.out.trans (HR.out.mono HT.out.size)⟩
      case measure => simp [intOf]; omega
    · obtain rfl : k = xss.length := by omega
      go_wp2
      go_ret
      exact ⟨rfl, HT.out⟩
end Go.Proofs.YtkehmelcecifdaaDoor
