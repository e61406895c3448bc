/-
  Marks that are drawn: the decoder's contract. Condition: at most 4096 bytes, which lie below.
-/
import Derived.Test.YtlagnocglkoomaaDoorDk0
import Derived.Test.YtlagnocglkoomaaDoorTr1
namespace Go.Proofs.YtlagnocglkoomaaDoor
open Go.ChangeShapes Go.WideShapes Go.ChangeAt Go.RowKit Go.Deep

theorem OwnN.snocO {S : Nat → Prop} {T : Type} {w w2 w5 : World} {b : Nat} {te t : TypeId} {size : Nat} {cells : T → List Value} {A : Option Addr} {c : Nat} {hs : List Hd} {xss : List (List T)} (h : OwnN w b te t size cells A c hs xss) (hbw : b ≤ w.heap.size) {a : Option Addr} {c0 : Nat} {xs : List T}
    (h2 : Only S w w2) (hS : ∀ k, S k → k < b) (hx : w2.ownsRow w.heap.size t size (.slice a xs.length c0) xs.length (xs.flatMap cells))
    {A' : Option Addr} {c' : Nat} (hown : w5.ownsRow b te 1 (.slice A' (hs.length + 1) c') (hs.length + 1) (hs.flatMap hcells ++ hcells (a, xs.length, c0))) (hg : w2.grownBy w5 (A.map (·.block))) (hblk : A'.map (·.block) = A.map (·.block) ∨ A'.map (·.block) = some w2.heap.size) :
    OwnN w5 b te t size cells A' c' (hs ++ [(a, xs.length, c0)]) (xss ++ [xs]) := by
  have hlow : ∀ q, A.map (·.block) = some q → q < w.heap.size := fun q e => (own_block h.1 (by rw [ownBlock_slice]; exact e)).2
  have hai : ∀ (i : Nat) (hd : Hd), hs[i]? = some hd → ∀ q, hd.1.map (·.block) = some q → q < w.heap.size := fun i hd hi q e => by
    have hil := (List.getElem?_eq_some_iff.1 hi).1
    have hl := h.2.1
    exact (own_block (h.2.2.1 i hd _ hi (List.getElem?_eq_getElem (by omega))).2 (by rw [ownBlock_slice]; exact e)).2
  have hxg : ∀ q, a.map (·.block) = some q → w.heap.size ≤ q ∧ q < w2.heap.size := fun q e => own_block hx (by rw [ownBlock_slice]; exact e)
  have hb2 := h.only h2 hS
  have hsz := h2.size
  obtain ⟨h1, hl, h3, h4, h5⟩ := hb2
  have hO : Only (fun q => A.map (·.block) = some q) w2 w5 := Only.of_grown hg (fun q e => e)
  refine ⟨?_, by simp [hl], fun i hd zs hi hz => ?_, fun i j hd hd' hij hi hj q e => ?_, fun i hd hi q e => ?_⟩
  · rw [List.length_append, List.flatMap_append]
    simpa using hown
  · by_cases hik : i < hs.length
    · rw [List.getElem?_append_left hik] at hi
      rw [List.getElem?_append_left (by omega)] at hz
      obtain ⟨q1, q2⟩ := h3 i hd zs hi hz
      exact ⟨q1, hO.own q2 (fun q e1 e2 => by rw [ownBlock_slice] at e1; exact h5 i hd hi q e2 e1)⟩
    · have hi' := (List.getElem?_eq_some_iff.1 hi).1
      simp only [List.length_append, List.length_cons, List.length_nil] at hi'
      obtain rfl : i = hs.length := by omega
      rw [List.getElem?_append_right (Nat.le_refl _), Nat.sub_self] at hi
      rw [List.getElem?_append_right (by omega), show hs.length - xss.length = 0 from by omega] at hz
      obtain rfl := Option.some.inj hi
      obtain rfl := Option.some.inj hz
      exact ⟨rfl, own_base (hO.own hx (fun q e1 e2 => by rw [ownBlock_slice] at e1; have := (hxg q e1).1; have := hlow q e2; omega)) hbw⟩
  · have li : ∀ (i : Nat) (hd : Hd), (hs ++ [(a, xs.length, c0)])[i]? = some hd → (i < hs.length ∧ hs[i]? = some hd) ∨ (i = hs.length ∧ hd = (a, xs.length, c0)) := fun i hd hi => by
      by_cases hik : i < hs.length
      · rw [List.getElem?_append_left hik] at hi; exact .inl ⟨hik, hi⟩
      · have hi' := (List.getElem?_eq_some_iff.1 hi).1
        simp only [List.length_append, List.length_cons, List.length_nil] at hi'
        obtain rfl : i = hs.length := by omega
        rw [List.getElem?_append_right (Nat.le_refl _), Nat.sub_self] at hi
        exact .inr ⟨rfl, (Option.some.inj hi).symm⟩
    rcases li i hd hi with ⟨l1, e1⟩ | ⟨l1, rfl⟩ <;> rcases li j hd' hj with ⟨l2, e2⟩ | ⟨l2, rfl⟩
    · exact h4 i j hd hd' hij e1 e2 q e
    · intro e3
      have := (hxg q e3).1
      have := hai i hd e1 q e
      omega
    · intro e3
      have := (hxg q e).1
      have := hai j hd' e2 q e3
      omega
    · omega
  · intro e3
    have key : A.map (·.block) = some q ∨ q = w2.heap.size := by
      rcases hblk with e4 | e4
      · exact .inl (e4.symm.trans e)
      · exact .inr (Option.some.inj (e.symm.trans e4))
    by_cases hik : i < hs.length
    · rw [List.getElem?_append_left hik] at hi
      rcases key with e4 | rfl
      · exact h5 i hd hi q e4 e3
      · have := hai i hd hi _ e3; omega
    · have hi' := (List.getElem?_eq_some_iff.1 hi).1
      simp only [List.length_append, List.length_cons, List.length_nil] at hi'
      obtain rfl : i = hs.length := by omega
      rw [List.getElem?_append_right (Nat.le_refl _), Nat.sub_self] at hi
      obtain rfl := Option.some.inj hi
      have := hxg q e3
      rcases key with e4 | rfl
      · have := hlow q e4; omega
      · omega
/-- The one cell of what is appended. -/

theorem cell1K (W : World) (v : Value) (t : TypeId) : ∀ (j : Nat) (u : Value), [v][j]? = some u → (W.alloc (.cells #[v] t)).cell? ((⟨W.heap.size, 0, none⟩ : Addr).add j) = some u := fun j u hu => by
  match j, hu with
  | 0, hu =>
    have e : (⟨W.heap.size, 0, none⟩ : Addr).add 0 = ⟨W.heap.size, 0, none⟩ := by simp [Addr.add]
    rw [e, Blk.cell (Blk.new W t #[v])]
    simpa using hu
  | j + 1, hu => simp at hu
theorem gkBelow {w w1 w2 : World} {row : Option Nat} (h : w.grownBy w1 row) (hb : Below w1.heap.size w1 w2) : w.grownBy w2 row :=
  ⟨hb.os.trans h.os, hb.tape.trans h.tape, hb.output.trans h.output, Nat.le_trans h.size hb.size, fun k hk hne => (hb.block k (Nat.lt_of_lt_of_le hk h.size)).trans (h.block k hk hne)⟩
/-- What is drawn. -/
def dmOk (N : Nat) (m : List (List Int)) : Prop := m.length ≤ 5 ∧ ∀ ys ∈ m, ys.length = N ∧ ∀ x ∈ ys, 0 ≤ x ∧ x ≤ 4

set_option maxRecDepth 100000 in
set_option maxHeartbeats 8000000 in
theorem l07Drawn_any (xs : List Int) (hxs : ∀ x ∈ xs, wfY x) (hl : xs.length ≤ 4096) (A : Option Addr) (c B : Nat) (w : World) (hr : Rd w B ycells A xs) (hs : SrcB w B A xs.length c 0) :
    Calls Tryd.prog 17 #[.pointer (some ⟨B, 0, none⟩)] w fun e w' => ∃ (N : Nat) (m : List (List Int)) (A' : Option Addr) (c' : Nat) (hs : List Hd), (1 ≤ N ∧ N ≤ 6) ∧ dmOk N m ∧ e = .returned (.tuple #[.int .i64 N, .slice A' m.length c']) ∧ OwnN w' w.heap.size 30 2 1 icells A' c' hs m ∧ w.grownBy w' (some B) := by
  obtain ⟨i0, hi, hz0, hz1, hz2⟩ := info_parts Tryd.info64
  have HI := Lib.hid hi
  have HZ0 := Lib.hid hz0
  have HZ1 := Lib.hid hz1
  have HZ2 := Lib.hid hz2
  obtain ⟨j0, hj, hy0, hy1, hy2⟩ := info_parts Tryd.infoLN
  have HJ := Lib.hid hj
  have HY0 := Lib.hid hy0
  have HY1 := Lib.hid hy1
  have HY2 := Lib.hid hy2
  clear hi hz0 hz1 hz2 hj hy0 hy1 hy2
  have HBl := Lib.hid hs.lt
  have HR := Lib.hid hr
  have HXs := Lib.hid hxs
  have HP := Lib.hid (pick_any 6 (by omega) xs hxs hl A c B 0 (by omega) w hr hs)
  clear hs hr hxs
  go_enter Tryd.func17, Tryd.ntmps17
  go_wp2_with fail
  refine HP.out.mono ?_
  rintro e w1 ⟨r, ⟨r0, r1⟩, rfl, hS1, hg1⟩
  rw [if_neg (by omega)] at r1
  obtain ⟨N, hN⟩ : ∃ N : Nat, 1 + r = (N : Int) := ⟨(1 + r).toNat, by omega⟩
  have hN1 : 1 ≤ N := by omega
  have hN6 : N ≤ 6 := by omega
  have HN := Lib.hid hN
  have HS1 := Lib.hid hS1
  have HG1 := Lib.hid hg1
  have hn1 : IntKind.i64.wrap (1 + r) = N := by rw [hN]; exact IntWalk.i64_in _ ⟨by omega, by omega⟩
  have hn2 : wrap64 (1 + r) = N := by rw [hN]; exact IntWalk.wrap64_in _ ⟨by omega, by omega⟩
  clear hN hS1 hg1 HP
  have hA0 : Below w1.heap.size w1 (w1.alloc (.cells #[] 30)) := (Below.refl _ w1).alloc (Nat.le_refl _) _
  have HP := Lib.hid (pick_any 6 (by omega) xs HXs.out hl A c B 2 (by omega) (w1.alloc (.cells #[] 30)) (gk_rd HR.out (gkBelow HG1.out hA0) (by have := HBl.out; omega)) (HS1.out.keep hA0))
  have HOw : Hid (OwnN (w1.alloc (.cells #[] 30)) w.heap.size 30 2 1 icells (some ⟨w1.heap.size, 0, none⟩) 0 [] ([] : List (List Int))) := empty_ownH w1 _ HG1.out.size
  have HGA : Hid (w.grownBy (w1.alloc (.cells #[] 30)) (some B)) := gkBelow HG1.out hA0
  clear hA0
  go_wp2_with fail
  try rw [HN.out]
  clear hn1 hn2
  refine HP.out.mono ?_
  rintro e w2 ⟨r2, ⟨r20, r21⟩, rfl, hS2, hg2⟩
  rw [if_neg (by omega)] at r21
  obtain ⟨M, hM⟩ : ∃ M : Nat, r2 = (M : Int) := ⟨r2.toNat, by omega⟩
  subst hM
  have HG2 : Hid (w.grownBy w2 (some B)) := gk_transK HGA.out hg2
  have HO2 : Hid (OwnN w2 w.heap.size 30 2 1 icells (some ⟨w1.heap.size, 0, none⟩) 0 [] ([] : List (List Int))) := HOw.out.only (Only.of_grown hg2 (S := fun k => k = B) (fun k e => (Option.some.inj e).symm)) (fun k e => by subst e; exact HBl.out)
  have HS2 := Lib.hid hS2
  clear hS2 hg2 HP HOw HGA
  go_wp2_with fail
  go_loopw [5, 6] (fun v i wr => ∃ (q : Nat) (m : List (List Int)) (A1 : Option Addr) (c1 : Nat) (hs : List Hd), m.length + q = M ∧ i = .int .i64 q ∧ v = .slice A1 hs.length c1 ∧ OwnN wr w.heap.size 30 2 1 icells A1 c1 hs m ∧ (∀ ys ∈ m, ys.length = N ∧ ∀ x ∈ ys, 0 ≤ x ∧ x ≤ 4) ∧ SrcB wr B A xs.length c (10 + 20 * m.length) ∧ w.grownBy wr (some B))
    (fun _ i _ => (intOf i).toNat)
  case atStart => exact ⟨M, [], _, _, [], by simp, rfl, rfl, HO2.out, by simp, HS2.out.more (by simp), HG2.out⟩
  case round =>
    clear HO2 HS2 HG2
    obtain ⟨q, m, A1, c1, hs, hq, rfl, rfl, hO, hAll, hSr, hG⟩ := hrel
    obtain ⟨wa, rfl⟩ : ∃ u, u = wr := ⟨_, rfl⟩
    have HO := Lib.hid hO
    have HAll := Lib.hid hAll
    have HSr := Lib.hid hSr
    have HG := Lib.hid hG
    have HQ := Lib.hid hq
    have hm5 : m.length ≤ 5 := by omega
    have hq5 : q ≤ 5 := by omega
    clear hO hAll hSr hG hq
    by_cases hlt : 0 < q
    · have hq0 : (0 : Int) < (q : Int) := by omega
      have hHl : hs.length ≤ 5 := by rw [HO.out.2.1]; omega
      have hBa : B < wa.heap.size := Nat.lt_of_lt_of_le HBl.out HG.out.size
      obtain ⟨W2, hW2⟩ : ∃ W, wa.alloc (.cells #[] 2) = W := ⟨_, rfl⟩
      have HA2 : Hid (Below wa.heap.size wa W2) := by show Below _ _ _; rw [← hW2]; exact (Below.refl _ _).alloc (Nat.le_refl _) _
      have HO2 : Hid (W2.ownsRow wa.heap.size 2 1 (.slice (some ⟨wa.heap.size, 0, none⟩) 0 0) 0 (([] : List Int).flatMap icells)) := by show W2.ownsRow _ _ _ _ _ _; rw [← hW2]; exact empty_ownI wa _ (Nat.le_refl _)
      have HG2 : Hid (wa.grownBy W2 (some B)) := by
        show World.grownBy _ _ _
        exact gkBelow (gk_refl wa (some B)) HA2.out
      have HS2 := Lib.hid (HSr.out.keep HA2.out)
      go_wp2_with fail
      clear hW2
      go_loopw [7, 8] (fun v j wr2 => ∃ (p : Nat) (ys : List Int) (A2 : Option Addr) (c2 : Nat), p ≤ N ∧ ys.length = p ∧ j = .int .i64 p ∧ v = .slice A2 p c2 ∧ wr2.ownsRow wa.heap.size 2 1 (.slice A2 p c2) p (ys.flatMap icells) ∧ (∀ x ∈ ys, 0 ≤ x ∧ x ≤ 4) ∧ SrcB wr2 B A xs.length c (10 + 20 * m.length + 2 * p) ∧ wa.grownBy wr2 (some B))
        (fun _ j _ => N - (intOf j).toNat)
      case atStart => exact ⟨0, [], _, _, by omega, rfl, rfl, rfl, HO2.out, by simp, HS2.out, HG2.out⟩
      case round =>
        clear HO2 HS2 HG2 HA2
        obtain ⟨p, ys, A2, c2, hp, hyl, rfl, rfl, hO2, hAl2, hS2, hG2⟩ := hrel
        obtain ⟨wb, rfl⟩ : ∃ u, u = wr := ⟨_, rfl⟩
        have HO2 := Lib.hid hO2
        have HAl2 := Lib.hid hAl2
        have HS2 := Lib.hid hS2
        have HG2 := Lib.hid hG2
        have HYl := Lib.hid hyl
        clear hO2 hAl2 hS2 hG2 hyl
        have hp0 : (0 : Int) ≤ (p : Int) := Int.natCast_nonneg _
        by_cases hlt2 : p < N
        · have hp8 : (p : Int) < N := by omega
          have HP := Lib.hid (pick_any 5 (by omega) xs HXs.out hl A c B (10 + 20 * m.length + 2 * p) (by omega) wb (gk_rd HR.out (gk_transK HG.out HG2.out) (by have := HBl.out; omega)) HS2.out)
          go_wp2_with fail
          refine HP.out.mono ?_
          rintro e wc ⟨r3, ⟨r30, r31⟩, rfl, hS3, hg3⟩
          rw [if_neg (by omega)] at r31
          have HS3 := Lib.hid hS3
          have HG3 : Hid (wa.grownBy wc (some B)) := gk_transK HG2.out hg3
          have HO3 : Hid (wc.ownsRow wa.heap.size 2 1 (.slice A2 p c2) p (ys.flatMap icells)) := gk_own HO2.out hg3 (fun k e => by obtain rfl := Option.some.inj e; exact hBa)
          clear hS3 hg3 HP HO2 HS2 HG2
          go_wp2_with (at_builtin; refine wpList_append_own _ rfl (.tmp 25) (.tmp 28) 30 rfl wa.heap.size 2 i0 (.int .i64 0) 1 8 Tryd.underlying30 HI.out HZ0.out HZ1.out HZ2.out rfl (by decide) _ _ _ rfl (HO3.out.alloc _) ⟨wc.heap.size, 0, none⟩ 1 1 [.int .i64 r3] rfl rfl ?e1 ?e2 ?e3 ?e4 ?e5 ?_)
          case e1 => exact cell1K wc _ _
          case e2 => simp [Value.oneCell']
          case e3 => unfold maxLen; omega
          case e4 => omega
          case e5 => have := HG3.out.size; simp; omega
          intro v' w8 hown' hgrow _
          have hown8 : w8.ownsRow wa.heap.size 2 1 v' (ys ++ [r3]).length ((ys ++ [r3]).flatMap icells) := by rw [List.length_append, List.flatMap_append, HYl.out]; exact hown'
          obtain ⟨A8, c8, rfl, -, -⟩ := own_rd icells_length hown8
          rw [show (ys ++ [r3]).length = p + 1 from by rw [List.length_append, HYl.out]; rfl] at hown8 ⊢
          have HO8 := Lib.hid hown8
          have hlo : ∀ k, (Value.slice A2 p c2).ownBlock = some k → wa.heap.size ≤ k := fun k e => (own_block HO3.out e).1
          have HAC : Below wc.heap.size wc (wc.alloc (.cells #[.int .i64 r3] 2)) := (Below.refl _ _).alloc (Nat.le_refl _) _
          have HB9 : Hid (Below wa.heap.size (wc.alloc (.cells #[.int .i64 r3] 2)) w8) := gk_below hgrow (by have := HG3.out.size; simp; omega) hlo
          have HG8 : Hid (wa.grownBy w8 (some B)) := by
            have h1 := gkBelow HG3.out HAC
            exact ⟨HB9.out.os.trans h1.os, HB9.out.tape.trans h1.tape, HB9.out.output.trans h1.output, Nat.le_trans h1.size HB9.out.size, fun k hk hne => (HB9.out.block k hk).trans (h1.block k hk hne)⟩
          have HS8 : Hid (SrcB w8 B A xs.length c (10 + 20 * m.length + 2 * p + 2)) := by
            obtain ⟨j, s, g1, g2, g3⟩ := HS3.out
            exact ⟨j, s, g1, g2, (g3.keep HAC).below HB9.out hBa⟩
          have HAl8 : Hid (∀ x ∈ ys ++ [r3], 0 ≤ x ∧ x ≤ 4) := fun x hx => by
            rcases List.mem_append.1 hx with h | h
            · exact HAl2.out x h
            · obtain rfl := List.mem_singleton.1 h; exact ⟨r30, by omega⟩
          have HYl8 : Hid ((ys ++ [r3]).length = p + 1) := by show _ = _; rw [List.length_append, HYl.out]; rfl
          clear hown' hgrow hown8 hlo HAC HB9
          obtain ⟨zs, hzs⟩ : ∃ zs, ys ++ [r3] = zs := ⟨_, rfl⟩
          rw [hzs] at HO8 HAl8 HYl8
          clear hzs
          go_wp2
          go_roundw
          case rel => exact ⟨p + 1, zs, A8, c8, by omega, HYl8.out, by go_num, by first | rfl | simp, HO8.out, HAl8.out, HS8.out.more (by omega), HG8.out⟩
          case measure => simp [intOf]; omega
        · obtain rfl : p = N := by omega
          have HBn : Hid (Below wb.heap.size wb (wb.alloc (.cells (hcells (A2, p, c2)).toArray 30))) := (Below.refl _ _).alloc (Nat.le_refl _) _
          have HOn : Hid (Only (fun k => k = B) wa (wb.alloc (.cells (hcells (A2, p, c2)).toArray 30))) := (Only.of_grown HG2.out (fun k e => (Option.some.inj e).symm)).trans (Only.of_below HBn.out)
          have HSlt : Hid (∀ k, (fun k => k = B) k → k < w.heap.size) := fun k e => by subst e; exact HBl.out
          have HN2 : Hid (OwnN (wb.alloc (.cells (hcells (A2, p, c2)).toArray 30)) w.heap.size 30 2 1 icells A1 c1 hs m) := HO.out.only HOn.out HSlt.out
          go_wp2_with (first | (at_builtin; refine wpList_append_any _ rfl (.tmp 30) (.tmp 32) 25 25 rfl w.heap.size 30 j0 (.slice none 0 0) 1 24 Tryd.underlying25 HJ.out HY0.out HY1.out HY2.out rfl (by decide) _ hs.length (hs.flatMap hcells) rfl ?o1 _ 1 (hcells (A2, p, c2)) rfl ?o2 ?o3 ?o4 ?o5 ?_))
          case o1 => exact HN2.out.1
          case o2 => exact src_hd Tryd.underlying25 wb (A2, p, c2)
          case o3 => unfold maxLen; omega
          case o4 => omega
          case o5 => have := HG.out.size; have := HG2.out.size; simp; omega
          intro v' w8 hown' hgrow hblk
          obtain ⟨A8, c8, rfl⟩ : ∃ A8 c8, v' = .slice A8 (hs.length + 1) c8 := by
            rcases hown'.2 with ⟨h1, h2⟩ | ⟨g, cap, cur, h1, -⟩
            · exact ⟨_, _, by rw [h1, h2]⟩
            · exact ⟨_, _, h1⟩
          rw [ownBlock_slice] at hgrow hblk
          rw [ownBlock_slice] at hblk
          have hN8 := HO.out.snocO HG.out.size (a := A2) (c0 := c2) (xs := ys) HOn.out HSlt.out (by rw [HYl.out]; exact own_keep' HO2.out HBn.out) (by rw [HYl.out]; exact hown') hgrow (hblk.imp id (fun h => h.trans (by simp)))
          have HN8 := Lib.hid hN8
          have HG8 : Hid (w.grownBy w8 (some B)) := by
            have h1 : w.grownBy (wb.alloc (.cells (hcells (A2, p, c2)).toArray 30)) (some B) := gkBelow (gk_transK HG.out HG2.out) HBn.out
            have hb9 : Below w.heap.size (wb.alloc (.cells (hcells (A2, p, c2)).toArray 30)) w8 := gk_below hgrow h1.size (fun r e => (own_block HO.out.1 (by rw [ownBlock_slice]; exact e)).1)
            exact ⟨hb9.os.trans h1.os, hb9.tape.trans h1.tape, hb9.output.trans h1.output, Nat.le_trans h1.size hb9.size, fun k hk hne => (hb9.block k hk).trans (h1.block k hk hne)⟩
          have HS8 : Hid (SrcB w8 B A xs.length c (10 + 20 * m.length + 2 * p)) := by
            obtain ⟨j, s, g1, g2, g3⟩ := HS2.out
            have h1 : w.grownBy (wb.alloc (.cells (hcells (A2, p, c2)).toArray 30)) (some B) := gkBelow (gk_transK HG.out HG2.out) HBn.out
            have hb9 : Below w.heap.size (wb.alloc (.cells (hcells (A2, p, c2)).toArray 30)) w8 := gk_below hgrow h1.size (fun r e => (own_block HO.out.1 (by rw [ownBlock_slice]; exact e)).1)
            exact ⟨j, s, g1, g2, (g3.keep HBn.out).below hb9 HBl.out⟩
          have HAl8 : Hid (∀ zs ∈ m ++ [ys], zs.length = p ∧ ∀ x ∈ zs, 0 ≤ x ∧ x ≤ 4) := fun zs hz => by
            rcases List.mem_append.1 hz with h | h
            · exact HAll.out zs h
            · obtain rfl := List.mem_singleton.1 h; exact ⟨HYl.out, HAl2.out⟩
          have HMl : Hid ((m ++ [ys]).length = m.length + 1) := by show _ = _; simp
          clear hown' hgrow hblk hN8 HN2 HBn HOn HSlt
          go_wp2
          go_roundw
          case rel => exact ⟨q - 1, m ++ [ys], A8, c8, _, by have := HMl.out; have := HQ.out; omega, by first | rfl | (congr 1; omega), by first | rfl | simp, HN8.out, HAl8.out, HS8.out.more (by have := HMl.out; omega), HG8.out⟩
          case measure => simp [intOf]; omega
    · obtain rfl : q = 0 := by omega
      have HLn := Lib.hid HO.out.2.1
      go_wp2
      go_ret2
      exact ⟨N, m, A1, c1, hs, ⟨hN1, hN6⟩, ⟨hm5, HAll.out⟩, by (rw [← HLn.out]; first | done | rfl), HO.out, HG.out⟩

set_option maxRecDepth 100000 in
set_option maxHeartbeats 4000000 in
theorem p6Marks_any (xs : List Int) (hxs : ∀ x ∈ xs, wfY x) (hl : xs.length ≤ 4096) (A : Option Addr) (c : Nat) (w : World) (hr : Rd w w.heap.size ycells A xs) :
    Calls Tryd.prog 5 #[.slice A xs.length c] w fun e w' => ∃ (N : Nat) (m : List (List Int)) (A' : Option Addr) (c' : Nat), (1 ≤ N ∧ N ≤ 6) ∧ dmOk N m ∧ e = .returned (.tuple #[.int .i64 N, .slice A' m.length c']) ∧ RdN w' w'.heap.size icells A' m ∧ Below w.heap.size w w' := by
  have HR := Lib.hid hr
  clear hr
  go_enter Tryd.func5, Tryd.ntmps5
  go_wp2_with fail
  refine (l00From_any A xs.length c w).mono ?_
  rintro e w1 ⟨rfl, hS, hb⟩
  have HB1 := Lib.hid hb
  have HD := Lib.hid (l07Drawn_any xs hxs hl A c w.heap.size w1 (HR.out.below (Nat.le_refl _) hb) hS)
  clear hb hS
  go_wp2_with fail
  refine HD.out.mono ?_
  rintro e w2 ⟨N, m, A', c', hs, hN, hm, rfl, hO, hg⟩
  have HN := Lib.hid hN
  have HM := Lib.hid hm
  have HO := Lib.hid hO
  have HB2 : Hid (Below w.heap.size w w2) := HB1.out.grown hg HB1.out.size (fun k e => by obtain rfl := Option.some.inj e; exact Nat.le_refl _)
  clear hN hm hO hg HD
  go_wp2
  go_ret2
  exact ⟨N, m, A', c', HN.out, HM.out, rfl, HO.out.rd icells_length, HB2.out⟩
end Go.Proofs.YtlagnocglkoomaaDoor
