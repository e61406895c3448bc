/-
  JoinOrders: the program's contract. Condition: the orders read, their numbers fit their kinds, not more than 1048576; the sentinel errors lie as the row lists them.
-/
import Derived.Test.YtkehmelcecifdaaDoorJo1
import Derived.Test.YtkehmelcecifdaaDoorJo2
import Derived.Test.YtkehmelcecifdaaDoorIsW
import Derived.Maps.RangeWalk
import Derived.Deep.RegionHeld3
namespace Go.Proofs.YtkehmelcecifdaaDoor
open Go.ChangeShapes Go.WideShapes Go.ChangeAt Go.RowKit Go.Deep
open Go.Maps (Keyed)

theorem Tryd.zeroI16 (w : World) : (zeroValue 74).run Tryd.prog w = .ok (.int .i16 0) w := by kernel_rfl
abbrev OwnsJ (w : World) (b n : Nat) (D : DataW Unit) : Prop := w.ownsMap Tryd.prog 76 (plainElem Tryd.prog 74) b n D
theorem World.grownBy_reflJ (w : World) (row : Option Nat) : w.grownBy w row := ⟨rfl, rfl, rfl, Nat.le_refl _, fun _ _ _ => rfl⟩
theorem growMapJ {N : Nat} {w w1 w2 : World} {b : Nat} (h : Below N w w1) (hg : w1.grownBy w2 (some b)) (hN : N ≤ w1.heap.size) (hb : N ≤ b) : Below N w w2 := h.grown hg hN (fun j hj => by cases hj; exact hb)
theorem size_ownsJ {w : World} {b n : Nat} {D : DataW Unit} (h : OwnsJ w b n D) : Maps.size D ≤ n ∧ Maps.IsMap D := by
  obtain ⟨es, clock, hb, F, hs, rfl⟩ := h
  refine ⟨?_, ⟨_, rfl⟩⟩
  rw [Maps.size_eq, length_sorted]
  simpa using hs
theorem numN_take {cs : List Wnt} {k : Nat} {x : Wnt} (h : cs[k]? = some x) (b : Bot) : numN (cs.take (k + 1)) b = numN (cs.take k) b + if x.1 = b then x.2.toNat else 0 := by
  obtain ⟨h1, h2⟩ := List.getElem?_eq_some_iff.1 h
  rw [List.take_succ_eq_append_getElem h1, h2, numN_app, numN_cons, numN_nil, Nat.add_zero]
theorem numN_take_le (cs : List Wnt) (k : Nat) (b : Bot) : numN (cs.take k) b ≤ numN cs b := by
  have : numN cs b = numN (cs.take k) b + numN (cs.drop k) b := by rw [← numN_app, List.take_append_drop]
  omega
theorem own_grownJ {w w1 : World} {r b size n c : Nat} {e : TypeId} {A : Option Addr} {xs : List Value} (h : w.ownsRow b e size (.slice A n c) n xs) (hg : w.grownBy w1 (some r)) (hr : ¬ b ≤ r) : w1.ownsRow b e size (.slice A n c) n xs := by
  obtain ⟨h1, h2⟩ := h
  refine ⟨h1, ?_⟩
  rcases h2 with h2 | ⟨g, cap, cur, hv, hb, hh, hrr⟩
  · exact .inl h2
  · exact .inr ⟨g, cap, cur, hv, hb, gk_blk (B := g) hh hg (fun e => by have := Option.some.inj e; omega), hrr⟩
theorem ownBlkJ (A : Option Addr) (n c : Nat) : (Value.slice A n c).ownBlock = A.map (·.block) := by cases A <;> rfl
/-- What of a map has been put into a list. -/
structure JX (f : Bot → Nat) (left : Lit → Bool) (X : List Wnt) : Prop where
  in_ : ∀ x ∈ X, wfB x.1 ∧ left (kB x.1) = false ∧ x.2 = (f x.1 : Int) ∧ f x.1 ≠ 0
  nd : (X.map fun x => x.1).Nodup
  all : ∀ b, wfB b → f b ≠ 0 → left (kB b) = true ∨ (b, (f b : Int)) ∈ X
theorem JX.step {f : Bot → Nat} {left : Lit → Bool} {X : List Wnt} (h : JX f left X) {b : Bot} (hb : wfB b) (hl : left (kB b) = true) (hf : f b ≠ 0) : JX f (fun z => left z && !z.sameKey (kB b)) (X ++ [(b, (f b : Int))]) := by
  have hsame : (kB b).sameKey (kB b) = true := by simp [kB, Lit.sameKey]
  refine ⟨fun x hx => ?_, ?_, fun c hc hfc => ?_⟩
  · rw [List.mem_append, List.mem_singleton] at hx
    rcases hx with hx | rfl
    · obtain ⟨h1, h2, h3, h4⟩ := h.in_ x hx
      exact ⟨h1, by show (left (kB x.1) && _) = false; rw [h2]; rfl, h3, h4⟩
    · exact ⟨hb, by show (left (kB b) && !(kB b).sameKey (kB b)) = false; rw [hsame]; simp, rfl, hf⟩
  · rw [List.map_append, List.nodup_append]
    refine ⟨h.nd, by simp, fun a ha c hc => ?_⟩
    simp only [List.map_cons, List.map_nil, List.mem_singleton] at hc
    subst hc
    obtain ⟨x, hx, rfl⟩ := List.mem_map.1 ha
    intro e
    have := (h.in_ x hx).2.1
    rw [e, hl] at this
    cases this
  · rcases h.all c hc hfc with h1 | h1
    · cases hs : (kB c).sameKey (kB b)
      · exact .inl (by simp [h1, hs])
      · have : kB c = kB b := WideAt.sameKey_eq hs
        have := kB_inj hc hb this
        subst this
        exact .inr (by simp)
    · exact .inr (by simp [h1])

set_option maxRecDepth 100000 in
set_option maxHeartbeats 8000000 in
theorem implJoin_any (a b : List Wnt) (hwa : ∀ x ∈ a, wfW x) (hwb : ∀ x ∈ b, wfW x) (A B : Option Addr) (c d : Nat) (ad : Nat → Addr) (w : World) (hla : a.length ≤ 1048576) (hlb : b.length ≤ 1048576) (hra : Rd w w.heap.size wcells A a) (hrb : Rd w w.heap.size wcells B b) (hE : EW 7 w ad) :
    Calls Tryd.prog 36 #[.slice A a.length c, .slice B b.length d] w fun e w' => ∃ v, e = .returned (.tuple #[v, .int .i64 (joC a b)]) ∧ w'.ownsRow w.heap.size 91 3 v (joL a b).length ((joL a b).flatMap wcells) ∧ Below w.heap.size w w' := by
  obtain ⟨i0, hi0, hz0, hz1, hz2⟩ := info_parts Tryd.infoWI
  have HI := Lib.hid hi0
  have HZ0 := Lib.hid hz0
  have HZ1 := Lib.hid hz1
  have HZ2 := Lib.hid hz2
  clear hi0 hz0 hz1 hz2
  have HRa := Lib.hid hra
  have HRb := Lib.hid hrb
  have HWa := Lib.hid hwa
  have HWb := Lib.hid hwb
  have HE := Lib.hid hE
  clear hra hrb hwa hwb hE
  go_enter Tryd.func36, Tryd.ntmps36
  go_wp2_with fail
  have hA : Below w.heap.size w (w.alloc (.cells #[.slice A a.length c, .slice B b.length d] 46)) := (Below.refl _ w).alloc (Nat.le_refl _) _
  refine (checkOrd2_any a b HWa.out HWb.out A B c d w.heap.size _ ad _ hla hlb (HRa.out.keep hA) (HRb.out.keep hA) (new_cell2 w _ _ _).1 (new_cell2 w _ _ _).2 (HE.out.below hA (Nat.le_refl _))).mono ?_
  rintro e w1 ⟨rfl, hb⟩
  have HB1 : Hid (Below w.heap.size w w1) := hA.trans (hb.mono hA.size)
  clear hb hA
  cases hk : joK a b
  · have E := Lib.hid (jo_bad hk)
    rw [show (ordOk a && ordOk b) = false from hk, show chk 5 false = some 5 from rfl, erO_some]
    clear hk
    go_wp2_with fail
    refine (codeOf_O (HE.out.below HB1.out (Nat.le_refl _)) 5 (by omega)).mono ?_
    rintro e w4 ⟨rfl, rfl⟩
    rw [show cdN 5 = 1 from rfl]
    go_wp2
    go_ret2
    exact ⟨_, by (rw [E.out.2]; first | done | rfl), by rw [E.out.1]; exact ⟨rfl, .inl ⟨rfl, rfl⟩⟩, HB1.out⟩
  rw [show (ordOk a && ordOk b) = true from hk, show chk 5 true = none from rfl, erO_none]
  have HK := Lib.hid hk
  have hoa : ordOk a = true := by have := hk; simp only [joK, Bool.and_eq_true] at this; exact this.1
  have hob : ordOk b = true := by have := hk; simp only [joK, Bool.and_eq_true] at this; exact this.2
  have HNa := Lib.hid (ordOk_N hoa)
  have HNb := Lib.hid (ordOk_N hob)
  have HSa := Lib.hid (ordOk_ordS hoa)
  have HSb := Lib.hid (ordOk_ordS hob)
  have HLa := Lib.hid (ordOk_L hoa)
  have HLb := Lib.hid (ordOk_L hob)
  clear hk hoa hob
  have hmm := @run_makeMap Tryd.prog
  go_wp2_with fail
  clear hmm
  obtain ⟨M, hM⟩ : ∃ M, w1.heap.size = M := ⟨_, rfl⟩
  obtain ⟨w2, hw2⟩ : ∃ u, w1.alloc (.map #[] 0) = u := ⟨_, rfl⟩
  have hOM : OwnsJ w2 M 0 (.map []) := by rw [← hw2, ← hM]; exact World.ownsMap_made _ _ _ _
  have hB2 : Below w.heap.size w w2 := by rw [← hw2]; exact HB1.out.alloc HB1.out.size _
  have hS2 : w2.heap.size = M + 1 := by rw [← hw2, ← hM]; simp
  have hwM : w.heap.size ≤ M := by rw [← hM]; exact HB1.out.size
  rw [hw2, hM]
  have hA : Below w2.heap.size w2 (w2.alloc (.cells #[.slice A a.length c, .slice B b.length d] 46)) := (Below.refl _ w2).alloc (Nat.le_refl _) _
  have hA' : Below w.heap.size w (w2.alloc (.cells #[.slice A a.length c, .slice B b.length d] 46)) := hB2.trans (hA.mono hB2.size)
  have hq1 := (new_cell2 w2 (.slice A a.length c) (.slice B b.length d) 46).1
  have hq2 := (new_cell2 w2 (.slice A a.length c) (.slice B b.length d) 46).2
  rw [hS2] at hq1 hq2
  refine (concat2_any a b HLa.out HLb.out A B c d (M + 1) 2 (w2.alloc (.cells #[.slice A a.length c, .slice B b.length d] 46)) (HRa.out.keep hA') (HRb.out.keep hA') hq1 hq2).mono ?_
  rintro e w3 ⟨A3, c3, rfl, ho3, hb⟩
  have hB3w2 : Below w2.heap.size w2 w3 := hA.trans (hb.mono hA.size)
  have HOM : Hid (OwnsJ w3 M 0 (.map [])) := hOM.kept (grown_of_below hB3w2) (by simp)
  have HB3 : Hid (Below w.heap.size w w3) := hB2.trans (hB3w2.mono hB2.size)
  have HMl : Hid (M < w3.heap.size) := by have := hB3w2.size; show _ < _; omega
  have HwM : Hid (w.heap.size ≤ M) := hwM
  obtain ⟨cs, hcs⟩ : ∃ cs, a ++ b = cs := ⟨_, rfl⟩
  have hcl : cs.length ≤ 16 := by rw [← hcs, List.length_append]; have := HLa.out; have := HLb.out; omega
  rw [hcs] at ho3 ⊢
  have HCs := Lib.hid hcs
  have HRc := Lib.hid (own_rd2 wcells_length ho3)
  have HCl : Hid (∀ q, A3.map (·.block) = some q → q ≠ M) := fun q e => by have := (own_blockJ ho3 (by rw [ownBlkJ]; exact e)).1; have := hA.size; omega
  have HCb : Hid (∀ x ∈ cs, wfW x ∧ 1 ≤ x.2 ∧ x.2 ≤ 144) := fun x hx => by
    rw [← HCs.out, List.mem_append] at hx
    rcases hx with hx | hx
    · exact ⟨HWa.out x hx, HNa.out x hx⟩
    · exact ⟨HWb.out x hx, HNb.out x hx⟩
  have HCn : Hid (∀ q, numN cs q ≤ 288) := fun q => by rw [← HCs.out, numN_app]; have := numN_le HSa.out HNa.out q; have := numN_le HSb.out HNb.out q; omega
  clear hOM hB2 hS2 hwM hA hA' hb hB3w2 ho3 hcs hw2 hM HB1 hq1 hq2
  go_wp2_with fail
  go_loopw [27] (fun iv wr => ∃ (k : Nat) (D : DataW Unit), k ≤ cs.length ∧ iv = .int .i64 k ∧ OwnsJ wr M k D ∧ HoldsJ D wfB kB (numN (cs.take k)) ∧ w3.grownBy wr (some M)) (fun i _ => cs.length - (intOf i).toNat)
  case atStart => exact ⟨0, .map [], Nat.zero_le _, rfl, HOM.out, (HoldsJ.empty _ _).congr (fun x _ => by simp [numN]), World.grownBy_reflJ _ _⟩
  case round =>
    clear HOM
    obtain ⟨k, D, hk, rfl, q1, q2, q3⟩ := hrel
    have hk0 : (0 : Int) ≤ (k : Int) := Int.natCast_nonneg _
    have Q1 := Lib.hid q1
    have Q2 := Lib.hid q2
    have Q3 := Lib.hid q3
    have HBr : Hid (Below w.heap.size w wr) := growMapJ HB3.out q3 HB3.out.size HwM.out
    clear q1 q2 q3
    by_cases hlt : k < cs.length
    · have hk8 : (k : Int) < cs.length := by omega
      obtain ⟨⟨⟨k1, y1⟩, n1⟩, hx⟩ : ∃ x, cs[k]? = some x := ⟨_, List.getElem?_eq_getElem hlt⟩
      obtain ⟨bC, oC, rfl, hbC, hrow⟩ := HRc.out.at_ wcells_length hx
      have hrow2 : wr.rangeAt bC (oC + k * 3) (wcells ((k1, y1), n1)) := fun j v hv => (World.cell?_of_block (w := w3) (w' := wr) (a := ⟨bC, oC + k * 3 + j, none⟩) (Q3.out.block bC hbC (fun e => HCl.out bC rfl (Option.some.inj e)))).trans (hrow j v hv)
      obtain ⟨p1, p2, p3⟩ := rowW hrow2
      obtain ⟨hwx, hn1, hn2⟩ := HCb.out _ (List.mem_of_getElem? hx)
      have hwb : wfB (k1, y1) := hwx.1
      have HWb1 := Lib.hid hwb
      have HX := Lib.hid hx
      dsimp only at hn1 hn2
      have hz1 : Blk (wr.alloc (.cells #[.int .u8 k1, .int .i16 y1, .int .i16 n1] 91)).drew wr.heap.size 91 #[.int .u8 k1, .int .i16 y1, .int .i16 n1] := Blk.new wr _ _
      have hbw : Below wr.heap.size wr (wr.alloc (.cells #[.int .u8 k1, .int .i16 y1, .int .i16 n1] 91)).drew := ((Below.refl _ wr).alloc (Nat.le_refl _) _).drew
      have hownz : OwnsJ (wr.alloc (.cells #[.int .u8 k1, .int .i16 y1, .int .i16 n1] 91)).drew M k D := Q1.out.kept (grown_of_below hbw) (by simp)
      obtain ⟨wz, hwz⟩ : ∃ u, (wr.alloc (.cells #[.int .u8 k1, .int .i16 y1, .int .i16 n1] 91)).drew = u := ⟨_, rfl⟩
      rw [hwz] at hz1 hbw hownz
      have Q0_ : Hid (wz.cell? ⟨wr.heap.size, 0, none⟩ = some (.int .u8 k1)) := hz1.cell 0
      have Q1_ : Hid (wz.cell? ⟨wr.heap.size, 1, none⟩ = some (.int .i16 y1)) := hz1.cell 1
      have Q2_ : Hid (wz.cell? ⟨wr.heap.size, 2, none⟩ = some (.int .i16 n1)) := hz1.cell 2
      have HBx : Hid (wr.heap.size < wz.heap.size) := hz1.lt
      have hMr : M < wr.heap.size := Nat.lt_of_lt_of_le HMl.out Q3.out.size
      have HNe : Hid (some wr.heap.size ≠ some M) := fun e => by have := Option.some.inj e; omega
      obtain ⟨c9, v0, st, w4, hat, hwf, hl1, hme, hl2, hg4, hst⟩ := entry_law2 hownz Tryd.lawB Tryd.underlying117 Tryd.underlying74 Tryd.zeroI16 (by unfold maxLen; omega) (keyB (k1, y1) hwb)
      have hcn := Q2.out.look (x := (k1, y1)) hwb hat
      have hfl := numN_take_le cs k (k1, y1)
      have hfl2 := HCn.out (k1, y1)
      obtain ⟨fb, hfb⟩ : ∃ n, numN (cs.take k) (k1, y1) = n := ⟨_, rfl⟩
      rw [hfb] at hcn hfl
      subst hcn
      obtain ⟨w5, hst2, hown5, hg5⟩ := hst ((fb : Int) + n1) (WalkArith.wf_i16 ⟨by omega, by omega⟩)
      have hcast : ((fb : Int) + n1) = ((fb + n1.toNat : Nat) : Int) := by omega
      have hput := Q2.out.put (g := numN (cs.take (k + 1))) (n := fb + n1.toNat) (size_ownsJ Q1.out).2 (fun a b ha hb h => kB_inj ha hb h) (x := (k1, y1)) hwb (kBJ_is _) (by omega)
        (by rw [numN_take hx, hfb, if_pos rfl])
        (fun y hy => by rw [numN_take hx, if_neg (fun e => hy e.symm), Nat.add_zero])
      rw [← hcast] at hput
      have HP := Lib.hid hput
      have HOw := Lib.hid hown5
      have hgz : w3.grownBy wz (some M) := Q3.out.andThen (grown_of_below hbw) (fun j hj => by cases hj)
      have HG4 : Hid (wz.grownBy w4 (some M)) := hg4
      have HG5 : Hid (wz.grownBy w5 (some M)) := hg5
      have HB5 : Hid (w3.grownBy w5 (some M)) := hgz.andThen hg5 (fun j hj => by cases hj; exact Or.inr rfl)
      have hs1 : IntKind.i16.wrap ((fb : Int) + n1) = (fb : Int) + n1 := IntWalk.i16_in _ ⟨by omega, by omega⟩
      have L1 := Lib.hid hl1
      have L2 := Lib.hid hl2
      have L3 := Lib.hid hme
      have L4 := Lib.hid hst2
      have WZ := Lib.hid hwz
      clear hx hrow hrow2 hwx hwb hz1 hbw hownz hl1 hl2 hme hst2 hfb hfl hfl2 hat hwf hput hown5 hg4 hg5 hgz hst hcast hwz hMr
      go_wp2_with fail
      refine wp_region_held_drew (S := fun w' => wz.grownBy w' (some M)) (by kernel_rfl) ?hS (fun hHeld => ?_)
      case hS => rw [WZ.out]; exact World.grownBy_reflJ _ _
      rw [WZ.out] at hHeld ⊢
      clear p1 p2 p3
      refine wpAnyH_take (i := 0) (v := .map (some M)) rfl (by kernel_rfl) (by kernel_rfl) (by kernel_rfl) (fun _ _ _ h => h) (Or.inl ⟨by rfl, fun w' h => by go_simp⟩) (by assumption) ?_
      try simp only [Act.put, List.getElem_toArray, List.getElem_cons_zero, List.getElem_cons_succ, List.setIfInBounds_toArray, List.set_cons_zero, List.set_cons_succ]
      refine wpAnyH_take (i := 1) (v := .pointer (some ⟨wr.heap.size, 0, none⟩)) rfl (by kernel_rfl) (by kernel_rfl) (by kernel_rfl) (fun _ _ _ h => h) (Or.inl ⟨by rfl, fun w' h => by go_simp⟩) (by assumption) ?_
      try simp only [Act.put, List.getElem_toArray, List.getElem_cons_zero, List.getElem_cons_succ, List.setIfInBounds_toArray, List.set_cons_zero, List.set_cons_succ]
      refine wpAnyH_take (i := 2) (v := .agg #[.int .u8 k1, .int .i16 y1]) rfl (by kernel_rfl) (by kernel_rfl) (by kernel_rfl) (fun _ _ _ h => h) (Or.inl ⟨by rfl, fun w' h => by have g0 := (World.cell?_of_block (w := wz) (w' := w') (a := ⟨wr.heap.size, 0, none⟩) (h.block wr.heap.size HBx.out HNe.out)).trans Q0_.out; have g1 := (World.cell?_of_block (w := wz) (w' := w') (a := ⟨wr.heap.size, 1, none⟩) (h.block wr.heap.size HBx.out HNe.out)).trans Q1_.out; have g2 := (World.cell?_of_block (w := wz) (w' := w') (a := ⟨wr.heap.size, 2, none⟩) (h.block wr.heap.size HBx.out HNe.out)).trans Q2_.out; go_simp⟩) (by assumption) ?_
      try simp only [Act.put, List.getElem_toArray, List.getElem_cons_zero, List.getElem_cons_succ, List.setIfInBounds_toArray, List.set_cons_zero, List.set_cons_succ]
      refine wpAnyH_take (i := 4) (v := .pointer (some ⟨wr.heap.size, 2, none⟩)) rfl (by kernel_rfl) (by kernel_rfl) (by kernel_rfl) (fun _ _ _ h => h) (Or.inl ⟨by rfl, fun w' h => by go_simp⟩) (by assumption) ?_
      try simp only [Act.put, List.getElem_toArray, List.getElem_cons_zero, List.getElem_cons_succ, List.setIfInBounds_toArray, List.set_cons_zero, List.set_cons_succ]
      refine wpAnyH_take (i := 5) (v := .int .i16 n1) rfl (by kernel_rfl) (by kernel_rfl) (by kernel_rfl) (fun _ _ _ h => h) (Or.inl ⟨by rfl, fun w' h => by have g0 := (World.cell?_of_block (w := wz) (w' := w') (a := ⟨wr.heap.size, 0, none⟩) (h.block wr.heap.size HBx.out HNe.out)).trans Q0_.out; have g1 := (World.cell?_of_block (w := wz) (w' := w') (a := ⟨wr.heap.size, 1, none⟩) (h.block wr.heap.size HBx.out HNe.out)).trans Q1_.out; have g2 := (World.cell?_of_block (w := wz) (w' := w') (a := ⟨wr.heap.size, 2, none⟩) (h.block wr.heap.size HBx.out HNe.out)).trans Q2_.out; go_simp⟩) (by assumption) ?_
      try simp only [Act.put, List.getElem_toArray, List.getElem_cons_zero, List.getElem_cons_succ, List.setIfInBounds_toArray, List.set_cons_zero, List.set_cons_succ]
      refine wpAnyH_ready (rs := [3, 7]) (by kernel_rfl) (by simp) ?_
      refine AllReadyH.cons rfl (fun K hK => ?_) (AllReadyH.cons rfl (fun K hK => ?_) AllReadyH.nil)
      · skip
        refine if_wanted rfl (wp_lookupR 117 (.tmp 31) (.tmp 33) rfl rfl rfl L1.out ?_)
        refine hK.out _ _ hHeld (fun hHeld => ?_)
        clear hK K
        try simp only [Act.put, List.getElem_toArray, List.getElem_cons_zero, List.getElem_cons_succ, List.setIfInBounds_toArray, List.set_cons_zero, List.set_cons_succ]
        refine wpAnyH_take (i := 6) (v := .int .i16 ((fb : Int) + n1)) rfl (by kernel_rfl) (by kernel_rfl) (by kernel_rfl) (fun _ _ _ h => h) (Or.inl ⟨by rfl, fun w' h => by go_simp⟩) (by assumption) ?_
        try simp only [Act.put, List.getElem_toArray, List.getElem_cons_zero, List.getElem_cons_succ, List.setIfInBounds_toArray, List.set_cons_zero, List.set_cons_succ]
        refine wpAnyH_ready (rs := [7]) (by kernel_rfl) (by simp) ?_
        refine AllReadyH.cons rfl (fun K hK => ?_) AllReadyH.nil
        refine if_wanted rfl (wp_mapEntryR 117 (.tmp 31) (.tmp 33) rfl rfl rfl L3.out ?_)
        refine hK.out _ _ HG4.out (fun hHeld => ?_)
        clear hK K
        try simp only [Act.put, List.getElem_toArray, List.getElem_cons_zero, List.getElem_cons_succ, List.setIfInBounds_toArray, List.set_cons_zero, List.set_cons_succ]
        refine wpAnyH_take (i := 8) (v := goInt st) rfl (by kernel_rfl) (by kernel_rfl) (by kernel_rfl) (fun _ _ _ h => h) (Or.inl ⟨by rfl, fun w' h => by go_simp⟩) (by assumption) ?_
        try simp only [Act.put, List.getElem_toArray, List.getElem_cons_zero, List.getElem_cons_succ, List.setIfInBounds_toArray, List.set_cons_zero, List.set_cons_succ]
        refine wpAnyH_ready (rs := [9]) (by kernel_rfl) (by simp) ?_
        refine AllReadyH.cons rfl (fun K hK => ?_) AllReadyH.nil
        refine if_wanted rfl (wp_entryStoreR 117 (.tmp 31) (.tmp 39) (.tmp 37) rfl rfl rfl rfl L4.out ?_)
        refine hK.out _ _ HG5.out (fun hHeld => ?_)
        clear hK K
        try simp only [Act.put, List.getElem_toArray, List.getElem_cons_zero, List.getElem_cons_succ, List.setIfInBounds_toArray, List.set_cons_zero, List.set_cons_succ]
        refine wpAnyH_done (by kernel_rfl) ?_ _
        try simp only [Act.put, List.getElem_toArray, List.getElem_cons_zero, List.getElem_cons_succ, List.setIfInBounds_toArray, List.set_cons_zero, List.set_cons_succ]
        clear hHeld
        go_wp2
        go_roundw
        case rel => exact ⟨k + 1, _, by omega, by go_num, HOw.out, HP.out, HB5.out⟩
        case measure => simp [intOf]; omega
      · skip
        refine if_wanted rfl (wp_mapEntryR 117 (.tmp 31) (.tmp 33) rfl rfl rfl L3.out ?_)
        refine hK.out _ _ HG4.out (fun hHeld => ?_)
        clear hK K
        try simp only [Act.put, List.getElem_toArray, List.getElem_cons_zero, List.getElem_cons_succ, List.setIfInBounds_toArray, List.set_cons_zero, List.set_cons_succ]
        refine wpAnyH_take (i := 8) (v := goInt st) rfl (by kernel_rfl) (by kernel_rfl) (by kernel_rfl) (fun _ _ _ h => h) (Or.inl ⟨by rfl, fun w' h => by go_simp⟩) (by assumption) ?_
        try simp only [Act.put, List.getElem_toArray, List.getElem_cons_zero, List.getElem_cons_succ, List.setIfInBounds_toArray, List.set_cons_zero, List.set_cons_succ]
        refine wpAnyH_ready (rs := [3]) (by kernel_rfl) (by simp) ?_
        refine AllReadyH.cons rfl (fun K hK => ?_) AllReadyH.nil
        refine if_wanted rfl (wp_lookupR 117 (.tmp 31) (.tmp 33) rfl rfl rfl L2.out ?_)
        refine hK.out _ _ hHeld (fun hHeld => ?_)
        clear hK K
        try simp only [Act.put, List.getElem_toArray, List.getElem_cons_zero, List.getElem_cons_succ, List.setIfInBounds_toArray, List.set_cons_zero, List.set_cons_succ]
        refine wpAnyH_take (i := 6) (v := .int .i16 ((fb : Int) + n1)) rfl (by kernel_rfl) (by kernel_rfl) (by kernel_rfl) (fun _ _ _ h => h) (Or.inl ⟨by rfl, fun w' h => by go_simp⟩) (by assumption) ?_
        try simp only [Act.put, List.getElem_toArray, List.getElem_cons_zero, List.getElem_cons_succ, List.setIfInBounds_toArray, List.set_cons_zero, List.set_cons_succ]
        refine wpAnyH_ready (rs := [9]) (by kernel_rfl) (by simp) ?_
        refine AllReadyH.cons rfl (fun K hK => ?_) AllReadyH.nil
        refine if_wanted rfl (wp_entryStoreR 117 (.tmp 31) (.tmp 39) (.tmp 37) rfl rfl rfl rfl L4.out ?_)
        refine hK.out _ _ HG5.out (fun hHeld => ?_)
        clear hK K
        try simp only [Act.put, List.getElem_toArray, List.getElem_cons_zero, List.getElem_cons_succ, List.setIfInBounds_toArray, List.set_cons_zero, List.set_cons_succ]
        refine wpAnyH_done (by kernel_rfl) ?_ _
        try simp only [Act.put, List.getElem_toArray, List.getElem_cons_zero, List.getElem_cons_succ, List.setIfInBounds_toArray, List.set_cons_zero, List.set_cons_succ]
        clear hHeld
        go_wp2
        go_roundw
        case rel => exact ⟨k + 1, _, by omega, by go_num, HOw.out, HP.out, HB5.out⟩
        case measure => simp [intOf]; omega
    · obtain rfl : k = cs.length := by omega
      have hH : HoldsJ D wfB kB (numN cs) := by have := Q2.out; rwa [List.take_length] at this
      have hsz := size_ownsJ Q1.out
      have HH := Lib.hid hH
      obtain ⟨wa, rfl⟩ : ∃ u, u = wr := ⟨_, rfl⟩
      have hMr : M < wa.heap.size := Nat.lt_of_lt_of_le HMl.out Q3.out.size
      have HMr : Hid (M < wa.heap.size) := hMr
      have HX0 : Hid (JX (numN cs) (Maps.has D) []) := ⟨fun x hx => (by cases hx), List.nodup_nil, fun b hb h0 => .inl (hH.has hb h0)⟩
      have HSz : Hid (Maps.size D ≤ 16) := by show _ ≤ _; have := hsz.1; omega
      clear Q2 Q3 hsz hH hMr HRc HCl
      go_wp2_with (at_range; refine wpList_range_own _ rfl (.tmp 41) 117 rfl 76 74 (Keyed.of_law Tryd.lawB) Tryd.underlying117 (plainElem Tryd.prog 74) M cs.length D rfl Q1.out ?_; intro w0 hrg0 hg0 hs0)
      go_frame
      have HRG0 := Lib.hid hrg0
      have HB0 : Hid (Below w.heap.size w w0) := HBr.out.grown hg0 HBr.out.size (fun j hj => by cases hj)
      have HS0 : Hid (w0.heap.size = wa.heap.size + 1) := hs0
      clear hrg0 hg0 hs0 HBr
      go_loopw [10] (fun bv wr => ∃ left cnt, ∃ (X : List Wnt) (L : Option Addr) (lc : Nat), bv = .slice L X.length lc ∧ wr.ranges Tryd.prog 76 (plainElem Tryd.prog 74) M wa.heap.size cs.length D left cnt ∧ wr.ownsRow w0.heap.size 91 3 (.slice L X.length lc) X.length (X.flatMap wcells) ∧ JX (numN cs) left X ∧ X.length + cnt ≤ 16 ∧ w0.heap.size ≤ wr.heap.size ∧ Below w.heap.size w wr) (fun _ wr => wr.rangeLeft M wa.heap.size)
      case atStart => exact ⟨_, _, [], none, 0, rfl, HRG0.out, ⟨rfl, .inl ⟨rfl, rfl⟩⟩, HX0.out, by have := HSz.out; simpa using this, Nat.le_refl _, HB0.out⟩
      case round =>
        clear HRG0 HX0 HB0
        obtain ⟨left, cnt, X, L, lc, rfl, q1, q2, q3, q4, q5, q6⟩ := hrel
        have R1 := Lib.hid q1
        have R1x := Lib.hid q1.left_eq
        have R2 := Lib.hid q2
        have R3 := Lib.hid q3
        have R5 : Hid (w0.heap.size ≤ wr.heap.size) := q5
        have R6 := Lib.hid q6
        clear q1 q2 q3 q5 q6
        go_wp2_with (at_next; refine wpList_next_ranges _ rfl (.tmp 42) rfl 76 (Keyed.of_law Tryd.lawB) (plainElem Tryd.prog 74) (fun (q : { b : Bot // wfB b }) => Value.agg #[.int .u8 q.1.1, .int .i16 q.1.2]) (fun (n : Int) => Value.int .i16 n) (fun key kl h => keyB_inv h) (fun v y h => by obtain ⟨a, e, _, _⟩ := plainElem_int_inv Tryd.underlying74 h; exact ⟨a, e⟩) M wa.heap.size cs.length D left cnt rfl R1.out ?_ ?_)
        · intro h0 hl0
          have hXl : X.length ≤ 16 := by omega
          have hsort : isL (fun p q => decide (cmpB p.1 q.1 < 0)) X = mgL a b := sort_mgL HSa.out HSb.out (fun w hw => (HNa.out w hw).1) (fun w hw => (HNb.out w hw).1) R3.out.nd
            (fun x hx => by rw [HCs.out]; exact ⟨(R3.out.in_ x hx).2.2.1, (R3.out.in_ x hx).2.2.2⟩)
            (fun q hq => by
              rw [HCs.out] at hq ⊢
              obtain ⟨x, hx, e⟩ := numN_pos (fun x hx => (HCb.out x hx).2.1) hq
              have hwq : wfB q := by rw [← e]; exact (HCb.out x hx).1.1
              rcases R3.out.all q hwq hq with h1 | h1
              · rw [hl0] at h1; cases h1
              · exact h1)
          have hrd : Rd wr wr.heap.size wcells L X := own_rd2 wcells_length R2.out
          have hOr := orderedWn_any (fun p q => cmpB p.1 q.1) X X.length rfl (by omega) (fun p q _ _ => cmp_rng p.1 q.1) (fun p q _ _ W => compareWants_any p.1.1 p.1.2 p.2 q.1.1 q.1.2 q.2 W) L lc wr hrd (fun W hW => cloneW_any X L lc W (by omega) (hrd.keep hW))
          rw [hsort] at hOr
          have HOr := Lib.hid hOr
          have HXl : Hid (X.length = (mgL a b).length) := by show _ = _; rw [← hsort, isL_len]
          have hwf := mgL_wf a b HWa.out HWb.out HNa.out HNb.out
          have HWf := Lib.hid hwf
          have HMl2 : Hid ((mgL a b).length ≤ 16) := by show _ ≤ _; rw [← HXl.out]; exact hXl
          have HSw : Hid (w.heap.size ≤ wr.heap.size) := R6.out.size
          clear hsort hrd hOr hwf R1 R2 R3 hXl
          go_wp2_with fail
          refine HOr.out.mono ?_
          rintro e w6 ⟨A6, c6, rfl, ho6, hb⟩
          have HB6 : Hid (Below w.heap.size w w6) := R6.out.trans (hb.mono R6.out.size)
          rw [HXl.out] at ho6 ⊢
          have HO6 := Lib.hid ho6
          have hrd6 : Rd w6 w6.heap.size wcells A6 (mgL a b) := own_rd2 wcells_length ho6
          have HVo := Lib.hid (validOrder_any (mgL a b) HWf.out A6 c6 w6 (by have := HMl2.out; omega) hrd6)
          clear hb ho6 hrd6 HOr R6
          obtain ⟨G, hG⟩ : ∃ G, mgL a b = G := ⟨_, rfl⟩
          have HG := Lib.hid hG
          rw [hG] at HO6 HVo ⊢
          clear hG
          go_wp2_with fail
          refine HVo.out.mono ?_
          rintro e w7 ⟨rfl, hb⟩
          have HO7 := Lib.hid (own_keep' HO6.out hb)
          have HB7 : Hid (Below w.heap.size w w7) := HB6.out.trans (hb.mono HB6.out.size)
          clear hb HO6 HB6 HVo
          cases hoo : ordOk G
          · have E := Lib.hid (jo_much HK.out (by rw [HG.out]; exact hoo))
            have e4 : w7.cell? ⟨0, 0, none⟩ = some (.iface 228 (.pointer (some (ad 1)))) := (HE.out.below HB7.out (Nat.le_refl _)).cell 1 (by omega)
            clear hoo
            go_wp2_with fail
            refine (codeOf_1 (EW.less (HE.out.below HB7.out (Nat.le_refl _)) (by omega))).mono ?_
            rintro e w8 ⟨rfl, rfl⟩
            go_wp2
            go_ret2
            exact ⟨_, by (rw [E.out.2]; first | done | rfl), by rw [E.out.1]; exact ⟨rfl, .inl ⟨rfl, rfl⟩⟩, HB7.out⟩
          · have E := Lib.hid (jo_ok HK.out (by rw [HG.out]; exact hoo))
            clear hoo
            go_wp2
            go_ret2
            exact ⟨_, by (rw [E.out.2]; first | done | rfl), by rw [E.out.1, HG.out]; exact own_base HO7.out HSw.out, HB7.out⟩
        · intro k1 y1 hq0 cv kl y ps w4 cnt1 hkey hlk hv hat hrg1 hclt hg1 hs1 hen
          obtain ⟨cv2, hcv, hy, -⟩ := plainElem_int_inv Tryd.underlying74 hv
          simp only [Value.int.injEq, true_and] at hcv
          subst hcv
          simp only [Prod.mk.injEq] at hy
          obtain ⟨rfl, rfl⟩ := hy
          obtain rfl : kl = kB (k1, y1) := Option.some.inj (hkey.symm.trans (keyB (k1, y1) hq0))
          have hq := HH.out (k1, y1) hq0
          have hcx : numN cs (k1, y1) ≠ 0 ∧ cv = (numN cs (k1, y1) : Nat) := by
            by_cases h0 : numN cs (k1, y1) = 0
            · have e1 := hq (.lit (.int .i16 (cv + 1)))
              rw [if_pos h0] at e1
              have e2 := hat (.lit (.int .i16 (cv + 1)))
              have e3 := e1.symm.trans e2
              simp only [DataW.lit.injEq, Lit.int.injEq, true_and] at e3
              omega
            · have e1 := hq (.map [])
              rw [if_neg h0] at e1
              have e3 := (hat (.map [])).symm.trans e1
              simp only [i16L, DataW.lit.injEq, Lit.int.injEq, true_and] at e3
              exact ⟨h0, e3⟩
          obtain ⟨hc0, rfl⟩ := hcx
          have hJ := R3.out.step hq0 hlk hc0
          have hO1 : w4.ownsRow w0.heap.size 91 3 (.slice L X.length lc) X.length (X.flatMap wcells) := own_grownJ R2.out hg1 (fun e => by have := HS0.out; omega)
          have hB1 : Below w.heap.size w w4 := growMapJ R6.out hg1 R6.out.size (by have := HMr.out; have := HwM.out; omega)
          have hRl := R5.out
          have hsz4 : w0.heap.size ≤ w4.heap.size := by omega
          have HL1 := Lib.hid R1x.out
          obtain ⟨fv, hfv⟩ : ∃ n : Int, ((numN cs (k1, y1) : Nat) : Int) = n := ⟨_, rfl⟩
          rw [hfv] at hJ hen ⊢
          have HJ := Lib.hid hJ
          have RG := Lib.hid hrg1
          have HO1 := Lib.hid hO1
          have HB1 := Lib.hid hB1
          have HSz4 : Hid (w0.heap.size ≤ w4.heap.size) := hsz4
          have HXl : Hid (X.length ≤ 16) := by show _ ≤ _; omega
          have hxl := HXl.out
          have HCnt : Hid (X.length + 1 + cnt1 ≤ 16) := by show _ ≤ _; omega
          have HClt : Hid (cnt1 < cnt) := hclt
          clear hkey hlk hv hat hrg1 hg1 hs1 hq hc0 hJ hO1 hB1 hRl hsz4 hfv R1 R2 R3 R5 R6 hclt q4
          go_wp2_with (at_builtin; refine wpList_append_own _ rfl (.tmp 48) (.tmp 52) 46 rfl w0.heap.size 91 i0 (.agg #[.int .u8 0, .int .i16 0, .int .i16 0]) 3 6 Tryd.underlying46 HI.out HZ0.out HZ1.out HZ2.out rfl (by decide) _ _ _ rfl ((HO1.out.alloc _).alloc _) ⟨w4.heap.size + 1, 0, none⟩ 1 1 [.int .u8 k1, .int .i16 y1, .int .i16 fv] rfl rfl ?f1 ?f2 ?f3 ?f4 ?f5 ?_)
          try (case f1 => have h := cells3J (w4.alloc (.cells #[.int .u8 k1, .int .i16 y1] 76)) 91 k1 y1 fv; simpa using h)
          try (case f2 => first | exact one3J _ _ _ | exact ⟨rfl, rfl, rfl⟩)
          case f3 => unfold maxLen; omega
          case f4 => omega
          case f5 => have := HSz4.out; simp; omega
          intro v8 w8 hown8 hg8 _
          have hown9 : w8.ownsRow w0.heap.size 91 3 v8 (X ++ [((k1, y1), fv)]).length ((X ++ [((k1, y1), fv)]).flatMap wcells) := by rw [List.length_append, List.flatMap_append]; simpa [wcells] using hown8
          obtain ⟨A8, c8, rfl, -, -⟩ := own_rd wcells_length hown9
          have hb4 : Below w4.heap.size w4 ((w4.alloc (.cells #[.int .u8 k1, .int .i16 y1] 76)).alloc (.cells #[.int .u8 k1, .int .i16 y1, .int .i16 fv] 91)) := ((Below.refl _ w4).alloc (Nat.le_refl _) _).alloc (by simp) _
          have hgo : ∀ q, (Value.slice L X.length lc).ownBlock = some q → w0.heap.size ≤ q := fun q e => (own_blockJ HO1.out e).1
          have HO9 := Lib.hid hown9
          have HRG9 := Lib.hid ((RG.out.kept (grown_of_below hb4) (by simp) (by simp)).kept hg8 (fun e => by have := hgo _ e.symm; have := HS0.out; have := HMr.out; omega) (fun e => by have := hgo _ e.symm; have := HS0.out; omega))
          have hB5 := HB1.out.trans (hb4.mono HB1.out.size)
          have HB9 : Hid (Below w.heap.size w w8) := hB5.grown hg8 hB5.size (fun q e => by have := hgo q e; have := HS0.out; have := HMr.out; have := HwM.out; omega)
          have HSz9 : Hid (w0.heap.size ≤ w8.heap.size) := Nat.le_trans HSz4.out (Nat.le_trans hb4.size hg8.size)
          obtain ⟨t2, ht2⟩ : ∃ t2, X ++ [((k1, y1), fv)] = t2 := ⟨_, rfl⟩
          have hl2 : X.length + 1 = t2.length := by rw [← ht2]; simp
          have hJ2 := HJ.out
          rw [ht2] at HO9 hJ2 ⊢
          have HJ2 := Lib.hid hJ2
          have HL2 : Hid (t2.length + cnt1 ≤ 16) := by show _ ≤ _; have := HCnt.out; omega
          have HLl := Lib.hid HRG9.out.left_eq
          clear hown8 hown9 hg8 hb4 hgo hB5 ht2 hl2 hJ2 HO1 HB1 RG HJ hxl hen
          go_wp2
          go_roundw
          case rel => exact ⟨_, cnt1, t2, A8, c8, rfl, HRG9.out, HO9.out, HJ2.out, HL2.out, HSz9.out, HB9.out⟩
          case measure => rw [HLl.out, HL1.out]; exact HClt.out
end Go.Proofs.YtkehmelcecifdaaDoor
