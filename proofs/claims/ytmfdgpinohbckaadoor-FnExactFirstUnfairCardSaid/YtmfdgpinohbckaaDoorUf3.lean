/-
  FirstUnfair: a map from bottles to their least days, and the program's noteOldest. Condition: the days fit their kind.
-/
import Derived.Test.YtmfdgpinohbckaaDoorKy
import Derived.Test.YtmfdgpinohbckaaDoorUf1
import Derived.Maps.OwnSet
import Derived.Maps.OwnIn
namespace Go.Proofs.YtmfdgpinohbckaaDoor
open Go.ChangeShapes Go.WideShapes Go.ChangeAt Go.RowKit Go.Deep
open Go.Maps (Keyed)

theorem Tryd.zeroI64T (w : World) : (zeroValue 2).run Tryd.prog w = .ok (.int .i64 0) w := by kernel_rfl
abbrev OwnsT (w : World) (b n : Nat) (D : DataW Unit) : Prop := w.ownsMap Tryd.prog 28 (plainElem Tryd.prog 2) b n D
/-- The least day of a bottle in a list. -/
def leT (L : List Wnt) (b : Bot) (d : Int) : Prop := (∃ o ∈ L, o.1 = b ∧ o.2 = d) ∧ ∀ o ∈ L, o.1 = b → d ≤ o.2
/-- A map reads as the least days of what was seen. -/
def HoldsT (D : DataW Unit) (L : List Wnt) : Prop := ∀ b, wfB b → (∃ d, (-32768 ≤ d ∧ d ≤ 32767) ∧ leT L b d ∧ ∀ zd, D.atKey (kB b) zd = .lit (.int .i64 d)) ∨ ((∀ o ∈ L, o.1 ≠ b) ∧ ∀ zd, D.atKey (kB b) zd = zd)
theorem HoldsT.empty : HoldsT (.map []) [] := fun b _ => .inr ⟨(fun o h => nomatch h), fun zd => rfl⟩
theorem HoldsT.put {D : DataW Unit} {L : List Wnt} (h : HoldsT D L) (hm : Maps.IsMap D) {x : Wnt} (hx : wfW x) (hc : ∀ o ∈ L, o.1 = x.1 → x.2 ≤ o.2) : HoldsT (D.put (kB x.1) (.lit (.int .i64 x.2))) (x :: L) := by
  intro b hb
  by_cases e : b = x.1
  · subst e
    refine .inl ⟨x.2, hx.2, ⟨⟨x, List.mem_cons_self .., rfl, rfl⟩, fun o ho he => ?_⟩, fun zd => Maps.atKey_put_same hm (show WideAt.IsKeyLit (kB x.1) from trivial) _ _⟩
    rcases List.mem_cons.1 ho with rfl | ho
    · exact Int.le_refl _
    · exact hc o ho he
  · have hat := fun zd => Maps.atKey_put_other (D := D) (fun h' => e (kB_inj hb hx.1 h')) (.lit (.int .i64 x.2)) zd
    rcases h b hb with ⟨d, h1, ⟨⟨o, ho, h2, h3⟩, h4⟩, h5⟩ | ⟨h1, h2⟩
    · refine .inl ⟨d, h1, ⟨⟨o, List.mem_cons_of_mem _ ho, h2, h3⟩, fun p hp he => ?_⟩, fun zd => by rw [hat, h5]⟩
      rcases List.mem_cons.1 hp with rfl | hp
      · exact absurd he.symm e
      · exact h4 p hp he
    · refine .inr ⟨fun p hp he => ?_, fun zd => by rw [hat, h2]⟩
      rcases List.mem_cons.1 hp with rfl | hp
      · exact e he.symm
      · exact h1 p hp he
theorem HoldsT.keep {D : DataW Unit} {L : List Wnt} (h : HoldsT D L) {x : Wnt} {d : Int} (hl : leT L x.1 d) (hd : ¬ x.2 < d) : HoldsT D (x :: L) := by
  intro b hb
  by_cases e : b = x.1
  · subst e
    obtain ⟨⟨o, ho, h2, h3⟩, h4⟩ := hl
    rcases h x.1 hb with ⟨d', h1, ⟨⟨o', ho', h2', h3'⟩, h4'⟩, h5⟩ | ⟨h1, -⟩
    · have e1 := h4' o ho h2
      have e2 := h4 o' ho' h2'
      refine .inl ⟨d', h1, ⟨⟨o', List.mem_cons_of_mem _ ho', h2', h3'⟩, fun p hp he => ?_⟩, h5⟩
      rcases List.mem_cons.1 hp with rfl | hp
      · omega
      · exact h4' p hp he
    · exact absurd h2 (h1 o ho)
  · rcases h b hb with ⟨d', h1, ⟨⟨o, ho, h2, h3⟩, h4⟩, h5⟩ | ⟨h1, h2⟩
    · refine .inl ⟨d', h1, ⟨⟨o, List.mem_cons_of_mem _ ho, h2, h3⟩, fun p hp he => ?_⟩, h5⟩
      rcases List.mem_cons.1 hp with rfl | hp
      · exact absurd he.symm e
      · exact h4 p hp he
    · refine .inr ⟨fun p hp he => ?_, h2⟩
      rcases List.mem_cons.1 hp with rfl | hp
      · exact e he.symm
      · exact h1 p hp he
theorem isMap_T {w : World} {b n : Nat} {D : DataW Unit} (h : OwnsT w b n D) : Maps.IsMap D := by
  obtain ⟨es, clock, hb, F, hs, rfl⟩ := h
  exact ⟨_, rfl⟩
theorem look_T {w : World} {b n : Nat} {D : DataW Unit} {L : List Wnt} (h : OwnsT w b n D) (hh : HoldsT D L) {x : Bot} (hx : wfB x) :
    (∃ d, (-32768 ≤ d ∧ d ≤ 32767) ∧ leT L x d ∧ (Instr.lookup 124 (.map (some b)) (.agg #[.int .u8 x.1, .int .i16 x.2]) true).run Tryd.prog w = .ok (.tuple #[.int .i64 d, .bool true]) w) ∨
    ((∀ o ∈ L, o.1 ≠ x) ∧ (Instr.lookup 124 (.map (some b)) (.agg #[.int .u8 x.1, .int .i16 x.2]) true).run Tryd.prog w = .ok (.tuple #[.int .i64 0, .bool false]) w) := by
  obtain ⟨v, ps, hrun, hv⟩ := h.look_ok (Keyed.of_law Tryd.lawB) Tryd.underlying124 (Tryd.zeroI64T w) (show plainElem Tryd.prog 2 (.int .i64 0) = some ((.lit (.int .i64 0) : DataW Unit), []) from plainElem_int Tryd.underlying2 (by decide)) (keyB x hx)
  obtain ⟨a, rfl, ha, -⟩ := plainElem_int_inv Tryd.underlying2 hv
  have ha' := congrArg Prod.fst ha
  rcases hh x hx with ⟨d, h1, h2, h3⟩ | ⟨h1, h2⟩
  · rw [Maps.has_true_of_atKey h3] at hrun
    simp only [h3, DataW.lit.injEq, Lit.int.injEq, true_and] at ha'
    subst ha'
    exact .inl ⟨_, h1, h2, hrun⟩
  · rw [Maps.has_false_of_atKey h2] at hrun
    simp only [h2, DataW.lit.injEq, Lit.int.injEq, true_and] at ha'
    subst ha'
    exact .inr ⟨h1, hrun⟩

set_option maxRecDepth 100000 in
set_option maxHeartbeats 4000000 in
theorem noteOldest_any (k y d : Int) (hx : wfW ((k, y), d)) (b n : Nat) (D : DataW Unit) (L : List Wnt) (w : World) (hn : n < maxLen) (h : OwnsT w b n D) (hh : HoldsT D L) :
    Calls Tryd.prog 85 #[.map (some b), .agg #[.int .u8 k, .int .i16 y, .int .i16 d]] w fun e w' => (∃ v, e = .returned v) ∧ ∃ n' D', n' ≤ n + 1 ∧ OwnsT w' b n' D' ∧ HoldsT D' (((k, y), d) :: L) ∧ w.grownBy w' (some b) := by
  have hd := hx.2
  have hw1 : IntKind.i64.wrap d = d := IntWalk.i64_in _ ⟨by omega, by omega⟩
  have hw2 : wrap64 d = d := IntWalk.wrap64_in _ ⟨by omega, by omega⟩
  have hwf : (Lit.int .i64 d).wf = true := WalkArith.wf_i64 ⟨by omega, by omega⟩
  have HX := Lib.hid hx
  have HD := Lib.hid hh
  have HO := Lib.hid (h.alloc (.cells #[.int .u8 k, .int .i16 y, .int .i16 d] 30))
  have HG : Hid (w.grownBy (w.alloc (.cells #[.int .u8 k, .int .i16 y, .int .i16 d] 30)) (some b)) := World.grownBy_alloc w _ _
  have HN := Lib.hid hn
  have HF := Lib.hid hwf
  have hlk := look_T HO.out hh hx.1
  dsimp only at hlk
  clear hx hh h hn hd hwf
  go_enter Tryd.func85, Tryd.ntmps85
  rcases hlk with ⟨d0, hd0, hl0, hrun⟩ | ⟨hno, hrun⟩
  · have HL := Lib.hid hl0
    clear hl0 hd0
    by_cases hlt : d < d0
    · have HC : Hid (∀ o ∈ L, o.1 = (k, y) → d ≤ o.2) := fun o ho he => by have := HL.out.2 o ho he; omega
      go_wp2_with (at_mapUpdate; refine wpList_mapUpdate_own _ rfl _ _ _ 124 rfl 28 2 (Keyed.of_law Tryd.lawB) Tryd.underlying124 (plainElem Tryd.prog 2) b n D rfl HO.out HN.out _ _ _ rfl rfl (keyB (k, y) HX.out.1) _ _ (plainElem_int Tryd.underlying2 HF.out) ?_
                   intro w2 hown2 hg2
                   have O2 := Lib.hid hown2
                   have G2 : Hid (w.grownBy w2 (some b)) := HG.out.trans hg2
                   clear hown2 hg2)
      go_end0
      exact ⟨⟨_, rfl⟩, n + 1, Nat.le_refl _, D.put (kB (k, y)) (.lit (.int .i64 d)), O2.out, HoldsT.put (x := ((k, y), d)) HD.out (isMap_T HO.out) HX.out HC.out, G2.out⟩
    · have HC := Lib.hid (HoldsT.keep (x := ((k, y), d)) (d := d0) HD.out HL.out hlt)
      go_wp2
      go_end0
      exact ⟨⟨_, rfl⟩, n, Nat.le_succ _, D, HO.out, HC.out, HG.out⟩
  · have HC : Hid (∀ o ∈ L, o.1 = (k, y) → d ≤ o.2) := fun o ho he => absurd he (hno o ho)
    clear hno
    go_wp2_with (at_mapUpdate; refine wpList_mapUpdate_own _ rfl _ _ _ 124 rfl 28 2 (Keyed.of_law Tryd.lawB) Tryd.underlying124 (plainElem Tryd.prog 2) b n D rfl HO.out HN.out _ _ _ rfl rfl (keyB (k, y) HX.out.1) _ _ (plainElem_int Tryd.underlying2 HF.out) ?_
                 intro w2 hown2 hg2
                 have O2 := Lib.hid hown2
                 have G2 : Hid (w.grownBy w2 (some b)) := HG.out.trans hg2
                 clear hown2 hg2)
    go_end0
    exact ⟨⟨_, rfl⟩, n + 1, Nat.le_refl _, D.put (kB (k, y)) (.lit (.int .i64 d)), O2.out, HoldsT.put (x := ((k, y), d)) HD.out (isMap_T HO.out) HX.out HC.out, G2.out⟩
end Go.Proofs.YtmfdgpinohbckaaDoor
