/-
  Bottles, crates and lists of crates that came in as arguments, opened: a crate is twelve pairs of numbers of their kinds. No condition of its own.
-/
import Derived.WalkKit
import Derived.ProofKit
import Derived.OpenShut
import Derived.Carry
import Derived.Lib.SmallJoins
import Derived.Deep.Slices
import Derived.Deep.Fields
namespace Go.Proofs.YtmfdgpinohbckaaDoor
open Go.ChangeShapes Go.WideShapes Go.ChangeAt Go.RowKit

theorem trodAll_below {H : Type} {enc : TypeId × Value → H} {P : Program} (hl : laidOutB P = true) {W W' : World} (hb : Below W.heap.size W W') :
    ∀ (ts : List TypeId) (vs : List Value) (ds : List (DataW H)) (ps : List MemPlace), (∀ t ∈ ts, P.readableRec t = true ∧ t < P.types.size) →
      DataW.TrodAll enc P W 0 (fun _ => true) true ts vs ds ps → (∀ x ∈ ps, x.block < W.heap.size) → DataW.TrodAll enc P W' 0 (fun b => decide (b < W.heap.size)) true ts vs ds ps
  | [], [], [], _, _, h, _ => h
  | t :: ts, v :: vs, d :: ds, ps, hr, h, hlt => by
    obtain ⟨p, q, h0, h1, rfl⟩ := h
    refine ⟨p, q, ?_, trodAll_below hl hb ts vs ds q (fun t ht => hr t (List.mem_cons_of_mem _ ht)) h1 (fun x hx => hlt x (List.mem_append_right _ hx)), rfl⟩
    exact Below.trod hl (hr t (List.mem_cons_self ..)).1 (hr t (List.mem_cons_self ..)).2 h0 hb (fun x hx => hlt x (List.mem_append_left _ hx))
  | [], [], _ :: _, _, _, h, _ => h.elim
  | [], _ :: _, _, _, _, h, _ => h.elim
  | _ :: _, [], _, _, _, h, _ => h.elim
  | _ :: _, _ :: _, [], _, _, h, _ => h.elim

theorem law_post {H : Type} {enc : TypeId × Value → H} {P : Program} {fn : Func} {s : ChangeSpec} {W W' : World} {args : Array Value} {ds gs : List (DataW H)} {before : List MemPlace} {tb : TypeId}
    (hl : laidOutB P = true) (hv : s.vars = []) (hr : fn.resultTypes = #[tb]) (hu : P.underlying tb = some .bool) (hread : (fn.params.toList.all fun t => P.readableRec t && decide (t < P.types.size)) = true)
    (hs : s.fn H (ds ++ gs) = { results := [.lit (.bool true)], args := ds })
    (hW : DataW.Whole enc P fn.params.toList s.vars false W args.toList ds gs before) (hb : Below W.heap.size W W') : s.post enc P fn false true false false W args (.bool true) W' := by
  have hW' := hW
  obtain ⟨p, q, hA, hV, rfl, hz, hn⟩ := hW
  have hlt : ∀ x ∈ p ++ q, x.block < W.heap.size := fun x hx => by simpa using hW'.lt x hx
  rw [hv] at hV
  have hgs : gs = [] ∧ q = [] := by
    cases gs with
    | nil => exact ⟨rfl, hV⟩
    | cons g gs => exact hV.elim
  obtain ⟨rfl, rfl⟩ := hgs
  refine ⟨ds, [], p ++ [], [], p, [], hW', ?_, ?_, ?_, hb.frame _, fun h => by cases h⟩
  · rw [hs, hr]
    exact trodAll_mk1 (shut_bool hu true)
  · rw [hs]
    exact trodAll_below hl hb _ _ _ _ (fun t ht => by have := List.all_eq_true.1 hread t ht; simpa using this) hA (fun x hx => hlt x (List.mem_append_left _ hx))
  · rw [hs, hv]
    rfl

theorem trodAll_length {H : Type} {enc : TypeId × Value → H} {P : Program} {W : World} {base : Nat} {sp : Nat → Bool} {hd : Bool} :
    ∀ (ts : List TypeId) (vs : List Value) (ds : List (DataW H)) (ps : List MemPlace), DataW.TrodAll enc P W base sp hd ts vs ds ps → ds.length = ts.length
  | [], [], [], _, _ => rfl
  | _ :: ts, _ :: vs, _ :: ds, _, h => by
    obtain ⟨_, q, _, h1, _⟩ := h
    simp [trodAll_length ts vs ds q h1]
  | [], [], _ :: _, _, h => h.elim
  | [], _ :: _, _, _, h => h.elim
  | _ :: _, [], _, _, h => h.elim
  | _ :: _, _ :: _, [], _, h => h.elim

/-- FROM THE WALK TO THE ROW. -/
theorem law_lift {H : Type} {enc : TypeId × Value → H} {C : Checked} {os : Os} {f : FuncId} {fn : Func} {s : ChangeSpec} {conds : List PathCond} {tb : TypeId} (n : Nat)
    (own : ownKnob C.prog.godebug = none) (started : os.Started) (noInit : C.prog.inits.idxOf? f = none) (hfn : C.prog.funcs[f]? = some fn)
    (witness : ∃ (w : World) (tape : Tape) (i : Input), w.os = os ∧ (w.forCall tape i).Shaped C.prog ∧ i.vars = [] ∧ Input.okWide C.prog (w.forCall tape i) .any w.heap.size f i ∧
      s.pre6 enc C.prog fn conds false (w.forCall tape i).memory i.args ∧ Assume.holds {} C.prog (lone (Frame.enter C.prog f i.args .normal) [] (w.forCall tape i)))
    (hl : laidOutB C.prog = true) (hv : s.vars = []) (hr : fn.resultTypes = #[tb]) (hu : C.prog.underlying tb = some .bool)
    (hread : (fn.params.toList.all fun t => C.prog.readableRec t && decide (t < C.prog.types.size)) = true) (hn : fn.params.toList.length = n)
    (hs : ∀ ds : List (DataW H), ds.length = n → s.fn H (ds ++ []) = { results := [.lit (.bool true)], args := ds })
    (hwalk : ∀ (W : World) (base : Nat) (args : Array Value) (ds : List (DataW H)) (p : List MemPlace),
      (∀ (j : Nat) t v, fn.params[j]? = some t → args[j]? = some v → Value.okWide C.prog W .any base t v) → DataW.TrodAll enc C.prog W 0 (fun _ => true) true fn.params.toList args.toList ds p →
      Calls C.prog f args W fun e W' => e = .returned (.bool true) ∧ Below W.heap.size W W') :
    ReturnsInHanded {} C os f .any (s.pre6 enc C.prog fn conds false) (s.post enc C.prog fn false true false false) := by
  refine returnsInHanded_of_change (C := C) own started noInit hfn witness ?_
  intro W base args ds gs before hval hW _ _
  have hW' := hW
  obtain ⟨p, q, hA, hV, _, _, _⟩ := hW
  have hgs : gs = [] := by
    rw [hv] at hV
    cases gs with
    | nil => rfl
    | cons g gs => exact hV.elim
  subst hgs
  have hlen : ds.length = n := (trodAll_length _ _ _ _ hA).trans hn
  refine (hwalk W base args ds p hval hA).mono fun e W' ⟨he, hb⟩ => ?_
  subst he
  exact ⟨_, rfl, law_post hl hv hr hu hread (hs ds hlen) hW' hb⟩
end Go.Proofs.YtmfdgpinohbckaaDoor

namespace Go.Proofs.YtmfdgpinohbckaaDoor
open Go.ChangeShapes Go.WideShapes Go.ChangeAt Go.RowKit Go.Joins Go.Deep

/-- A bottle: its Kind and its Year. -/
abbrev Bot := Int × Int
def wfB (b : Bot) : Prop := 0 ≤ b.1 ∧ b.1 ≤ 255 ∧ -32768 ≤ b.2 ∧ b.2 ≤ 32767
def bcells (b : Bot) : List Value := [.int .u8 b.1, .int .i16 b.2]
def ccells (bs : List Bot) : List Value := bs.flatMap bcells

theorem ccells_length (bs : List Bot) : (ccells bs).length = 2 * bs.length := by
  induction bs with
  | nil => rfl
  | cons b bs ih => simp only [ccells, List.flatMap_cons, List.length_append, List.length_cons] at ih ⊢; rw [ih]; simp [bcells]; omega
theorem ccells_even (bs : List Bot) (i : Nat) (h : i < bs.length) : (ccells bs)[2 * i]? = some (.int .u8 bs[i].1) := by
  induction bs generalizing i with
  | nil => simp at h
  | cons b bs ih =>
    cases i with
    | zero => rfl
    | succ i =>
      have : (ccells (b :: bs))[2 * (i + 1)]? = (ccells bs)[2 * i]? := by
        simp [ccells, bcells, show 2 * (i + 1) = 2 * i + 1 + 1 from by omega]
      rw [this, ih i (by simpa using h)]; rfl
theorem ccells_odd (bs : List Bot) (i : Nat) (h : i < bs.length) : (ccells bs)[2 * i + 1]? = some (.int .i16 bs[i].2) := by
  induction bs generalizing i with
  | nil => simp at h
  | cons b bs ih =>
    cases i with
    | zero => rfl
    | succ i =>
      have : (ccells (b :: bs))[2 * (i + 1) + 1]? = (ccells bs)[2 * i + 1]? := by
        simp [ccells, bcells, show 2 * (i + 1) + 1 = 2 * i + 1 + 1 + 1 from by omega]
      rw [this, ih i (by simpa using h)]; rfl

theorem ccells_of (n : Nat) : ∀ cs : List Value, cs.length = 2 * n → (∀ i, i < n → ∃ b, wfB b ∧ (cs.drop (i * 2)).take 2 = bcells b) → ∃ bs : List Bot, bs.length = n ∧ cs = ccells bs ∧ ∀ b ∈ bs, wfB b := by
  induction n with
  | zero => intro cs h _; exact ⟨[], rfl, by cases cs; rfl; simp at h, by simp⟩
  | succ n ih =>
    intro cs h hb
    obtain ⟨b, hw, he⟩ := hb 0 (by omega)
    obtain ⟨bs, hl, hcs, hwf⟩ := ih (cs.drop 2) (by simp; omega) (fun i hi => by
      obtain ⟨b', hw', he'⟩ := hb (i + 1) (by omega)
      exact ⟨b', hw', by rw [List.drop_drop, ← he']; congr 2; omega⟩)
    refine ⟨b :: bs, by simp [hl], ?_, fun x hx => ?_⟩
    · have e0 : cs = cs.take 2 ++ cs.drop 2 := (List.take_append_drop 2 cs).symm
      rw [e0, hcs, show cs.take 2 = bcells b from by simpa using he]
      simp [ccells]
    · rcases List.mem_cons.1 hx with rfl | hx
      · exact hw
      · exact hwf x hx

section
variable {H : Type} {enc : TypeId × Value → H} {P : Program} {w : World} {base : Nat} {spare : Nat → Bool} {held : Bool}

theorem trod_bottle {e : TypeId} {f0 f1 : Field} {fuel : Nat} {cs : List Value} {x : DataW H × List MemPlace} (he : P.underlying e = some (.struct #[f0, f1])) (h0 : P.underlying f0.type = some (.int .u8)) (h1 : P.underlying f1.type = some (.int .i16))
    (hone : oneCellFields P #[f0, f1] = true) (hC : P.cellsOf e = 2) (h : DataW.trod enc P w base spare held fuel e cs = some x) : ∃ b : Bot, wfB b ∧ cs = bcells b := by
  obtain ⟨xs, m, _, hx, hlen, hyl, hg⟩ := DataW.trod_struct he h
  have hyl2 : xs.length = 2 := hyl
  rw [hC] at hlen
  match cs, hlen with
  | [c0, c1], _ =>
    obtain ⟨o0, k0⟩ := hone_of hone 0 f0 rfl
    obtain ⟨o1, k1⟩ := hone_of hone 1 f1 rfl
    have g0 := hg 0 f0 rfl
    have g1 := hg 1 f1 rfl
    rw [o0, k0] at g0
    rw [o1, k1] at g1
    simp only [List.drop_zero, List.take_succ_cons, List.take_zero, List.drop_succ_cons] at g0 g1
    cases hx0 : xs[0]? with
    | none => rw [hx0] at g0; rw [List.getElem?_eq_getElem (by omega)] at hx0; cases hx0
    | some y0 =>
      cases hx1 : xs[1]? with
      | none => rw [hx1] at g1; rw [List.getElem?_eq_getElem (by omega)] at hx1; cases hx1
      | some y1 =>
        rw [hx0] at g0
        rw [hx1] at g1
        obtain ⟨k, ek, _, wk⟩ := DataW.trod_int h0 g0
        obtain ⟨y, ey, _, wy⟩ := DataW.trod_int h1 g1
        simp at ek ey
        have bk := bounds_u8 wk
        have by' := bounds_i16 wy
        exact ⟨(k, y), ⟨bk.1, bk.2, by'.1, by'.2⟩, by rw [ek, ey]; rfl⟩

theorem trod_crate {t e : TypeId} {f0 f1 : Field} {n fuel : Nat} {cs : List Value} {x : DataW H × List MemPlace} (ht : P.underlying t = some (.array n e)) (hT : P.cellsOf t = 2 * n)
    (he : P.underlying e = some (.struct #[f0, f1])) (h0 : P.underlying f0.type = some (.int .u8)) (h1 : P.underlying f1.type = some (.int .i16))
    (hone : oneCellFields P #[f0, f1] = true) (hC : P.cellsOf e = 2) (h : DataW.trod enc P w base spare held fuel t cs = some x) : ∃ bs : List Bot, bs.length = n ∧ cs = ccells bs ∧ ∀ b ∈ bs, wfB b := by
  obtain ⟨xs, m, _, hx, hlen, hxl, hg⟩ := DataW.trod_array ht h
  refine ccells_of n cs (by rw [hlen, hT]) (fun i hi => ?_)
  have g := hg i hi
  rw [hC] at g
  rw [List.getElem?_eq_getElem (by omega)] at g
  exact trod_bottle he h0 h1 hone hC g

theorem open_crate {t e : TypeId} {f0 f1 : Field} {n : Nat} {r : Reach} {b0 : Nat} {v : Value} {d : DataW H} {p : List MemPlace} (ht : P.underlying t = some (.array n e)) (hT : P.cellsOf t = 2 * n)
    (he : P.underlying e = some (.struct #[f0, f1])) (h0 : P.underlying f0.type = some (.int .u8)) (h1 : P.underlying f1.type = some (.int .i16))
    (hone : oneCellFields P #[f0, f1] = true) (hC : P.cellsOf e = 2) (hv : Value.okWide P w r b0 t v) (h : DataW.Trod enc P w base spare held t v d p) :
    ∃ bs : List Bot, bs.length = n ∧ v = .agg (ccells bs).toArray ∧ ∀ b ∈ bs, wfB b := by
  obtain ⟨cs, rfl, hsz, _⟩ : ∃ cs, v = .agg cs ∧ cs.size = P.cellsOf t ∧ Row.okWide P w r b0 t cs := by
    simpa [Value.okWide, ht] using hv
  obtain ⟨fuel, hf⟩ := h
  obtain ⟨bs, hl, hcs, hwf⟩ := trod_crate ht hT he h0 h1 hone hC hf
  refine ⟨bs, hl, ?_, hwf⟩
  rw [← hcs]
  simp [Value.cells]
theorem open_bottle {e : TypeId} {f0 f1 : Field} {r : Reach} {b0 : Nat} {v : Value} {d : DataW H} {p : List MemPlace}
    (he : P.underlying e = some (.struct #[f0, f1])) (h0 : P.underlying f0.type = some (.int .u8)) (h1 : P.underlying f1.type = some (.int .i16))
    (hone : oneCellFields P #[f0, f1] = true) (hC : P.cellsOf e = 2) (hv : Value.okWide P w r b0 e v) (h : DataW.Trod enc P w base spare held e v d p) :
    ∃ b : Bot, wfB b ∧ v = .agg (bcells b).toArray := by
  obtain ⟨cs, rfl, hsz⟩ := okWide_struct he hv
  obtain ⟨fuel, hf⟩ := h
  obtain ⟨b, hw, hcs⟩ := trod_bottle he h0 h1 hone hC hf
  refine ⟨b, hw, ?_⟩
  rw [← hcs]
  simp [Value.cells]
end
end Go.Proofs.YtmfdgpinohbckaaDoor
