/-
  The frame of the laws whose rows list the sentinel errors: from the listed variables to what the walks ask of memory; from the walk to the row. No condition of its own.
-/
import Derived.Test.YtcdhmlalpjcidaaDoorFrame
import Derived.Test.YtcdhmlalpjcidaaDoorE
import Derived.ProofKit
import Derived.LaidMore
import Derived.OpenShut
import Derived.OpenVars
import Derived.Stop.Joined
namespace Go.Proofs.YtcdhmlalpjcidaaDoor
open Go.ChangeShapes Go.WideShapes Go.ChangeAt Go.WideMaps Go.WideElems Go.RowKit

theorem law_postV {H : Type} {enc : TypeId × Value → H} {P : Program} {fn : Func} {s : ChangeSpec} {W W' : World} {args : Array Value} {ds gs : List (DataW H)} {before : List MemPlace} {tb : TypeId}
    (hl : laidOutB P = true) (hv : varsRowed P s.vars = true) (hr : fn.resultTypes = #[tb]) (hu : P.underlying tb = some .bool) (hread : (fn.params.toList.all fun t => P.readableRec t && decide (t < P.types.size)) = true)
    (hs : s.fn H (ds ++ gs) = { results := [.lit (.bool true)], args := ds, vars := gs })
    (hW : DataW.Whole enc P fn.params.toList s.vars false W args.toList ds gs before) (hb : Below W.heap.size W W') : s.post enc P fn false true false false W args (.bool true) W' := by
  have hW' := hW
  obtain ⟨p, q, hA, hV, rfl, hz, hn⟩ := hW
  have hlt : ∀ x ∈ p ++ q, x.block < W.heap.size := fun x hx => by simpa using hW'.lt x hx
  refine ⟨ds, gs, p ++ q, [], p, q, hW', ?_, ?_, ?_, hb.frame _, fun h => by cases h⟩
  · rw [hs, hr]
    exact trodAll_mk1 (shut_bool hu true)
  · rw [hs]
    exact trodAll_below hl hb _ _ _ _ (fun t ht => by have := List.all_eq_true.1 hread t ht; simpa using this) hA (fun x hx => hlt x (List.mem_append_left _ hx))
  · rw [hs]
    exact Below.trodVars hl hb hv hV

theorem trodVars_length {H : Type} {enc : TypeId × Value → H} {P : Program} {W : World} {sp : Nat → Bool} : ∀ (ns : List String) (gs : List (DataW H)) (ps : List MemPlace), DataW.TrodVars enc P W sp ns gs ps → gs.length = ns.length
  | [], [], _, _ => rfl
  | [], _ :: _, _, h => h.elim
  | _ :: _, [], _, h => h.elim
  | n :: ns, g :: gs, ps, h => by
    obtain ⟨_, _, _, _, _, q, _, _, _, _, hq, _⟩ := h
    simp [trodVars_length ns gs q hq]

/-- FROM THE WALK TO THE ROW, variables listed. -/
theorem law_liftL {H : Type} {enc : TypeId × Value → H} {C : Checked} {os : Os} {f : FuncId} {fn : Func} {s : ChangeSpec} {conds : List PathCond} {tb : TypeId} {laid : List (String × DataW Unit)} (n m : Nat)
    (own : ownKnob C.prog.godebug = none) (started : os.Started) (noInit : C.prog.inits.idxOf? f = none) (hfn : C.prog.funcs[f]? = some fn)
    (witness : ∃ (w : World) (tape : Tape) (i : Input), w.os = os ∧ (w.forCall tape i).Shaped C.prog ∧ i.vars = [] ∧ Input.okWide C.prog (w.forCall tape i) .any w.heap.size f i ∧
      ((s.pre enc C.prog fn conds false (w.forCall tape i).memory i.args ∧ laidMetH C.prog laid (w.forCall tape i).memory) ∧ sizedMet enc C.prog fn (OpenSpec.ofChange s) false (w.forCall tape i).memory i.args) ∧ Assume.holds {} C.prog (lone (Frame.enter C.prog f i.args .normal) [] (w.forCall tape i)))
    (hl : laidOutB C.prog = true) (hv : varsRowed C.prog s.vars = true) (hm : s.vars.length = m) (hr : fn.resultTypes = #[tb]) (hu : C.prog.underlying tb = some .bool)
    (hread : (fn.params.toList.all fun t => C.prog.readableRec t && decide (t < C.prog.types.size)) = true) (hn : fn.params.toList.length = n)
    (hs : ∀ ds gs : List (DataW H), ds.length = n → gs.length = m → s.fn H (ds ++ gs) = { results := [.lit (.bool true)], args := ds, vars := gs })
    (hwalk : ∀ (W : World) (base : Nat) (args : Array Value) (ds : List (DataW H)) (p : List MemPlace), laidMetH C.prog laid W →
      (∀ (j : Nat) t v, fn.params[j]? = some t → args[j]? = some v → Value.okWide C.prog W .any base t v) → DataW.TrodAll enc C.prog W 0 (fun _ => true) true fn.params.toList args.toList ds p →
      Calls C.prog f args W fun e W' => e = .returned (.bool true) ∧ Below W.heap.size W W') :
    ReturnsInHanded {} C os f .any (fun w args => (s.pre enc C.prog fn conds false w args ∧ laidMetH C.prog laid w) ∧ sizedMet enc C.prog fn (OpenSpec.ofChange s) false w args) (s.post enc C.prog fn false true false false) := by
  refine returnsInHanded_of_change_and (C := C) (X := fun w _ => laidMetH C.prog laid w) (fun _ _ _ hh h => h.of_heap hh) own started noInit hfn witness ?_
  intro W base args ds gs before hval hW _ _ hL _
  have hW' := hW
  obtain ⟨p, q, hA, hV, _, _, _⟩ := hW
  refine (hwalk W base args ds p hL hval hA).mono fun e W' ⟨he, hb⟩ => ?_
  subst he
  exact ⟨_, rfl, law_postV hl hv hr hu hread (hs ds gs ((trodAll_length _ _ _ _ hA).trans hn) ((trodVars_length _ _ _ hV).trans hm)) hW' hb⟩

theorem sents_of {P : Program} {W : World} {nm : String} {ti tp te ts : TypeId} {ms : Array (String × TypeId)} {f : Field}
    (hi : P.underlying ti = some (.interface ms)) (hrow : ∀ u, P.typeName? 3 u = some nm → u = tp)
    (hp : P.underlying tp = some (.pointer te)) (he : P.underlying te = some (.struct #[f])) (hft : f.type = ts) (hfo : f.offset = 0) (hs : P.underlying ts = some .string) (hc : P.cellsOf te = 1) (hcs : P.cellsOf ts = 1) :
    ∀ (xs : List (String × List UInt8 × Nat)) (ps : List MemPlace), (∀ x ∈ xs, P.globalNamed x.1 = some x.2.2 ∧ (P.globals[x.2.2]?).map (·.type) = some ti) →
      DataW.LaidVars P W (xs.map fun x => (x.1, .iface nm (.ptr (.agg [.lit (.string x.2.1)])))) ps → ps.Nodup →
      (∀ b off, MemPlace.cell b off ∈ ps → (∃ c t, W.heap[b]? = some (.cells c t (0, 0))) ∧ ∀ u v, W.cell? ⟨b, off, none⟩ = some (.iface u v) → Value.okWide P W .any 0 u v) →
      ∃ al : List Addr, al.length = xs.length ∧ al.Nodup ∧ (∀ a ∈ al, MemPlace.cell a.block a.off ∈ ps) ∧
        ∀ (i : Nat) x a, xs[i]? = some x → al[i]? = some a → W.cell? ⟨x.2.2, 0, none⟩ = some (.iface tp (.pointer (some a))) ∧ ∃ c t, W.heap[a.block]? = some (.cells c t (0, 0))
  | [], ps, _, _, _, _ => ⟨[], rfl, List.nodup_nil, by simp, by simp⟩
  | x :: xs, ps, hx, h, hnd, hrows => by
    obtain ⟨g, t, cs, f0, p, q, hg, ht, hv, hd, hq, rfl⟩ := h
    obtain ⟨hg1, ht1⟩ := hx x (List.mem_cons_self ..)
    obtain rfl := Option.some.inj (hg1.symm.trans hg)
    obtain rfl := Option.some.inj (ht1.symm.trans ht)
    obtain ⟨al, hlen, hn, hmem, hat⟩ := sents_of hi hrow hp he hft hfo hs hc hcs xs q (fun y hy => hx y (List.mem_cons_of_mem _ hy)) hq (List.Nodup.sublist (List.sublist_append_right _ _) hnd)
      (fun b off hm => hrows b off (List.mem_append_right _ hm))
    obtain ⟨l⟩ := cs
    have ok : ∀ u v, l = [.iface u v] → Value.okWide P W .any 0 u v := fun u v e => by
      subst e
      exact (hrows x.2.2 0 (by simp [MemPlace.row])).2 u v (by simpa using World.var?_cell hg hv 0)
    obtain ⟨a, s, rfl, hca, hsa, hza, rfl⟩ := errorString_of_trod hi hrow hp he hft hfo hs hc hcs hd ok
    have hcell : W.cell? ⟨x.2.2, 0, none⟩ = some (.iface tp (.pointer (some a))) := by simpa using World.var?_cell hg hv 0
    refine ⟨a :: al, by simp [hlen], ?_, ?_, ?_⟩
    · rw [List.nodup_cons]
      refine ⟨fun hin => ?_, hn⟩
      have h1 := hmem a hin
      have h2 := (List.nodup_append.1 hnd).2.2 (.cell a.block a.off) (List.mem_append_right _ (by simp [MemPlace.row])) _ h1
      exact h2 rfl
    · intro b hb
      rcases List.mem_cons.1 hb with rfl | hb
      · exact List.mem_append_left _ (List.mem_append_right _ (by simp [MemPlace.row]))
      · exact List.mem_append_right _ (hmem b hb)
    · intro i y b hy hb
      cases i with
      | zero =>
        simp only [List.getElem?_cons_zero, Option.some.injEq] at hy hb
        subst hy; subst hb
        exact ⟨hcell, (hrows a.block a.off (List.mem_append_left _ (List.mem_append_right _ (by simp [MemPlace.row])))).1⟩
      | succ i =>
        simp only [List.getElem?_cons_succ] at hy hb
        exact hat i y b hy hb

def sl5 : List (String × List UInt8 × Nat) := [("loop.example/g01353/impl.errRange", [114, 97, 110, 103, 101], gN 0), ("loop.example/g01353/impl.errLimit", [108, 105, 109, 105, 116], gN 1), ("loop.example/g01353/impl.errState", [115, 116, 97, 116, 101], gN 2), ("loop.example/g01353/impl.errSyntax", [115, 121, 110, 116, 97, 120], gN 3), ("loop.example/g01353/impl.errNotFound", [110, 111, 116, 102, 111, 117, 110, 100], gN 4)]
def sl6 : List (String × List UInt8 × Nat) := sl5 ++ [("loop.example/g01353/impl.errProof", [112, 114, 111, 111, 102], gN 6)]
def sl7 : List (String × List UInt8 × Nat) := ("loop.example/g01353/impl.errInvalid", [105, 110, 118, 97, 108, 105, 100], gN 5) :: sl6
def lay (xs : List (String × List UInt8 × Nat)) : List (String × DataW Unit) := xs.map fun x => (x.1, .iface "*errors.errorString" (.ptr (.agg [.lit (.string x.2.1)])))
theorem Tryd.star : "*" ++ "errors.errorString" = "*errors.errorString" := by decide
theorem Tryd.oneName (u : TypeId) (h : Tryd.prog.typeName? 3 u = some "*errors.errorString") : u = 173 :=
  typeName_ptr_named (nm := "errors.errorString") (by rw [Tryd.star]; kernel_rfl) (by kernel_rfl) (by decide) u (by rw [Tryd.star]; exact h)
theorem sl5_ok : ∀ x ∈ sl5, Tryd.prog.globalNamed x.1 = some x.2.2 ∧ (Tryd.prog.globals[x.2.2]?).map (·.type) = some 74 := by
  intro x hx
  simp only [sl5, List.mem_cons, List.not_mem_nil, or_false] at hx
  rcases hx with rfl | rfl | rfl | rfl | rfl <;> exact ⟨by kernel_rfl, by kernel_rfl⟩
theorem sl6_ok : ∀ x ∈ sl6, Tryd.prog.globalNamed x.1 = some x.2.2 ∧ (Tryd.prog.globals[x.2.2]?).map (·.type) = some 74 := by
  intro x hx
  rcases List.mem_append.1 hx with hx | hx
  · exact sl5_ok x hx
  · obtain rfl := List.mem_singleton.1 hx
    exact ⟨by kernel_rfl, by kernel_rfl⟩
theorem sl7_ok : ∀ x ∈ sl7, Tryd.prog.globalNamed x.1 = some x.2.2 ∧ (Tryd.prog.globals[x.2.2]?).map (·.type) = some 74 := by
  intro x hx
  rcases List.mem_cons.1 hx with rfl | hx
  · exact ⟨by kernel_rfl, by kernel_rfl⟩
  · exact sl6_ok x hx
theorem Tryd.cellsES : Tryd.prog.cellsOf 199 = 1 := by kernel_rfl
theorem Tryd.cellsSt : Tryd.prog.cellsOf 9 = 1 := by kernel_rfl

/-- The rows without errInvalid. -/
theorem ew5_of {W : World} (h : laidMetH Tryd.prog (lay sl6) W) : ∃ ad, EW 5 W ad := by
  rw [MakeChecks.laidMetH_plain _ _ _ (by kernel_rfl)] at h
  obtain ⟨ps, hv, hnd, hrows⟩ := h
  obtain ⟨al, hlen, hn, _, hat⟩ := sents_of Tryd.underlying74 Tryd.oneName Tryd.underlying173 Tryd.underlying199 rfl rfl Tryd.underlying9 Tryd.cellsES Tryd.cellsSt sl6 ps sl6_ok hv hnd hrows
  have hl6 : al.length = 6 := hlen
  have key : ∀ i, i < 5 → ∃ x, sl6[i]? = some x ∧ x.2.2 = gN i := by
    intro i hi
    have : i = 0 ∨ i = 1 ∨ i = 2 ∨ i = 3 ∨ i = 4 := by omega
    rcases this with rfl | rfl | rfl | rfl | rfl <;> exact ⟨_, rfl, rfl⟩
  refine ⟨fun i => al.getD i ⟨0, 0, none⟩, ⟨fun i hi => ?_, fun i hi => ?_, fun i j hi hj hij => ?_⟩⟩
  · obtain ⟨x, hx, hg⟩ := key i hi
    have ha : al[i]? = some (al.getD i ⟨0, 0, none⟩) := by simp [show i < al.length from by omega]
    rw [← hg]; exact (hat i x _ hx ha).1
  · obtain ⟨x, hx, hg⟩ := key i hi
    have ha : al[i]? = some (al.getD i ⟨0, 0, none⟩) := by simp [show i < al.length from by omega]
    exact (hat i x _ hx ha).2
  · intro e
    have h1 : al.getD i ⟨0, 0, none⟩ = al[i]'(by omega) := by simp [show i < al.length from by omega]
    have h2 : al.getD j ⟨0, 0, none⟩ = al[j]'(by omega) := by simp [show j < al.length from by omega]
    rw [h1, h2] at e
    exact hij ((List.getElem_inj hn).1 e)
def at7 (i : Nat) : Nat := if i = 5 then 0 else if i = 6 then 6 else i + 1
theorem ew7_of {W : World} (h : laidMetH Tryd.prog (lay sl7) W) : ∃ ad, EW 7 W ad := by
  rw [MakeChecks.laidMetH_plain _ _ _ (by kernel_rfl)] at h
  obtain ⟨ps, hv, hnd, hrows⟩ := h
  obtain ⟨al, hlen, hn, _, hat⟩ := sents_of Tryd.underlying74 Tryd.oneName Tryd.underlying173 Tryd.underlying199 rfl rfl Tryd.underlying9 Tryd.cellsES Tryd.cellsSt sl7 ps sl7_ok hv hnd hrows
  have hl7 : al.length = 7 := hlen
  have key : ∀ i, i < 7 → ∃ x, sl7[at7 i]? = some x ∧ x.2.2 = gN i := by
    intro i hi
    have : i = 0 ∨ i = 1 ∨ i = 2 ∨ i = 3 ∨ i = 4 ∨ i = 5 ∨ i = 6 := by omega
    rcases this with rfl | rfl | rfl | rfl | rfl | rfl | rfl <;> exact ⟨_, rfl, rfl⟩
  have lt : ∀ i, i < 7 → at7 i < al.length := by intro i hi; unfold at7; split <;> (try split) <;> omega
  refine ⟨fun i => al.getD (at7 i) ⟨0, 0, none⟩, ⟨fun i hi => ?_, fun i hi => ?_, fun i j hi hj hij => ?_⟩⟩
  · obtain ⟨x, hx, hg⟩ := key i hi
    have ha : al[at7 i]? = some (al.getD (at7 i) ⟨0, 0, none⟩) := by simp [lt i hi]
    rw [← hg]; exact (hat _ x _ hx ha).1
  · obtain ⟨x, hx, hg⟩ := key i hi
    have ha : al[at7 i]? = some (al.getD (at7 i) ⟨0, 0, none⟩) := by simp [lt i hi]
    exact (hat _ x _ hx ha).2
  · intro e
    have h1 : al.getD (at7 i) ⟨0, 0, none⟩ = al[at7 i]'(lt i hi) := by simp [lt i hi]
    have h2 : al.getD (at7 j) ⟨0, 0, none⟩ = al[at7 j]'(lt j hj) := by simp [lt j hj]
    rw [h1, h2] at e
    have := (List.getElem_inj hn).1 e
    unfold at7 at this
    split at this <;> split at this <;> (try split at this) <;> (try split at this) <;> omega
end Go.Proofs.YtcdhmlalpjcidaaDoor
