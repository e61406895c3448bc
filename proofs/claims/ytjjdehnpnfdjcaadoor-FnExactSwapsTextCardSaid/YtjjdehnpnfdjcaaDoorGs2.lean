/-
  The laws that list the errors for ranges and limits alone, behind the library's tables: from the listed variables to what the walks ask of memory. No condition of its own.
-/
import Derived.Test.YtjjdehnpnfdjcaaDoorGt
import Derived.Test.YtjjdehnpnfdjcaaDoorE2
namespace Go.Proofs.YtjjdehnpnfdjcaaDoor
open Go.ChangeShapes Go.WideShapes Go.ChangeAt Go.WideMaps Go.WideElems Go.RowKit

theorem sents_of {P : Program} {W : World} {nm : String} {ti tp te ts : TypeId} {ms : Array (String × TypeId)} {f : Field}
    (hi : P.underlying ti = some (.interface ms)) (hrow : ∀ u, P.typeName? 3 u = some nm → u = tp)
    (hp : P.underlying tp = some (.pointer te)) (he : P.underlying te = some (.struct #[f])) (hft : f.type = ts) (hfo : f.offset = 0) (hs : P.underlying ts = some .string) (hc : P.cellsOf te = 1) (hcs : P.cellsOf ts = 1) :
    ∀ (xs : List (String × List UInt8 × Nat)) (ps : List MemPlace), (∀ x ∈ xs, P.globalNamed x.1 = some x.2.2 ∧ (P.globals[x.2.2]?).map (·.type) = some ti) →
      DataW.LaidVars P W (xs.map fun x => (x.1, .iface nm (.ptr (.agg [.lit (.string x.2.1)])))) ps → ps.Nodup →
      (∀ b off, MemPlace.cell b off ∈ ps → (∃ c t, W.heap[b]? = some (.cells c t (0, 0))) ∧ ∀ u v, W.cell? ⟨b, off, none⟩ = some (.iface u v) → Value.okWide P W .any 0 u v) →
      ∃ al : List Addr, al.length = xs.length ∧ al.Nodup ∧ (∀ a ∈ al, MemPlace.cell a.block a.off ∈ ps) ∧
        ∀ (i : Nat) x a, xs[i]? = some x → al[i]? = some a → W.cell? ⟨x.2.2, 0, none⟩ = some (.iface tp (.pointer (some a))) ∧ ∃ c t, W.heap[a.block]? = some (.cells c t (0, 0))
  | [], ps, _, _, _, _ => ⟨[], rfl, List.nodup_nil, by simp, by simp⟩
  | x :: xs, ps, hx, h, hnd, hrows => by
    obtain ⟨g, t, cs, f0, p, q, hg, ht, hv, hd, hq, rfl⟩ := h
    obtain ⟨hg1, ht1⟩ := hx x (List.mem_cons_self ..)
    obtain rfl := Option.some.inj (hg1.symm.trans hg)
    obtain rfl := Option.some.inj (ht1.symm.trans ht)
    obtain ⟨al, hlen, hn, hmem, hat⟩ := sents_of hi hrow hp he hft hfo hs hc hcs xs q (fun y hy => hx y (List.mem_cons_of_mem _ hy)) hq (List.Nodup.sublist (List.sublist_append_right _ _) hnd)
      (fun b off hm => hrows b off (List.mem_append_right _ hm))
    obtain ⟨l⟩ := cs
    have ok : ∀ u v, l = [.iface u v] → Value.okWide P W .any 0 u v := fun u v e => by
      subst e
      exact (hrows x.2.2 0 (by simp [MemPlace.row])).2 u v (by simpa using World.var?_cell hg hv 0)
    obtain ⟨a, s, rfl, hca, hsa, hza, rfl⟩ := errorString_of_trod hi hrow hp he hft hfo hs hc hcs hd ok
    have hcell : W.cell? ⟨x.2.2, 0, none⟩ = some (.iface tp (.pointer (some a))) := by simpa using World.var?_cell hg hv 0
    refine ⟨a :: al, by simp [hlen], ?_, ?_, ?_⟩
    · rw [List.nodup_cons]
      refine ⟨fun hin => ?_, hn⟩
      have h1 := hmem a hin
      have h2 := (List.nodup_append.1 hnd).2.2 (.cell a.block a.off) (List.mem_append_right _ (by simp [MemPlace.row])) _ h1
      exact h2 rfl
    · intro b hb
      rcases List.mem_cons.1 hb with rfl | hb
      · exact List.mem_append_left _ (List.mem_append_right _ (by simp [MemPlace.row]))
      · exact List.mem_append_right _ (hmem b hb)
    · intro i y b hy hb
      cases i with
      | zero =>
        simp only [List.getElem?_cons_zero, Option.some.injEq] at hy hb
        subst hy; subst hb
        exact ⟨hcell, (hrows a.block a.off (List.mem_append_left _ (List.mem_append_right _ (by simp [MemPlace.row])))).1⟩
      | succ i =>
        simp only [List.getElem?_cons_succ] at hy hb
        exact hat i y b hy hb
def sl2 : List (String × List UInt8 × Nat) := [("loop.example/g01353/impl.errRange", [114, 97, 110, 103, 101], gN 0), ("loop.example/g01353/impl.errLimit", [108, 105, 109, 105, 116], gN 1)]
def lay (xs : List (String × List UInt8 × Nat)) : List (String × DataW Unit) := xs.map fun x => (x.1, .iface "*errors.errorString" (.ptr (.agg [.lit (.string x.2.1)])))
theorem Tryd.star : "*" ++ "errors.errorString" = "*errors.errorString" := by decide
theorem Tryd.oneName (u : TypeId) (h : Tryd.prog.typeName? 3 u = some "*errors.errorString") : u = 93 :=
  typeName_ptr_named (nm := "errors.errorString") (by rw [Tryd.star]; kernel_rfl) (by kernel_rfl) (by decide) u (by rw [Tryd.star]; exact h)
theorem sl2_ok : ∀ x ∈ sl2, Tryd.prog.globalNamed x.1 = some x.2.2 ∧ (Tryd.prog.globals[x.2.2]?).map (·.type) = some 51 := by
  intro x hx
  simp only [sl2, List.mem_cons, List.not_mem_nil, or_false] at hx
  rcases hx with rfl | rfl <;> exact ⟨by kernel_rfl, by kernel_rfl⟩
theorem Tryd.cellsES : Tryd.prog.cellsOf 108 = 1 := by kernel_rfl
theorem Tryd.cellsSt : Tryd.prog.cellsOf 9 = 1 := by kernel_rfl

theorem ew2_of {W : World} (h : laidMetH Tryd.prog (lay sl2) W) : ∃ ad, EW 2 W ad := by
  rw [MakeChecks.laidMetH_plain _ _ _ (by kernel_rfl)] at h
  obtain ⟨ps, hv, hnd, hrows⟩ := h
  obtain ⟨al, hlen, hn, _, hat⟩ := sents_of Tryd.underlying51 Tryd.oneName Tryd.underlying93 Tryd.underlying108 rfl rfl Tryd.underlying9 Tryd.cellsES Tryd.cellsSt sl2 ps sl2_ok hv hnd hrows
  have hl2 : al.length = 2 := hlen
  have lt : ∀ i, i < 2 → i < al.length := by intro i hi; omega
  have key : ∀ i, i < 2 → ∃ x, sl2[i]? = some x ∧ x.2.2 = gN i := by
    intro i hi
    have : i = 0 ∨ i = 1 := by omega
    rcases this with rfl | rfl <;> exact ⟨_, rfl, rfl⟩
  refine ⟨fun i => al.getD i ⟨0, 0, none⟩, ⟨fun i hi => ?_, fun i hi => ?_, fun i j hi hj hij => ?_⟩⟩
  · obtain ⟨x, hx, hg⟩ := key i hi
    have ha : al[i]? = some (al.getD i ⟨0, 0, none⟩) := by simp [lt i hi]
    rw [← hg]; exact (hat _ x _ hx ha).1
  · obtain ⟨x, hx, hg⟩ := key i hi
    have ha : al[i]? = some (al.getD i ⟨0, 0, none⟩) := by simp [lt i hi]
    exact (hat _ x _ hx ha).2
  · intro e
    have h1 : al.getD i ⟨0, 0, none⟩ = al[i]'(lt i hi) := by simp [lt i hi]
    have h2 : al.getD j ⟨0, 0, none⟩ = al[j]'(lt j hj) := by simp [lt j hj]
    rw [h1, h2] at e
    exact hij ((List.getElem_inj hn).1 e)
end Go.Proofs.YtjjdehnpnfdjcaaDoor
