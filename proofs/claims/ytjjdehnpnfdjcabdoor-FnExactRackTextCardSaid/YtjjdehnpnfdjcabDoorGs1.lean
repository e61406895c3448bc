/-
  The laws that list the error for what is invalid alone, behind the library's tables: from the listed variables to what the walks ask of memory. No condition of its own.
-/
import Derived.Test.YtjjdehnpnfdjcabDoorGt
import Derived.Test.YtjjdehnpnfdjcabDoorRv1
namespace Go.Proofs.YtjjdehnpnfdjcabDoor
open Go.ChangeShapes Go.WideShapes Go.ChangeAt Go.WideMaps Go.WideElems Go.RowKit

theorem sents_of {P : Program} {W : World} {nm : String} {ti tp te ts : TypeId} {ms : Array (String × TypeId)} {f : Field}
    (hi : P.underlying ti = some (.interface ms)) (hrow : ∀ u, P.typeName? 3 u = some nm → u = tp)
    (hp : P.underlying tp = some (.pointer te)) (he : P.underlying te = some (.struct #[f])) (hft : f.type = ts) (hfo : f.offset = 0) (hs : P.underlying ts = some .string) (hc : P.cellsOf te = 1) (hcs : P.cellsOf ts = 1) :
    ∀ (xs : List (String × List UInt8 × Nat)) (ps : List MemPlace), (∀ x ∈ xs, P.globalNamed x.1 = some x.2.2 ∧ (P.globals[x.2.2]?).map (·.type) = some ti) →
      DataW.LaidVars P W (xs.map fun x => (x.1, .iface nm (.ptr (.agg [.lit (.string x.2.1)])))) ps → ps.Nodup →
      (∀ b off, MemPlace.cell b off ∈ ps → (∃ c t, W.heap[b]? = some (.cells c t (0, 0))) ∧ ∀ u v, W.cell? ⟨b, off, none⟩ = some (.iface u v) → Value.okWide P W .any 0 u v) →
      ∃ al : List Addr, al.length = xs.length ∧ al.Nodup ∧ (∀ a ∈ al, MemPlace.cell a.block a.off ∈ ps) ∧
        ∀ (i : Nat) x a, xs[i]? = some x → al[i]? = some a → W.cell? ⟨x.2.2, 0, none⟩ = some (.iface tp (.pointer (some a))) ∧ ∃ c t, W.heap[a.block]? = some (.cells c t (0, 0))
  | [], ps, _, _, _, _ => ⟨[], rfl, List.nodup_nil, by simp, by simp⟩
  | x :: xs, ps, hx, h, hnd, hrows => by
    obtain ⟨g, t, cs, f0, p, q, hg, ht, hv, hd, hq, rfl⟩ := h
    obtain ⟨hg1, ht1⟩ := hx x (List.mem_cons_self ..)
    obtain rfl := Option.some.inj (hg1.symm.trans hg)
    obtain rfl := Option.some.inj (ht1.symm.trans ht)
    obtain ⟨al, hlen, hn, hmem, hat⟩ := sents_of hi hrow hp he hft hfo hs hc hcs xs q (fun y hy => hx y (List.mem_cons_of_mem _ hy)) hq (List.Nodup.sublist (List.sublist_append_right _ _) hnd)
      (fun b off hm => hrows b off (List.mem_append_right _ hm))
    obtain ⟨l⟩ := cs
    have ok : ∀ u v, l = [.iface u v] → Value.okWide P W .any 0 u v := fun u v e => by
      subst e
      exact (hrows x.2.2 0 (by simp [MemPlace.row])).2 u v (by simpa using World.var?_cell hg hv 0)
    obtain ⟨a, s, rfl, hca, hsa, hza, rfl⟩ := errorString_of_trod hi hrow hp he hft hfo hs hc hcs hd ok
    have hcell : W.cell? ⟨x.2.2, 0, none⟩ = some (.iface tp (.pointer (some a))) := by simpa using World.var?_cell hg hv 0
    refine ⟨a :: al, by simp [hlen], ?_, ?_, ?_⟩
    · rw [List.nodup_cons]
      refine ⟨fun hin => ?_, hn⟩
      have h1 := hmem a hin
      have h2 := (List.nodup_append.1 hnd).2.2 (.cell a.block a.off) (List.mem_append_right _ (by simp [MemPlace.row])) _ h1
      exact h2 rfl
    · intro b hb
      rcases List.mem_cons.1 hb with rfl | hb
      · exact List.mem_append_left _ (List.mem_append_right _ (by simp [MemPlace.row]))
      · exact List.mem_append_right _ (hmem b hb)
    · intro i y b hy hb
      cases i with
      | zero =>
        simp only [List.getElem?_cons_zero, Option.some.injEq] at hy hb
        subst hy; subst hb
        exact ⟨hcell, (hrows a.block a.off (List.mem_append_left _ (List.mem_append_right _ (by simp [MemPlace.row])))).1⟩
      | succ i =>
        simp only [List.getElem?_cons_succ] at hy hb
        exact hat i y b hy hb
def lay (xs : List (String × List UInt8 × Nat)) : List (String × DataW Unit) := xs.map fun x => (x.1, .iface "*errors.errorString" (.ptr (.agg [.lit (.string x.2.1)])))
theorem Tryd.star : "*" ++ "errors.errorString" = "*errors.errorString" := by decide
theorem Tryd.oneName (u : TypeId) (h : Tryd.prog.typeName? 3 u = some "*errors.errorString") : u = 136 :=
  typeName_ptr_named (nm := "errors.errorString") (by rw [Tryd.star]; kernel_rfl) (by kernel_rfl) (by decide) u (by rw [Tryd.star]; exact h)
theorem Tryd.cellsES : Tryd.prog.cellsOf 153 = 1 := by kernel_rfl
theorem Tryd.cellsSt : Tryd.prog.cellsOf 9 = 1 := by kernel_rfl

def sl1 : List (String × List UInt8 × Nat) := [("loop.example/g01353/impl.errInvalid", [105, 110, 118, 97, 108, 105, 100], gN 5)]
theorem sl1_ok : ∀ x ∈ sl1, Tryd.prog.globalNamed x.1 = some x.2.2 ∧ (Tryd.prog.globals[x.2.2]?).map (·.type) = some 72 := by
  intro x hx
  simp only [sl1, List.mem_cons, List.not_mem_nil, or_false] at hx
  subst hx
  exact ⟨by kernel_rfl, by kernel_rfl⟩
theorem i5_of {W : World} (h : laidMetH Tryd.prog (lay sl1) W) : ∃ ad, I5 W ad := by
  rw [MakeChecks.laidMetH_plain _ _ _ (by kernel_rfl)] at h
  obtain ⟨ps, hv, hnd, hrows⟩ := h
  obtain ⟨al, hlen, hn, _, hat⟩ := sents_of Tryd.underlying72 Tryd.oneName Tryd.underlying136 Tryd.underlying153 rfl rfl Tryd.underlying9 Tryd.cellsES Tryd.cellsSt sl1 ps sl1_ok hv hnd hrows
  have hl1 : al.length = 1 := hlen
  have ha : al[0]? = some (al.getD 0 ⟨0, 0, none⟩) := by simp [show 0 < al.length from by omega]
  exact ⟨fun _ => al.getD 0 ⟨0, 0, none⟩, ⟨(hat 0 _ _ rfl ha).1⟩⟩
end Go.Proofs.YtjjdehnpnfdjcabDoor
