/-
  'm[k] += v' as a look-up, an entry and a store into it, in whatever order; the operations' laws. No condition of its own.
-/
import Derived.Maps.RangeWalk
import Derived.Maps.OwnOps
import Derived.Maps.Views
import Derived.Maps.Ext
import Derived.WideKeyEntry
import Derived.DeepKeys4
import Derived.WalkKit
namespace Go.Proofs.YtcdhmlalpjcidaaDoor
open Go.ChangeShapes Go.WideShapes Go.ChangeMaps Go.MapKept
open Go.WideElems (Fit)
open Go.WideMaps (KeyLaw)
open Go.Maps (Keyed)

theorem entry_law {H : Type} {P : Program} {w : World} {t k e : TypeId} {q : IntKind} {b n : Nat} {D : DataW H} (h : w.ownsMap P k (plainElem P e) b n D) (K : KeyLaw P k) (ht : P.underlying t = some (.map k e)) (he : P.underlying e = some (.int q))
    (hz : ∀ u : World, (zeroValue e).run P u = .ok (.int q 0) u) (hn : n < maxLen) {key : Value} {kl : Lit} (hkey : keyOf P k key = some kl) :
    ∃ (c : Int) (v0 : Value) (st : Nat) (w1 : World), D.atKey kl (.lit (.int q 0)) = .lit (.int q c) ∧ (Lit.int q c).wf = true ∧ (Instr.lookup t (.map (some b)) key false).run P w = .ok (.int q c) w ∧
      (Instr.mapEntry t (.map (some b)) key).run P w = .ok (.tuple #[v0, goInt st]) w1 ∧ (Instr.lookup t (.map (some b)) key false).run P w1 = .ok (.int q c) w1 ∧
      ∀ x : Int, (Lit.int q x).wf = true → ∃ w2, (Instr.entryStore t (.map (some b)) (goInt st) (.int q x)).run P w1 = .ok () w2 ∧ w2.ownsMap P k (plainElem P e) b (n + 1) (D.put kl (.lit (.int q x))) ∧ w.grownBy w2 (some b) := by
  have KK := Keyed.of_law K
  obtain ⟨c, hlook, hat, hwc⟩ := h.lookup_int KK ht he (hz w) hkey
  obtain ⟨es, clock, hb, F, hs, hD⟩ := id h
  obtain ⟨v0, st, es1, clock1, hME, -, hES⟩ := WideElems.entry_then_store K ht hz hb F hkey
  -- the world behind the entry is that behind a store of what was there
  obtain ⟨w', hup, hown', hgr'⟩ := h.update KK ht hn hkey (plainElem_int he hwc)
  have hw1 : setBlock w b (.map es1 clock1) = w' := by
    rcases K.find w hkey es.toList F.keys with ⟨h1, h2⟩ | ⟨j, e0, h1, h2, h3⟩
    · have l1 : (Instr.lookup t (.map (some b)) key false).run P w = .ok (.int q 0) w := by
        simp [Instr.lookup, run_underlying ht, MapKept.run_getObj_map hb, KK.check w _ hkey, h1, hz, Result.andThen]
      rw [hlook] at l1
      simp only [Result.ok.injEq, Value.int.injEq, true_and, and_true] at l1
      subst l1
      have m1 : (Instr.mapEntry t (.map (some b)) key).run P w = .ok (.tuple #[.int q 0, goInt clock]) (setBlock w b (.map (es.push ⟨key, .int q 0, clock⟩) (clock + 1))) := by
        simp [Instr.mapEntry, run_underlying ht, MapKept.run_getObj_map hb, K.check w false hkey, h1, hz, MapKept.run_setObj_map _ hb, Result.andThen, setBlock]
      have u1 : (Instr.mapUpdate t (.map (some b)) key (.int q 0)).run P w = .ok () (setBlock w b (.map (es.push ⟨key, .int q 0, clock⟩) (clock + 1))) := by
        simp [Instr.mapUpdate, run_underlying ht, MapKept.run_getObj_map hb, K.check w false hkey, h1, MapKept.run_setObj_map _ hb, Result.andThen, setBlock]
      rw [hME] at m1
      rw [hup] at u1
      simp only [Result.ok.injEq, true_and] at m1 u1
      rw [m1.2, u1]
    · have hj : es[j]? = some e0 := by simpa using h2
      have l1 : (Instr.lookup t (.map (some b)) key false).run P w = .ok e0.val w := by
        simp [Instr.lookup, run_underlying ht, MapKept.run_getObj_map hb, KK.check w _ hkey, h1, Result.andThen]
      rw [hlook] at l1
      simp only [Result.ok.injEq, and_true] at l1
      have hsame : es.modify j (fun e => { e with key := key }) = es := by
        apply Array.ext'
        rw [Array.toList_modify, modify_eq_set _ _ _ _ h2]
        have : ({ e0 with key := key } : MapEntry) = e0 := by rw [← h3]
        rw [this]
        exact WideElems.set_self _ _ _ h2
      have hsame2 : es.modify j (fun e => { e with key := key, val := .int q c }) = es := by
        apply Array.ext'
        rw [Array.toList_modify, modify_eq_set _ _ _ _ h2]
        have : ({ e0 with key := key, val := .int q c } : MapEntry) = e0 := by rw [← h3, l1]
        rw [this]
        exact WideElems.set_self _ _ _ h2
      have m1 : (Instr.mapEntry t (.map (some b)) key).run P w = .ok (.tuple #[e0.val, goInt e0.born]) (setBlock w b (.map es clock)) := by
        simp [Instr.mapEntry, run_underlying ht, MapKept.run_getObj_map hb, K.check w false hkey, h1, hj, h3, K.stays w hkey, hsame, MapKept.run_setObj_map _ hb, Result.andThen, setBlock]
      have u1 : (Instr.mapUpdate t (.map (some b)) key (.int q c)).run P w = .ok () (setBlock w b (.map es clock)) := by
        simp [Instr.mapUpdate, run_underlying ht, MapKept.run_getObj_map hb, K.check w false hkey, h1, hj, h3, K.stays w hkey, hsame2, MapKept.run_setObj_map _ hb, Result.andThen, setBlock]
      rw [hME] at m1
      rw [hup] at u1
      simp only [Result.ok.injEq, true_and] at m1 u1
      rw [m1.2, u1]
  refine ⟨c, v0, st, w', hat, hwc, hlook, by rw [hME, hw1], ?_, fun x hx => ?_⟩
  · obtain ⟨c2, hl2, hat2, -⟩ := hown'.lookup_int KK ht he (hz w') hkey
    have hm : Maps.IsMap D := ⟨_, hD⟩
    rw [Maps.atKey_put_same hm (KK.key hkey)] at hat2
    simp only [DataW.lit.injEq, Lit.int.injEq, true_and] at hat2
    rw [hl2, hat2]
  · have hblk : w'.heap[b]? = some (.map es1 clock1) := by rw [← hw1]; exact heap_setBlock_same hb _
    obtain ⟨es', clock', hst, hup2⟩ := hES w' (.int q x) hblk
    obtain ⟨w3, hup3, hown3, hgr3⟩ := h.update KK ht hn hkey (plainElem_int he hx)
    rw [hup2] at hup3
    simp only [Result.ok.injEq, true_and] at hup3
    have e2 : setBlock w' b (.map es' clock') = w3 := by
      rw [← hw1, ← hup3]
      simp [setBlock]
    exact ⟨w3, by rw [hst, e2], hown3, hgr3⟩

theorem wp_lookupR {P : Program} {o : Oper} {a : Act} {w : World} {K : Act → World → Prop} {Q : Exit → Act → World → Prop} (t : TypeId) (m x : Operand) (ho : o.op = .lookup t m x false) {mv key v : Value} (hm : a.eval m = mv) (hx : a.eval x = key)
    (hrun : (Instr.lookup t mv key false).run P w = .ok v w) (h : K (a.put o.dst v) w) : Oper.wp P o a w K Q := by
  unfold Oper.wp
  simp [execOp, ho, hm, hx, hrun, Result.andThen]
  exact h
theorem wp_mapEntryR {P : Program} {o : Oper} {a : Act} {w w1 : World} {K : Act → World → Prop} {Q : Exit → Act → World → Prop} (t : TypeId) (m x : Operand) (ho : o.op = .mapEntry t m x) {mv key v : Value} (hm : a.eval m = mv) (hx : a.eval x = key)
    (hrun : (Instr.mapEntry t mv key).run P w = .ok v w1) (h : K (a.put o.dst v) w1) : Oper.wp P o a w K Q := by
  unfold Oper.wp
  simp [execOp, ho, hm, hx, hrun, Result.andThen]
  exact h
theorem wp_entryStoreR {P : Program} {o : Oper} {a : Act} {w w1 : World} {K : Act → World → Prop} {Q : Exit → Act → World → Prop} (t : TypeId) (m s x : Operand) (ho : o.op = .entryStore t m s x) {mv sv xv : Value} (hm : a.eval m = mv) (hs : a.eval s = sv) (hx : a.eval x = xv)
    (hrun : (Instr.entryStore t mv sv xv).run P w = .ok () w1) (h : K (a.put o.dst undef) w1) : Oper.wp P o a w K Q := by
  unfold Oper.wp
  simp [execOp, ho, hm, hs, hx, hrun, Result.andThen]
  exact h
end Go.Proofs.YtcdhmlalpjcidaaDoor
