/-
  SortCrate: what it answers; copy of structs; mathematics and the operation's law. No condition.
-/
import Derived.Test.YtlfamfdgphhbcaaDoorIsB
import Derived.Test.YtlfamfdgphhbcaaDoorGb
import Derived.Test.YtlfamfdgphhbcaaDoorGk
import Derived.Test.YtlfamfdgphhbcaaDoorQ
import Derived.Test.YtlfamfdgphhbcaaDoorAp
import Derived.Laws.CopyRow
namespace Go.Proofs.YtlfamfdgphhbcaaDoor
open Go.ChangeShapes Go.WideShapes Go.ChangeAt Go.RowKit Go.Deep

def srtL (bs : List Bot) : List Bot := isL (fun a b => decide (cmpB a b < 0)) (allB bs 12)
theorem srtL_len (bs : List Bot) : (srtL bs).length = (allB bs 12).length := isL_len _ _
theorem srtL_le (bs : List Bot) : (srtL bs).length ≤ 12 := by rw [srtL_len]; exact allB_length bs 12
/-- The first i places hold the first i bottles of the list, the others nothing. -/
def srtO (Z : List Bot) (i : Nat) : List Bot := Z.take i ++ List.replicate (12 - i) (0, 0)
theorem srtO_len {Z : List Bot} {i : Nat} (h : i ≤ Z.length) (h2 : i ≤ 12) : (srtO Z i).length = 12 := by simp [srtO]; omega
theorem srtO_zero (Z : List Bot) : srtO Z 0 = noB := rfl
theorem srtO_set {Z : List Bot} {i : Nat} {b : Bot} (hb : Z[i]? = some b) (h : i < 12) : (srtO Z i).set i b = srtO Z (i + 1) := by
  have hl := (List.getElem?_eq_some_iff.1 hb).1
  have h1 : (Z.take i).length = i := by rw [List.length_take]; omega
  unfold srtO
  rw [List.take_add_one, hb, List.set_append_right _ _ (by omega), h1, Nat.sub_self, show 12 - i = (12 - (i + 1)) + 1 from by omega, List.replicate_succ, List.set_cons_zero]
  simp
def srtB (bs : List Bot) : List Bot := srtO (srtL bs) (srtL bs).length
theorem srtB_len (bs : List Bot) : (srtB bs).length = 12 := srtO_len (Nat.le_refl _) (srtL_le bs)
theorem cells_zero (n : Nat) : ccells (List.replicate n ((0, 0) : Bot)) = (List.replicate n [Value.int .u8 0, Value.int .i16 0]).flatten := by
  rw [ccells, List.flatMap_replicate]
  rfl
theorem srtB_cells (Z : List Bot) (h : Z.length ≤ 12) : (ccells noB).take 0 ++ ccells Z ++ (ccells noB).drop (0 + Z.length * 2) = ccells (srtO Z Z.length) := by
  have e : noB = List.replicate Z.length (0, 0) ++ List.replicate (12 - Z.length) (0, 0) := by
    rw [List.replicate_append_replicate, show Z.length + (12 - Z.length) = 12 from by omega]; rfl
  have e2 : (ccells noB).drop (Z.length * 2) = ccells (List.replicate (12 - Z.length) (0, 0)) := by
    rw [e, ccells, List.flatMap_append]
    have hl : (List.flatMap bcells (List.replicate Z.length ((0, 0) : Bot))).length = Z.length * 2 := by rw [rows_length bcells_length, List.length_replicate]
    rw [List.drop_append_of_le_length (by omega), List.drop_of_length_le (by omega)]
    rfl
  rw [Nat.zero_add, e2, List.take_zero, List.nil_append, srtO, List.take_of_length_le (Nat.le_refl _), ccells, ccells, ccells, List.flatMap_append]
/-- What SortCrate answers. -/
def srtV (bs : List Bot) (ok : Bool) : Value := if ok = true then .tuple #[.agg (ccells (srtB bs)).toArray, .int .i64 0] else .tuple #[.agg (ccells noB).toArray, .int .i64 1]
theorem mem_allB {bs : List Bot} (hwf : WfC bs) {b : Bot} (h : b ∈ allB bs 12) : wfB b := by
  unfold allB at h
  obtain ⟨j, -, rfl⟩ := List.mem_map.1 h
  rw [List.getD_eq_getElem?_getD]
  cases he : bs[j]? with
  | none => simp [wfB]
  | some b => exact hwf.2 b (List.mem_of_getElem? he)
theorem lt_cmp (a b : Bot) : decide (cmpB a b < 0) = ltB a b := cmp_lt a b
theorem srtL_is {bs Y : List Bot} (hp : Y.Perm (allB bs 12)) (hs : SrtTo Y Y.length) : Y = srtL bs := by
  refine SrtTo.same (hp.trans (isL_perm _ _).symm) hs ?_
  have h := isL_srt (lt := fun a b => decide (cmpB a b < 0)) (fun a b h => by rw [lt_cmp] at *; exact ltB_asymm h) (fun a b c h1 h2 => by rw [lt_cmp] at *; exact ltB_le h1 h2) (allB bs 12)
  intro p q a b hpq hq ha hb
  obtain ⟨h1, rfl⟩ := List.getElem?_eq_some_iff.1 ha
  obtain ⟨h2, rfl⟩ := List.getElem?_eq_some_iff.1 hb
  have := List.pairwise_iff_getElem.1 h p q h1 h2 hpq
  rw [lt_cmp] at this
  exact this
theorem cmpB_in (a b : Bot) : -100000 ≤ cmpB a b ∧ cmpB a b ≤ 100000 := by
  unfold cmpB
  repeat' split
  all_goals omega

theorem run_copy_rowM {P : Program} (w : World) (dT sT ty elem : TypeId) (g o dLen dCap : Nat) (a : Addr) (sLen sCap n m : Nat) (cur : Array Value) (t : TypeId) (cs : List Value)
    (hu : P.underlying dT = some (.slice elem)) (hs : (P.info? elem).map (·.size) = some m)
    (hg : w.heap[g]? = some (.cells cur t (0, 0))) (hm : Nat.min sLen dLen = n) (hn : cs.length = n * m)
    (hsrc : ∀ j v, cs[j]? = some v → w.cell? (a.add j) = some v) (hfit : o + cs.length ≤ cur.size) (h1 : ∀ v ∈ cs, v.oneCell' = true) :
    (Builtin.copy_ #[dT, sT] ty #[.slice (some ⟨g, o, none⟩) dLen dCap, .slice (some a) sLen sCap]).run P w =
      .ok (goInt n) (w.setRow g (cur.toList.take o ++ cs ++ cur.toList.drop (o + cs.length)).toArray) := by
  have hl := run_loadCells_list (P := P) w a cs hsrc
  have hst := run_storeCells_at P g o t cs 0 cur w hg (by simpa using hfit) h1
  cases hq : P.info? elem with
  | none => simp [hq] at hs
  | some i =>
    have hi : i.size = m := by simpa [hq] using hs
    simp [Builtin.copy_, run_underlying hu, Builtin.lenOf, Builtin.firstCells, sizeOf, typeInfo, hq, hi, hm, ← hn, hl, hst]
theorem run_copy_nilM {P : Program} (w : World) (dT sT ty elem : TypeId) (a : Addr) (dLen dCap : Nat) (hu : P.underlying dT = some (.slice elem)) (hs : ((P.info? elem).map (·.size)).isSome = true) :
    (Builtin.copy_ #[dT, sT] ty #[.slice (some a) dLen dCap, .slice none 0 0]).run P w = .ok (goInt 0) w := by
  cases hq : P.info? elem with
  | none => simp [hq] at hs
  | some i => simp [Builtin.copy_, run_underlying hu, Builtin.lenOf, Builtin.firstCells, sizeOf, typeInfo, hq, storeCells]
theorem wp_copyM {P : Program} {w : World} {o : Oper} {a : Act} {K : Act → World → Prop} {Q : Exit → Act → World → Prop} (d s : Operand) (dT sT : TypeId)
    (ho : o.op = .call { callee := .builtin .copy, args := #[d, s], argTypes := #[dT, sT] }) (v1 v2 r : Value) (w' : World) (hd : a.eval d = v1) (hs : a.eval s = v2)
    (hrun : (Builtin.copy_ #[dT, sT] o.type #[v1, v2]).run P w = .ok r w') (h : K (a.put o.dst r) w') : o.wp P a w K Q := by
  unfold Oper.wp
  simp [execOp, ho, resolve, invoke, builtin, hd, hs, hrun, Result.andThen]
  exact h

theorem results_cell_tmp {P : Program} {fn : Func} {p q : Tmp} {ty : TypeId} {v2 : Value} (h : fn.results = #[.cell p ty, .tmp q]) (tmps : Array Value) (hq : tmps.getD q undef = v2) (w : World) (g : Nat) (t : TypeId) (cs : Array Value) (fr : Nat × Nat) (d : TypeDesc)
    (hp : tmps.getD p undef = .pointer (some ⟨g, 0, none⟩)) (hg : w.heap[g]? = some (.cells cs t fr))
    (hu : P.underlying ty = some d) (hd : (match d with | .struct _ | .array _ _ => true | _ => false) = true) (hi : (P.info? ty).map (·.size) = some cs.size) :
    (results fn tmps).run P w = .ok (.tuple #[.agg cs, v2]) w := by
  subst hq
  have hp' : tmps[p]?.getD undef = .pointer (some ⟨g, 0, none⟩) := by simpa using hp
  simp [results, h, hp', asAddr, run_loadVar_row w g t ty cs fr d hg hu hd hi]
theorem CBlk.rowOther {w : World} {B B' : Nat} {t : TypeId} {X : List Bot} (h : CBlk w B t X) (hne : B ≠ B') (cs : Array Value) : CBlk (w.setRow B' cs) B t X := (setRow_other w B' B cs hne).trans h
end Go.Proofs.YtlfamfdgphhbcaaDoor
