/-
  A crate in a list: its cells. No condition.
-/
import Derived.Test.YtcdhmlalpjcidaaDoorR
import Derived.Test.YtcdhmlalpjcidaaDoorFlat
namespace Go.Proofs.YtcdhmlalpjcidaaDoor
open Go.ChangeShapes Go.WideShapes Go.ChangeAt Go.RowKit Go.Deep

/-- A crate: twelve bottles whose numbers fit their kinds. -/
abbrev Crt := { bs : List Bot // WfC bs }
def kcells (x : Crt) : List Value := ccells x.1
theorem kcells_length (x : Crt) : (kcells x).length = 24 := by simp [kcells, ccells_length, x.2.1]
theorem kcells_one (x : Crt) : (kcells x).toArray.all (·.oneCell') = true := ccells_one x.1
theorem wfNo : WfC noB := ⟨rfl, by intro b hb; simp [noB] at hb; subst hb; simp [wfB]⟩
theorem size_k {P : Program} {t : TypeId} (h : (P.info? t).map (·.size) = some 24) (x : Crt) : (P.info? t).map (·.size) = some (kcells x).length := by rw [kcells_length]; exact h
theorem size_k' {P : Program} {t : TypeId} (h : (P.info? t).map (·.size) = some 24) (x : Crt) : (P.info? t).map (·.size) = some (kcells x).toArray.size := by rw [List.size_toArray, kcells_length]; exact h
def zCrt : Crt := ⟨noB, wfNo⟩
theorem bots_of : ∀ (n : Nat) (cs : List Value), FitsL (List.replicate n [IntKind.u8, IntKind.i16]).flatten cs → ∃ bs : List Bot, bs.length = n ∧ cs = ccells bs ∧ ∀ b ∈ bs, wfB b
  | 0, cs, h => by
    have : cs = [] := by
      cases cs with
      | nil => rfl
      | cons c cs => exact h.elim
    subst this
    exact ⟨[], rfl, rfl, by simp⟩
  | n + 1, cs, h => by
    rw [List.replicate_succ, List.flatten_cons] at h
    obtain ⟨c1, c2, rfl, h1, h2⟩ := FitsL.split h
    obtain ⟨bs, hl, rfl, hwf⟩ := bots_of n c2 h2
    match c1, h1.length, h1 with
    | [d0, d1], _, h1 =>
      obtain ⟨⟨k, rfl, hk⟩, ⟨y, rfl, hy⟩, _⟩ := h1
      have hk := wf_u8 hk
      have hy := wf_i16 hy
      refine ⟨(k, y) :: bs, by simp [hl], rfl, fun b hb => ?_⟩
      rcases List.mem_cons.1 hb with rfl | hb
      · exact ⟨hk.1, hk.2, hy.1, hy.2⟩
      · exact hwf b hb
theorem kcells_of (cs : List Value) (h : FitsL (List.replicate 12 [IntKind.u8, IntKind.i16]).flatten cs) : ∃ b : Crt, True ∧ cs = kcells b := by
  obtain ⟨bs, hl, hc, hwf⟩ := bots_of 12 cs h
  exact ⟨⟨bs, hl, hwf⟩, trivial, hc⟩
theorem Tryd.flatBL : FlatT Tryd.prog 24 [.u8, .i16] :=
  flat_struct (fs := [_, _]) (kss := [[.u8], [.i16]]) Tryd.underlying24 (by kernel_rfl) ⟨by kernel_rfl, rfl, .int Tryd.underlying5, by kernel_rfl, rfl, .int Tryd.underlying22, trivial⟩
theorem Tryd.flatCL : FlatT Tryd.prog 25 (List.replicate 12 [IntKind.u8, IntKind.i16]).flatten :=
  .arr Tryd.underlying25 (by kernel_rfl) (by kernel_rfl) Tryd.flatBL
theorem Tryd.cellsCL : Tryd.prog.cellsOf 25 = 24 := by kernel_rfl
theorem Tryd.sizeLc : (Tryd.prog.info? 25).map (·.size) = some 24 := by kernel_rfl
theorem Tryd.infoCr : (Tryd.prog.info? 30).map (fun i => (i.zero, i.size, i.bytes)) = some (some (.agg #[.int .u8 0, .int .i16 0, .int .u8 0, .int .i16 0, .int .u8 0, .int .i16 0, .int .u8 0, .int .i16 0, .int .u8 0, .int .i16 0, .int .u8 0, .int .i16 0, .int .u8 0, .int .i16 0, .int .u8 0, .int .i16 0, .int .u8 0, .int .i16 0, .int .u8 0, .int .i16 0, .int .u8 0, .int .i16 0, .int .u8 0, .int .i16 0]), 24, 48) := by kernel_rfl
end Go.Proofs.YtcdhmlalpjcidaaDoor
