/-
  The contract of the iterator of placesWith where the body may write to whatever but the block of the predicate. Condition: the crate's length, that its numbers fit their kinds, and that the predicate answers as told, whatever the memory.
-/
import Derived.Test.YtcdhmlalpjcidaaDoorJ
namespace Go.Proofs.YtcdhmlalpjcidaaDoor
open Go.RowKit Go.Shelf
attribute [local go_sem] Oper.semAt_some

/-- Block Bf lies as it lay. -/
def KeepB (Bf : Nat) (W W' : World) : Prop := W.heap.size ≤ W'.heap.size ∧ W'.heap[Bf]? = W.heap[Bf]?
theorem KeepB.refl (Bf : Nat) (W : World) : KeepB Bf W W := ⟨Nat.le_refl _, rfl⟩
theorem KeepB.trans {Bf : Nat} {A B C : World} (h : KeepB Bf A B) (k : KeepB Bf B C) : KeepB Bf A C := ⟨Nat.le_trans h.1 k.1, k.2.trans h.2⟩
theorem KeepB.of {Bf : Nat} {A B : World} (h : Below A.heap.size A B) (hl : Bf < A.heap.size) : KeepB Bf A B := ⟨h.size, h.block Bf hl⟩
theorem keepB_b {Bf n : Nat} (hn : Bf < n) : ∀ (W : World) (l : Nat) (o o' : Obj), n ≤ l → W.heap[l]? = some o → o.isCells = false → o.isWalk = false → KeepB Bf W (W.putObj l o') :=
  fun W l _ o' hl _ _ _ => ⟨by simp, World.putObj_heap_other (by omega)⟩

set_option maxRecDepth 100000 in
set_option maxHeartbeats 2000000 in
theorem places_stopsB (bs : List Bot) (hwf : WfC bs) (p : Bot → Bool) (g : Nat) (lb : Array Value) (eg : ∀ args w, (callFunc g args).run Tryd.prog w = .ok (.enter g args) w) (n : Nat) (hn : 2 ≤ n)
    (Bc Bf : Nat) (w : World) (hp : ∀ (b : Bot) (W : World), wfB b → Calls Tryd.prog g (#[.agg #[.int .u8 b.1, .int .i16 b.2]] ++ lb) W fun e W' => e = .returned (.bool (p b)) ∧ Below W.heap.size W W') (hBc : CBlk w Bc 30 bs) (hBf : Bf < w.heap.size) (hcf : w.cell? ⟨Bf, 0, none⟩ = some (.func (.func g) #[] lb)) :
    SeqStopsK Fence.wide n Tryd.prog 110 #[.pointer (some ⟨Bc, 0, none⟩), .pointer (some ⟨Bf, 0, none⟩)] (fun x : Pl bs p => #[.int .i64 (x.1 : Int)]) (KeepB Bf) (fun xs => xs = plTo bs p 12) (fun pre => pre <+: plTo bs p 12) 12 w := by
  intro l J Jx W hW hJ hJx hY h0
  have HY := Lib.hid hY
  have HP := Lib.hid hp
  have HW := Lib.hid hwf
  have HJ := Lib.hid hJ
  have hrow := Lib.hid (hBc.below hW hBc.lt)
  have hcfW := (hW.cell (p := ⟨Bf, 0, none⟩) hBf).trans hcf
  have HF := Lib.hid hcfW
  clear hY hp hwf hW hBc hcf hcfW hJ hJx
  refine callsIn_of_wp Tryd.func110 rfl trivial ?_ rfl
  simp only [Tryd.ntmps110, List.size_toArray, List.length_cons, List.length_nil, Nat.reduceAdd, Nat.reduceSub, Array.replicate_succ, Array.replicate_zero, List.push_toArray, List.append_toArray, List.nil_append, List.cons_append]
  gi_wp2_with (refine wpListIn_load_rowC rfl 30 (.tmp 1) rfl Bc rfl 30 _ (0, 0) _ hrow.out Tryd.underlying30 rfl (size_of_crate Tryd.sizeCr _ HW.out.1) ?_)
  clear hrow
  gi_loopw [7] (fun i wr => ∃ k : Nat, k ≤ 12 ∧ i = .int .i64 k ∧ J (plTo bs p k) wr ∧ KeepB Bf W wr)
    (fun i _ => 12 - (intOf i).toNat)
  case atStart => exact ⟨0, by omega, rfl, h0, KeepB.refl _ _⟩
  case round =>
    obtain ⟨k, hk, rfl, hJs, hB⟩ := hrel
    have HJs := Lib.hid hJs
    have HB := Lib.hid hB
    clear hJs hB
    by_cases hlt : k < 12
    · obtain ⟨k1, y1, hbk, wk, wy⟩ := HW.out.at_ hlt
      have Hk := Lib.hid hbk
      have hix := run_index_crate (P := Tryd.prog) Tryd.underlying30 Tryd.isAgg26 Tryd.sizeOf26 bs hbk hlt
      clear hbk
      have hlb : Bf < wr.heap.size := by
        have h1 := HB.out.1
        have h2 := block_lt_of_cell HF.out
        exact Nat.lt_of_lt_of_le h2 h1
      have hcf : (wr.alloc (.cells #[.int .u8 k1, .int .i16 y1] 26)).cell? ⟨Bf, 0, none⟩ = some (.func (.func g) #[] lb) :=
        (World.cell?_alloc_lt wr _ ⟨Bf, 0, none⟩ hlb).trans ((World.cell?_of_block HB.out.2).trans HF.out)
      gi_wp2_with fail
      refine ⟨trivial, (fun h => by cases h), ?_⟩
      refine (callsIn_wide.2 (HP.out (k1, y1) _ ⟨wk.1, wk.2, wy.1, wy.2⟩)).mono ?_
      rintro e w1 ⟨rfl, hb1⟩
      have hg1 : Below wr.heap.size wr w1 := ((Below.refl _ wr).alloc (Nat.le_refl _) _).trans (hb1.mono (by simp))
      have HG := Lib.hid hg1
      have HJ1 : Hid (J (plTo bs p k) w1) := HJ.out _ _ _ none HJs.out (grown_of_below hg1) (fun r e => by cases e)
      clear hb1 hg1 hcf hix
      cases hpk : p (k1, y1)
      · have hno : (bs[k]?.any p) = false := by rw [Hk.out]; exact hpk
        have HN := Lib.hid hno
        have HPK := Lib.hid hpk
        clear hno hpk
        gi_wp2
        refine ⟨(fun _ h => by cases h), ?_⟩
        gi_wp2
        go_roundw
        case rel => exact ⟨k + 1, by omega, by go_num, by rw [plTo_no HN.out]; exact HJ1.out, HB.out.trans (KeepB.of HG.out hlb)⟩
        case measure => simp [intOf]; omega
      · have hyes : (bs[k]?.any p) = true := by rw [Hk.out]; exact hpk
        have HN := Lib.hid hyes
        have HPK := Lib.hid hpk
        clear hyes hpk
        obtain ⟨fn, tmps, assign, body, hy, hR⟩ := HY.out (plTo bs p k) ⟨k, HN.out⟩ w1 HJ1.out (by have := plTo_length bs p k; omega)
        dsimp only at hy
        gi_wp2
        refine ⟨(fun h => by cases h), hR.mono ?_⟩
        rintro e w2 (⟨rfl, hJ2, hk2⟩ | ⟨rfl, hJx2⟩)
        · have HJ2 := Lib.hid hJ2
          have HK2 := Lib.hid hk2
          clear hJ2 hk2
          gi_wp2
          go_roundw
          case rel => exact ⟨k + 1, by omega, by go_num, by rw [plTo_yes HN.out]; exact HJ2.out, (HB.out.trans (KeepB.of HG.out hlb)).trans HK2.out⟩
          case measure => simp [intOf]; omega
        · have HJ2 := Lib.hid hJx2
          clear hJx2
          gi_wp2
          refine bodyPost_ret (results_none rfl _ _ _) rfl ?_
          exact ⟨⟨_, rfl⟩, .inr ⟨plTo bs p (k + 1), plTo_prefix (by omega), by rw [plTo_yes HN.out]; exact HJ2.out⟩⟩
    · obtain rfl : k = 12 := by omega
      gi_wp2
      go_end0
      exact ⟨⟨_, rfl⟩, .inl ⟨_, rfl, HJs.out⟩⟩

end Go.Proofs.YtcdhmlalpjcidaaDoor
