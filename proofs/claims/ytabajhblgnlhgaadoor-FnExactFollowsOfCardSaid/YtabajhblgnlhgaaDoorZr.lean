/-
  Pairs: the contract of the program's table. Condition: at most eight samples.
-/
import Derived.Test.YtabajhblgnlhgaaDoorZp
namespace Go.Proofs.YtabajhblgnlhgaaDoor
open Go.ChangeShapes Go.WideShapes Go.ChangeAt Go.RowKit Go.Deep
open Go.Maps (Keyed)

set_option maxRecDepth 100000 in
set_option maxHeartbeats 8000000 in
theorem table_any (N : Nat) (hN8 : N ≤ 8) (ps : List Pq) (hps : ps.length ≤ 6500) (B n : Nat) (D : DataW Unit) (w : World) (hO : OwnsP w B n D) (hH : Holds D ok2 kP (cntP ps)) :
    Calls Tryd.prog 43 #[.map (some B), .int .i64 N] w fun e w' => ∃ A' c' hs, e = .returned (.slice A' N c') ∧ OwnN w' w.heap.size 23 2 1 icells A' c' hs (tbL ps N N) ∧ Below w.heap.size w w' := by
  obtain ⟨i0, hi, hz0, hz1, hz2⟩ := info_parts Tryd.info64
  have HI := Lib.hid hi
  have HZ0 := Lib.hid hz0
  have HZ1 := Lib.hid hz1
  have HZ2 := Lib.hid hz2
  obtain ⟨j0, hj, hy0, hy1, hy2⟩ := info_parts Tryd.infoLN
  have HJ := Lib.hid hj
  have HY0 := Lib.hid hy0
  have HY1 := Lib.hid hy1
  have HY2 := Lib.hid hy2
  clear hi hz0 hz1 hz2 hj hy0 hy1 hy2
  have HL : Hid (∀ (W : World), Below w.heap.size w W → ∀ (i k : Nat), i < N → k < N → (Instr.lookup 54 (.map (some B)) (.agg #[.int .i64 (i : Int), .int .i64 (k : Int)]) false).run Tryd.prog W = .ok (.int .i64 (cntP ps ((i : Int), (k : Int)))) W) := fun W hW i k hi hk =>
    tally_look (p := ((i : Int), (k : Int))) (hO.kept (grown_of_below hW) (by simp)) hH ⟨⟨by show (0 : Int) ≤ i; omega, by show (i : Int) < 9; omega⟩, ⟨by show (0 : Int) ≤ k; omega, by show (k : Int) < 9; omega⟩⟩
  clear hO hH
  have HO0 : Hid (OwnN w w.heap.size 23 2 1 icells none 0 [] (tbL ps N 0)) := OwnN.nil _ _ _ _ _ _
  have HB0 : Hid (Below w.heap.size w w) := Below.refl _ _
  go_enter Tryd.func43, Tryd.ntmps43
  go_wp2_with fail
  go_loopw [5, 10] (fun v j wr => ∃ (i : Nat) (A1 : Option Addr) (c1 : Nat) (hs : List Hd), i ≤ N ∧ j = .int .i64 i ∧ v = .slice A1 hs.length c1 ∧ OwnN wr w.heap.size 23 2 1 icells A1 c1 hs (tbL ps N i) ∧ Below w.heap.size w wr)
    (fun _ j _ => N - (intOf j).toNat)
  case atStart => exact ⟨0, none, 0, [], by omega, rfl, rfl, HO0.out, HB0.out⟩
  case round =>
    clear HO0 HB0
    obtain ⟨i, A1, c1, hs, hi, rfl, rfl, hO, hB⟩ := hrel
    obtain ⟨wa, rfl⟩ : ∃ u, u = wr := ⟨_, rfl⟩
    have HO := Lib.hid hO
    have HB := Lib.hid hB
    have HHl : Hid (hs.length = i) := hO.2.1.trans (tbL_len ps N i)
    clear hO hB
    have hi0 : (0 : Int) ≤ (i : Int) := Int.natCast_nonneg _
    by_cases hlt : i < N
    · have hi8 : (i : Int) < N := by omega
      have hHl : hs.length ≤ 8 := by have := HHl.out; omega
      have HSt : Hid (tbL ps N (i + 1) = tbL ps N i ++ [tbR ps i N]) := tbL_succ ps N i
      have HO2 : Hid (wa.ownsRow wa.heap.size 2 1 (.slice none 0 0) 0 ((tbR ps i 0).flatMap icells)) := ⟨rfl, .inl ⟨rfl, rfl⟩⟩
      have HB2 : Hid (Below wa.heap.size wa wa) := Below.refl _ _
      go_wp2_with fail
      go_loopw [7, 14] (fun v j wr2 => ∃ (q : Nat) (A2 : Option Addr) (c2 : Nat), q ≤ N ∧ j = .int .i64 q ∧ v = .slice A2 q c2 ∧ wr2.ownsRow wa.heap.size 2 1 (.slice A2 q c2) q ((tbR ps i q).flatMap icells) ∧ Below wa.heap.size wa wr2)
        (fun _ j _ => N - (intOf j).toNat)
      case atStart => exact ⟨0, _, _, by omega, rfl, rfl, HO2.out, HB2.out⟩
      case round =>
        clear HO2 HB2
        obtain ⟨q, A2, c2, hq, rfl, rfl, hO2, hB2⟩ := hrel
        obtain ⟨wb, rfl⟩ : ∃ u, u = wr := ⟨_, rfl⟩
        have HO2 := Lib.hid hO2
        have HB2 := Lib.hid hB2
        clear hO2 hB2
        have hq0 : (0 : Int) ≤ (q : Int) := Int.natCast_nonneg _
        by_cases hlt2 : q < N
        · have hq8 : (q : Int) < N := by omega
          have HSt2 : Hid (tbR ps i (q + 1) = tbR ps i q ++ [((cntP ps ((i : Int), (q : Int)) : Nat) : Int)]) := tbR_succ ps i q
          have hLk := HL.out wb (HB.out.trans (HB2.out.mono HB.out.size)) i q hlt hlt2
          obtain ⟨x, hx⟩ : ∃ x, ((cntP ps ((i : Int), (q : Int)) : Nat) : Int) = x := ⟨_, rfl⟩
          rw [hx] at HSt2 hLk
          have HLk := Lib.hid hLk
          clear hx hLk
          go_wp2_with (first
            | (refine wpList_lookupR rfl 54 (.tmp 18) (.tmp 21) rfl rfl rfl HLk.out ?_)
            | (at_builtin; refine wpList_append_own _ rfl (.tmp 17) (.tmp 23) 23 rfl wa.heap.size 2 i0 (.int .i64 0) 1 8 Tryd.underlying23 HI.out HZ0.out HZ1.out HZ2.out rfl (by decide) _ _ _ rfl (HO2.out.alloc _) ⟨wb.heap.size, 0, none⟩ 1 1 [.int .i64 x] rfl rfl ?e1 ?e2 ?e3 ?e4 ?e5 ?_))
          case e1 =>
            intro j u hj
            match j, hj with
            | 0, hj =>
              simp at hj
              subst hj
              simp [Addr.add]
          case e2 => simp [Value.oneCell']
          case e3 => unfold maxLen; omega
          case e4 => omega
          case e5 => have := HB2.out.size; simp; omega
          intro v' w8 hown' hgrow _
          have hown8 : w8.ownsRow wa.heap.size 2 1 v' (tbR ps i (q + 1)).length ((tbR ps i (q + 1)).flatMap icells) := by rw [HSt2.out, List.length_append, List.flatMap_append, tbR_len]; exact hown'
          obtain ⟨A8, c8, rfl, -, -⟩ := own_rd icells_length hown8
          rw [tbR_len] at hown8 ⊢
          have HO8 := Lib.hid hown8
          have HB8 : Hid (Below wa.heap.size wa w8) := (HB2.out.alloc HB2.out.size _).grown hgrow (by have := HB2.out.size; simp; omega) (fun r e => (HO2.out.lt r e).1)
          clear hown' hgrow hown8
          go_wp2
          go_roundw
          case rel => exact ⟨q + 1, A8, c8, by omega, by go_num, by first | rfl | simp, by simpa using HO8.out, HB8.out⟩
          case measure => simp [intOf]; omega
        · obtain rfl : q = N := by omega
          have hyx : Hid (q = (tbR ps i q).length) := (tbR_len ps i q).symm
          obtain ⟨ys, hys⟩ : ∃ ys, tbR ps i q = ys := ⟨_, rfl⟩
          rw [hys] at HO2 HSt hyx
          have HO9 : Hid (wb.ownsRow wa.heap.size 2 1 (.slice A2 ys.length c2) ys.length (ys.flatMap icells)) := by show World.ownsRow _ _ _ _ _ _ _; rw [← hyx.out]; exact HO2.out
          have HBn : Hid (Below wb.heap.size wb (wb.alloc (.cells (hcells (A2, ys.length, c2)).toArray 23))) := (Below.refl _ _).alloc (Nat.le_refl _) _
          have HN2 := Lib.hid (HO.out.keep HB2.out)
          have HSr := Lib.hid (src_hd (P := Tryd.prog) Tryd.underlying22 wb (A2, ys.length, c2))
          have HBs : Hid (w.heap.size ≤ wb.heap.size + 1) := by have := HB.out.size; have := HB2.out.size; show _ ≤ _; omega
          rw [show (Value.slice A2 q c2) = Value.slice A2 ys.length c2 from by rw [← hyx.out]]
          clear hys HO2
          go_wp2_with (first | (at_builtin; refine wpList_append_any _ rfl (.tmp 26) (.tmp 28) 22 22 rfl w.heap.size 23 j0 (.slice none 0 0) 1 24 Tryd.underlying22 HJ.out HY0.out HY1.out HY2.out rfl (by decide) _ hs.length (hs.flatMap hcells) rfl ?o1 _ 1 (hcells (A2, ys.length, c2)) rfl ?o2 ?o3 ?o4 ?o5 ?_))
          case o1 => exact (HN2.out.keep HBn.out).1
          case o2 => exact HSr.out
          case o3 => unfold maxLen; omega
          case o4 => omega
          case o5 => have := HBs.out; simp; omega
          intro v' w8 hown' hgrow hblk
          obtain ⟨A8, c8, rfl⟩ : ∃ A8 c8, v' = .slice A8 (hs.length + 1) c8 := by
            rcases hown'.2 with ⟨h1, h2⟩ | ⟨g, cap, cur, h1, -⟩
            · exact ⟨_, _, by rw [h1, h2]⟩
            · exact ⟨_, _, h1⟩
          rw [ownBlock_slice] at hgrow hblk
          rw [ownBlock_slice] at hblk
          have hN8' := HO.out.snoc HB.out.size (HB2.out.trans (HBn.out.mono HB2.out.size)) (own_keep' HO9.out HBn.out) hown' hgrow (hblk.imp id (fun h => h.trans (by simp)))
          rw [← HSt.out] at hN8'
          have HN8 := Lib.hid hN8'
          have HB8 : Hid (Below w.heap.size w w8) := by
            show Below _ _ _
            have h1 := HB.out.trans ((HB2.out.trans (HBn.out.mono HB2.out.size)).mono HB.out.size)
            exact h1.grown hgrow h1.size (fun r e => (own_block HO.out.1 (by rw [ownBlock_slice]; exact e)).1)
          clear hown' hgrow hblk hN8' HN2 HBn
          go_wp2
          go_roundw
          case rel => exact ⟨i + 1, A8, c8, _, by omega, by go_num, by first | rfl | simp, HN8.out, HB8.out⟩
          case measure => simp [intOf]; omega
    · obtain rfl : i = N := by omega
      have HLn := Lib.hid HHl.out
      go_wp2
      go_ret
      exact ⟨A1, c1, hs, by (rw [HLn.out]; first | done | rfl), HO.out, HB.out⟩
end Go.Proofs.YtabajhblgnlhgaaDoor
