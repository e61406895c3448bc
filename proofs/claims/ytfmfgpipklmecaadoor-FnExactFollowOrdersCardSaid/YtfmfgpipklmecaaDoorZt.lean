/-
  Lists of pairs: how such a list lies, prefers, pairsThat by each taster. Condition: samples at most eight.
-/
import Derived.Test.YtfmfgpipklmecaaDoorZm
import Derived.Test.YtfmfgpipklmecaaDoorTm
import Derived.Test.YtfmfgpipklmecaaDoorAs0
namespace Go.Proofs.YtfmfgpipklmecaaDoor
open Go.ChangeShapes Go.WideShapes Go.ChangeAt Go.RowKit Go.Deep

theorem Tryd.infoPq : (Tryd.prog.info? 68).map (fun i => (i.zero, i.size, i.bytes)) = some (some (.agg #[.int .i64 0, .int .i64 0]), 2, 16) := by kernel_rfl
theorem cell_two_newP (W : World) (x y : Int) (t : TypeId) : ∀ j u, [Value.int .i64 x, Value.int .i64 y][j]? = some u → (W.alloc (.cells #[.int .i64 x, .int .i64 y] t)).cell? ((⟨W.heap.size, 0, none⟩ : Addr).add j) = some u := by
  intro j u hj
  have hK : Rs (W.alloc (.cells #[.int .i64 x, .int .i64 y] t)) W.heap.size t pqc [(x, y)] := by
    have := Blk.new W t #[Value.int .i64 x, Value.int .i64 y]
    simpa [Rs, pqc] using this
  match j, hj with
  | 0, hj => simp at hj; subst hj; exact Rs.range hK 0 _ (by simp [pqc])
  | 1, hj => simp at hj; subst hj; simp [Addr.add]
theorem two_oneP (x y : Int) : ∀ u ∈ [Value.int .i64 x, Value.int .i64 y], u.oneCell' = true := by simp [Value.oneCell']

set_option maxRecDepth 100000 in
set_option maxHeartbeats 2000000 in
theorem prefers_any (xs : List Int) (i k : Nat) (hi : i < xs.length) (hk : k < xs.length) (h8 : xs.length ≤ 8) (A : Option Addr) (c : Nat) (w : World) (hr : Rd w w.heap.size icells A xs) :
    Calls Tryd.prog 61 #[.slice A xs.length c, .agg #[.int .i64 i, .int .i64 k]] w fun e w' => e = .returned (.bool (prB xs i k)) ∧ Below w.heap.size w w' := by
  obtain ⟨x, hx⟩ : ∃ x, xs[i]? = some x := ⟨_, List.getElem?_eq_getElem hi⟩
  obtain ⟨y, hy⟩ : ∃ y, xs[k]? = some y := ⟨_, List.getElem?_eq_getElem hk⟩
  rw [prB_at hx hy]
  have HR := Lib.hid hr
  have HX := Lib.hid hx
  have HY := Lib.hid hy
  clear hr hx hy
  have hi0 : (0 : Int) ≤ (i : Int) := Int.natCast_nonneg _
  have hk0 : (0 : Int) ≤ (k : Int) := Int.natCast_nonneg _
  have hi8 : (i : Int) < xs.length := by omega
  have hk8 : (k : Int) < xs.length := by omega
  obtain ⟨W, hW⟩ : ∃ W, w.alloc (.cells #[.int .i64 i, .int .i64 k] 68) = W := ⟨_, rfl⟩
  have hB : Below w.heap.size w W := by rw [← hW]; exact (Below.refl _ w).alloc (Nat.le_refl _) _
  have hK : Rs W w.heap.size 68 pqc [((i : Int), (k : Int))] := by
    rw [← hW]
    have := Blk.new w 68 #[Value.int .i64 (i : Int), Value.int .i64 (k : Int)]
    simpa [Rs, pqc] using this
  have c0 : W.cell? ⟨w.heap.size, 0, none⟩ = some (.int .i64 i) := Rs.range hK 0 _ (by simp [pqc])
  have c1 : W.cell? ⟨w.heap.size, 1, none⟩ = some (.int .i64 k) := by have := Rs.range hK 1 (.int .i64 (k : Int)) (by simp [pqc]); simpa using this
  have hRW := HR.out.keep hB
  obtain ⟨b3, o3, rfl, hbl, hrow⟩ := hRW.at_ icells_length HX.out
  obtain ⟨b4, o4, eA, hbl4, hrow4⟩ := hRW.at_ icells_length HY.out
  obtain ⟨rfl, rfl⟩ : b3 = b4 ∧ o3 = o4 := by simpa using eA
  have e1 := rowI hrow
  have e2 := rowI hrow4
  have HB := Lib.hid hB
  clear hrow hrow4 eA hK hRW hB hbl hbl4
  go_enter Tryd.func61, Tryd.ntmps61
  go_wp2_with fail
  go_region
  go_wp2
  go_ret
  exact ⟨by simp, by first | exact HB.out | exact HB.out.drew⟩


set_option maxRecDepth 100000 in
set_option maxHeartbeats 4000000 in
theorem pairsPref_any (N : Nat) (hN8 : N ≤ 8) (xs : List Int) (A : Option Addr) (c : Nat) (w : World) (HCf : ∀ (i k : Nat), i < N → k < N → ∀ (W : World), Below w.heap.size w W → Calls Tryd.prog 61 #[.slice A xs.length c, .agg #[.int .i64 i, .int .i64 k]] W fun e w' => e = .returned (.bool (prB xs i k)) ∧ Below W.heap.size W w') :
    Calls Tryd.prog 41 #[.int .i64 N, .func (.func 61) #[.slice A xs.length c] #[]] w fun e w' => ∃ A' c', e = .returned (.slice A' (thI (prB xs) N N).length c') ∧ w'.ownsRow w.heap.size 68 2 (.slice A' (thI (prB xs) N N).length c') (thI (prB xs) N N).length ((thI (prB xs) N N).flatMap pqc) ∧ Below w.heap.size w w' := by
  obtain ⟨i0, hi, hz0, hz1, hz2⟩ := info_parts Tryd.infoPq
  have HI := Lib.hid hi
  have HZ0 := Lib.hid hz0
  have HZ1 := Lib.hid hz1
  have HZ2 := Lib.hid hz2
  clear hi hz0 hz1 hz2

  have HC := Lib.hid HCf
  clear HCf
  have HO0 : Hid (w.ownsRow w.heap.size 68 2 (.slice none 0 0) (thI (prB xs) N 0).length ((thI (prB xs) N 0).flatMap pqc)) := ⟨rfl, .inl ⟨rfl, rfl⟩⟩
  have HB0 : Hid (Below w.heap.size w w) := Below.refl _ _
  go_enter Tryd.func41, Tryd.ntmps41
  go_wp2_with fail
  go_loopw [5, 10] (fun v j wr => ∃ (i : Nat) (A1 : Option Addr) (n1 c1 : Nat), i ≤ N ∧ j = .int .i64 i ∧ v = .slice A1 n1 c1 ∧ n1 = (thI (prB xs) N i).length ∧ wr.ownsRow w.heap.size 68 2 (.slice A1 n1 c1) n1 ((thI (prB xs) N i).flatMap pqc) ∧ Below w.heap.size w wr)
    (fun _ j _ => N - (intOf j).toNat)
  case atStart => exact ⟨0, none, 0, 0, by omega, rfl, rfl, rfl, HO0.out, HB0.out⟩
  case round =>
    clear HO0 HB0
    obtain ⟨i, A1, n1, c1, hi, rfl, rfl, hn1, hO, hB⟩ := hrel
    obtain ⟨wa, rfl⟩ : ∃ u, u = wr := ⟨_, rfl⟩
    have HO : Hid (n1 = (thI (prB xs) N i ++ thK (prB xs) i 0).length ∧ wa.ownsRow w.heap.size 68 2 (.slice A1 n1 c1) n1 ((thI (prB xs) N i ++ thK (prB xs) i 0).flatMap pqc)) := by
      show _ ∧ _
      rw [show thI (prB xs) N i ++ thK (prB xs) i 0 = thI (prB xs) N i from by simp [thK]]
      exact ⟨hn1, hO⟩
    have HB := Lib.hid hB
    have HN1 := Lib.hid hn1
    clear hO hB hn1
    have hi0 : (0 : Int) ≤ (i : Int) := Int.natCast_nonneg _
    by_cases hlt : i < N
    · have hi8 : (i : Int) < N := by omega
      have hl64 := thI_len64 (prB xs) hN8 (Nat.le_of_lt hlt)
      go_wp2_with fail
      clear HN1
      go_loopw [5, 14] (fun v j wr => ∃ (k : Nat) (A2 : Option Addr) (n2 c2 : Nat), k ≤ N ∧ j = .int .i64 k ∧ v = .slice A2 n2 c2 ∧ n2 = (thI (prB xs) N i ++ thK (prB xs) i k).length ∧ wr.ownsRow w.heap.size 68 2 (.slice A2 n2 c2) n2 ((thI (prB xs) N i ++ thK (prB xs) i k).flatMap pqc) ∧ Below w.heap.size w wr)
        (fun _ j _ => N - (intOf j).toNat)
      case atStart => exact ⟨0, A1, n1, c1, by omega, rfl, rfl, HO.out.1, HO.out.2, HB.out⟩
      case round =>
        clear HO HB
        obtain ⟨k, A2, n2, c2, hk, rfl, rfl, hn2, hO, hB⟩ := hrel
        obtain ⟨wb, rfl⟩ : ∃ u, u = wr := ⟨_, rfl⟩
        have HO := Lib.hid hO
        have HB := Lib.hid hB
        have HN2 := Lib.hid hn2
        clear hO hB
        have hk0 : (0 : Int) ≤ (k : Int) := Int.natCast_nonneg _
        by_cases hlt2 : k < N
        · have hk8 : (k : Int) < N := by omega
          have hn2b : n2 ≤ 72 := by have := thK_len (prB xs) i k; rw [hn2, List.length_append]; omega
          have hBa : Below wb.heap.size wb (wb.alloc (.cells #[.int .i64 i, .int .i64 k] 68)) := (Below.refl _ _).alloc (Nat.le_refl _) _
          have HCa := Lib.hid (HC.out i k hlt hlt2 _ (HB.out.trans (hBa.mono HB.out.size)))
          have hKa : Rs (wb.alloc (.cells #[.int .i64 i, .int .i64 k] 68)) wb.heap.size 68 pqc [((i : Int), (k : Int))] := by
            have := Blk.new wb 68 #[Value.int .i64 (i : Int), Value.int .i64 (k : Int)]
            simpa [Rs, pqc] using this
          have HBa := Lib.hid hBa
          have HKa := Lib.hid hKa
          clear hBa hKa hn2
          cases hf : prB xs i k
          · rw [hf] at HCa
            have hSt : Hid (thK (prB xs) i (k + 1) = thK (prB xs) i k) := thK_no hf
            clear hf
            go_wp2_with fail
            refine HCa.out.mono ?_
            rintro e w3 ⟨rfl, hb3⟩
            have hb3' := HBa.out.trans (hb3.mono HBa.out.size)
            have HO3 := Lib.hid (own_keep' HO.out hb3')
            have HB3 := Lib.hid (HB.out.trans (hb3'.mono HB.out.size))
            clear hb3 hb3' HCa HBa HKa HO HB
            go_wp2
            go_roundw
            case rel => exact ⟨k + 1, A2, n2, c2, by omega, by go_num, rfl, by rw [hSt.out]; exact HN2.out, by rw [hSt.out]; exact HO3.out, HB3.out⟩
            case measure => simp [intOf]; omega
          · rw [hf] at HCa
            have hSt : Hid (thK (prB xs) i (k + 1) = thK (prB xs) i k ++ [((i : Int), (k : Int))]) := thK_yes hf
            clear hf
            go_wp2_with fail
            refine HCa.out.mono ?_
            rintro e w3 ⟨rfl, hb3⟩
            have hb3' := HBa.out.trans (hb3.mono HBa.out.size)
            have HO3 := Lib.hid (own_keep' HO.out hb3')
            have HB3 := Lib.hid (HB.out.trans (hb3'.mono HB.out.size))
            have hK3 : Rs w3 wb.heap.size 68 pqc [((i : Int), (k : Int))] := Blk.keep HKa.out hb3
            have d0 : w3.cell? ⟨wb.heap.size, 0, none⟩ = some (.int .i64 i) := Rs.range hK3 0 _ (by simp [pqc])
            have d1 : w3.cell? ⟨wb.heap.size, 1, none⟩ = some (.int .i64 k) := by have := Rs.range hK3 1 (.int .i64 (k : Int)) (by simp [pqc]); simpa using this
            clear hb3 hb3' HCa HBa HKa HO HB hK3
            go_wp2_with (at_builtin; refine wpList_append_own _ rfl (.tmp 23) (.tmp 25) 63 rfl w.heap.size 68 i0 (.agg #[.int .i64 0, .int .i64 0]) 2 16 Tryd.underlying63 HI.out HZ0.out HZ1.out HZ2.out rfl (by decide) _ _ _ rfl (HO3.out.alloc _) ⟨w3.heap.size, 0, none⟩ 1 1 [.int .i64 i, .int .i64 k] rfl rfl ?c1 ?c2 ?c3 ?c4 ?c5 ?_)
            case c1 => exact cell_two_newP _ _ _ _
            case c2 => exact two_oneP _ _
            case c3 => unfold maxLen; omega
            case c4 => omega
            case c5 => have := HB3.out.size; simp; omega
            intro v' w4 hown' hgrow _
            have hown4 : w4.ownsRow w.heap.size 68 2 v' (n2 + 1) ((thI (prB xs) N i ++ thK (prB xs) i (k + 1)).flatMap pqc) := by
              rw [hSt.out, ← List.append_assoc, pqc_snoc]; simpa [pqc] using hown'
            have HB4 : Hid (Below w.heap.size w w4) := (HB3.out.alloc HB3.out.size _).grown hgrow (by have := HB3.out.size; simp; omega) (fun r e => (HO3.out.lt r e).1)
            have HN4 : Hid (n2 + 1 = (thI (prB xs) N i ++ thK (prB xs) i (k + 1)).length) := by
              show _ = _
              rw [hSt.out, ← List.append_assoc, List.length_append, ← HN2.out]; rfl
            obtain ⟨A8, c8, rfl⟩ : ∃ A8 c8, v' = .slice A8 (n2 + 1) c8 := by
              rcases hown4.2 with ⟨h1, h2⟩ | ⟨g, cap, cur, h1, -⟩
              · exact ⟨_, _, by rw [h1, h2]⟩
              · exact ⟨_, _, h1⟩
            have HO4 := Lib.hid hown4
            clear hown' hown4 hgrow d0 d1
            go_wp2
            go_roundw
            case rel => exact ⟨k + 1, A8, n2 + 1, c8, by omega, by go_num, rfl, HN4.out, HO4.out, HB4.out⟩
            case measure => simp [intOf]; omega
        · obtain rfl : k = N := by omega
          have HOx : Hid (n2 = (thI (prB xs) k (i + 1)).length ∧ wb.ownsRow w.heap.size 68 2 (.slice A2 n2 c2) n2 ((thI (prB xs) k (i + 1)).flatMap pqc)) := ⟨HN2.out, HO.out⟩
          clear hn2
          go_wp2
          go_roundw
          case rel => exact ⟨i + 1, A2, n2, c2, by omega, by go_num, rfl, HOx.out.1, HOx.out.2, HB.out⟩
          case measure => simp [intOf]; omega
    · obtain rfl : i = N := by omega
      have HOx : Hid (wa.ownsRow w.heap.size 68 2 (.slice A1 n1 c1) n1 ((thI (prB xs) i i).flatMap pqc)) := by
        have := HO.out.2
        rw [show thI (prB xs) i i ++ thK (prB xs) i 0 = thI (prB xs) i i from by simp [thK]] at this
        exact this
      go_wp2
      go_ret
      exact ⟨A1, c1, by (rw [← HN1.out]; first | done | rfl), by rw [← HN1.out]; exact HOx.out, HB.out⟩

end Go.Proofs.YtfmfgpipklmecaaDoor
