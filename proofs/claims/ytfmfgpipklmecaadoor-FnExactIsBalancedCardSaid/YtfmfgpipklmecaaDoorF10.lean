/-
  FnExactIsBalanced: for all arguments the law returns true, and they read as before. No condition but that the sentinel errors hold what the program's text lays (tied).
-/
import Derived.Test.YtfmfgpipklmecaaDoorZb
import Derived.Test.YtfmfgpipklmecaaDoorIo
import Derived.Test.YtfmfgpipklmecaaDoorZn
import Derived.Deep.LoopGhost
import Derived.Sort.WalkB12
import Derived.Lib.SlicesMore
import Derived.Test.YtfmfgpipklmecaaDoorZs
import Derived.Test.YtfmfgpipklmecaaDoorZr
import Derived.Test.YtfmfgpipklmecaaDoorEo
import Derived.Test.YtfmfgpipklmecaaDoorCw
import Derived.Test.YtfmfgpipklmecaaDoorTm
import Derived.Test.YtfmfgpipklmecaaDoorCards
import Derived.Test.YtfmfgpipklmecaaDoorTie
import Derived.Test.YtfmfgpipklmecaaDoorG
import Derived.Test.YtfmfgpipklmecaaDoorGk
import Derived.Test.YtfmfgpipklmecaaDoorMkM
import Derived.SevenTiedAt
namespace Go.Proofs.YtfmfgpipklmecaaDoor
open Go.ChangeShapes Go.WideShapes Go.ChangeAt Go.RowKit Go.Deep

/-- The pairs of an order: of the i-th with those behind it, up to the k-th. -/
def opK (xs : List Int) (i : Nat) : Nat → List Pq
  | 0 => []
  | k + 1 => opK xs i k ++ (if i < k then [(xs.getD i 0, xs.getD k 0)] else [])
def opI (xs : List Int) : Nat → List Pq
  | 0 => []
  | i + 1 => opI xs i ++ opK xs i xs.length
theorem opK_low (xs : List Int) (i : Nat) : ∀ k, k ≤ i + 1 → opK xs i k = []
  | 0, _ => rfl
  | k + 1, h => by rw [opK, opK_low xs i k (by omega), if_neg (by omega)]; rfl
theorem opK_succ {xs : List Int} {i k : Nat} {x y : Int} (hx : xs[i]? = some x) (hy : xs[k]? = some y) (h : i < k) : opK xs i (k + 1) = opK xs i k ++ [(x, y)] := by
  rw [opK, if_pos h, List.getD_eq_getElem?_getD, List.getD_eq_getElem?_getD, hx, hy]; rfl
theorem opK_len (xs : List Int) (i : Nat) : ∀ k, (opK xs i k).length ≤ k
  | 0 => by simp [opK]
  | k + 1 => by
    have := opK_len xs i k
    rw [opK, List.length_append]
    split <;> simp <;> omega
theorem opI_len {xs : List Int} (h8 : xs.length ≤ 8) : ∀ i, (opI xs i).length ≤ 8 * i
  | 0 => by simp [opI]
  | i + 1 => by
    have := opI_len h8 i
    have := opK_len xs i xs.length
    rw [opI, List.length_append]; omega
theorem opK_mem {xs : List Int} {i : Nat} (hi : i < xs.length) : ∀ {k : Nat} {p : Pq}, k ≤ xs.length → p ∈ opK xs i k → p.1 ∈ xs ∧ p.2 ∈ xs
  | 0, p, _, h => by simp [opK] at h
  | k + 1, p, hk, h => by
    rw [opK, List.mem_append] at h
    rcases h with h | h
    · exact opK_mem hi (by omega) h
    · split at h
      · have e : p = (xs.getD i 0, xs.getD k 0) := by simpa using h
        rw [e, List.getD_eq_getElem?_getD, List.getD_eq_getElem?_getD, List.getElem?_eq_getElem hi, List.getElem?_eq_getElem (show k < xs.length by omega)]
        exact ⟨List.getElem_mem hi, List.getElem_mem (show k < xs.length by omega)⟩
      · simp at h
theorem opI_mem {xs : List Int} : ∀ {i : Nat} {p : Pq}, i ≤ xs.length → p ∈ opI xs i → p.1 ∈ xs ∧ p.2 ∈ xs
  | 0, p, _, h => by simp [opI] at h
  | i + 1, p, hi, h => by
    rw [opI, List.mem_append] at h
    rcases h with h | h
    · exact opI_mem (by omega) h
    · exact opK_mem (by omega) (Nat.le_refl _) h

theorem Tryd.asGiven (A : Option Addr) (n c : Nat) (w : World) : (Instr.typeAssert (.iface 59 (.slice A n c)) 80 59 true).run Tryd.prog w = .ok (.tuple #[.slice A n c, .bool true]) w := by kernel_rfl

set_option maxRecDepth 100000 in
set_option maxHeartbeats 2000000 in
theorem cloneG_any (xs : List Int) (h0 : 0 < xs.length) (h8 : xs.length ≤ 8) (A : Option Addr) (c : Nat) (w : World) (hr : Rd w w.heap.size icells A xs) :
    Calls Tryd.prog 75 #[.slice A xs.length c] w fun e w' => ∃ A' c', e = .returned (.slice A' xs.length c') ∧ w'.ownsRow w.heap.size 2 1 (.slice A' xs.length c') xs.length (xs.flatMap icells) ∧ Below w.heap.size w w' := by
  obtain ⟨i0, hi, hz0, hz1, hz2⟩ := info_parts Tryd.info64
  have HI := Lib.hid hi
  have HZ0 := Lib.hid hz0
  have HZ1 := Lib.hid hz1
  have HZ2 := Lib.hid hz2
  clear hi hz0 hz1 hz2
  have HR := Lib.hid hr
  obtain ⟨b0, o0, rfl, -, -⟩ := hr h0
  clear hr
  have hnil : ∀ w : World, (binOp .eql 59 (.slice (some ⟨b0, o0, none⟩) xs.length c) (.slice none 0 0)).run Tryd.prog w = .ok (.bool false) w := fun w => Lib.run_eql_slice_nil (P := Tryd.prog) w 59 2 (some ⟨b0, o0, none⟩) xs.length c 0 0 Tryd.underlying59
  go_enter Tryd.func75, Tryd.ntmps75
  go_wp2_with (at_builtin; refine wpList_append_any _ rfl (.tmp 5) (.tmp 6) 59 59 rfl w.heap.size 2 i0 (.int .i64 0) 1 8 Tryd.underlying59 HI.out HZ0.out HZ1.out HZ2.out rfl (by decide) _ 0 [] rfl ?own _ xs.length (xs.flatMap icells) rfl ?src ?c3 ?c4 ?c5 ?_)
  case own => exact ⟨by simp, .inr ⟨w.heap.size, 0, #[], rfl, Nat.le_refl _, heap_alloc_new w _, Nat.le_refl _, by unfold maxLen; omega, by simp, by simp⟩⟩
  case src => exact src_of_rd _ Tryd.underlying59 icells_length icells_one (HR.out.keep ((Below.refl _ w).alloc (Nat.le_refl _) _))
  case c3 => unfold maxLen; omega
  case c4 => omega
  case c5 => simp
  intro v' w2 hown hg _
  have hB : Below w.heap.size w w2 := ((Below.refl _ w).alloc (Nat.le_refl _) _).grown hg (by simp) (fun k e => by
    have e2 : w.heap.size = k := by simpa [Value.ownBlock] using e
    omega)
  have hown2 : w2.ownsRow w.heap.size 2 1 v' xs.length (xs.flatMap icells) := by simpa using hown
  obtain ⟨A', c', rfl, -, -⟩ := own_rd icells_length hown2
  have HO := Lib.hid hown2
  have HB := Lib.hid hB
  clear hown hown2 hg hB hnil
  go_wp2
  go_ret
  exact ⟨A', c', rfl, HO.out, HB.out⟩

set_option maxRecDepth 100000 in
set_option maxHeartbeats 2000000 in
theorem listOfG_any (xs : List Int) (h0 : 0 < xs.length) (h8 : xs.length ≤ 8) (A : Option Addr) (c : Nat) (w : World) (hr : Rd w w.heap.size icells A xs) :
    Calls Tryd.prog 55 #[.iface 59 (.slice A xs.length c)] w fun e w' => ∃ A' c', e = .returned (.slice A' xs.length c') ∧ w'.ownsRow w.heap.size 2 1 (.slice A' xs.length c') xs.length (xs.flatMap icells) ∧ Below w.heap.size w w' := by
  have HC := Lib.hid (cloneG_any xs h0 h8 A c w hr)
  have a1 := Tryd.asGiven A xs.length c
  clear hr
  go_enter Tryd.func55, Tryd.ntmps55
  go_wp2_with fail
  refine HC.out.mono ?_
  rintro e w1 ⟨A', c', rfl, hO, hb⟩
  have HO := Lib.hid hO
  have HB := Lib.hid hb
  clear hO hb HC a1
  go_wp2
  go_ret
  exact ⟨A', c', rfl, HO.out, HB.out⟩

set_option maxRecDepth 100000 in
set_option maxHeartbeats 8000000 in
theorem pairsInG_any (xs : List Int) (h0 : 0 < xs.length) (h8 : xs.length ≤ 8) (A : Option Addr) (c : Nat) (w : World) (hr : Rd w w.heap.size icells A xs) :
    Calls Tryd.prog 64 #[.iface 59 (.slice A xs.length c)] w fun e w' => ∃ A' c', e = .returned (.slice A' (opI xs xs.length).length c') ∧ w'.ownsRow w.heap.size 68 2 (.slice A' (opI xs xs.length).length c') (opI xs xs.length).length ((opI xs xs.length).flatMap pqc) ∧ Below w.heap.size w w' := by
  obtain ⟨i0, hi, hz0, hz1, hz2⟩ := info_parts Tryd.infoPq
  have HI := Lib.hid hi
  have HZ0 := Lib.hid hz0
  have HZ1 := Lib.hid hz1
  have HZ2 := Lib.hid hz2
  clear hi hz0 hz1 hz2
  have HC := Lib.hid (listOfG_any xs h0 h8 A c w hr)
  clear hr
  go_enter Tryd.func64, Tryd.ntmps64
  go_wp2_with fail
  refine HC.out.mono ?_
  rintro e w1 ⟨Aq, cq, rfl, hOq, hb1⟩
  have HBq := Lib.hid hb1
  obtain ⟨g, cap, hAq, hcap, hcells⟩ : ∃ g, ∃ _ : Nat, Aq = some ⟨g, 0, none⟩ ∧ xs.length ≤ cq ∧ ∀ (j : Nat) (x : Int), xs[j]? = some x → w1.cell? ⟨g, j, none⟩ = some (.int .i64 x) := by
    have hq := hOq
    rcases hOq.2 with ⟨h', h0'⟩ | ⟨g, cap, cur, h', hb', hg', hn', -⟩
    · omega
    · simp only [Value.slice.injEq, true_and] at h'
      obtain ⟨rfl, rfl⟩ := h'
      refine ⟨g, 0, rfl, hn', fun j x hj => ?_⟩
      have hjl := (List.getElem?_eq_some_iff.1 hj).1
      rw [hq.cellAt j (by omega), flat_iN, List.getElem?_map, hj]; rfl
  subst hAq
  have HCe := Lib.hid hcells
  have HO0 : Hid (w1.ownsRow w1.heap.size 68 2 (.slice none 0 0) 0 ((opI xs 0).flatMap pqc)) := ⟨rfl, .inl ⟨rfl, rfl⟩⟩
  clear hOq hb1 hcells HC
  go_wp2_with fail
  go_loopw [3, 13] (fun v j wr => ∃ (i : Nat) (A1 : Option Addr) (n1 c1 : Nat), i ≤ xs.length ∧ j = .int .i64 i ∧ v = .slice A1 n1 c1 ∧ n1 = (opI xs i).length ∧ wr.ownsRow w1.heap.size 68 2 (.slice A1 n1 c1) n1 ((opI xs i).flatMap pqc) ∧ Below w1.heap.size w1 wr)
    (fun _ j _ => xs.length - (intOf j).toNat)
  case atStart => exact ⟨0, none, 0, 0, by omega, rfl, rfl, rfl, HO0.out, Below.refl _ _⟩
  case round =>
    clear HO0
    obtain ⟨i, A1, n1, c1, hi, rfl, rfl, hn1, hO, hB⟩ := hrel
    obtain ⟨wa, rfl⟩ : ∃ u, u = wr := ⟨_, rfl⟩
    have HO : Hid (n1 = (opI xs i ++ opK xs i (i + 1)).length ∧ wa.ownsRow w1.heap.size 68 2 (.slice A1 n1 c1) n1 ((opI xs i ++ opK xs i (i + 1)).flatMap pqc)) := by
      show _ ∧ _
      rw [opK_low xs i (i + 1) (by omega), List.append_nil]
      exact ⟨hn1, hO⟩
    have HO9 := Lib.hid hO
    have HB := Lib.hid hB
    have HN1 := Lib.hid hn1
    clear hO hB hn1
    have hi0 : (0 : Int) ≤ (i : Int) := Int.natCast_nonneg _
    by_cases hlt : i < xs.length
    · have hi8 : (i : Int) < xs.length := by omega
      obtain ⟨x, hx⟩ : ∃ x, xs[i]? = some x := ⟨_, List.getElem?_eq_getElem hlt⟩
      have e1 := (HB.out.cell (p := ⟨g, i, none⟩) (cell_lt9 (HCe.out i x hx))).trans (HCe.out i x hx)
      have hl64 := opI_len h8 i
      have u0 : IntKind.i64.wrap ((i : Int) + 1) = (i : Int) + 1 := IntWalk.i64_in _ ⟨by omega, by omega⟩
      have u00 : wrap64 ((i : Int) + 1) = (i : Int) + 1 := IntWalk.wrap64_in _ ⟨by omega, by omega⟩
      have HX := Lib.hid hx
      have hic : i + 1 ≤ cq := by omega
      have hil : i + 1 ≤ xs.length := by omega
      clear hx HN1 HO9
      by_cases hlo : cq = i + 1
      · have hxl : xs.length = i + 1 := by omega
        subst hlo
        have hz : xs.length - (i + 1) = 0 := by omega
        have HO11 : Hid (n1 = (opI xs (i + 1)).length ∧ wa.ownsRow w1.heap.size 68 2 (.slice A1 n1 c1) n1 ((opI xs (i + 1)).flatMap pqc)) := by
          have := HO.out
          rw [show opI xs (i + 1) = opI xs i ++ opK xs i (i + 1) from by rw [opI, hxl]]
          exact this
        clear HO
        go_wp2_with fail
        refine wp_loop_rounds 1 ?_
        rw [rounds_succ]
        go_wp2
        go_roundw
        case rel => exact ⟨i + 1, A1, n1, c1, by omega, by go_num, rfl, HO11.out.1, HO11.out.2, HB.out⟩
        case measure => simp [intOf]; omega
      · go_wp2_with fail
        go_loopw [3, 23] (fun v j wr => ∃ (q : Nat) (A2 : Option Addr) (n2 c2 : Nat), q ≤ xs.length - (i + 1) ∧ j = .int .i64 q ∧ v = .slice A2 n2 c2 ∧ n2 = (opI xs i ++ opK xs i (i + 1 + q)).length ∧ wr.ownsRow w1.heap.size 68 2 (.slice A2 n2 c2) n2 ((opI xs i ++ opK xs i (i + 1 + q)).flatMap pqc) ∧ Below w1.heap.size w1 wr)
          (fun _ j _ => (xs.length - (i + 1)) - (intOf j).toNat)
        case atStart => exact ⟨0, A1, n1, c1, by omega, rfl, rfl, HO.out.1, HO.out.2, HB.out⟩
        case round =>
          clear HO HB e1
          obtain ⟨q, A2, n2, c2, hq, rfl, rfl, hn2, hO, hB⟩ := hrel
          obtain ⟨wb, rfl⟩ : ∃ u, u = wr := ⟨_, rfl⟩
          have HO := Lib.hid hO
          have HB := Lib.hid hB
          have HN2 := Lib.hid hn2
          have hn2b : n2 ≤ 80 := by have := opK_len xs i (i + 1 + q); rw [hn2, List.length_append]; omega
          clear hO hB hn2
          have hq0 : (0 : Int) ≤ (q : Int) := Int.natCast_nonneg _
          by_cases hlt2 : q < xs.length - (i + 1)
          · have hq8 : (q : Int) < ((xs.length - (i + 1) : Nat) : Int) := by omega
            have hiq : i + 1 + q < xs.length := by omega
            obtain ⟨y, hy⟩ : ∃ y, xs[i + 1 + q]? = some y := ⟨_, List.getElem?_eq_getElem hiq⟩
            have e2 := (HB.out.cell (p := ⟨g, i + 1 + q, none⟩) (cell_lt9 (HCe.out _ y hy))).trans (HCe.out _ y hy)
            have hSt : Hid (opK xs i (i + 1 + (q + 1)) = opK xs i (i + 1 + q) ++ [(x, y)]) := opK_succ (k := i + 1 + q) HX.out hy (by omega)
            clear hy
            go_wp2_with (at_builtin; refine wpList_append_own _ rfl (.tmp 27) (.tmp 31) 63 rfl w1.heap.size 68 i0 (.agg #[.int .i64 0, .int .i64 0]) 2 16 Tryd.underlying63 HI.out HZ0.out HZ1.out HZ2.out rfl (by decide) _ _ _ rfl (HO.out.alloc _) ⟨wb.heap.size, 0, none⟩ 1 1 [.int .i64 x, .int .i64 y] rfl rfl ?c1 ?c2 ?c3 ?c4 ?c5 ?_)
            case c1 => exact cell_two_newP _ _ _ _
            case c2 => exact two_oneP _ _
            case c3 => unfold maxLen; omega
            case c4 => omega
            case c5 => have := HB.out.size; simp; omega
            intro v' w4 hown' hgrow _
            have hown4 : w4.ownsRow w1.heap.size 68 2 v' (n2 + 1) ((opI xs i ++ opK xs i (i + 1 + (q + 1))).flatMap pqc) := by
              rw [hSt.out, ← List.append_assoc, pqc_snoc]; simpa [pqc] using hown'
            have HB4 : Hid (Below w1.heap.size w1 w4) := (HB.out.alloc HB.out.size _).grown hgrow (by have := HB.out.size; simp; omega) (fun r e => (HO.out.lt r e).1)
            have HN4 : Hid (n2 + 1 = (opI xs i ++ opK xs i (i + 1 + (q + 1))).length) := by
              show _ = _
              rw [hSt.out, ← List.append_assoc, List.length_append, ← HN2.out]; rfl
            obtain ⟨A8, c8, rfl⟩ : ∃ A8 c8, v' = .slice A8 (n2 + 1) c8 := by
              rcases hown4.2 with ⟨h1, h2⟩ | ⟨g, cap, cur, h1, -⟩
              · exact ⟨_, _, by rw [h1, h2]⟩
              · exact ⟨_, _, h1⟩
            have HO4 := Lib.hid hown4
            clear hown' hown4 hgrow e2
            go_wp2
            go_roundw
            case rel => exact ⟨q + 1, A8, n2 + 1, c8, by omega, by go_num, rfl, HN4.out, HO4.out, HB4.out⟩
            case measure => simp [intOf]; omega
          · have hqe : i + 1 + q = xs.length := by omega
            have HO11 : Hid (n2 = (opI xs (i + 1)).length ∧ wb.ownsRow w1.heap.size 68 2 (.slice A2 n2 c2) n2 ((opI xs (i + 1)).flatMap pqc)) := by
              have h1 := HN2.out
              have h2 := HO.out
              rw [hqe] at h1 h2
              exact ⟨h1, h2⟩
            have hq9 : ¬ (q : Int) < ((xs.length - (i + 1) : Nat) : Int) := by omega
            go_wp2
            go_roundw
            case rel => exact ⟨i + 1, A2, n2, c2, by omega, by go_num, rfl, HO11.out.1, HO11.out.2, HB.out⟩
            case measure => simp [intOf]; omega
    · obtain rfl : i = xs.length := by omega
      have HB9 := Lib.hid (HBq.out.trans (HB.out.mono HBq.out.size))
      have HO10 := Lib.hid (own_base HO9.out HBq.out.size)
      go_wp2
      go_ret
      exact ⟨A1, c1, by (rw [← HN1.out]; first | done | rfl), by rw [← HN1.out]; exact HO10.out, HB9.out⟩

set_option maxRecDepth 100000 in
set_option maxHeartbeats 2000000 in
theorem numberOf_any (a b : Nat) (ha : a < 9) (hb9 : b < 9) (ps : List Pq) (B n : Nat) (D : DataW Unit) (w : World) (hO : OwnsP w B n D) (hH : Holds D ok2 kP (cntP ps)) :
    Calls Tryd.prog 65 #[.map (some B), .agg #[.int .i64 a, .int .i64 b]] w fun e w' => e = .returned (.int .i64 (cntP ps ((a : Int), (b : Int)) : Nat)) ∧ Below w.heap.size w w' := by
  obtain ⟨W, hW⟩ : ∃ W, w.alloc (.cells #[.int .i64 a, .int .i64 b] 68) = W := ⟨_, rfl⟩
  have hB : Below w.heap.size w W := by rw [← hW]; exact (Below.refl _ w).alloc (Nat.le_refl _) _
  have hrg : W.rangeAt w.heap.size 0 (pqc ((a : Int), (b : Int))) := by rw [← hW]; exact pq_range w _
  have hL := tally_look (p := ((a : Int), (b : Int))) (hO.kept (grown_of_below hB) (by simp)) hH ⟨⟨by show (0 : Int) ≤ a; omega, by show (a : Int) < 9; omega⟩, ⟨by show (0 : Int) ≤ b; omega, by show (b : Int) < 9; omega⟩⟩
  have c0 : W.cell? ⟨w.heap.size, 0, none⟩ = some (.int .i64 a) := by have := hrg 0 (.int .i64 (a : Int)) (by simp [pqc]); simpa using this
  have c1 : W.cell? ⟨w.heap.size, 1, none⟩ = some (.int .i64 b) := by have := hrg 1 (.int .i64 (b : Int)) (by simp [pqc]); simpa using this
  have HB := Lib.hid hB
  have HL := Lib.hid hL
  obtain ⟨x, hx⟩ : ∃ x : Nat, cntP ps ((a : Int), (b : Int)) = x := ⟨_, rfl⟩
  rw [hx] at HL ⊢
  clear hO hH hrg hB hL hx
  go_enter Tryd.func65, Tryd.ntmps65
  go_wp2_with (refine wpList_lookupR rfl 56 (.tmp 5) (.tmp 6) rfl rfl rfl HL.out ?_)
  go_wp2
  go_ret
  exact ⟨rfl, HB.out⟩
set_option maxRecDepth 100000 in
set_option maxHeartbeats 4000000 in
theorem sumForN_any (g : Pq → Int) (M : Int) (hM : M ≤ 6500) (qs : List Pq) (hqs : qs.length ≤ 6500) (hg : ∀ p ∈ qs, 0 ≤ g p ∧ g p ≤ M) (A : Option Addr) (c : Nat) (w : World) (hr : Rd w w.heap.size pqc A qs) (B : Nat)
    (HCf : ∀ p ∈ qs, ∀ (W : World), Below w.heap.size w W → Calls Tryd.prog 65 #[.map (some B), .agg #[.int .i64 p.1, .int .i64 p.2]] W fun e w' => e = .returned (.int .i64 (g p)) ∧ Below W.heap.size W w') :
    Calls Tryd.prog 63 #[.slice A qs.length c, .func (.func 65) #[.map (some B)] #[]] w fun e w' => e = .returned (.int .i64 (suP g qs)) ∧ Below w.heap.size w w' := by
  have HR := Lib.hid hr
  have HC := Lib.hid HCf
  have HG := Lib.hid hg
  clear hr HCf hg
  go_enter Tryd.func63, Tryd.ntmps63
  go_wp2_with fail
  go_loopw [5, 10] (fun s j wr => ∃ (t : Nat), t ≤ qs.length ∧ j = .int .i64 t ∧ s = .int .i64 (suP g (qs.take t)) ∧ Below w.heap.size w wr) (fun _ j _ => qs.length - (intOf j).toNat)
  case atStart => exact ⟨0, by omega, rfl, rfl, Below.refl _ _⟩
  case round =>
    obtain ⟨t, ht, rfl, rfl, hB⟩ := hrel
    obtain ⟨wa, rfl⟩ : ∃ u, u = wr := ⟨_, rfl⟩
    have HB := Lib.hid hB
    clear hB
    have ht0 : (0 : Int) ≤ (t : Int) := Int.natCast_nonneg _
    by_cases hlt : t < qs.length
    · obtain ⟨p, hp⟩ : ∃ x, qs[t]? = some x := ⟨_, List.getElem?_eq_getElem hlt⟩
      have ht8 : (t : Int) < qs.length := by omega
      obtain ⟨b, o, rfl, hbl, hrow⟩ := (HR.out.keep HB.out).at_ pqc_length hp
      have hpm := List.mem_of_getElem? hp
      have hgb := HG.out p hpm
      have HSu := Lib.hid (suP_take (g := g) hp)
      obtain ⟨p1, p2⟩ := p
      have hsb := suP_b (g := g) (M := M) (qs := qs.take t) (fun q hq => HG.out q (List.mem_of_mem_take hq))
      have hsl : (((qs.take t).length : Nat) : Int) * M ≤ 6500 * 6500 := Int.mul_le_mul (by rw [List.length_take]; omega) hM (by omega) (by omega)
      have e1 : wa.cell? ⟨b, o + t * 2, none⟩ = some (.int .i64 p1) := by simpa using hrow 0 (.int .i64 p1) (by simp [pqc])
      have e2 : wa.cell? ⟨b, o + t * 2 + 1, none⟩ = some (.int .i64 p2) := by simpa using hrow 1 (.int .i64 p2) (by simp [pqc])
      have HBa : Hid (Below wa.heap.size wa (wa.alloc (.cells #[.int .i64 p1, .int .i64 p2] 68))) := (Below.refl _ _).alloc (Nat.le_refl _) _
      have HCa := Lib.hid (HC.out (p1, p2) hpm _ (HB.out.trans (HBa.out.mono HB.out.size)))
      obtain ⟨s, hs⟩ : ∃ s, suP g (qs.take t) = s := ⟨_, rfl⟩
      obtain ⟨r, hr⟩ : ∃ r, g (p1, p2) = r := ⟨_, rfl⟩
      rw [hr] at hgb HSu HCa
      rw [hs] at hsb HSu ⊢
      have u1 : IntKind.i64.wrap (s + r) = s + r := IntWalk.i64_in _ ⟨by omega, by omega⟩
      have u2 : wrap64 (s + r) = s + r := IntWalk.wrap64_in _ ⟨by omega, by omega⟩
      clear hp hrow hbl hs hr hgb hsb hsl hpm
      go_wp2_with fail
      refine HCa.out.mono ?_
      rintro e w3 ⟨rfl, hb3⟩
      have HB3 := Lib.hid (HB.out.trans ((HBa.out.trans (hb3.mono HBa.out.size)).mono HB.out.size))
      clear hb3 HCa HBa HB e1 e2
      go_wp2
      go_roundw
      case rel => exact ⟨t + 1, by omega, by go_num, by rw [HSu.out], HB3.out⟩
      case measure => simp [intOf]; omega
    · obtain rfl : t = qs.length := by omega
      have HTk : Hid (suP g (qs.take qs.length) = suP g qs) := by show _ = _; rw [List.take_length]
      rw [HTk.out]
      go_wp2
      go_ret
      exact ⟨rfl, HB.out⟩

set_option maxRecDepth 100000 in
set_option maxHeartbeats 4000000 in
theorem agreementG_any (xs : List Int) (hxs : ∀ x ∈ xs, 0 ≤ x ∧ x < 9) (h0 : 0 < xs.length) (h8 : xs.length ≤ 8) (ps : List Pq) (hps : ps.length ≤ 6500) (B n : Nat) (D : DataW Unit) (A : Option Addr) (c : Nat) (w : World) (hr : Rd w w.heap.size icells A xs) (hO : OwnsP w B n D) (hH : Holds D ok2 kP (cntP ps)) :
    Calls Tryd.prog 38 #[.map (some B), .iface 59 (.slice A xs.length c)] w fun e w' => e = .returned (.int .i64 (suP (fun p => ((cntP ps p : Nat) : Int)) (opI xs xs.length))) ∧ Below w.heap.size w w' := by
  have HC := Lib.hid (pairsInG_any xs h0 h8 A c w hr)
  have HK : Hid (∀ (W : World), Below w.heap.size w W → OwnsP W B n D) := fun W hW => hO.kept (grown_of_below hW) (by simp)
  have HH := Lib.hid hH
  have HX := Lib.hid hxs
  have HL := Lib.hid (opI_len h8 xs.length)
  clear hr hO hH hxs
  go_enter Tryd.func38, Tryd.ntmps38
  go_wp2_with fail
  refine HC.out.mono ?_
  rintro e w1 ⟨A', c', rfl, hO, hb⟩
  have HB := Lib.hid hb
  have HS := Lib.hid (sumForN_any (fun p => ((cntP ps p : Nat) : Int)) 6500 (by omega) (opI xs xs.length) (by have := HL.out; omega) (fun p _ => by have := cntP_le ps p; omega) A' c' w1 (own_rd2 pqc_length hO) B (fun p hp W hW => by
    obtain ⟨m1, m2⟩ := opI_mem (Nat.le_refl _) hp
    obtain ⟨p1, p2⟩ := p
    have b1 := HX.out p1 m1
    have b2 := HX.out p2 m2
    obtain ⟨a, rfl⟩ : ∃ a : Nat, p1 = (a : Int) := ⟨p1.toNat, by omega⟩
    obtain ⟨b, rfl⟩ : ∃ b : Nat, p2 = (b : Int) := ⟨p2.toNat, by omega⟩
    exact numberOf_any a b (by omega) (by omega) ps B n D W (HK.out W (hb.trans (hW.mono hb.size))) HH.out))
  clear hO hb HC
  go_wp2_with fail
  refine HS.out.mono ?_
  rintro e w2 ⟨rfl, hb2⟩
  have HB2 := Lib.hid (HB.out.trans (hb2.mono HB.out.size))
  clear hb2 HS
  go_wp2
  go_ret
  exact ⟨rfl, HB2.out⟩

set_option maxRecDepth 100000 in
set_option maxHeartbeats 4000000 in
theorem checkServings_any (n : Int) (oss : List (List Int)) (A : Option Addr) (c : Nat) (ad : Nat → Addr) (w : World) (hl : oss.length ≤ 1048576) (hx : ∀ xs ∈ oss, xs.length ≤ 1048576) (hr : RdN w w.heap.size icells A oss) (hE : EW 7 w ad) :
    Calls Tryd.prog 35 #[.int .i64 n, .slice A oss.length c] w fun e w' => e = .returned (erO ad (chk 2 (oss.all (ioB n)))) ∧ Below w.heap.size w w' := by
  have HR := Lib.hid hr
  have HX := Lib.hid hx
  have HE := Lib.hid hE
  clear hr hx hE
  go_enter Tryd.func35, Tryd.ntmps35
  go_wp2_with fail
  go_loopw [9] (fun j wr => ∃ (i : Nat), i ≤ oss.length ∧ j = .int .i64 i ∧ AllU (ioB n) oss i ∧ Below w.heap.size w wr) (fun j _ => oss.length - (intOf j).toNat)
  case atStart => exact ⟨0, by omega, rfl, AllU.zero _ _, Below.refl _ _⟩
  case round =>
    obtain ⟨i, hi, rfl, hA, hB⟩ := hrel
    obtain ⟨wa, rfl⟩ : ∃ u, u = wr := ⟨_, rfl⟩
    have HB := Lib.hid hB
    have HA := Lib.hid hA
    clear hA hB
    have hi0 : (0 : Int) ≤ (i : Int) := Int.natCast_nonneg _
    by_cases hlt : i < oss.length
    · obtain ⟨xs, hxs⟩ : ∃ x, oss[i]? = some x := ⟨_, List.getElem?_eq_getElem hlt⟩
      have hi8 : (i : Int) < oss.length := by omega
      obtain ⟨b, o, a, c', rfl, hb, hc, hrd⟩ := (HR.out.keep HB.out).at_ hxs
      have HEa := HE.out.below HB.out (Nat.le_refl _)
      have HC := Lib.hid (implIsOrder_any n xs a c' ad wa (HX.out xs (List.mem_of_getElem? hxs)) hrd (HEa.cell 0 (by omega)))
      have HXs := Lib.hid hxs
      clear hxs hrd HEa
      cases hv : ioB n xs
      · rw [hv] at HC
        have HV : Hid (oss.all (ioB n) = false) := allU_no HXs.out hv
        clear hv
        go_wp2_with fail
        refine HC.out.mono ?_
        rintro e w3 ⟨rfl, hb3⟩
        have HB3 := Lib.hid (HB.out.trans (hb3.mono HB.out.size))
        have c2 : w3.cell? ⟨1, 0, none⟩ = some (.iface 155 (.pointer (some (ad 2)))) := (HE.out.below HB3.out (Nat.le_refl _)).cell 2 (by omega)
        clear hb3 HC
        go_wp2
        first | go_ret | skip
        exact ⟨by (rw [HV.out, chk_no, erO_some]; first | done | rfl), HB3.out⟩
      · rw [hv] at HC
        have HV := Lib.hid (HA.out.step HXs.out hv)
        clear hv
        go_wp2_with fail
        refine HC.out.mono ?_
        rintro e w3 ⟨rfl, hb3⟩
        have HB3 := Lib.hid (HB.out.trans (hb3.mono HB.out.size))
        clear hb3 HC
        go_wp2
        go_roundw
        case rel => exact ⟨i + 1, by omega, by go_num, HV.out, HB3.out⟩
        case measure => simp [intOf]; omega
    · obtain rfl : i = oss.length := by omega
      have HV := Lib.hid HA.out.all
      go_wp2
      go_ret
      exact ⟨by (rw [HV.out, chk_yes, erO_none]; first | done | rfl), HB.out⟩
end Go.Proofs.YtfmfgpipklmecaaDoor

namespace Go.Proofs.YtfmfgpipklmecaaDoor
open Go.ChangeShapes Go.WideShapes Go.ChangeAt Go.RowKit Go.Deep

theorem suP_cons (g : Pq → Int) (q : Pq) (qs : List Pq) : suP g (q :: qs) = g q + suP g qs := by simp [suP]
theorem cntP_cons (q : Pq) (Q : List Pq) (p : Pq) : cntP (q :: Q) p = (if q = p then 1 else 0) + cntP Q p := by
  unfold cntP
  by_cases h : q = p
  · simp [h]; omega
  · simp [h]
theorem suP_add (g h : Pq → Int) : ∀ qs, suP (fun p => g p + h p) qs = suP g qs + suP h qs
  | [] => by simp [suP]
  | q :: qs => by rw [suP_cons, suP_cons, suP_cons, suP_add g h qs]; omega
theorem suP_nil0 : ∀ P : List Pq, suP (fun _ => 0) P = 0
  | [] => rfl
  | p :: P => by rw [suP_cons, suP_nil0 P]; rfl
theorem suP_one (q : Pq) : ∀ P, suP (fun p => if q = p then 1 else 0) P = ((cntP P q : Nat) : Int)
  | [] => rfl
  | p :: P => by
    rw [suP_cons, suP_one q P, cntP_cons]
    by_cases h : q = p
    · rw [if_pos h, if_pos h.symm]; omega
    · rw [if_neg h, if_neg (fun e => h e.symm)]; omega
theorem suP_swap : ∀ (Q P : List Pq), suP (fun p => ((cntP P p : Nat) : Int)) Q = suP (fun p => ((cntP Q p : Nat) : Int)) P
  | [], P => by
    have : suP (fun p => ((cntP [] p : Nat) : Int)) P = 0 := suP_nil0 P
    rw [this]; rfl
  | q :: Q, P => by
    rw [suP_cons, suP_swap Q P, ← suP_one q P, ← suP_add]
    refine suP_congr fun p _ => ?_
    rw [cntP_cons]
    by_cases h : q = p
    · rw [if_pos h, if_pos h]; omega
    · rw [if_neg h, if_neg h]; omega

theorem nd_inj {xs : List Int} (hn : xs.Nodup) {i j : Nat} {x : Int} (hi : xs[i]? = some x) (hj : xs[j]? = some x) : i = j :=
  (List.getElem?_inj (List.getElem?_eq_some_iff.1 hi).1 hn).1 (hi.trans hj.symm)
theorem cntP_opK {xs : List Int} (hn : xs.Nodup) {i i0 k0 : Nat} {x y : Int} (hi : i < xs.length) (hx : xs[i0]? = some x) (hy : xs[k0]? = some y) : ∀ K, K ≤ xs.length → cntP (opK xs i K) (x, y) = if i = i0 ∧ i < k0 ∧ k0 < K then 1 else 0
  | 0, _ => by simp [opK, cntP]
  | K + 1, h => by
    rw [opK, cntP_app, cntP_opK hn hi hx hy K (by omega)]
    by_cases hiK : i < K
    · rw [if_pos hiK]
      have hK : K < xs.length := by omega
      have e : cntP [(xs.getD i 0, xs.getD K 0)] (x, y) = if i = i0 ∧ K = k0 then 1 else 0 := by
        have ha : xs[i]? = some xs[i] := List.getElem?_eq_getElem hi
        have hb : xs[K]? = some xs[K] := List.getElem?_eq_getElem hK
        rw [List.getD_eq_getElem?_getD, List.getD_eq_getElem?_getD, ha, hb, Option.getD_some, Option.getD_some, cntP_cons, cntP_nil]
        by_cases h2 : i = i0 ∧ K = k0
        · obtain ⟨rfl, rfl⟩ := h2
          rw [ha] at hx
          rw [hb] at hy
          obtain rfl := Option.some.inj hx
          obtain rfl := Option.some.inj hy
          simp
        · rw [if_neg h2, if_neg]
          intro e
          simp only [Prod.mk.injEq] at e
          exact h2 ⟨nd_inj hn (ha.trans (congrArg some e.1)) hx, nd_inj hn (hb.trans (congrArg some e.2)) hy⟩
      rw [e]
      by_cases h1 : i = i0 ∧ i < k0 ∧ k0 < K
      · rw [if_pos h1, if_neg (by omega), if_pos (by omega)]
      · by_cases h2 : i = i0 ∧ K = k0
        · rw [if_neg h1, if_pos h2, if_pos (by omega)]
        · rw [if_neg h1, if_neg h2, if_neg (by omega)]
    · rw [if_neg hiK, cntP_nil, Nat.add_zero]
      by_cases h1 : i = i0 ∧ i < k0 ∧ k0 < K
      · omega
      · rw [if_neg h1, if_neg (by omega)]
theorem cntP_opI {xs : List Int} (hn : xs.Nodup) {i0 k0 : Nat} {x y : Int} (hx : xs[i0]? = some x) (hy : xs[k0]? = some y) : ∀ I, I ≤ xs.length → cntP (opI xs I) (x, y) = if i0 < I ∧ i0 < k0 then 1 else 0
  | 0, _ => by simp [opI, cntP]
  | I + 1, h => by
    have hk := (List.getElem?_eq_some_iff.1 hy).1
    rw [opI, cntP_app, cntP_opI hn hx hy I (by omega), cntP_opK hn (by omega) hx hy xs.length (Nat.le_refl _)]
    by_cases h1 : i0 < I ∧ i0 < k0
    · rw [if_pos h1, if_neg (by omega), if_pos (by omega)]
    · by_cases h2 : I = i0 ∧ I < k0 ∧ k0 < xs.length
      · rw [if_neg h1, if_pos h2, if_pos (by omega)]
      · rw [if_neg h1, if_neg h2, if_neg (by omega)]
/-- Where a sample stands. -/
def wb (b : List Int) (x : Int) : Nat := b.findIdx (fun y => y == x)
theorem wb_at {b : List Int} {x : Int} (h : x ∈ b) : b[wb b x]? = some x := by
  have hl : wb b x < b.length := List.findIdx_lt_length_of_exists ⟨x, h, by simp⟩
  have := List.findIdx_getElem (w := hl)
  rw [List.getElem?_eq_getElem hl]
  congr 1
  simp only [beq_iff_eq] at this
  exact this
theorem wb_no {b : List Int} {x : Int} {j : Nat} {y : Int} (hj : j < wb b x) (hy : b[j]? = some y) : (y == x) = false := by
  obtain ⟨h1, h2⟩ := List.getElem?_eq_some_iff.1 hy
  have := List.not_of_lt_findIdx hj
  rw [h2] at this
  simpa using this
theorem bef_rev {b : List Int} (hn : b.Nodup) {x y : Int} (hx : x ∈ b) (hy : y ∈ b) : cntP (opI b.reverse b.reverse.length) (x, y) = if wb b y < wb b x then 1 else 0 := by
  have h1 := wb_at hx
  have h2 := wb_at hy
  have l1 := (List.getElem?_eq_some_iff.1 h1).1
  have l2 := (List.getElem?_eq_some_iff.1 h2).1
  have e1 : b.reverse[b.length - 1 - wb b x]? = some x := by
    rw [List.getElem?_reverse (by omega), show b.length - 1 - (b.length - 1 - wb b x) = wb b x from by omega]; exact h1
  have e2 : b.reverse[b.length - 1 - wb b y]? = some y := by
    rw [List.getElem?_reverse (by omega), show b.length - 1 - (b.length - 1 - wb b y) = wb b y from by omega]; exact h2
  rw [cntP_opI (by rw [List.Nodup, List.pairwise_reverse]; exact List.Pairwise.imp (fun h e => h e.symm) hn) e1 e2 _ (Nat.le_refl _), List.length_reverse]
  by_cases h : wb b y < wb b x
  · rw [if_pos h, if_pos (by omega)]
  · rw [if_neg h, if_neg (by omega)]
/-- An order holds each sample. -/
theorem orB_mem {n : Int} {xs : List Int} (h : orB n xs = true) {x : Int} (h0 : 0 ≤ x) (h1 : x < n) : x ∈ xs := by
  have hl := (orB_iff.1 h).1
  have hp : (xs.mergeSort (fun a b => decide (a ≤ b))).Perm xs := List.mergeSort_perm _ _
  have hs : srt (xs.mergeSort (fun a b => decide (a ≤ b))) := fun p q x y hpq hx hy => by
    have hw := List.pairwise_mergeSort (le := fun a b : Int => decide (a ≤ b)) (fun a b c => by simp; omega) (fun a b => by simp; omega) xs
    obtain ⟨p1, rfl⟩ := List.getElem?_eq_some_iff.1 hx
    obtain ⟨q1, rfl⟩ := List.getElem?_eq_some_iff.1 hy
    have := (List.pairwise_iff_getElem.1 hw) p q p1 q1 hpq
    simpa using this
  have := srt_iota hp hs
  rw [show (xs.length : Int) = n from hl, h, decide_eq_true_eq] at this
  refine hp.mem_iff.1 ?_
  rw [this, iota_mem]
  have := hp.length_eq
  omega
/-- How many pairs are the other way round. -/
def dcS (a b : List Int) : Int := suP (fun p => if wb b p.2 < wb b p.1 then 1 else 0) (opI a a.length)
theorem dcS_eq {n : Int} {a b : List Int} (ha : orB n a = true) (hb : orB n b = true) : suP (fun p => ((cntP (opI a a.length) p : Nat) : Int)) (opI b.reverse b.reverse.length) = dcS a b := by
  rw [suP_swap]
  refine suP_congr fun p hp => ?_
  obtain ⟨m1, m2⟩ := opI_mem (Nat.le_refl _) hp
  obtain ⟨-, hab, -⟩ := orB_iff.1 ha
  obtain ⟨p1, p2⟩ := p
  have b1 := hab p1 m1
  have b2 := hab p2 m2
  rw [bef_rev (orB_iff.1 hb).2.2 (orB_mem hb b1.1 (by omega)) (orB_mem hb b2.1 (by omega))]
  split <;> rfl
end Go.Proofs.YtfmfgpipklmecaaDoor

namespace Go.Proofs.YtfmfgpipklmecaaDoor
open Go.ChangeShapes Go.WideShapes Go.ChangeAt Go.RowKit Go.Deep

/-- Turned round up to i from both ends. -/
def rvT (xs : List Int) (i : Nat) (X : List Int) : Prop := X.length = xs.length ∧ ∀ p, p < xs.length → X[p]? = if p < i ∨ xs.length < p + i + 1 then xs[xs.length - 1 - p]? else xs[p]?
theorem rvT.zero (xs : List Int) : rvT xs 0 xs := ⟨rfl, fun p hp => by rw [if_neg (by omega)]⟩
theorem rvT.done {xs X : List Int} {i : Nat} (h : rvT xs i X) (hi : xs.length ≤ 2 * i + 1) : X = xs.reverse := by
  apply List.ext_getElem?
  intro p
  by_cases hp : p < xs.length
  · rw [h.2 p hp, List.getElem?_reverse hp]
    by_cases h1 : p < i ∨ xs.length < p + i + 1
    · rw [if_pos h1]
    · rw [if_neg h1, show xs.length - 1 - p = p from by omega]
  · rw [List.getElem?_eq_none (by rw [h.1]; omega), List.getElem?_eq_none (by simp; omega)]
theorem rvT.step {xs X : List Int} {i j : Nat} {a b : Int} (h : rvT xs i X) (hij : i < j) (hj : i + j + 1 = xs.length) (ha : X[i]? = some a) (hb : X[j]? = some b) : rvT xs (i + 1) ((X.set i b).set j a) := by
  have hai := h.2 i (by omega)
  rw [if_neg (by omega), ha] at hai
  have hbj := h.2 j (by omega)
  rw [if_neg (by omega), hb] at hbj
  refine ⟨by simp [h.1], fun p hp => ?_⟩
  by_cases e1 : p = j
  · subst e1
    rw [List.getElem?_set_self (by rw [List.length_set, h.1]; omega), if_pos (by omega), show xs.length - 1 - p = i from by omega, hai]
  · rw [List.getElem?_set_ne (Ne.symm e1)]
    by_cases e2 : p = i
    · subst e2
      rw [List.getElem?_set_self (by rw [h.1]; omega), if_pos (by omega), show xs.length - 1 - p = j from by omega, hbj]
    · rw [List.getElem?_set_ne (Ne.symm e2), h.2 p hp]
      by_cases h1 : p < i ∨ xs.length < p + i + 1
      · rw [if_pos h1, if_pos (by omega)]
      · rw [if_neg h1, if_neg (by omega)]

set_option maxRecDepth 100000 in
set_option maxHeartbeats 4000000 in
theorem reverseI_any (xs : List Int) (h0 : 0 < xs.length) (h8 : xs.length ≤ 8) (g cap base : Nat) (hbg : base ≤ g) (w : World) (h : OI w g xs cap) :
    Calls Tryd.prog 78 #[.slice (some ⟨g, 0, none⟩) xs.length cap] w fun e w' => (∃ v, e = .returned v) ∧ OI w' g xs.reverse cap ∧ Below base w w' := by
  have H := Lib.hid h
  clear h
  go_enter Tryd.func78, Tryd.ntmps78
  have v1 : IntKind.i64.wrap ((xs.length : Int) - 1) = (xs.length : Int) - 1 := IntWalk.i64_in _ ⟨by omega, by omega⟩
  have v2 : wrap64 ((xs.length : Int) - 1) = (xs.length : Int) - 1 := IntWalk.wrap64_in _ ⟨by omega, by omega⟩
  go_wp2_with fail
  go_loopw [2, 3] (fun s2 s3 wr => ∃ (i : Nat) (X : List Int), i ≤ xs.length ∧ s2 = .int .i64 i ∧ s3 = .int .i64 ((xs.length : Int) - 1 - i) ∧ rvT xs i X ∧ OI wr g X cap ∧ Below base w wr) (fun s2 _ _ => xs.length - (intOf s2).toNat)
  case atStart => exact ⟨0, xs, by omega, rfl, by simp, rvT.zero xs, H.out, Below.refl _ _⟩
  case round =>
    clear v1 v2
    obtain ⟨i, X, hi, rfl, rfl, hT, hO, hB⟩ := hrel
    obtain ⟨wb, rfl⟩ : ∃ u, u = wr := ⟨_, rfl⟩
    have HT := Lib.hid hT
    have HO := Lib.hid hO
    have HB := Lib.hid hB
    have HXl := Lib.hid hT.1
    clear hT hO hB
    have hi0 : (0 : Int) ≤ (i : Int) := Int.natCast_nonneg _
    by_cases hlt : 2 * i + 1 < xs.length
    · obtain ⟨j, hj⟩ : ∃ j, i + j + 1 = xs.length := ⟨xs.length - 1 - i, by omega⟩
      have hje : (xs.length : Int) - 1 - (i : Int) = (j : Int) := by omega
      rw [hje]
      have hlt9 : (i : Int) < (j : Int) := by omega
      have hi8 : (i : Int) < xs.length := by omega
      have hj8 : (j : Int) < xs.length := by omega
      have hj0 : (0 : Int) ≤ (j : Int) := Int.natCast_nonneg _
      have hij : i ≠ j := by omega
      obtain ⟨a, ha⟩ : ∃ a, X[i]? = some a := ⟨_, List.getElem?_eq_getElem (by rw [HXl.out]; omega)⟩
      obtain ⟨b, hb⟩ : ∃ b, X[j]? = some b := ⟨_, List.getElem?_eq_getElem (by rw [HXl.out]; omega)⟩
      have c1 := HO.out.cell ha
      have c2 := HO.out.cell hb
      have f1 := HO.out.frozen i
      have f2 := HO.out.frozen j
      have HSt := Lib.hid (HT.out.step (by omega) hj ha hb)
      have m1 : OI ((wb.setCell ⟨g, i, none⟩ (.int .i64 b)).setCell ⟨g, j, none⟩ (.int .i64 a)) g ((X.set i b).set j a) cap := (HO.out.set i b).set j a
      have mb : Below base w ((wb.setCell ⟨g, i, none⟩ (.int .i64 b)).setCell ⟨g, j, none⟩ (.int .i64 a)) := (HB.out.setCell (p := ⟨g, i, none⟩) hbg _).setCell (p := ⟨g, j, none⟩) hbg _
      have mb2 : Below base w ((wb.drew.setCell ⟨g, i, none⟩ (.int .i64 b)).setCell ⟨g, j, none⟩ (.int .i64 a)) := (HB.out.drew.setCell (p := ⟨g, i, none⟩) hbg _).setCell (p := ⟨g, j, none⟩) hbg _
      have M1 := Lib.hid m1
      have MB := Lib.hid mb
      have MB2 := Lib.hid mb2
      have u1 : IntKind.i64.wrap ((j : Int) - 1) = (j : Int) - 1 := IntWalk.i64_in _ ⟨by omega, by omega⟩
      have u2 : wrap64 ((j : Int) - 1) = (j : Int) - 1 := IntWalk.wrap64_in _ ⟨by omega, by omega⟩
      clear ha hb m1 mb mb2
      go_wp2_with fail
      go_region
      go_wp2
      go_roundw
      case rel => exact ⟨i + 1, (X.set i b).set j a, by omega, by go_num, by (congr 1; omega), HSt.out, by first | exact M1.out | exact M1.out.drew, by first | exact MB.out | exact MB.out.drew | exact MB2.out⟩
      case measure => simp [intOf]; omega
    · have HX9 : Hid (X = xs.reverse) := HT.out.done (by omega)
      have hn9 : ¬ (i : Int) < (xs.length : Int) - 1 - i := by omega
      go_wp2
      go_end0
      exact ⟨⟨_, rfl⟩, by rw [← HX9.out]; exact HO.out, HB.out⟩

theorem Tryd.asB0 (v : Value) (w : World) : (Instr.typeAssert (.iface 85 (.agg #[v])) 80 59 true).run Tryd.prog w = .ok (.tuple #[.slice none 0 0, .bool false]) w := by kernel_rfl
theorem Tryd.asB1 (v : Value) (w : World) : (Instr.typeAssert (.iface 85 (.agg #[v])) 80 78 true).run Tryd.prog w = .ok (.tuple #[.int .i64 0, .bool false]) w := by kernel_rfl
theorem Tryd.asB2 (v : Value) (w : World) : (Instr.typeAssert (.iface 85 (.agg #[v])) 80 82 true).run Tryd.prog w = .ok (.tuple #[.agg #[.nilIface, .int .i64 0], .bool false]) w := by kernel_rfl
theorem Tryd.asB3 (v : Value) (w : World) : (Instr.typeAssert (.iface 85 (.agg #[v])) 80 85 true).run Tryd.prog w = .ok (.tuple #[.agg #[v], .bool true]) w := by kernel_rfl

set_option maxRecDepth 100000 in
set_option maxHeartbeats 4000000 in
theorem listOfB_any (xs : List Int) (h0 : 0 < xs.length) (h8 : xs.length ≤ 8) (A : Option Addr) (c : Nat) (w : World) (hr : Rd w w.heap.size icells A xs) :
    Calls Tryd.prog 55 #[.iface 85 (.agg #[.iface 59 (.slice A xs.length c)])] w fun e w' => ∃ A' c', e = .returned (.slice A' xs.reverse.length c') ∧ w'.ownsRow w.heap.size 2 1 (.slice A' xs.reverse.length c') xs.reverse.length (xs.reverse.flatMap icells) ∧ Below w.heap.size w w' := by
  have b0 := Tryd.asB0 (.iface 59 (.slice A xs.length c))
  have b1 := Tryd.asB1 (.iface 59 (.slice A xs.length c))
  have b2 := Tryd.asB2 (.iface 59 (.slice A xs.length c))
  have b3 := Tryd.asB3 (.iface 59 (.slice A xs.length c))
  have HR := Lib.hid hr
  have hB1 : Below w.heap.size w (w.alloc (.cells #[.iface 59 (.slice A xs.length c)] 85)) := (Below.refl _ _).alloc (Nat.le_refl _) _
  have HC := Lib.hid (listOfG_any xs h0 h8 A c (w.alloc (.cells #[.iface 59 (.slice A xs.length c)] 85)) (HR.out.keep hB1))
  have HB1 := Lib.hid hB1
  have HLr : Hid (xs.reverse.length = xs.length) := List.length_reverse
  clear hr hB1
  go_enter Tryd.func55, Tryd.ntmps55
  go_wp2_with fail
  refine HC.out.mono ?_
  rintro e w1 ⟨A', c', rfl, hO, hb⟩
  have HB2 := Lib.hid (HB1.out.trans (hb.mono HB1.out.size))
  rcases OI.of hO with ⟨-, hn⟩ | ⟨g, cap, hv, hbg, hOI⟩
  · rw [hn] at h0; exact absurd h0 (by simp)
  simp only [Value.slice.injEq, true_and] at hv
  obtain ⟨rfl, rfl⟩ := hv
  have hbg2 : w.heap.size ≤ g := Nat.le_trans HB1.out.size hbg
  have HRv := Lib.hid (reverseI_any xs h0 h8 g c' w.heap.size hbg2 w1 hOI)
  clear hO hb HC hOI hbg b0 b1 b2 b3
  go_wp2_with fail
  refine HRv.out.mono ?_
  rintro e w2 ⟨⟨v, rfl⟩, hOI, hb⟩
  have HO2 := Lib.hid (hOI.own hbg2)
  have HB3 := Lib.hid (HB2.out.trans hb)
  clear hOI hb HRv
  rw [HLr.out] at HO2
  go_wp2
  go_ret
  exact ⟨some ⟨g, 0, none⟩, c', by (rw [HLr.out]; first | done | rfl), by rw [HLr.out]; exact HO2.out, HB3.out⟩

set_option maxRecDepth 100000 in
set_option maxHeartbeats 8000000 in
theorem pairsInV_any (sv : Value) (xs : List Int) (h0 : 0 < xs.length) (h8 : xs.length ≤ 8) (w : World) (HC0 : Calls Tryd.prog 55 #[sv] w fun e w' => ∃ A' c', e = .returned (.slice A' xs.length c') ∧ w'.ownsRow w.heap.size 2 1 (.slice A' xs.length c') xs.length (xs.flatMap icells) ∧ Below w.heap.size w w') :
    Calls Tryd.prog 64 #[sv] w fun e w' => ∃ A' c', e = .returned (.slice A' (opI xs xs.length).length c') ∧ w'.ownsRow w.heap.size 68 2 (.slice A' (opI xs xs.length).length c') (opI xs xs.length).length ((opI xs xs.length).flatMap pqc) ∧ Below w.heap.size w w' := by
  obtain ⟨i0, hi, hz0, hz1, hz2⟩ := info_parts Tryd.infoPq
  have HI := Lib.hid hi
  have HZ0 := Lib.hid hz0
  have HZ1 := Lib.hid hz1
  have HZ2 := Lib.hid hz2
  clear hi hz0 hz1 hz2
  have HC := Lib.hid HC0
  clear HC0
  go_enter Tryd.func64, Tryd.ntmps64
  go_wp2_with fail
  refine HC.out.mono ?_
  rintro e w1 ⟨Aq, cq, rfl, hOq, hb1⟩
  have HBq := Lib.hid hb1
  obtain ⟨g, cap, hAq, hcap, hcells⟩ : ∃ g, ∃ _ : Nat, Aq = some ⟨g, 0, none⟩ ∧ xs.length ≤ cq ∧ ∀ (j : Nat) (x : Int), xs[j]? = some x → w1.cell? ⟨g, j, none⟩ = some (.int .i64 x) := by
    have hq := hOq
    rcases hOq.2 with ⟨h', h0'⟩ | ⟨g, cap, cur, h', hb', hg', hn', -⟩
    · omega
    · simp only [Value.slice.injEq, true_and] at h'
      obtain ⟨rfl, rfl⟩ := h'
      refine ⟨g, 0, rfl, hn', fun j x hj => ?_⟩
      have hjl := (List.getElem?_eq_some_iff.1 hj).1
      rw [hq.cellAt j (by omega), flat_iN, List.getElem?_map, hj]; rfl
  subst hAq
  have HCe := Lib.hid hcells
  have HO0 : Hid (w1.ownsRow w1.heap.size 68 2 (.slice none 0 0) 0 ((opI xs 0).flatMap pqc)) := ⟨rfl, .inl ⟨rfl, rfl⟩⟩
  clear hOq hb1 hcells HC
  go_wp2_with fail
  go_loopw [3, 13] (fun v j wr => ∃ (i : Nat) (A1 : Option Addr) (n1 c1 : Nat), i ≤ xs.length ∧ j = .int .i64 i ∧ v = .slice A1 n1 c1 ∧ n1 = (opI xs i).length ∧ wr.ownsRow w1.heap.size 68 2 (.slice A1 n1 c1) n1 ((opI xs i).flatMap pqc) ∧ Below w1.heap.size w1 wr)
    (fun _ j _ => xs.length - (intOf j).toNat)
  case atStart => exact ⟨0, none, 0, 0, by omega, rfl, rfl, rfl, HO0.out, Below.refl _ _⟩
  case round =>
    clear HO0
    obtain ⟨i, A1, n1, c1, hi, rfl, rfl, hn1, hO, hB⟩ := hrel
    obtain ⟨wa, rfl⟩ : ∃ u, u = wr := ⟨_, rfl⟩
    have HO : Hid (n1 = (opI xs i ++ opK xs i (i + 1)).length ∧ wa.ownsRow w1.heap.size 68 2 (.slice A1 n1 c1) n1 ((opI xs i ++ opK xs i (i + 1)).flatMap pqc)) := by
      show _ ∧ _
      rw [opK_low xs i (i + 1) (by omega), List.append_nil]
      exact ⟨hn1, hO⟩
    have HO9 := Lib.hid hO
    have HB := Lib.hid hB
    have HN1 := Lib.hid hn1
    clear hO hB hn1
    have hi0 : (0 : Int) ≤ (i : Int) := Int.natCast_nonneg _
    by_cases hlt : i < xs.length
    · have hi8 : (i : Int) < xs.length := by omega
      obtain ⟨x, hx⟩ : ∃ x, xs[i]? = some x := ⟨_, List.getElem?_eq_getElem hlt⟩
      have e1 := (HB.out.cell (p := ⟨g, i, none⟩) (cell_lt9 (HCe.out i x hx))).trans (HCe.out i x hx)
      have hl64 := opI_len h8 i
      have u0 : IntKind.i64.wrap ((i : Int) + 1) = (i : Int) + 1 := IntWalk.i64_in _ ⟨by omega, by omega⟩
      have u00 : wrap64 ((i : Int) + 1) = (i : Int) + 1 := IntWalk.wrap64_in _ ⟨by omega, by omega⟩
      have HX := Lib.hid hx
      have hic : i + 1 ≤ cq := by omega
      have hil : i + 1 ≤ xs.length := by omega
      clear hx HN1 HO9
      by_cases hlo : cq = i + 1
      · have hxl : xs.length = i + 1 := by omega
        subst hlo
        have hz : xs.length - (i + 1) = 0 := by omega
        have HO11 : Hid (n1 = (opI xs (i + 1)).length ∧ wa.ownsRow w1.heap.size 68 2 (.slice A1 n1 c1) n1 ((opI xs (i + 1)).flatMap pqc)) := by
          have := HO.out
          rw [show opI xs (i + 1) = opI xs i ++ opK xs i (i + 1) from by rw [opI, hxl]]
          exact this
        clear HO
        go_wp2_with fail
        refine wp_loop_rounds 1 ?_
        rw [rounds_succ]
        go_wp2
        go_roundw
        case rel => exact ⟨i + 1, A1, n1, c1, by omega, by go_num, rfl, HO11.out.1, HO11.out.2, HB.out⟩
        case measure => simp [intOf]; omega
      · go_wp2_with fail
        go_loopw [3, 23] (fun v j wr => ∃ (q : Nat) (A2 : Option Addr) (n2 c2 : Nat), q ≤ xs.length - (i + 1) ∧ j = .int .i64 q ∧ v = .slice A2 n2 c2 ∧ n2 = (opI xs i ++ opK xs i (i + 1 + q)).length ∧ wr.ownsRow w1.heap.size 68 2 (.slice A2 n2 c2) n2 ((opI xs i ++ opK xs i (i + 1 + q)).flatMap pqc) ∧ Below w1.heap.size w1 wr)
          (fun _ j _ => (xs.length - (i + 1)) - (intOf j).toNat)
        case atStart => exact ⟨0, A1, n1, c1, by omega, rfl, rfl, HO.out.1, HO.out.2, HB.out⟩
        case round =>
          clear HO HB e1
          obtain ⟨q, A2, n2, c2, hq, rfl, rfl, hn2, hO, hB⟩ := hrel
          obtain ⟨wb, rfl⟩ : ∃ u, u = wr := ⟨_, rfl⟩
          have HO := Lib.hid hO
          have HB := Lib.hid hB
          have HN2 := Lib.hid hn2
          have hn2b : n2 ≤ 80 := by have := opK_len xs i (i + 1 + q); rw [hn2, List.length_append]; omega
          clear hO hB hn2
          have hq0 : (0 : Int) ≤ (q : Int) := Int.natCast_nonneg _
          by_cases hlt2 : q < xs.length - (i + 1)
          · have hq8 : (q : Int) < ((xs.length - (i + 1) : Nat) : Int) := by omega
            have hiq : i + 1 + q < xs.length := by omega
            obtain ⟨y, hy⟩ : ∃ y, xs[i + 1 + q]? = some y := ⟨_, List.getElem?_eq_getElem hiq⟩
            have e2 := (HB.out.cell (p := ⟨g, i + 1 + q, none⟩) (cell_lt9 (HCe.out _ y hy))).trans (HCe.out _ y hy)
            have hSt : Hid (opK xs i (i + 1 + (q + 1)) = opK xs i (i + 1 + q) ++ [(x, y)]) := opK_succ (k := i + 1 + q) HX.out hy (by omega)
            clear hy
            go_wp2_with (at_builtin; refine wpList_append_own _ rfl (.tmp 27) (.tmp 31) 63 rfl w1.heap.size 68 i0 (.agg #[.int .i64 0, .int .i64 0]) 2 16 Tryd.underlying63 HI.out HZ0.out HZ1.out HZ2.out rfl (by decide) _ _ _ rfl (HO.out.alloc _) ⟨wb.heap.size, 0, none⟩ 1 1 [.int .i64 x, .int .i64 y] rfl rfl ?c1 ?c2 ?c3 ?c4 ?c5 ?_)
            case c1 => exact cell_two_newP _ _ _ _
            case c2 => exact two_oneP _ _
            case c3 => unfold maxLen; omega
            case c4 => omega
            case c5 => have := HB.out.size; simp; omega
            intro v' w4 hown' hgrow _
            have hown4 : w4.ownsRow w1.heap.size 68 2 v' (n2 + 1) ((opI xs i ++ opK xs i (i + 1 + (q + 1))).flatMap pqc) := by
              rw [hSt.out, ← List.append_assoc, pqc_snoc]; simpa [pqc] using hown'
            have HB4 : Hid (Below w1.heap.size w1 w4) := (HB.out.alloc HB.out.size _).grown hgrow (by have := HB.out.size; simp; omega) (fun r e => (HO.out.lt r e).1)
            have HN4 : Hid (n2 + 1 = (opI xs i ++ opK xs i (i + 1 + (q + 1))).length) := by
              show _ = _
              rw [hSt.out, ← List.append_assoc, List.length_append, ← HN2.out]; rfl
            obtain ⟨A8, c8, rfl⟩ : ∃ A8 c8, v' = .slice A8 (n2 + 1) c8 := by
              rcases hown4.2 with ⟨h1, h2⟩ | ⟨g, cap, cur, h1, -⟩
              · exact ⟨_, _, by rw [h1, h2]⟩
              · exact ⟨_, _, h1⟩
            have HO4 := Lib.hid hown4
            clear hown' hown4 hgrow e2
            go_wp2
            go_roundw
            case rel => exact ⟨q + 1, A8, n2 + 1, c8, by omega, by go_num, rfl, HN4.out, HO4.out, HB4.out⟩
            case measure => simp [intOf]; omega
          · have hqe : i + 1 + q = xs.length := by omega
            have HO11 : Hid (n2 = (opI xs (i + 1)).length ∧ wb.ownsRow w1.heap.size 68 2 (.slice A2 n2 c2) n2 ((opI xs (i + 1)).flatMap pqc)) := by
              have h1 := HN2.out
              have h2 := HO.out
              rw [hqe] at h1 h2
              exact ⟨h1, h2⟩
            have hq9 : ¬ (q : Int) < ((xs.length - (i + 1) : Nat) : Int) := by omega
            go_wp2
            go_roundw
            case rel => exact ⟨i + 1, A2, n2, c2, by omega, by go_num, rfl, HO11.out.1, HO11.out.2, HB.out⟩
            case measure => simp [intOf]; omega
    · obtain rfl : i = xs.length := by omega
      have HB9 := Lib.hid (HBq.out.trans (HB.out.mono HBq.out.size))
      have HO10 := Lib.hid (own_base HO9.out HBq.out.size)
      go_wp2
      go_ret
      exact ⟨A1, c1, by (rw [← HN1.out]; first | done | rfl), by rw [← HN1.out]; exact HO10.out, HB9.out⟩


set_option maxRecDepth 100000 in
set_option maxHeartbeats 4000000 in
theorem agreementV_any (sv : Value) (xs : List Int) (hxs : ∀ x ∈ xs, 0 ≤ x ∧ x < 9) (h0 : 0 < xs.length) (h8 : xs.length ≤ 8) (ps : List Pq) (hps : ps.length ≤ 6500) (B n : Nat) (D : DataW Unit) (w : World) (HC0 : Calls Tryd.prog 64 #[sv] w fun e w' => ∃ A' c', e = .returned (.slice A' (opI xs xs.length).length c') ∧ w'.ownsRow w.heap.size 68 2 (.slice A' (opI xs xs.length).length c') (opI xs xs.length).length ((opI xs xs.length).flatMap pqc) ∧ Below w.heap.size w w') (hO : OwnsP w B n D) (hH : Holds D ok2 kP (cntP ps)) :
    Calls Tryd.prog 38 #[.map (some B), sv] w fun e w' => e = .returned (.int .i64 (suP (fun p => ((cntP ps p : Nat) : Int)) (opI xs xs.length))) ∧ Below w.heap.size w w' := by
  have HC := Lib.hid HC0
  have HK : Hid (∀ (W : World), Below w.heap.size w W → OwnsP W B n D) := fun W hW => hO.kept (grown_of_below hW) (by simp)
  have HH := Lib.hid hH
  have HX := Lib.hid hxs
  have HL := Lib.hid (opI_len h8 xs.length)
  clear HC0 hO hH hxs
  go_enter Tryd.func38, Tryd.ntmps38
  go_wp2_with fail
  refine HC.out.mono ?_
  rintro e w1 ⟨A', c', rfl, hO, hb⟩
  have HB := Lib.hid hb
  have HS := Lib.hid (sumForN_any (fun p => ((cntP ps p : Nat) : Int)) 6500 (by omega) (opI xs xs.length) (by have := HL.out; omega) (fun p _ => by have := cntP_le ps p; omega) A' c' w1 (own_rd2 pqc_length hO) B (fun p hp W hW => by
    obtain ⟨m1, m2⟩ := opI_mem (Nat.le_refl _) hp
    obtain ⟨p1, p2⟩ := p
    have b1 := HX.out p1 m1
    have b2 := HX.out p2 m2
    obtain ⟨a, rfl⟩ : ∃ a : Nat, p1 = (a : Int) := ⟨p1.toNat, by omega⟩
    obtain ⟨b, rfl⟩ : ∃ b : Nat, p2 = (b : Int) := ⟨p2.toNat, by omega⟩
    exact numberOf_any a b (by omega) (by omega) ps B n D W (HK.out W (hb.trans (hW.mono hb.size))) HH.out))
  clear hO hb HC
  go_wp2_with fail
  refine HS.out.mono ?_
  rintro e w2 ⟨rfl, hb2⟩
  have HB2 := Lib.hid (HB.out.trans (hb2.mono HB.out.size))
  clear hb2 HS
  go_wp2
  go_ret
  exact ⟨rfl, HB2.out⟩


set_option maxRecDepth 100000 in
set_option maxHeartbeats 4000000 in
theorem checkServings5_any (n : Int) (oss : List (List Int)) (A : Option Addr) (c : Nat) (ad : Nat → Addr) (w : World) (hl : oss.length ≤ 1048576) (hx : ∀ xs ∈ oss, xs.length ≤ 1048576) (hr : RdN w w.heap.size icells A oss) (hE : EW 5 w ad) :
    Calls Tryd.prog 35 #[.int .i64 n, .slice A oss.length c] w fun e w' => e = .returned (erO ad (chk 2 (oss.all (ioB n)))) ∧ Below w.heap.size w w' := by
  have HR := Lib.hid hr
  have HX := Lib.hid hx
  have HE := Lib.hid hE
  clear hr hx hE
  go_enter Tryd.func35, Tryd.ntmps35
  go_wp2_with fail
  go_loopw [9] (fun j wr => ∃ (i : Nat), i ≤ oss.length ∧ j = .int .i64 i ∧ AllU (ioB n) oss i ∧ Below w.heap.size w wr) (fun j _ => oss.length - (intOf j).toNat)
  case atStart => exact ⟨0, by omega, rfl, AllU.zero _ _, Below.refl _ _⟩
  case round =>
    obtain ⟨i, hi, rfl, hA, hB⟩ := hrel
    obtain ⟨wa, rfl⟩ : ∃ u, u = wr := ⟨_, rfl⟩
    have HB := Lib.hid hB
    have HA := Lib.hid hA
    clear hA hB
    have hi0 : (0 : Int) ≤ (i : Int) := Int.natCast_nonneg _
    by_cases hlt : i < oss.length
    · obtain ⟨xs, hxs⟩ : ∃ x, oss[i]? = some x := ⟨_, List.getElem?_eq_getElem hlt⟩
      have hi8 : (i : Int) < oss.length := by omega
      obtain ⟨b, o, a, c', rfl, hb, hc, hrd⟩ := (HR.out.keep HB.out).at_ hxs
      have HEa := HE.out.below HB.out (Nat.le_refl _)
      have HC := Lib.hid (implIsOrder_any n xs a c' ad wa (HX.out xs (List.mem_of_getElem? hxs)) hrd (HEa.cell 0 (by omega)))
      have HXs := Lib.hid hxs
      clear hxs hrd HEa
      cases hv : ioB n xs
      · rw [hv] at HC
        have HV : Hid (oss.all (ioB n) = false) := allU_no HXs.out hv
        clear hv
        go_wp2_with fail
        refine HC.out.mono ?_
        rintro e w3 ⟨rfl, hb3⟩
        have HB3 := Lib.hid (HB.out.trans (hb3.mono HB.out.size))
        have c2 : w3.cell? ⟨1, 0, none⟩ = some (.iface 155 (.pointer (some (ad 2)))) := (HE.out.below HB3.out (Nat.le_refl _)).cell 2 (by omega)
        clear hb3 HC
        go_wp2
        first | go_ret | skip
        exact ⟨by (rw [HV.out, chk_no, erO_some]; first | done | rfl), HB3.out⟩
      · rw [hv] at HC
        have HV := Lib.hid (HA.out.step HXs.out hv)
        clear hv
        go_wp2_with fail
        refine HC.out.mono ?_
        rintro e w3 ⟨rfl, hb3⟩
        have HB3 := Lib.hid (HB.out.trans (hb3.mono HB.out.size))
        clear hb3 HC
        go_wp2
        go_roundw
        case rel => exact ⟨i + 1, by omega, by go_num, HV.out, HB3.out⟩
        case measure => simp [intOf]; omega
    · obtain rfl : i = oss.length := by omega
      have HV := Lib.hid HA.out.all
      go_wp2
      go_ret
      exact ⟨by (rw [HV.out, chk_yes, erO_none]; first | done | rfl), HB.out⟩

end Go.Proofs.YtfmfgpipklmecaaDoor

namespace Go.Proofs.YtfmfgpipklmecaaDoor
open Go.RowKit

/-- The first k pairs of neighbours. -/
def nbK (xs : List Int) : Nat → List Pq
  | 0 => []
  | k + 1 => nbK xs k ++ [(xs.getD k 0, xs.getD (k + 1) 0)]
theorem nbK_succ {xs : List Int} {k : Nat} {x y : Int} (hx : xs[k]? = some x) (hy : xs[k + 1]? = some y) : nbK xs (k + 1) = nbK xs k ++ [(x, y)] := by
  rw [nbK, List.getD_eq_getElem?_getD, List.getD_eq_getElem?_getD, hx, hy]; rfl
theorem nbK_len (xs : List Int) : ∀ k, (nbK xs k).length = k
  | 0 => rfl
  | k + 1 => by rw [nbK, List.length_append, nbK_len xs k]; rfl
theorem nbK_mem {xs : List Int} : ∀ {k : Nat} {p : Pq}, k + 1 ≤ xs.length → p ∈ nbK xs k → p.1 ∈ xs ∧ p.2 ∈ xs
  | 0, p, _, h => by simp [nbK] at h
  | k + 1, p, hk, h => by
    rw [nbK, List.mem_append] at h
    rcases h with h | h
    · exact nbK_mem (by omega) h
    · have e : p = (xs.getD k 0, xs.getD (k + 1) 0) := by simpa using h
      rw [e, List.getD_eq_getElem?_getD, List.getD_eq_getElem?_getD, List.getElem?_eq_getElem (show k < xs.length by omega), List.getElem?_eq_getElem (show k + 1 < xs.length by omega)]
      exact ⟨List.getElem_mem (show k < xs.length by omega), List.getElem_mem (show k + 1 < xs.length by omega)⟩
def foP (oss : List (List Int)) : Nat → List Pq
  | 0 => []
  | t + 1 => foP oss t ++ nbK (oss.getD t []) ((oss.getD t []).length - 1)
theorem foP_succ {oss : List (List Int)} {t : Nat} {xs : List Int} (h : oss[t]? = some xs) : foP oss (t + 1) = foP oss t ++ nbK xs (xs.length - 1) := by
  have e : oss.getD t [] = xs := by rw [List.getD_eq_getElem?_getD, h]; rfl
  rw [foP, e]
theorem foP_len {oss : List (List Int)} (h : ∀ xs ∈ oss, xs.length ≤ 8) : ∀ t, t ≤ oss.length → (foP oss t).length ≤ 8 * t
  | 0, _ => by simp [foP]
  | t + 1, ht => by
    have := foP_len h t (by omega)
    have hx : oss[t]? = some (oss[t]'(by omega)) := List.getElem?_eq_getElem (by omega)
    have := h _ (List.getElem_mem (show t < oss.length by omega))
    rw [foP_succ hx, List.length_append, nbK_len]; omega
theorem foP_ok {oss : List (List Int)} (h : ∀ xs ∈ oss, 0 < xs.length ∧ ∀ x ∈ xs, 0 ≤ x ∧ x < 9) : ∀ t, t ≤ oss.length → ∀ p ∈ foP oss t, ok2 p
  | 0, _, p, hp => by simp [foP] at hp
  | t + 1, ht, p, hp => by
    have hx : oss[t]? = some (oss[t]'(by omega)) := List.getElem?_eq_getElem (by omega)
    have hm := h _ (List.getElem_mem (show t < oss.length by omega))
    rw [foP_succ hx, List.mem_append] at hp
    rcases hp with hp | hp
    · exact foP_ok h t (by omega) p hp
    · obtain ⟨m1, m2⟩ := nbK_mem (by omega) hp
      exact ⟨hm.2 _ m1, hm.2 _ m2⟩
/-- How often, of pairs. -/
def ctF (ps : List Pq) : Nat → Nat → Nat := fun a b => cntP ps ((a : Int), (b : Int))
theorem ctF_nil (n : Nat) : mat n (ctF []) = zL n n := by
  apply List.ext_getElem?
  intro a
  by_cases ha : a < n
  · rw [mat_at _ ha, zL, List.getElem?_replicate, if_pos ha]
    congr 1
    apply List.ext_getElem?
    intro b
    by_cases hb : b < n
    · rw [mRow_at _ _ hb, List.getElem?_replicate, if_pos hb]; rfl
    · rw [List.getElem?_eq_none (by rw [mRow_len]; omega), List.getElem?_eq_none (by simp; omega)]
  · rw [List.getElem?_eq_none (by rw [mat_len]; omega), List.getElem?_eq_none (by rw [zL_len]; omega)]
theorem ctF_set {n : Nat} (ps : List Pq) {i k : Nat} (hi : i < n) (hk : k < n) {q : Nat} (hq : ctF ps i k = q) : (mat n (ctF ps)).set i ((mRow n (ctF ps) i).set k ((q : Int) + 1)) = mat n (ctF (ps ++ [((i : Int), (k : Int))])) :=
  mat_set hi hk (by unfold ctF at hq ⊢; rw [cntP_app, hq, cntP_cons, if_pos rfl, cntP_nil]; omega) (fun a b _ _ h => by
    unfold ctF
    rw [cntP_app, cntP_cons, if_neg (fun e => h (by simp only [Prod.mk.injEq] at e; omega)), cntP_nil]; omega)
def foOk (n : Int) (oss : List (List Int)) : Bool := (wi 1 8 n && oss.all (orB n)) && decide (oss.length ≤ 100)
def foA (n : Int) (oss : List (List Int)) : List (List Int) := if foOk n oss = true then mat n.toNat (ctF (foP oss oss.length)) else []
def foC (n : Int) (oss : List (List Int)) : Int := if wi 1 8 n = true then (if oss.all (orB n) = true then (if oss.length ≤ 100 then 0 else 3) else 4) else 2
theorem fo_rng {n : Int} (oss : List (List Int)) (h : wi 1 8 n = false) : foA n oss = [] ∧ foC n oss = 2 := by simp [foA, foC, foOk, h]
theorem fo_ord {n : Int} {oss : List (List Int)} (h : wi 1 8 n = true) (h2 : oss.all (orB n) = false) : foA n oss = [] ∧ foC n oss = 4 := by simp only [foA, foC, foOk, h, h2]; exact ⟨rfl, rfl⟩
theorem fo_lim {n : Int} {oss : List (List Int)} (h : wi 1 8 n = true) (h2 : oss.all (orB n) = true) (h3 : ¬ oss.length ≤ 100) : foA n oss = [] ∧ foC n oss = 3 := by
  simp only [foA, foC, foOk, h, h2, decide_eq_false h3, if_neg h3]; exact ⟨rfl, rfl⟩
theorem fo_yes {n : Int} {oss : List (List Int)} (h : wi 1 8 n = true) (h2 : oss.all (orB n) = true) (h3 : oss.length ≤ 100) : foA n oss = mat n.toNat (ctF (foP oss oss.length)) ∧ foC n oss = 0 := by
  simp only [foA, foC, foOk, h, h2, decide_eq_true h3, if_pos h3]; exact ⟨rfl, rfl⟩
theorem fo_len (n : Int) (oss : List (List Int)) : (foA n oss).length ≤ 1048576 := by
  unfold foA
  split
  · have h : foOk n oss = true := by assumption
    simp only [foOk, Bool.and_eq_true] at h
    have := wi_iff.1 h.1.1
    rw [mat_len]; omega
  · simp
theorem fo_each (n : Int) (oss : List (List Int)) : ∀ ys ∈ foA n oss, ys.length ≤ 1048576 := by
  unfold foA
  split
  · have h : foOk n oss = true := by assumption
    simp only [foOk, Bool.and_eq_true] at h
    have := wi_iff.1 h.1.1
    intro ys hy
    obtain ⟨a, -, rfl⟩ := List.mem_map.1 hy
    rw [mRow_len]; omega
  · simp
end Go.Proofs.YtfmfgpipklmecaaDoor

namespace Go.Proofs.YtfmfgpipklmecaaDoor
open Go.ChangeShapes Go.WideShapes Go.ChangeAt Go.RowKit Go.Deep
open Go.Maps (Keyed)

/-- A list of lists in blocks of their own, at one of them. -/
theorem RsN.one {w : World} {g : Nat} {oss : List (List Int)} {gs : List Nat} (h : RsN w g 23 2 icells oss gs) {i : Nat} {xs : List Int} (hx : oss[i]? = some xs) :
    ∃ gi, w.cell? ⟨g, i, none⟩ = some (.slice (some ⟨gi, 0, none⟩) xs.length xs.length) ∧ Rd w w.heap.size icells (some ⟨gi, 0, none⟩) xs ∧ ∀ (j : Nat) (x : Int), xs[j]? = some x → w.cell? ⟨gi, j, none⟩ = some (.int .i64 x) := by
  obtain ⟨hl, ho, hi, -⟩ := h
  have hil := (List.getElem?_eq_some_iff.1 hx).1
  obtain ⟨gi, hg⟩ : ∃ gi, gs[i]? = some gi := ⟨_, List.getElem?_eq_getElem (by omega)⟩
  have hz : (List.zipWith hdOf gs oss)[i]? = some (hdOf gi xs) := by rw [List.getElem?_zipWith, hg, hx]
  have h9 := rowH (range_row hcells_length (Rs.range ho) hz)
  have hc : w.cell? ⟨g, i, none⟩ = some (.slice (some ⟨gi, 0, none⟩) xs.length xs.length) := by simpa [hdOf] using h9
  have hR := hi i gi xs hg hx
  refine ⟨gi, hc, hR.rd hR.lt, fun j x hj => ?_⟩
  have := rowI (range_row icells_length (Rs.range hR) hj)
  simpa using this

set_option maxRecDepth 100000 in
set_option maxHeartbeats 8000000 in
theorem specFollows_any (n : Int) (oss : List (List Int)) (g : Nat) (gs : List Nat) (c : Nat) (w : World) (hl : oss.length ≤ 1048576) (hx : ∀ xs ∈ oss, xs.length ≤ 1048576) (hr : RsN w g 23 2 icells oss gs) :
    Calls Tryd.prog 39 #[.int .i64 n, .slice (some ⟨g, 0, none⟩) oss.length c] w fun e w' => ∃ A' c', e = .returned (.tuple #[.slice A' (foA n oss).length c', .int .i64 (foC n oss)]) ∧ RdN w' w'.heap.size icells A' (foA n oss) ∧ Below w.heap.size w w' := by
  have HC := Lib.hid (l07Samples_any n w)
  have HR := Lib.hid hr
  have HX := Lib.hid hx
  clear hr hx
  go_enter Tryd.func39, Tryd.ntmps39
  go_wp2_with fail
  refine HC.out.mono ?_
  rintro e w1 ⟨rfl, rfl⟩
  clear HC
  cases h0 : wi 1 8 n
  · have E := Lib.hid (fo_rng oss h0)
    clear h0
    go_wp2
    go_ret2
    refine ⟨_, _, by (rw [E.out.1, E.out.2]; first | done | rfl), ?_, (Below.refl _ _).alloc (Nat.le_refl _) _⟩
    rw [E.out.1]
    exact (empty_ownH w w.heap.size (Nat.le_refl _)).rd icells_length
  have hn := wi_iff.1 h0
  have HN := Lib.hid hn
  have H0 := Lib.hid h0
  clear h0
  go_wp2_with fail
  go_loopw [6] (fun j wr => ∃ (i : Nat), i ≤ oss.length ∧ j = .int .i64 i ∧ AllU (orB n) oss i ∧ Below w.heap.size w wr) (fun j _ => oss.length - (intOf j).toNat)
  case atStart => exact ⟨0, by omega, rfl, AllU.zero _ _, Below.refl _ _⟩
  case round =>
    obtain ⟨i, hi, rfl, hA, hB⟩ := hrel
    obtain ⟨wa, rfl⟩ : ∃ u, u = wr := ⟨_, rfl⟩
    have HB := Lib.hid hB
    have HA := Lib.hid hA
    clear hA hB
    have hi0 : (0 : Int) ≤ (i : Int) := Int.natCast_nonneg _
    by_cases hlt : i < oss.length
    · obtain ⟨xs, hxs⟩ : ∃ x, oss[i]? = some x := ⟨_, List.getElem?_eq_getElem hlt⟩
      have hi8 : (i : Int) < oss.length := by omega
      obtain ⟨gi, hc, hrd, -⟩ := (HR.out.keep HB.out).one hxs
      have HO := Lib.hid (l07Order_any n HN.out xs (some ⟨gi, 0, none⟩) xs.length wa (HX.out xs (List.mem_of_getElem? hxs)) (Nat.le_refl _) hrd)
      have HXs := Lib.hid hxs
      clear hxs hrd
      cases hv : orB n xs
      · rw [hv] at HO
        have E := Lib.hid (fo_ord H0.out (allU_no HXs.out hv))
        clear hv
        go_wp2_with fail
        refine HO.out.mono ?_
        rintro e w3 ⟨rfl, hb3⟩
        have HB3 := Lib.hid (HB.out.trans (hb3.mono HB.out.size))
        clear hb3 HO
        go_wp2
        first | go_ret2 | skip
        refine ⟨_, _, by (rw [E.out.1, E.out.2]; first | done | rfl), ?_, HB3.out.alloc HB3.out.size _⟩
        rw [E.out.1]
        exact (empty_ownH w3 w3.heap.size (Nat.le_refl _)).rd icells_length
      · rw [hv] at HO
        have HV := Lib.hid (HA.out.step HXs.out hv)
        clear hv
        go_wp2_with fail
        refine HO.out.mono ?_
        rintro e w3 ⟨rfl, hb3⟩
        have HB3 := Lib.hid (HB.out.trans (hb3.mono HB.out.size))
        clear hb3 HO
        go_wp2
        go_roundw
        case rel => exact ⟨i + 1, by omega, by go_num, HV.out, HB3.out⟩
        case measure => simp [intOf]; omega
    · obtain rfl : i = oss.length := by omega
      have HV := Lib.hid HA.out.all
      by_cases h3 : oss.length ≤ 100
      · have E := Lib.hid (fo_yes H0.out HV.out h3)
        have hnb := HN.out
        obtain ⟨N, hN⟩ : ∃ N : Nat, n.toNat = N := ⟨_, rfl⟩
        have hnN : n = (N : Int) := by omega
        rw [hN] at E
        subst hnN
        have hN8 : N ≤ 8 := by omega
        have HOs : Hid (∀ xs ∈ oss, xs.length = N ∧ ∀ x ∈ xs, 0 ≤ x ∧ x < (N : Int)) := fun xs hm => by
          have := orB_iff.1 (List.all_eq_true.1 HV.out xs hm)
          exact ⟨by omega, fun x hx => by have := this.2.1 x hx; omega⟩
        have HFl : Hid (∀ t, t ≤ oss.length → (foP oss t).length ≤ 8 * t) := foP_len (fun xs hm => by have := (HOs.out xs hm).1; omega)
        have HSq := Lib.hid (l07Square_any N hN8 wa)
        clear hN
        go_wp2_with fail
        refine HSq.out.mono ?_
        rintro e w2 ⟨Aq, cq, hsq, rfl, hO, hb⟩
        have HO0 : Hid (OwnN w2 wa.heap.size 23 2 1 icells Aq cq hsq (mat N (ctF (foP oss 0)))) := by show OwnN _ _ _ _ _ _ _ _ _ _; rw [show foP oss 0 = [] from rfl, ctF_nil]; exact hO
        have HB0 := Lib.hid hb
        have HR0 : Hid (RsN wa g 23 2 icells oss gs) := HR.out.keep HB.out
        clear hO hb HSq
        go_wp2_with fail
        go_loopw [8] (fun j wr => ∃ (t : Nat), t ≤ oss.length ∧ j = .int .i64 t ∧ OwnN wr wa.heap.size 23 2 1 icells Aq cq hsq (mat N (ctF (foP oss t))) ∧ Below wa.heap.size wa wr) (fun j _ => oss.length - (intOf j).toNat)
        case atStart => exact ⟨0, by omega, rfl, HO0.out, HB0.out⟩
        case round =>
          clear HO0 HB0
          obtain ⟨t, ht, rfl, hO, hB2⟩ := hrel
          obtain ⟨wb, rfl⟩ : ∃ u, u = wr := ⟨_, rfl⟩
          have HO := Lib.hid hO
          have HB2 := Lib.hid hB2
          clear hO hB2
          have ht0 : (0 : Int) ≤ (t : Int) := Int.natCast_nonneg _
          by_cases hlt2 : t < oss.length
          · obtain ⟨xs, hxs⟩ : ∃ x, oss[t]? = some x := ⟨_, List.getElem?_eq_getElem hlt2⟩
            have ht8 : (t : Int) < oss.length := by omega
            have HXs := Lib.hid hxs
            have hxo := HOs.out xs (List.mem_of_getElem? hxs)
            have HXl := Lib.hid hxo.1
            have HXb := Lib.hid hxo.2
            have hfl := HFl.out t (by omega)
            have HO2 : Hid (OwnN wb wa.heap.size 23 2 1 icells Aq cq hsq (mat N (ctF (foP oss t ++ nbK xs 0)))) := by show OwnN _ _ _ _ _ _ _ _ _ _; rw [show nbK xs 0 = [] from rfl, List.append_nil]; exact HO.out
            clear hxs hxo HO
            go_wp2_with fail
            go_loopw [9] (fun j wr => ∃ (k : Nat), k + 1 ≤ N ∧ j = .int .i64 ((k : Int) + 1) ∧ OwnN wr wa.heap.size 23 2 1 icells Aq cq hsq (mat N (ctF (foP oss t ++ nbK xs k))) ∧ Below wa.heap.size wa wr) (fun j _ => N - (intOf j).toNat)
            case atStart => exact ⟨0, by omega, rfl, HO2.out, HB2.out⟩
            case round =>
              clear HO2 HB2
              obtain ⟨k, hk, rfl, hO, hB2⟩ := hrel
              obtain ⟨wc, rfl⟩ : ∃ u, u = wr := ⟨_, rfl⟩
              have HO := Lib.hid hO
              have HB2 := Lib.hid hB2
              clear hO hB2
              have hk0 : (0 : Int) ≤ (k : Int) := Int.natCast_nonneg _
              obtain ⟨gi, hc0, -, hcx⟩ := HR0.out.one HXs.out
              rw [HXl.out] at hc0
              have hc := (HB2.out.cell (p := ⟨g, t, none⟩) (cell_lt9 hc0)).trans hc0
              by_cases hlt3 : k + 1 < N
              · have hk8 : (k : Int) + 1 < N := by omega
                obtain ⟨x, hx⟩ : ∃ x, xs[k]? = some x := ⟨_, List.getElem?_eq_getElem (by rw [HXl.out]; omega)⟩
                obtain ⟨y, hy⟩ : ∃ y, xs[k + 1]? = some y := ⟨_, List.getElem?_eq_getElem (by rw [HXl.out]; omega)⟩
                have hxb := HXb.out x (List.mem_of_getElem? hx)
                have hyb := HXb.out y (List.mem_of_getElem? hy)
                obtain ⟨a, rfl⟩ : ∃ a : Nat, x = (a : Int) := ⟨x.toNat, by omega⟩
                obtain ⟨b, rfl⟩ : ∃ b : Nat, y = (b : Int) := ⟨y.toNat, by omega⟩
                have haN : a < N := by omega
                have hbN : b < N := by omega
                have haN8 : (a : Int) < N := by omega
                have hbN8 : (b : Int) < N := by omega
                have ha0 : (0 : Int) ≤ (a : Int) := Int.natCast_nonneg _
                have hb0 : (0 : Int) ≤ (b : Int) := Int.natCast_nonneg _
                have hkA : (k : Int) < N := by omega
                have hkB : ¬ (k : Int) + 1 < 0 := by omega
                have HK1 : Hid (k + 1 + 1 ≤ N) := by show _ ≤ _; omega
                have HK2 : Hid (Value.int .i64 ((k : Int) + 1 + 1) = Value.int .i64 (((k + 1 : Nat) : Int) + 1)) := by show _ = _; rw [Int.natCast_add]; rfl
                have HK3 : Hid (N - ((k : Int) + 1 + 1).toNat < N - ((k : Int) + 1).toNat) := by show _ < _; omega
                have g1 := hcx k _ hx
                have g3 := hcx (k + 1) _ hy
                obtain ⟨wd, hwd⟩ : ∃ wd, wc.drew = wd := ⟨_, rfl⟩
                have HBd : Hid (Below wa.heap.size wa wd) := by show Below _ _ _; rw [← hwd]; exact HB2.out.drew
                have HOd : Hid (OwnN wd wa.heap.size 23 2 1 icells Aq cq hsq (mat N (ctF (foP oss t ++ nbK xs k)))) := by show OwnN _ _ _ _ _ _ _ _ _ _; rw [← hwd]; exact HO.out.keep ((Below.refl _ _).drew)
                have e0 := (HBd.out.cell (p := ⟨g, t, none⟩) (cell_lt9 hc0)).trans hc0
                have e1 := (HBd.out.cell (p := ⟨gi, k, none⟩) (cell_lt9 g1)).trans g1
                have e2 := (HBd.out.cell (p := ⟨gi, k + 1, none⟩) (cell_lt9 g3)).trans g3
                obtain ⟨gA, g2, d2, rfl, f1, hh, hbg, f2, f3, f4⟩ := HOd.out.rowAt (mat_at _ haN) (by rw [mRow_len]; omega)
                have f5 := f2 b _ (mRow_at _ a hbN)
                have f6 := f3 b
                obtain ⟨q, hq⟩ : ∃ q, ctF (foP oss t ++ nbK xs k) a b = q := ⟨_, rfl⟩
                have f7 := f4 b ((q : Int) + 1)
                rw [ctF_set _ haN hbN hq, List.append_assoc, ← nbK_succ hx hy] at f7
                rw [hq] at f5
                rw [mRow_len] at f1 hh
                have hqb : q ≤ 2000 := by
                  have h1 := cntP_le (foP oss t ++ nbK xs k) ((a : Int), (b : Int))
                  rw [List.length_append, nbK_len] at h1
                  have h2 : cntP (foP oss t ++ nbK xs k) ((a : Int), (b : Int)) = q := hq
                  omega
                have u1 : IntKind.i64.wrap ((q : Int) + 1) = (q : Int) + 1 := IntWalk.i64_in _ ⟨by omega, by omega⟩
                have u2 : wrap64 ((q : Int) + 1) = (q : Int) + 1 := IntWalk.wrap64_in _ ⟨by omega, by omega⟩
                have u3 : IntKind.i64.wrap ((k : Int) + 1 - 1) = (k : Int) := by rw [Int.add_sub_cancel]; exact IntWalk.i64_in _ ⟨by omega, by omega⟩
                have u4 : wrap64 ((k : Int) + 1 - 1) = (k : Int) := by rw [Int.add_sub_cancel]; exact IntWalk.wrap64_in _ ⟨by omega, by omega⟩
                have U7 : Hid (IntKind.i64.wrap (k : Int) = (k : Int)) := IntWalk.i64_in _ ⟨by omega, by omega⟩
                have U8 : Hid (wrap64 (k : Int) = (k : Int)) := IntWalk.wrap64_in _ ⟨by omega, by omega⟩
                have u5 : IntKind.i64.wrap ((k : Int) + 1 + 1) = (k : Int) + 1 + 1 := IntWalk.i64_in _ ⟨by omega, by omega⟩
                have u6 : wrap64 ((k : Int) + 1 + 1) = (k : Int) + 1 + 1 := IntWalk.wrap64_in _ ⟨by omega, by omega⟩
                have HOx : Hid (OwnN (wd.setCell ⟨g2, b, none⟩ (.int .i64 ((q : Int) + 1))) wa.heap.size 23 2 1 icells (some ⟨gA, 0, none⟩) cq hsq (mat N (ctF (foP oss t ++ nbK xs (k + 1))))) := f7
                have HBx : Hid (Below wa.heap.size wa (wd.setCell ⟨g2, b, none⟩ (.int .i64 ((q : Int) + 1)))) := HBd.out.setCell (p := ⟨g2, b, none⟩) hbg _
                have HS2 : Hid ((wd.setCell ⟨g2, b, none⟩ (.int .i64 ((q : Int) + 1))).cell? ⟨g, t, none⟩ = some (.slice (some ⟨gi, 0, none⟩) N N) ∧ (wd.setCell ⟨g2, b, none⟩ (.int .i64 ((q : Int) + 1))).cell? ⟨gi, k, none⟩ = some (.int .i64 a) ∧ (wd.setCell ⟨g2, b, none⟩ (.int .i64 ((q : Int) + 1))).cell? ⟨gi, k + 1, none⟩ = some (.int .i64 b) ∧ (wd.setCell ⟨g2, b, none⟩ (.int .i64 ((q : Int) + 1))).cell? ⟨gA, a, none⟩ = some (.slice (some ⟨g2, 0, none⟩) N d2)) := by
                  refine ⟨(HBx.out.cell (p := ⟨g, t, none⟩) (cell_lt9 hc0)).trans hc0, (HBx.out.cell (p := ⟨gi, k, none⟩) (cell_lt9 g1)).trans g1, (HBx.out.cell (p := ⟨gi, k + 1, none⟩) (cell_lt9 g3)).trans g3, ?_⟩
                  obtain ⟨gA', g4, d4, eA, r1, r2, -⟩ := HOx.out.rowAt (mat_at _ haN) (by rw [mRow_len]; omega)
                  obtain rfl : gA = gA' := by simpa using eA
                  rw [mRow_len] at r1 r2
                  rw [hh] at r2
                  simp only [Option.some.injEq, Prod.mk.injEq, Addr.mk.injEq, and_true, true_and] at r2
                  obtain ⟨rfl, rfl⟩ := r2
                  exact r1
                have HS1 : Hid (wd.cell? ⟨g, t, none⟩ = some (.slice (some ⟨gi, 0, none⟩) N N) ∧ wd.cell? ⟨gi, k, none⟩ = some (.int .i64 a) ∧ wd.cell? ⟨gi, k + 1, none⟩ = some (.int .i64 b) ∧ wd.cell? ⟨gA, a, none⟩ = some (.slice (some ⟨g2, 0, none⟩) N d2)) := ⟨e0, e1, e2, f1⟩
                have F5 := Lib.hid f5
                have F6 := Lib.hid f6
                have WD := Lib.hid hwd
                clear hcx hx hy hxb hyb f1 f2 f3 f4 f5 f6 f7 hqb hq hh g1 g3 hc0 e0 e1 e2 hwd
                go_wp2_with fail
                clear hc
                refine wp_region_held_drew (S := fun w' => w'.cell? ⟨g, t, none⟩ = some (.slice (some ⟨gi, 0, none⟩) N N) ∧ w'.cell? ⟨gi, k, none⟩ = some (.int .i64 a) ∧ w'.cell? ⟨gi, k + 1, none⟩ = some (.int .i64 b) ∧ w'.cell? ⟨gA, a, none⟩ = some (.slice (some ⟨g2, 0, none⟩) N d2)) (by kernel_rfl) (by rw [WD.out]; exact HS1.out) (fun hHeld => ?_)
                refine wpAnyH_take (i := 0) (v := .slice (some ⟨gA, 0, none⟩) N cq) rfl (by kernel_rfl) (by kernel_rfl) (by kernel_rfl) (fun _ _ _ h => h) (Or.inl ⟨by rfl, fun w' h => by go_simp⟩) (by assumption) ?_
                try simp only [Act.put, List.getElem_toArray, List.getElem_cons_zero, List.getElem_cons_succ, List.setIfInBounds_toArray, List.set_cons_zero, List.set_cons_succ]
                refine wpAnyH_take (i := 1) (v := .slice (some ⟨g, 0, none⟩) oss.length c) rfl (by kernel_rfl) (by kernel_rfl) (by kernel_rfl) (fun _ _ _ h => h) (Or.inl ⟨by rfl, fun w' h => by go_simp⟩) (by assumption) ?_
                try simp only [Act.put, List.getElem_toArray, List.getElem_cons_zero, List.getElem_cons_succ, List.setIfInBounds_toArray, List.set_cons_zero, List.set_cons_succ]
                refine wpAnyH_take (i := 2) (v := .int .i64 t) rfl (by kernel_rfl) (by kernel_rfl) (by kernel_rfl) (fun _ _ _ h => h) (Or.inl ⟨by rfl, fun w' h => by go_simp⟩) (by assumption) ?_
                try simp only [Act.put, List.getElem_toArray, List.getElem_cons_zero, List.getElem_cons_succ, List.setIfInBounds_toArray, List.set_cons_zero, List.set_cons_succ]
                refine wpAnyH_take (i := 3) (v := .pointer (some ⟨g, t, none⟩)) rfl (by kernel_rfl) (by kernel_rfl) (by kernel_rfl) (fun _ _ _ h => h) (Or.inl ⟨by rfl, fun w' h => by go_simp⟩) (by assumption) ?_
                try simp only [Act.put, List.getElem_toArray, List.getElem_cons_zero, List.getElem_cons_succ, List.setIfInBounds_toArray, List.set_cons_zero, List.set_cons_succ]
                refine wpAnyH_take (i := 4) (v := .slice (some ⟨gi, 0, none⟩) N N) rfl (by kernel_rfl) (by kernel_rfl) (by kernel_rfl) (fun _ _ _ h => h) (Or.inl ⟨by rfl, fun w' h => by obtain ⟨q1, q2, q3, q4⟩ := h; go_simp⟩) (by assumption) ?_
                try simp only [Act.put, List.getElem_toArray, List.getElem_cons_zero, List.getElem_cons_succ, List.setIfInBounds_toArray, List.set_cons_zero, List.set_cons_succ]
                refine wpAnyH_take (i := 5) (v := .int .i64 ((k : Int) + 1)) rfl (by kernel_rfl) (by kernel_rfl) (by kernel_rfl) (fun _ _ _ h => h) (Or.inl ⟨by rfl, fun w' h => by go_simp⟩) (by assumption) ?_
                try simp only [Act.put, List.getElem_toArray, List.getElem_cons_zero, List.getElem_cons_succ, List.setIfInBounds_toArray, List.set_cons_zero, List.set_cons_succ]
                refine wpAnyH_take (i := 6) (v := .int .i64 (k : Int)) rfl (by kernel_rfl) (by kernel_rfl) (by kernel_rfl) (fun _ _ _ h => h) (Or.inl ⟨by rfl, fun w' h => by (have u7 := U7.out; have u8 := U8.out; clear u3 u4; go_simp)⟩) (by assumption) ?_
                try simp only [Act.put, List.getElem_toArray, List.getElem_cons_zero, List.getElem_cons_succ, List.setIfInBounds_toArray, List.set_cons_zero, List.set_cons_succ]
                refine wpAnyH_take (i := 7) (v := .pointer (some ⟨gi, k, none⟩)) rfl (by kernel_rfl) (by kernel_rfl) (by kernel_rfl) (fun _ _ _ h => h) (Or.inl ⟨by rfl, fun w' h => by go_simp⟩) (by assumption) ?_
                try simp only [Act.put, List.getElem_toArray, List.getElem_cons_zero, List.getElem_cons_succ, List.setIfInBounds_toArray, List.set_cons_zero, List.set_cons_succ]
                refine wpAnyH_take (i := 8) (v := .int .i64 (a : Int)) rfl (by kernel_rfl) (by kernel_rfl) (by kernel_rfl) (fun _ _ _ h => h) (Or.inl ⟨by rfl, fun w' h => by obtain ⟨q1, q2, q3, q4⟩ := h; go_simp⟩) (by assumption) ?_
                try simp only [Act.put, List.getElem_toArray, List.getElem_cons_zero, List.getElem_cons_succ, List.setIfInBounds_toArray, List.set_cons_zero, List.set_cons_succ]
                refine wpAnyH_take (i := 9) (v := .pointer (some ⟨gA, a, none⟩)) rfl (by kernel_rfl) (by kernel_rfl) (by kernel_rfl) (fun _ _ _ h => h) (Or.inl ⟨by rfl, fun w' h => by go_simp⟩) (by assumption) ?_
                try simp only [Act.put, List.getElem_toArray, List.getElem_cons_zero, List.getElem_cons_succ, List.setIfInBounds_toArray, List.set_cons_zero, List.set_cons_succ]
                refine wpAnyH_take (i := 10) (v := .slice (some ⟨g2, 0, none⟩) N d2) rfl (by kernel_rfl) (by kernel_rfl) (by kernel_rfl) (fun _ _ _ h => h) (Or.inl ⟨by rfl, fun w' h => by obtain ⟨q1, q2, q3, q4⟩ := h; go_simp⟩) (by assumption) ?_
                try simp only [Act.put, List.getElem_toArray, List.getElem_cons_zero, List.getElem_cons_succ, List.setIfInBounds_toArray, List.set_cons_zero, List.set_cons_succ]
                refine wpAnyH_take (i := 11) (v := .slice (some ⟨g, 0, none⟩) oss.length c) rfl (by kernel_rfl) (by kernel_rfl) (by kernel_rfl) (fun _ _ _ h => h) (Or.inl ⟨by rfl, fun w' h => by go_simp⟩) (by assumption) ?_
                try simp only [Act.put, List.getElem_toArray, List.getElem_cons_zero, List.getElem_cons_succ, List.setIfInBounds_toArray, List.set_cons_zero, List.set_cons_succ]
                refine wpAnyH_take (i := 12) (v := .int .i64 t) rfl (by kernel_rfl) (by kernel_rfl) (by kernel_rfl) (fun _ _ _ h => h) (Or.inl ⟨by rfl, fun w' h => by go_simp⟩) (by assumption) ?_
                try simp only [Act.put, List.getElem_toArray, List.getElem_cons_zero, List.getElem_cons_succ, List.setIfInBounds_toArray, List.set_cons_zero, List.set_cons_succ]
                refine wpAnyH_take (i := 13) (v := .pointer (some ⟨g, t, none⟩)) rfl (by kernel_rfl) (by kernel_rfl) (by kernel_rfl) (fun _ _ _ h => h) (Or.inl ⟨by rfl, fun w' h => by go_simp⟩) (by assumption) ?_
                try simp only [Act.put, List.getElem_toArray, List.getElem_cons_zero, List.getElem_cons_succ, List.setIfInBounds_toArray, List.set_cons_zero, List.set_cons_succ]
                refine wpAnyH_take (i := 14) (v := .slice (some ⟨gi, 0, none⟩) N N) rfl (by kernel_rfl) (by kernel_rfl) (by kernel_rfl) (fun _ _ _ h => h) (Or.inl ⟨by rfl, fun w' h => by obtain ⟨q1, q2, q3, q4⟩ := h; go_simp⟩) (by assumption) ?_
                try simp only [Act.put, List.getElem_toArray, List.getElem_cons_zero, List.getElem_cons_succ, List.setIfInBounds_toArray, List.set_cons_zero, List.set_cons_succ]
                refine wpAnyH_take (i := 15) (v := .int .i64 ((k : Int) + 1)) rfl (by kernel_rfl) (by kernel_rfl) (by kernel_rfl) (fun _ _ _ h => h) (Or.inl ⟨by rfl, fun w' h => by go_simp⟩) (by assumption) ?_
                try simp only [Act.put, List.getElem_toArray, List.getElem_cons_zero, List.getElem_cons_succ, List.setIfInBounds_toArray, List.set_cons_zero, List.set_cons_succ]
                refine wpAnyH_take (i := 16) (v := .pointer (some ⟨gi, k + 1, none⟩)) rfl (by kernel_rfl) (by kernel_rfl) (by kernel_rfl) (fun _ _ _ h => h) (Or.inl ⟨by rfl, fun w' h => by go_simp⟩) (by assumption) ?_
                try simp only [Act.put, List.getElem_toArray, List.getElem_cons_zero, List.getElem_cons_succ, List.setIfInBounds_toArray, List.set_cons_zero, List.set_cons_succ]
                refine wpAnyH_take (i := 17) (v := .int .i64 (b : Int)) rfl (by kernel_rfl) (by kernel_rfl) (by kernel_rfl) (fun _ _ _ h => h) (Or.inl ⟨by rfl, fun w' h => by obtain ⟨q1, q2, q3, q4⟩ := h; go_simp⟩) (by assumption) ?_
                try simp only [Act.put, List.getElem_toArray, List.getElem_cons_zero, List.getElem_cons_succ, List.setIfInBounds_toArray, List.set_cons_zero, List.set_cons_succ]
                refine wpAnyH_take (i := 18) (v := .pointer (some ⟨g2, b, none⟩)) rfl (by kernel_rfl) (by kernel_rfl) (by kernel_rfl) (fun _ _ _ h => h) (Or.inl ⟨by rfl, fun w' h => by go_simp⟩) (by assumption) ?_
                try simp only [Act.put, List.getElem_toArray, List.getElem_cons_zero, List.getElem_cons_succ, List.setIfInBounds_toArray, List.set_cons_zero, List.set_cons_succ]
                rw [WD.out] at hHeld ⊢
                have f5 := F5.out
                have f6 := F6.out
                refine wpAnyH_ready (rs := [19]) (by kernel_rfl) (by simp) ?_
                refine AllReadyH.cons rfl (fun K hK => ?_) AllReadyH.nil
                refine if_wanted rfl ?_
                go_simp
                refine hK.out _ _ hHeld (fun hHeld => ?_)
                clear hK K
                try simp only [Act.put, List.getElem_toArray, List.getElem_cons_zero, List.getElem_cons_succ, List.setIfInBounds_toArray, List.set_cons_zero, List.set_cons_succ]
                refine wpAnyH_take (i := 20) (v := .int .i64 ((q : Int) + 1)) rfl (by kernel_rfl) (by kernel_rfl) (by kernel_rfl) (fun _ _ _ h => h) (Or.inl ⟨by rfl, fun w' h => by go_simp⟩) (by assumption) ?_
                try simp only [Act.put, List.getElem_toArray, List.getElem_cons_zero, List.getElem_cons_succ, List.setIfInBounds_toArray, List.set_cons_zero, List.set_cons_succ]
                refine wpAnyH_take (i := 21) (v := .pointer (some ⟨g2, b, none⟩)) rfl (by kernel_rfl) (by kernel_rfl) (by kernel_rfl) (fun _ _ _ h => h) (Or.inl ⟨by rfl, fun w' h => by go_simp⟩) (by assumption) ?_
                try simp only [Act.put, List.getElem_toArray, List.getElem_cons_zero, List.getElem_cons_succ, List.setIfInBounds_toArray, List.set_cons_zero, List.set_cons_succ]
                refine wpAnyH_ready (rs := [22]) (by kernel_rfl) (by simp) ?_
                refine AllReadyH.cons rfl (fun K hK => ?_) AllReadyH.nil
                refine if_wanted rfl ?_
                go_simp
                refine hK.out _ _ HS2.out (fun hHeld => ?_)
                clear hK K
                try simp only [Act.put, List.getElem_toArray, List.getElem_cons_zero, List.getElem_cons_succ, List.setIfInBounds_toArray, List.set_cons_zero, List.set_cons_succ]
                refine wpAnyH_done (by kernel_rfl) ?_ _
                try simp only [Act.put, List.getElem_toArray, List.getElem_cons_zero, List.getElem_cons_succ, List.setIfInBounds_toArray, List.set_cons_zero, List.set_cons_succ]
                clear hHeld f5 f6
                go_wp2
                go_roundw
                case rel =>
                  refine ⟨k + 1, HK1.out, ?_⟩
                  refine ⟨HK2.out, ?_⟩
                  refine ⟨?_, HBx.out⟩
                  exact HOx.out
                case measure =>
                  clear HS1 HS2 HOx HBx
                  simp only [intOf, Array.getD_eq_getD_getElem?, List.getElem?_toArray, List.getElem?_cons_succ, List.getElem?_cons_zero, Option.getD_some]
                  exact HK3.out
              · have hkN : ¬ (k : Int) + 1 < N := by omega
                have HOx : Hid (OwnN wc wa.heap.size 23 2 1 icells Aq cq hsq (mat N (ctF (foP oss (t + 1))))) := by
                  show OwnN _ _ _ _ _ _ _ _ _ _
                  rw [foP_succ HXs.out, HXl.out, show N - 1 = k from by omega]; exact HO.out
                clear hcx
                go_wp2
                go_roundw
                case rel => exact ⟨t + 1, by omega, by go_num, HOx.out, HB2.out⟩
                case measure => simp [intOf]; omega
          · obtain rfl : t = oss.length := by omega
            have HLn : Hid ((mat N (ctF (foP oss oss.length))).length = N) := mat_len _ _
            have HB9 := Lib.hid (HB.out.trans (HB2.out.mono HB.out.size))
            go_wp2
            first | go_ret2 | skip
            refine ⟨Aq, cq, by (rw [E.out.1, E.out.2, HLn.out]; first | done | rfl), ?_, HB9.out⟩
            rw [E.out.1]
            exact HO.out.rd icells_length
      · have E := Lib.hid (fo_lim H0.out HV.out h3)
        have h3' : (100 : Int) < oss.length := by omega
        go_wp2
        go_ret2
        refine ⟨_, _, by (rw [E.out.1, E.out.2]; first | done | rfl), ?_, HB.out.alloc HB.out.size _⟩
        rw [E.out.1]
        exact (empty_ownH wa wa.heap.size (Nat.le_refl _)).rd icells_length
end Go.Proofs.YtfmfgpipklmecaaDoor

namespace Go.Proofs.YtfmfgpipklmecaaDoor
open Go.ChangeShapes Go.WideShapes Go.ChangeAt Go.RowKit Go.Deep
open Go.Maps (Keyed)

theorem Tryd.methGiven (A : Option Addr) (n c : Nat) (w : World) : (method 292 59 (.slice A n c) "loop.example/g01353/impl.samples").run Tryd.prog w = .ok (134, .slice A n c) w := by kernel_rfl
theorem src_pq (w : World) (p : Pq) : Src Tryd.prog 2 63 (.slice (some ⟨w.heap.size, 0, none⟩) 1 1) 1 (pqc p) (w.alloc (.cells #[.int .i64 p.1, .int .i64 p.2] 68)) := by
  have h1 : [p].flatMap pqc = pqc p := by simp
  have h2 : w.heap.size < (w.alloc (.cells #[.int .i64 p.1, .int .i64 p.2] 68)).heap.size := by simp
  have := src_of_rd (P := Tryd.prog) (w.alloc (.cells #[.int .i64 p.1, .int .i64 p.2] 68)) Tryd.underlying63 pqc_length pqc_one (c := 1) (A := some ⟨w.heap.size, 0, none⟩) (xs := [p]) (fun _ => ⟨w.heap.size, 0, rfl, h2, by rw [h1]; exact pq_range w p⟩)
  rw [h1] at this
  exact this
theorem samplesG_any (A : Option Addr) (n c : Nat) (hn : n ≤ 9223372036854775807) (w : World) : Calls Tryd.prog 134 #[.slice A n c] w fun e w' => e = .returned (.int .i64 n) ∧ w = w' := by
  have hw : IntKind.i64.wrap (n : Int) = n := IntWalk.i64_in _ ⟨by omega, by omega⟩
  have hw2 : wrap64 (n : Int) = n := IntWalk.wrap64_in _ ⟨by omega, by omega⟩
  go_enter Tryd.func134, Tryd.ntmps134
  go_wp2
  go_ret
  exact ⟨rfl, rfl⟩
theorem checkMany_any (oss : List (List Int)) (hl : oss.length ≤ 1048576) (A : Option Addr) (c : Nat) (ad : Nat → Addr) (w : World) (hE : EW 5 w ad) :
    Calls Tryd.prog 66 #[.slice A oss.length c] w fun e w' => e = .returned (erO ad (chk 1 (decide (oss.length ≤ 100)))) ∧ w = w' := by
  have c1 : w.cell? ⟨3, 0, none⟩ = some (.iface 155 (.pointer (some (ad 1)))) := hE.cell 1 (by omega)
  clear hE
  go_enter Tryd.func66, Tryd.ntmps66
  by_cases h : oss.length ≤ 100
  · have h9 : ¬ (100 : Int) < (oss.length : Nat) := by omega
    have hE : Hid (erO ad (chk 1 (decide (oss.length ≤ 100))) = .nilIface) := by show _ = _; rw [decide_eq_true h]; rfl
    go_wp2
    go_ret
    exact ⟨by first | rfl | (rw [hE.out]; done) | (rw [hE.out]; rfl), rfl⟩
  · have h9 : (100 : Int) < (oss.length : Nat) := by omega
    have hE : Hid (erO ad (chk 1 (decide (oss.length ≤ 100))) = .iface 155 (.pointer (some (ad 1)))) := by show _ = _; rw [decide_eq_false h]; rfl
    go_wp2
    go_ret
    exact ⟨by first | rfl | (rw [hE.out]; done) | (rw [hE.out]; rfl), rfl⟩

set_option maxRecDepth 100000 in
set_option maxHeartbeats 8000000 in
theorem neighboursG_any (xs : List Int) (h0 : 0 < xs.length) (h8 : xs.length ≤ 8) (A : Option Addr) (c : Nat) (w : World) (hr : Rd w w.heap.size icells A xs) :
    Calls Tryd.prog 67 #[.iface 59 (.slice A xs.length c)] w fun e w' => ∃ A' c', e = .returned (.slice A' (xs.length - 1) c') ∧ w'.ownsRow w.heap.size 68 2 (.slice A' (xs.length - 1) c') (xs.length - 1) ((nbK xs (xs.length - 1)).flatMap pqc) ∧ Below w.heap.size w w' := by
  obtain ⟨i0, hi, hz0, hz1, hz2⟩ := info_parts Tryd.infoPq
  have HI := Lib.hid hi
  have HZ0 := Lib.hid hz0
  have HZ1 := Lib.hid hz1
  have HZ2 := Lib.hid hz2
  clear hi hz0 hz1 hz2
  have HC := Lib.hid (listOfG_any xs h0 h8 A c w hr)
  have m1 := Tryd.methGiven A xs.length c
  have HSa : Hid (∀ W : World, Calls Tryd.prog 134 #[.slice A xs.length c] W fun e w' => e = .returned (.int .i64 xs.length) ∧ W = w') := fun W => samplesG_any A xs.length c (by omega) W
  have v1 : IntKind.i64.wrap ((xs.length : Int) - 1) = (xs.length : Int) - 1 := IntWalk.i64_in _ ⟨by omega, by omega⟩
  have v2 : wrap64 ((xs.length : Int) - 1) = (xs.length : Int) - 1 := IntWalk.wrap64_in _ ⟨by omega, by omega⟩
  clear hr
  go_enter Tryd.func67, Tryd.ntmps67
  go_wp2_with fail
  refine HC.out.mono ?_
  rintro e w1 ⟨Aq, cq, rfl, hOq, hb1⟩
  have HBq := Lib.hid hb1
  obtain ⟨g, cap, hAq, hcells⟩ : ∃ g, ∃ _ : Nat, Aq = some ⟨g, 0, none⟩ ∧ ∀ (j : Nat) (x : Int), xs[j]? = some x → w1.cell? ⟨g, j, none⟩ = some (.int .i64 x) := by
    have hq := hOq
    rcases hOq.2 with ⟨h', h0'⟩ | ⟨g, cap, cur, h', hb', hg', hn', -⟩
    · omega
    · simp only [Value.slice.injEq, true_and] at h'
      obtain ⟨rfl, rfl⟩ := h'
      refine ⟨g, 0, rfl, fun j x hj => ?_⟩
      have hjl := (List.getElem?_eq_some_iff.1 hj).1
      rw [hq.cellAt j (by omega), flat_iN, List.getElem?_map, hj]; rfl
  subst hAq
  have HCe := Lib.hid hcells
  have HO0 : Hid (w1.ownsRow w1.heap.size 68 2 (.slice none 0 0) 0 ((nbK xs 0).flatMap pqc)) := ⟨rfl, .inl ⟨rfl, rfl⟩⟩
  clear hOq hb1 hcells HC
  go_wp2_with fail
  refine (HSa.out w1).mono ?_
  rintro e w9 ⟨rfl, rfl⟩
  clear HSa
  go_wp2_with fail
  clear m1
  go_loopw [3, 11] (fun v j wr => ∃ (i : Nat) (A1 : Option Addr) (c1 : Nat), i ≤ xs.length - 1 ∧ j = .int .i64 i ∧ v = .slice A1 i c1 ∧ wr.ownsRow w1.heap.size 68 2 (.slice A1 i c1) i ((nbK xs i).flatMap pqc) ∧ Below w1.heap.size w1 wr)
    (fun _ j _ => xs.length - (intOf j).toNat)
  case atStart => exact ⟨0, none, 0, by omega, rfl, rfl, HO0.out, Below.refl _ _⟩
  case round =>
    clear HO0 v1 v2
    obtain ⟨i, A1, c1, hi, rfl, rfl, hO, hB⟩ := hrel
    obtain ⟨wa, rfl⟩ : ∃ u, u = wr := ⟨_, rfl⟩
    have HO := Lib.hid hO
    have HB := Lib.hid hB
    clear hO hB
    have hi0 : (0 : Int) ≤ (i : Int) := Int.natCast_nonneg _
    by_cases hlt : i < xs.length - 1
    · have hi8 : (i : Int) < (xs.length : Int) - 1 := by omega
      have hi9 : (i : Int) < xs.length := by omega
      have hi10 : (i : Int) + 1 < xs.length := by omega
      have hi11 : ¬ (i : Int) + 1 < 0 := by omega
      obtain ⟨x, hx⟩ : ∃ x, xs[i]? = some x := ⟨_, List.getElem?_eq_getElem (by omega)⟩
      obtain ⟨y, hy⟩ : ∃ y, xs[i + 1]? = some y := ⟨_, List.getElem?_eq_getElem (by omega)⟩
      have g1 := HCe.out i x hx
      have g3 := HCe.out (i + 1) y hy
      have hSt : Hid (nbK xs (i + 1) = nbK xs i ++ [(x, y)]) := nbK_succ hx hy
      have L1 := Lib.hid (cell_lt9 g1)
      have G1 := Lib.hid g1
      have G3 := Lib.hid g3
      have u0 : IntKind.i64.wrap ((i : Int) + 1) = (i : Int) + 1 := IntWalk.i64_in _ ⟨by omega, by omega⟩
      have u00 : wrap64 ((i : Int) + 1) = (i : Int) + 1 := IntWalk.wrap64_in _ ⟨by omega, by omega⟩
      obtain ⟨wd, hwd⟩ : ∃ wd, wa.drew = wd := ⟨_, rfl⟩
      have HOd : Hid (wd.ownsRow w1.heap.size 68 2 (.slice A1 i c1) i ((nbK xs i).flatMap pqc)) := by show World.ownsRow _ _ _ _ _ _ _; rw [← hwd]; exact HO.out.drew
      have HBd : Hid (Below w1.heap.size w1 wd) := by show Below _ _ _; rw [← hwd]; exact HB.out.drew
      have WD := Lib.hid hwd
      clear hx hy g1 g3 hwd HO HB
      go_wp2_with fail
      refine wp_region_held_drew (S := fun w' => Below w1.heap.size w1 w') (by kernel_rfl) (by rw [WD.out]; exact HBd.out) (fun hHeld => ?_)
      refine wpAnyH_take (i := 0) (v := .slice A1 i c1) rfl (by kernel_rfl) (by kernel_rfl) (by kernel_rfl) (fun _ _ _ h => h) (Or.inl ⟨by rfl, fun w' h => by go_simp⟩) (by assumption) ?_
      try simp only [Act.put, List.getElem_toArray, List.getElem_cons_zero, List.getElem_cons_succ, List.setIfInBounds_toArray, List.set_cons_zero, List.set_cons_succ]
      refine wpAnyH_take (i := 1) (v := .slice (some ⟨g, 0, none⟩) xs.length cq) rfl (by kernel_rfl) (by kernel_rfl) (by kernel_rfl) (fun _ _ _ h => h) (Or.inl ⟨by rfl, fun w' h => by go_simp⟩) (by assumption) ?_
      try simp only [Act.put, List.getElem_toArray, List.getElem_cons_zero, List.getElem_cons_succ, List.setIfInBounds_toArray, List.set_cons_zero, List.set_cons_succ]
      refine wpAnyH_take (i := 2) (v := .int .i64 i) rfl (by kernel_rfl) (by kernel_rfl) (by kernel_rfl) (fun _ _ _ h => h) (Or.inl ⟨by rfl, fun w' h => by go_simp⟩) (by assumption) ?_
      try simp only [Act.put, List.getElem_toArray, List.getElem_cons_zero, List.getElem_cons_succ, List.setIfInBounds_toArray, List.set_cons_zero, List.set_cons_succ]
      refine wpAnyH_take (i := 3) (v := .pointer (some ⟨g, i, none⟩)) rfl (by kernel_rfl) (by kernel_rfl) (by kernel_rfl) (fun _ _ _ h => h) (Or.inl ⟨by rfl, fun w' h => by go_simp⟩) (by assumption) ?_
      try simp only [Act.put, List.getElem_toArray, List.getElem_cons_zero, List.getElem_cons_succ, List.setIfInBounds_toArray, List.set_cons_zero, List.set_cons_succ]
      refine wpAnyH_take (i := 4) (v := .int .i64 x) rfl (by kernel_rfl) (by kernel_rfl) (by kernel_rfl) (fun _ _ _ h => h) (Or.inl ⟨by rfl, fun w' h => by have q9 : w'.cell? ⟨g, i, none⟩ = some (.int .i64 x) := (h.cell (p := ⟨g, i, none⟩) L1.out).trans G1.out; go_simp⟩) (by assumption) ?_
      try simp only [Act.put, List.getElem_toArray, List.getElem_cons_zero, List.getElem_cons_succ, List.setIfInBounds_toArray, List.set_cons_zero, List.set_cons_succ]
      refine wpAnyH_take (i := 5) (v := .slice (some ⟨g, 0, none⟩) xs.length cq) rfl (by kernel_rfl) (by kernel_rfl) (by kernel_rfl) (fun _ _ _ h => h) (Or.inl ⟨by rfl, fun w' h => by go_simp⟩) (by assumption) ?_
      try simp only [Act.put, List.getElem_toArray, List.getElem_cons_zero, List.getElem_cons_succ, List.setIfInBounds_toArray, List.set_cons_zero, List.set_cons_succ]
      refine wpAnyH_take (i := 6) (v := .int .i64 i) rfl (by kernel_rfl) (by kernel_rfl) (by kernel_rfl) (fun _ _ _ h => h) (Or.inl ⟨by rfl, fun w' h => by go_simp⟩) (by assumption) ?_
      try simp only [Act.put, List.getElem_toArray, List.getElem_cons_zero, List.getElem_cons_succ, List.setIfInBounds_toArray, List.set_cons_zero, List.set_cons_succ]
      refine wpAnyH_take (i := 7) (v := .int .i64 ((i : Int) + 1)) rfl (by kernel_rfl) (by kernel_rfl) (by kernel_rfl) (fun _ _ _ h => h) (Or.inl ⟨by rfl, fun w' h => by go_simp⟩) (by assumption) ?_
      try simp only [Act.put, List.getElem_toArray, List.getElem_cons_zero, List.getElem_cons_succ, List.setIfInBounds_toArray, List.set_cons_zero, List.set_cons_succ]
      refine wpAnyH_take (i := 8) (v := .pointer (some ⟨g, i + 1, none⟩)) rfl (by kernel_rfl) (by kernel_rfl) (by kernel_rfl) (fun _ _ _ h => h) (Or.inl ⟨by rfl, fun w' h => by go_simp⟩) (by assumption) ?_
      try simp only [Act.put, List.getElem_toArray, List.getElem_cons_zero, List.getElem_cons_succ, List.setIfInBounds_toArray, List.set_cons_zero, List.set_cons_succ]
      refine wpAnyH_take (i := 9) (v := .int .i64 y) rfl (by kernel_rfl) (by kernel_rfl) (by kernel_rfl) (fun _ _ _ h => h) (Or.inl ⟨by rfl, fun w' h => by have q9 : w'.cell? ⟨g, i + 1, none⟩ = some (.int .i64 y) := (h.cell (p := ⟨g, i + 1, none⟩) L1.out).trans G3.out; go_simp⟩) (by assumption) ?_
      try simp only [Act.put, List.getElem_toArray, List.getElem_cons_zero, List.getElem_cons_succ, List.setIfInBounds_toArray, List.set_cons_zero, List.set_cons_succ]
      refine wpAnyH_take (i := 10) (v := .agg #[.int .i64 x, .int .i64 y]) rfl (by kernel_rfl) (by kernel_rfl) (by kernel_rfl) (fun _ _ _ h => h) (Or.inl ⟨by rfl, fun w' h => by go_simp⟩) (by assumption) ?_
      try simp only [Act.put, List.getElem_toArray, List.getElem_cons_zero, List.getElem_cons_succ, List.setIfInBounds_toArray, List.set_cons_zero, List.set_cons_succ]
      rw [WD.out] at hHeld ⊢
      refine wpAnyH_ready (rs := [11]) (by kernel_rfl) (by simp) ?_
      refine AllReadyH.cons rfl (fun K hK => ?_) AllReadyH.nil
      refine if_wanted rfl ?_
      go_simp
      refine hK.out _ _ (HBd.out.alloc HBd.out.size _) (fun hHeld => ?_)
      clear hK K hHeld
      try simp only [Act.put, List.getElem_toArray, List.getElem_cons_zero, List.getElem_cons_succ, List.setIfInBounds_toArray, List.set_cons_zero, List.set_cons_succ]
      refine wpAnyH_ready (rs := [12]) (by kernel_rfl) (by simp) ?_
      refine AllReadyH.cons rfl (fun K hK => ?_) AllReadyH.nil
      refine if_wanted rfl (wp_append_any _ (.tmp 14) (.tmp 25) 63 63 rfl w1.heap.size 68 i0 (.agg #[.int .i64 0, .int .i64 0]) 2 16 Tryd.underlying63 HI.out HZ0.out HZ1.out HZ2.out rfl (by decide) _ i _ rfl (HOd.out.alloc _) _ 1 (pqc (x, y)) rfl ?c2 ?c3 ?c4 ?c5 ?_)
      case c2 => exact src_pq wd (x, y)
      case c3 => unfold maxLen; omega
      case c4 => omega
      case c5 => have := HBd.out.size; simp; omega
      intro v' w4 hown' hgrow _
      have hown4 : w4.ownsRow w1.heap.size 68 2 v' (i + 1) ((nbK xs (i + 1)).flatMap pqc) := by
        rw [hSt.out, pqc_snoc]; simpa [pqc] using hown'
      have hB4 : Below w1.heap.size w1 w4 := (HBd.out.alloc HBd.out.size _).grown hgrow (by have := HBd.out.size; simp; omega) (fun r e => (HOd.out.lt r e).1)
      obtain ⟨A8, c8, rfl⟩ : ∃ A8 c8, v' = .slice A8 (i + 1) c8 := by
        rcases hown4.2 with ⟨h1, h2⟩ | ⟨g, cap, cur, h1, -⟩
        · exact ⟨_, _, by rw [h1, h2]⟩
        · exact ⟨_, _, h1⟩
      refine hK.out _ _ hB4 (fun hHeld => ?_)
      clear hK K
      try simp only [Act.put, List.getElem_toArray, List.getElem_cons_zero, List.getElem_cons_succ, List.setIfInBounds_toArray, List.set_cons_zero, List.set_cons_succ]
      refine wpAnyH_ready (rs := [13]) (by kernel_rfl) (by simp) ?_
      refine AllReadyH.cons rfl (fun K hK => ?_) AllReadyH.nil
      refine if_wanted rfl ?_
      refine wp_assign0 (v := .slice A8 (i + 1) c8) rfl rfl ?_
      refine hK.out _ _ hHeld (fun hHeld => ?_)
      clear hK K
      try simp only [Act.put, List.getElem_toArray, List.getElem_cons_zero, List.getElem_cons_succ, List.setIfInBounds_toArray, List.set_cons_zero, List.set_cons_succ]
      refine wpAnyH_done (by kernel_rfl) ?_ _
      try simp only [Act.put, List.getElem_toArray, List.getElem_cons_zero, List.getElem_cons_succ, List.setIfInBounds_toArray, List.set_cons_zero, List.set_cons_succ]
      clear hHeld
      have HO4 := Lib.hid hown4
      have HB4 := Lib.hid hB4
      clear hown' hown4 hgrow hB4
      go_wp2
      go_roundw
      case rel => exact ⟨i + 1, A8, c8, by omega, by go_num, rfl, HO4.out, HB4.out⟩
      case measure => simp [intOf]; omega
    · obtain rfl : i = xs.length - 1 := by omega
      have hq9 : ¬ (((xs.length - 1 : Nat)) : Int) < (xs.length : Int) - 1 := by omega
      have HB9 := Lib.hid (HBq.out.trans (HB.out.mono HBq.out.size))
      have HO10 := Lib.hid (own_base HO.out HBq.out.size)
      go_wp2
      go_ret
      exact ⟨A1, c1, rfl, HO10.out, HB9.out⟩
end Go.Proofs.YtfmfgpipklmecaaDoor

namespace Go.Proofs.YtfmfgpipklmecaaDoor
open Go.ChangeShapes Go.WideShapes Go.ChangeAt Go.RowKit Go.Deep
open Go.Maps (Keyed)

def foE (n : Int) (oss : List (List Int)) : Option Nat := firstO [chk 0 (wi 1 8 n), chk 2 (oss.all (ioB n)), chk 1 (decide (oss.length ≤ 100))]
theorem fo_first (b0 b1 b2 : Bool) : firstO [chk 0 b0, chk 2 b1, chk 1 b2] = if b0 = true then (if b1 = true then (if b2 = true then none else some 1) else some 2) else some 0 := by
  revert b0 b1 b2; decide
theorem foE_none {n : Int} {oss : List (List Int)} (h : foE n oss = none) : wi 1 8 n = true ∧ oss.all (orB n) = true ∧ oss.length ≤ 100 := by
  unfold foE at h
  rw [fo_first] at h
  cases h0 : wi 1 8 n
  · simp [h0] at h
  cases h1 : oss.all (ioB n)
  · simp [h0, h1] at h
  by_cases h2 : oss.length ≤ 100
  · refine ⟨rfl, ?_, h2⟩
    rw [List.all_eq_true] at h1 ⊢
    intro xs hm
    have := h1 xs hm
    rw [ioB, h0] at this
    exact this
  · simp [h0, h1, h2] at h
theorem foE_some {n : Int} {oss : List (List Int)} {i : Nat} (h : foE n oss = some i) : foA n oss = [] ∧ foC n oss = cdN i ∧ i < 5 := by
  unfold foE at h
  rw [fo_first] at h
  cases h0 : wi 1 8 n
  · have := fo_rng oss h0
    simp [h0] at h
    subst h
    exact ⟨this.1, this.2, by omega⟩
  have hio : oss.all (ioB n) = oss.all (orB n) := by
    congr 1
    funext xs
    rw [ioB, h0]; rfl
  rw [hio] at h
  cases h1 : oss.all (orB n)
  · have := fo_ord h0 h1
    simp [h0, h1] at h
    subst h
    exact ⟨this.1, this.2, by omega⟩
  by_cases h2 : oss.length ≤ 100
  · simp [h0, h1, h2] at h
  · have := fo_lim h0 h1 h2
    simp [h0, h1, h2] at h
    subst h
    exact ⟨this.1, this.2, by omega⟩

set_option maxRecDepth 100000 in
set_option maxHeartbeats 8000000 in
theorem followsOf_any (n : Int) (oss : List (List Int)) (A : Option Addr) (c : Nat) (ad : Nat → Addr) (w : World) (hl : oss.length ≤ 1048576) (hx : ∀ xs ∈ oss, xs.length ≤ 1048576) (hr : RdN w w.heap.size icells A oss) (hE : EW 5 w ad) :
    Calls Tryd.prog 40 #[.int .i64 n, .slice A oss.length c] w fun e w' => (∃ i, foE n oss = some i ∧ e = .returned (.tuple #[.map none, erO ad (some i)]) ∧ Below w.heap.size w w') ∨ (foE n oss = none ∧ ∃ B k D, e = .returned (.tuple #[.map (some B), .nilIface]) ∧ OwnsP w' B k D ∧ Holds D ok2 kP (cntP (foP oss oss.length)) ∧ Below w.heap.size w w') := by
  obtain ⟨i0, hi, hz0, hz1, hz2⟩ := info_parts Tryd.infoPq
  have HI := Lib.hid hi
  have HZ0 := Lib.hid hz0
  have HZ1 := Lib.hid hz1
  have HZ2 := Lib.hid hz2
  clear hi hz0 hz1 hz2
  have HE := Lib.hid hE
  have HR := Lib.hid hr
  have HC0 := Lib.hid (checkSamples_any n ad w (hE.cell 0 (by omega)))
  have HC1 := Lib.hid (checkServings5_any n oss A c ad w hl hx hr hE)
  have HC2 : Hid (∀ (W : World), Below w.heap.size w W → Calls Tryd.prog 66 #[.slice A oss.length c] W fun e w' => e = .returned (erO ad (chk 1 (decide (oss.length ≤ 100)))) ∧ W = w') := fun W hW => checkMany_any oss hl A c ad W (hE.below hW (Nat.le_refl _))
  have HF : Hid (firstO [chk 0 (wi 1 8 n), chk 2 (oss.all (ioB n)), chk 1 (decide (oss.length ≤ 100))] = foE n oss) := rfl
  clear hr hE hx
  obtain ⟨v0, hv0⟩ : ∃ v, erO ad (chk 0 (wi 1 8 n)) = v := ⟨_, rfl⟩
  have HV0 := Lib.hid hv0
  have P0 : Hid (isE v0) := by show isE v0; rw [← hv0]; exact erO_isE _ _
  rw [show (decide (1 ≤ n) && decide (n ≤ 8)) = wi 1 8 n from rfl, hv0] at HC0
  obtain ⟨v1, hv1⟩ : ∃ v, erO ad (chk 2 (oss.all (ioB n))) = v := ⟨_, rfl⟩
  have HV1 := Lib.hid hv1
  have P1 : Hid (isE v1) := by show isE v1; rw [← hv1]; exact erO_isE _ _
  rw [hv1] at HC1
  obtain ⟨v2, hv2⟩ : ∃ v, erO ad (chk 1 (decide (oss.length ≤ 100))) = v := ⟨_, rfl⟩
  have HV2 := Lib.hid hv2
  have P2 : Hid (isE v2) := by show isE v2; rw [← hv2]; exact erO_isE _ _
  rw [hv2] at HC2
  clear hv0 hv1 hv2
  go_enter Tryd.func40, Tryd.ntmps40
  go_wp2_with fail
  refine HC0.out.mono ?_
  rintro e w1 ⟨rfl, rfl⟩
  clear HC0
  go_wp2_with fail
  refine HC1.out.mono ?_
  rintro e w2 ⟨rfl, hb⟩
  have HB2 := Lib.hid hb
  have HC2' := Lib.hid (HC2.out w2 hb)
  clear HC1 hb HC2
  go_wp2_with fail
  refine HC2'.out.mono ?_
  rintro e w3 ⟨rfl, rfl⟩
  clear HC2'
  go_wp2_with (refine wpList_threeErrs rfl (.tmp 11) (.tmp 14) (.tmp 16) rfl P0.out P1.out P2.out rfl rfl rfl ?_)
  have q0 := cells3 w2 v0 v1 v2 50 0 v0 rfl
  have q1 := cells3 w2 v0 v1 v2 50 1 v1 rfl
  have q2 := cells3 w2 v0 v1 v2 50 2 v2 rfl
  rw [← HV0.out, ← HV1.out, ← HV2.out] at q0 q1 q2 ⊢
  refine (firstErr3_O ad _ _ _ _ _ _ q0 q1 q2).mono ?_
  rintro e w9 ⟨rfl, rfl⟩
  rw [HV0.out, HV1.out, HV2.out, HF.out]
  have L2 : Below w.heap.size w (w2.alloc (.cells #[v0, v1, v2] 50)) := HB2.out.alloc HB2.out.size _
  obtain ⟨w3, hw3⟩ : ∃ w3, w2.alloc (.cells #[v0, v1, v2] 50) = w3 := ⟨_, rfl⟩
  rw [hw3] at L2 ⊢
  have M2 := Lib.hid L2
  clear q0 q1 q2 hw3 L2 HB2 HV0 HV1 HV2 P0 P1 P2 HF
  cases ho : foE n oss with
  | some i =>
    have HO := Lib.hid ho
    rw [erO_some]
    clear ho
    go_wp2
    go_ret2
    exact Or.inl ⟨i, HO.out, rfl, M2.out⟩
  | none =>
    obtain ⟨h0, h1, h3⟩ := foE_none ho
    have HO := Lib.hid ho
    have hn := wi_iff.1 h0
    have HOs : Hid (∀ xs ∈ oss, (0 < xs.length ∧ xs.length ≤ 8) ∧ ∀ x ∈ xs, 0 ≤ x ∧ x < 9) := fun xs hm => by
      have := orB_iff.1 (List.all_eq_true.1 h1 xs hm)
      exact ⟨⟨by omega, by omega⟩, fun x hx => by have := this.2.1 x hx; omega⟩
    have HFl : Hid (∀ t, t ≤ oss.length → (foP oss t).length ≤ 8 * t) := foP_len (fun xs hm => (HOs.out xs hm).1.2)
    have HFo : Hid (∀ t, t ≤ oss.length → ∀ p ∈ foP oss t, ok2 p) := foP_ok (fun xs hm => ⟨(HOs.out xs hm).1.1, (HOs.out xs hm).2⟩)
    have HO0 : Hid (w3.ownsRow w3.heap.size 68 2 (.slice none 0 0) 0 ((foP oss 0).flatMap pqc)) := ⟨rfl, .inl ⟨rfl, rfl⟩⟩
    have HR3 : Hid (RdN w3 w3.heap.size icells A oss) := HR.out.keep M2.out
    rw [erO_none]
    clear ho h0 h1 hn
    go_wp2_with fail
    go_loopw [7, 24] (fun v j wr => ∃ (t : Nat) (A1 : Option Addr) (n1 c1 : Nat), t ≤ oss.length ∧ j = .int .i64 t ∧ v = .slice A1 n1 c1 ∧ n1 = (foP oss t).length ∧ wr.ownsRow w3.heap.size 68 2 (.slice A1 n1 c1) n1 ((foP oss t).flatMap pqc) ∧ Below w3.heap.size w3 wr)
      (fun _ j _ => oss.length - (intOf j).toNat)
    case atStart => exact ⟨0, none, 0, 0, by omega, rfl, rfl, rfl, HO0.out, Below.refl _ _⟩
    case round =>
      clear HO0
      obtain ⟨t, A1, n1, c1, ht, rfl, rfl, hn1, hO, hB⟩ := hrel
      obtain ⟨wa, rfl⟩ : ∃ u, u = wr := ⟨_, rfl⟩
      have HOw := Lib.hid hO
      have HB := Lib.hid hB
      have HN1 := Lib.hid hn1
      have hnb : n1 ≤ 8 * t := by rw [hn1]; exact HFl.out t ht
      clear hO hB hn1
      have ht0 : (0 : Int) ≤ (t : Int) := Int.natCast_nonneg _
      by_cases hlt : t < oss.length
      · obtain ⟨xs, hxs⟩ : ∃ x, oss[t]? = some x := ⟨_, List.getElem?_eq_getElem hlt⟩
        have ht8 : (t : Int) < oss.length := by omega
        obtain ⟨b, o, a, c', rfl, hb, hc, hrd⟩ := (HR3.out.keep HB.out).at_ hxs
        have hxo := (HOs.out xs (List.mem_of_getElem? hxs)).1
        have HC := Lib.hid (neighboursG_any xs hxo.1 hxo.2 a c' wa hrd)
        have HSt : Hid (foP oss (t + 1) = foP oss t ++ nbK xs (xs.length - 1)) := foP_succ hxs
        have hql := nbK_len xs (xs.length - 1)
        have hql8 : xs.length - 1 ≤ 8 := by omega
        clear hxs hrd hxo
        go_wp2_with fail
        refine HC.out.mono ?_
        rintro e w4 ⟨A3, c3, rfl, hO3, hB3⟩
        obtain ⟨qs, hqs⟩ : ∃ qs, nbK xs (xs.length - 1) = qs := ⟨_, rfl⟩
        rw [hqs] at hO3 HSt hql
        obtain ⟨ln, hln⟩ : ∃ ln, xs.length - 1 = ln := ⟨_, rfl⟩
        rw [hln] at hO3 hql hql8 ⊢
        subst hql
        have HSr := Lib.hid (src_of_rd (P := Tryd.prog) w4 Tryd.underlying63 pqc_length pqc_one (own_rd2 pqc_length hO3) (c := c3))
        have HO3 := Lib.hid (own_keep' HOw.out hB3)
        have HB3 := Lib.hid (HB.out.trans (hB3.mono HB.out.size))
        clear hO3 hB3 HC HOw HB hc hqs hln
        go_wp2_with (at_builtin; refine wpList_append_any _ rfl (.tmp 28) (.tmp 31) 63 63 rfl w3.heap.size 68 i0 (.agg #[.int .i64 0, .int .i64 0]) 2 16 Tryd.underlying63 HI.out HZ0.out HZ1.out HZ2.out rfl (by decide) _ n1 _ rfl HO3.out _ qs.length (qs.flatMap pqc) rfl HSr.out ?c3 ?c4 ?c5 ?_)
        case c3 => unfold maxLen; omega
        case c4 => omega
        case c5 => exact HB3.out.size
        intro v' w5 hown' hgrow _
        have hown4 : w5.ownsRow w3.heap.size 68 2 v' (n1 + qs.length) ((foP oss (t + 1)).flatMap pqc) := by
          rw [HSt.out, List.flatMap_append]; exact hown'
        have HB4 : Hid (Below w3.heap.size w3 w5) := HB3.out.grown hgrow HB3.out.size (fun r e => (HO3.out.lt r e).1)
        have HN4 : Hid (n1 + qs.length = (foP oss (t + 1)).length) := by
          show _ = _
          rw [HSt.out, List.length_append, ← HN1.out]
        obtain ⟨A8, c8, rfl⟩ : ∃ A8 c8, v' = .slice A8 (n1 + qs.length) c8 := by
          rcases hown4.2 with ⟨h1, h2⟩ | ⟨g, cap, cur, h1, -⟩
          · exact ⟨_, _, by rw [h1, h2]⟩
          · exact ⟨_, _, h1⟩
        have HO4 := Lib.hid hown4
        clear hown' hown4 hgrow
        go_wp2
        go_roundw
        case rel => exact ⟨t + 1, A8, _, c8, by omega, by go_num, rfl, HN4.out, HO4.out, HB4.out⟩
        case measure => simp [intOf]; omega
      · obtain rfl : t = oss.length := by omega
        have HRd : Hid (Rd wa wa.heap.size pqc A1 (foP oss oss.length)) := by
          have := HOw.out
          rw [HN1.out] at this
          exact own_rd2 pqc_length this
        have HC := Lib.hid (tallyOf_any (foP oss oss.length) (HFo.out _ (Nat.le_refl _)) (by rw [← HN1.out]; omega) A1 c1 wa HRd.out)
        rw [← HN1.out] at HC
        have HBa := Lib.hid (M2.out.trans (HB.out.mono M2.out.size))
        go_wp2_with fail
        refine HC.out.mono ?_
        rintro e w5 ⟨B, k, D, rfl, q1, q2, q3, q4, q5⟩
        have Q3 := Lib.hid q3
        have Q4 := Lib.hid q4
        have Q5 := Lib.hid (HBa.out.trans (q5.mono HBa.out.size))
        clear q1 q3 q4 q5
        go_wp2
        go_ret2
        exact Or.inr ⟨HO.out, _, _, _, rfl, Q3.out, Q4.out, Q5.out⟩

theorem codeOf_O5 {w : World} {ad : Nat → Addr} (h : EW 5 w ad) (i : Nat) (hi : i < 5) : Calls Tryd.prog 36 #[.iface 155 (.pointer (some (ad i)))] w fun e w' => e = .returned (.int .i64 (cdN i)) ∧ w = w' := by
  have : i = 0 ∨ i = 1 ∨ i = 2 ∨ i = 3 ∨ i = 4 := by omega
  rcases this with rfl | rfl | rfl | rfl | rfl
  · exact codeOf_0 h
  · exact codeOf_1 h
  · exact codeOf_2 h
  · exact codeOf_3 h
  · exact codeOf_4 h
end Go.Proofs.YtfmfgpipklmecaaDoor

namespace Go.Proofs.YtfmfgpipklmecaaDoor
open Go.RowKit

def twB (i k : Nat) : Bool := !decide (i = k)
def blP (ps : List Pq) (p : Pq) : Bool := decide (cntP ps p = cntP ps ((0 : Int), (1 : Int)))
def blL (ps : List Pq) (N : Nat) : Bool := (thI twB N N).all (blP ps)
def blA (n : Int) (oss : List (List Int)) : Bool := foOk n oss && blL (foP oss oss.length) n.toNat
theorem foOk_C {n : Int} {oss : List (List Int)} (h : foOk n oss = false) : foC n oss ≠ 0 := by
  unfold foC
  unfold foOk at h
  cases h0 : wi 1 8 n
  · simp
  cases h1 : oss.all (orB n)
  · simp
  by_cases h2 : oss.length ≤ 100
  · simp [h0, h1, h2] at h
  · simp [h2]
theorem foOk_C0 {n : Int} {oss : List (List Int)} (h : foOk n oss = true) : foC n oss = 0 := by
  simp only [foOk, Bool.and_eq_true, decide_eq_true_eq] at h
  exact (fo_yes h.1.1 h.1.2 h.2).2
theorem blA_no {n : Int} {oss : List (List Int)} (h : foOk n oss = false) : blA n oss = false := by rw [blA, h]; rfl
theorem blA_yes {n : Int} {oss : List (List Int)} (h : foOk n oss = true) : blA n oss = blL (foP oss oss.length) n.toNat := by rw [blA, h]; rfl
theorem thI_in {f : Nat → Nat → Bool} {n i a b : Nat} (h : f a b = true) (ha : a < i) (hb : b < n) : ((a : Int), (b : Int)) ∈ thI f n i := by
  refine Classical.byContradiction fun hm => ?_
  have h1 := cntP_thI f n a b hb i
  rw [cntP_none hm, if_pos ⟨ha, h⟩] at h1
  omega
theorem blL_no {ps : List Pq} {N i k : Nat} (hi : i < N) (hk : k < N) (hne : i ≠ k) (h : blP ps ((i : Int), (k : Int)) = false) : blL ps N = false := by
  unfold blL
  rw [Bool.eq_false_iff]
  intro h2
  rw [List.all_eq_true] at h2
  have := h2 _ (thI_in (f := twB) (by simp [twB, hne]) hi hk)
  rw [h] at this
  cases this
/-- So many pairs have been looked at. -/
def blS (ps : List Pq) (N i k : Nat) : Prop := (thI twB N i ++ thK twB i k).all (blP ps) = true
theorem blS_zero (ps : List Pq) (N : Nat) : blS ps N 0 0 := rfl
theorem blS_next {ps : List Pq} {N i : Nat} (h : blS ps N i N) : blS ps N (i + 1) 0 := by
  unfold blS at h ⊢
  rw [show thK twB (i + 1) 0 = [] from rfl, List.append_nil]
  exact h
theorem blS_same {ps : List Pq} {N i : Nat} (h : blS ps N i i) : blS ps N i (i + 1) := by
  unfold blS at h ⊢
  rw [thK_no (show twB i i = false by simp [twB])]
  exact h
theorem blS_step {ps : List Pq} {N i k : Nat} (hne : i ≠ k) (h : blS ps N i k) (hp : blP ps ((i : Int), (k : Int)) = true) : blS ps N i (k + 1) := by
  unfold blS at h ⊢
  rw [thK_yes (show twB i k = true by simp [twB, hne]), ← List.append_assoc, List.all_append, h]
  simp [hp]
theorem blS_all {ps : List Pq} {N : Nat} (h : blS ps N N 0) : blL ps N = true := by
  unfold blS at h
  rw [show thK twB N 0 = [] from rfl, List.append_nil] at h
  exact h
theorem tw_first {N : Nat} (h2 : 2 ≤ N) (h8 : N ≤ 8) : (thI twB N N)[0]? = some ((0 : Int), (1 : Int)) := by
  have : N = 2 ∨ N = 3 ∨ N = 4 ∨ N = 5 ∨ N = 6 ∨ N = 7 ∨ N = 8 := by omega
  rcases this with rfl | rfl | rfl | rfl | rfl | rfl | rfl <;> rfl
theorem tw_one : thI twB 1 1 = [] := rfl
theorem blP_at {ps : List Pq} {i k : Nat} : blP ps ((i : Int), (k : Int)) = decide (ctF ps i k = ctF ps 0 1) := rfl
end Go.Proofs.YtfmfgpipklmecaaDoor

namespace Go.Proofs.YtfmfgpipklmecaaDoor
open Go.ChangeShapes Go.WideShapes Go.ChangeAt Go.RowKit Go.Deep
open Go.Maps (Keyed)

set_option maxRecDepth 100000 in
set_option maxHeartbeats 8000000 in
theorem specBalanced_any (n : Int) (oss : List (List Int)) (g : Nat) (gs : List Nat) (c : Nat) (w : World) (hl : oss.length ≤ 1048576) (hx : ∀ xs ∈ oss, xs.length ≤ 1048576) (hr : RsN w g 23 2 icells oss gs) :
    Calls Tryd.prog 15 #[.int .i64 n, .slice (some ⟨g, 0, none⟩) oss.length c] w fun e w' => e = .returned (.tuple #[.bool (blA n oss), .int .i64 (foC n oss)]) ∧ Below w.heap.size w w' := by
  have HC := Lib.hid (specFollows_any n oss g gs c w hl hx hr)
  clear hr hx
  go_enter Tryd.func15, Tryd.ntmps15
  cases h0 : foOk n oss
  · have E := Lib.hid (blA_no h0)
    have hC := foOk_C h0
    obtain ⟨cd, hcd⟩ : ∃ cd, foC n oss = cd := ⟨_, rfl⟩
    rw [hcd] at HC hC ⊢
    have hC1 : (cd == (0 : Int)) = false := by rw [beq_eq_false_iff_ne]; exact hC
    have hC2 : (cd != (0 : Int)) = true := by rw [bne_iff_ne]; exact hC
    clear h0 hcd
    go_wp2_with fail
    refine HC.out.mono ?_
    rintro e w1 ⟨Av, cv, rfl, -, hb⟩
    have HB := Lib.hid hb
    clear hb HC
    go_wp2
    go_ret2
    exact ⟨by (rw [E.out]; first | done | rfl), HB.out⟩
  have hE0 := foOk_C0 h0
  have E := Lib.hid (blA_yes h0)
  simp only [foOk, Bool.and_eq_true, decide_eq_true_eq] at h0
  have hE := (fo_yes h0.1.1 h0.1.2 h0.2).1
  have hn := wi_iff.1 h0.1.1
  obtain ⟨N, hN⟩ : ∃ N : Nat, n.toNat = N := ⟨_, rfl⟩
  have hnN : n = (N : Int) := by omega
  rw [hN] at E hE
  rw [hE, hE0, mat_len] at HC
  rw [hE0]
  subst hnN
  obtain ⟨ps, hps⟩ : ∃ ps, foP oss oss.length = ps := ⟨_, rfl⟩
  rw [hps] at E HC
  have hN8 : N ≤ 8 := by omega
  clear h0 hE hE0 hN hps
  go_wp2_with fail
  refine HC.out.mono ?_
  rintro e w1 ⟨Av, cv, rfl, hM, hb⟩
  have HM := Lib.hid hM
  have HBw := Lib.hid hb
  clear hM hb HC
  go_wp2_with fail
  go_loopw [8] (fun j wr => ∃ (i : Nat), i ≤ N ∧ j = .int .i64 i ∧ blS ps N i 0 ∧ Below w1.heap.size w1 wr) (fun j _ => N - (intOf j).toNat)
  case atStart => exact ⟨0, by omega, rfl, blS_zero _ _, Below.refl _ _⟩
  case round =>
    obtain ⟨i, hi, rfl, hS, hB⟩ := hrel
    obtain ⟨wa, rfl⟩ : ∃ u, u = wr := ⟨_, rfl⟩
    have HB := Lib.hid hB
    have HS := Lib.hid hS
    clear hB hS
    have hi0 : (0 : Int) ≤ (i : Int) := Int.natCast_nonneg _
    by_cases hlt : i < N
    · have hi8 : (i : Int) < N := by omega
      go_wp2_with fail
      go_loopw [9] (fun j wr => ∃ (k : Nat), k ≤ N ∧ j = .int .i64 k ∧ blS ps N i k ∧ Below w1.heap.size w1 wr) (fun j _ => N - (intOf j).toNat)
      case atStart => exact ⟨0, by omega, rfl, HS.out, HB.out⟩
      case round =>
        clear HS HB
        obtain ⟨k, hk, rfl, hS, hB⟩ := hrel
        obtain ⟨wb, rfl⟩ : ∃ u, u = wr := ⟨_, rfl⟩
        have HB := Lib.hid hB
        have HS := Lib.hid hS
        clear hB hS
        have hk0 : (0 : Int) ≤ (k : Int) := Int.natCast_nonneg _
        by_cases hlt2 : k < N
        · have hk8 : (k : Int) < N := by omega
          by_cases hik : i = k
          · subst hik
            have HS2 := Lib.hid (blS_same HS.out)
            go_wp2_with fail
            refine wp_region_held_drew (S := fun w' => Below wb.heap.size wb w') (by kernel_rfl) (Below.refl _ _).drew (fun hHeld => ?_)
            refine wpAnyH_take (i := 0) (v := .int .i64 i) rfl (by kernel_rfl) (by kernel_rfl) (by kernel_rfl) (fun _ _ _ h => h) (Or.inl ⟨by rfl, fun w' h => by go_simp⟩) (by assumption) ?_
            try simp only [Act.put, List.getElem_toArray, List.getElem_cons_zero, List.getElem_cons_succ, List.setIfInBounds_toArray, List.set_cons_zero, List.set_cons_succ]
            refine wpAnyH_take (i := 1) (v := .int .i64 i) rfl (by kernel_rfl) (by kernel_rfl) (by kernel_rfl) (fun _ _ _ h => h) (Or.inl ⟨by rfl, fun w' h => by go_simp⟩) (by assumption) ?_
            try simp only [Act.put, List.getElem_toArray, List.getElem_cons_zero, List.getElem_cons_succ, List.setIfInBounds_toArray, List.set_cons_zero, List.set_cons_succ]
            refine wpAnyH_take (i := 2) (v := .bool false) rfl (by kernel_rfl) (by kernel_rfl) (by kernel_rfl) (fun _ _ _ h => h) (Or.inl ⟨by rfl, fun w' h => by (go_simp <;> omega)⟩) (by assumption) ?_
            try simp only [Act.put, List.getElem_toArray, List.getElem_cons_zero, List.getElem_cons_succ, List.setIfInBounds_toArray, List.set_cons_zero, List.set_cons_succ]
            refine wpAnyH_take (i := 3) (v := .bool false) rfl (by kernel_rfl) (by kernel_rfl) (by kernel_rfl) (fun _ _ _ h => h) (Or.inl ⟨by rfl, fun w' h => by go_simp⟩) (by assumption) ?_
            try simp only [Act.put, List.getElem_toArray, List.getElem_cons_zero, List.getElem_cons_succ, List.setIfInBounds_toArray, List.set_cons_zero, List.set_cons_succ]
            refine wpAnyH_take (i := 4) (v := undef) rfl (by kernel_rfl) (by kernel_rfl) (by kernel_rfl) (fun _ _ _ h => h) (Or.inr ⟨by rfl, rfl⟩) (by assumption) ?_
            try simp only [Act.put, List.getElem_toArray, List.getElem_cons_zero, List.getElem_cons_succ, List.setIfInBounds_toArray, List.set_cons_zero, List.set_cons_succ]
            refine wpAnyH_take (i := 5) (v := undef) rfl (by kernel_rfl) (by kernel_rfl) (by kernel_rfl) (fun _ _ _ h => h) (Or.inr ⟨by rfl, rfl⟩) (by assumption) ?_
            try simp only [Act.put, List.getElem_toArray, List.getElem_cons_zero, List.getElem_cons_succ, List.setIfInBounds_toArray, List.set_cons_zero, List.set_cons_succ]
            refine wpAnyH_take (i := 6) (v := undef) rfl (by kernel_rfl) (by kernel_rfl) (by kernel_rfl) (fun _ _ _ h => h) (Or.inr ⟨by rfl, rfl⟩) (by assumption) ?_
            try simp only [Act.put, List.getElem_toArray, List.getElem_cons_zero, List.getElem_cons_succ, List.setIfInBounds_toArray, List.set_cons_zero, List.set_cons_succ]
            refine wpAnyH_take (i := 7) (v := undef) rfl (by kernel_rfl) (by kernel_rfl) (by kernel_rfl) (fun _ _ _ h => h) (Or.inr ⟨by rfl, rfl⟩) (by assumption) ?_
            try simp only [Act.put, List.getElem_toArray, List.getElem_cons_zero, List.getElem_cons_succ, List.setIfInBounds_toArray, List.set_cons_zero, List.set_cons_succ]
            refine wpAnyH_take (i := 8) (v := undef) rfl (by kernel_rfl) (by kernel_rfl) (by kernel_rfl) (fun _ _ _ h => h) (Or.inr ⟨by rfl, rfl⟩) (by assumption) ?_
            try simp only [Act.put, List.getElem_toArray, List.getElem_cons_zero, List.getElem_cons_succ, List.setIfInBounds_toArray, List.set_cons_zero, List.set_cons_succ]
            refine wpAnyH_take (i := 9) (v := undef) rfl (by kernel_rfl) (by kernel_rfl) (by kernel_rfl) (fun _ _ _ h => h) (Or.inr ⟨by rfl, rfl⟩) (by assumption) ?_
            try simp only [Act.put, List.getElem_toArray, List.getElem_cons_zero, List.getElem_cons_succ, List.setIfInBounds_toArray, List.set_cons_zero, List.set_cons_succ]
            refine wpAnyH_take (i := 10) (v := undef) rfl (by kernel_rfl) (by kernel_rfl) (by kernel_rfl) (fun _ _ _ h => h) (Or.inr ⟨by rfl, rfl⟩) (by assumption) ?_
            try simp only [Act.put, List.getElem_toArray, List.getElem_cons_zero, List.getElem_cons_succ, List.setIfInBounds_toArray, List.set_cons_zero, List.set_cons_succ]
            refine wpAnyH_take (i := 11) (v := undef) rfl (by kernel_rfl) (by kernel_rfl) (by kernel_rfl) (fun _ _ _ h => h) (Or.inr ⟨by rfl, rfl⟩) (by assumption) ?_
            try simp only [Act.put, List.getElem_toArray, List.getElem_cons_zero, List.getElem_cons_succ, List.setIfInBounds_toArray, List.set_cons_zero, List.set_cons_succ]
            refine wpAnyH_take (i := 12) (v := undef) rfl (by kernel_rfl) (by kernel_rfl) (by kernel_rfl) (fun _ _ _ h => h) (Or.inr ⟨by rfl, rfl⟩) (by assumption) ?_
            try simp only [Act.put, List.getElem_toArray, List.getElem_cons_zero, List.getElem_cons_succ, List.setIfInBounds_toArray, List.set_cons_zero, List.set_cons_succ]
            refine wpAnyH_take (i := 13) (v := undef) rfl (by kernel_rfl) (by kernel_rfl) (by kernel_rfl) (fun _ _ _ h => h) (Or.inr ⟨by rfl, rfl⟩) (by assumption) ?_
            try simp only [Act.put, List.getElem_toArray, List.getElem_cons_zero, List.getElem_cons_succ, List.setIfInBounds_toArray, List.set_cons_zero, List.set_cons_succ]
            refine wpAnyH_take (i := 14) (v := undef) rfl (by kernel_rfl) (by kernel_rfl) (by kernel_rfl) (fun _ _ _ h => h) (Or.inr ⟨by rfl, rfl⟩) (by assumption) ?_
            try simp only [Act.put, List.getElem_toArray, List.getElem_cons_zero, List.getElem_cons_succ, List.setIfInBounds_toArray, List.set_cons_zero, List.set_cons_succ]
            refine wpAnyH_take (i := 15) (v := undef) rfl (by kernel_rfl) (by kernel_rfl) (by kernel_rfl) (fun _ _ _ h => h) (Or.inr ⟨by rfl, rfl⟩) (by assumption) ?_
            try simp only [Act.put, List.getElem_toArray, List.getElem_cons_zero, List.getElem_cons_succ, List.setIfInBounds_toArray, List.set_cons_zero, List.set_cons_succ]
            refine wpAnyH_take (i := 16) (v := undef) rfl (by kernel_rfl) (by kernel_rfl) (by kernel_rfl) (fun _ _ _ h => h) (Or.inr ⟨by rfl, rfl⟩) (by assumption) ?_
            try simp only [Act.put, List.getElem_toArray, List.getElem_cons_zero, List.getElem_cons_succ, List.setIfInBounds_toArray, List.set_cons_zero, List.set_cons_succ]
            refine wpAnyH_take (i := 17) (v := .bool false) rfl (by kernel_rfl) (by kernel_rfl) (by kernel_rfl) (fun _ _ _ h => h) (Or.inl ⟨by rfl, fun w' h => by go_simp⟩) (by assumption) ?_
            try simp only [Act.put, List.getElem_toArray, List.getElem_cons_zero, List.getElem_cons_succ, List.setIfInBounds_toArray, List.set_cons_zero, List.set_cons_succ]
            refine wpAnyH_done (by kernel_rfl) ?_ _
            try simp only [Act.put, List.getElem_toArray, List.getElem_cons_zero, List.getElem_cons_succ, List.setIfInBounds_toArray, List.set_cons_zero, List.set_cons_succ]
            have hb := hHeld
            clear hHeld
            have HB4 := Lib.hid (HB.out.trans (hb.mono HB.out.size))
            clear hb
            go_wp2
            go_roundw
            case rel => exact ⟨i + 1, by omega, by go_num, HS2.out, HB4.out⟩
            case measure => simp [intOf]; omega
          · have hik' : (i : Int) ≠ k := by omega
            have h1N : 1 < N := by omega
            obtain ⟨bR, oR, aI, cI, rfl, hbR, hcI, hrI⟩ := (HM.out.keep HB.out).at_ (mat_at (ctF ps) hlt)
            obtain ⟨bR', oR', a0, c0, eA, -, hc0, hr0⟩ := (HM.out.keep HB.out).at_ (mat_at (ctF ps) (show 0 < N by omega))
            obtain ⟨rfl, rfl⟩ : bR = bR' ∧ oR = oR' := by simpa using eA
            obtain ⟨b1, o1, rfl, hb1, hw1⟩ := hrI.at_ icells_length (mRow_at (ctF ps) i hlt2)
            obtain ⟨b2, o2, rfl, hb2, hw2⟩ := hr0.at_ icells_length (mRow_at (ctF ps) 0 h1N)
            replace hw1 := rowI hw1
            replace hw2 := rowI hw2
            rw [mRow_len] at hcI hc0
            rw [Nat.add_zero] at hc0
            have h1c : (1 : Int) < N := by omega
            have h0c : (0 : Int) < N := by omega
            clear eA hrI hr0
            obtain ⟨x, hx⟩ : ∃ x : Nat, ctF ps i k = x := ⟨_, rfl⟩
            obtain ⟨y, hy⟩ : ∃ y : Nat, ctF ps 0 1 = y := ⟨_, rfl⟩
            have hp : blP ps ((i : Int), (k : Int)) = decide (x = y) := by rw [blP_at, hx, hy]
            rw [hx] at hw1
            rw [hy] at hw2
            clear hx hy
            by_cases hxy : x = y
            · have HS2 := Lib.hid (blS_step hik HS.out (by rw [hp, decide_eq_true hxy]))
              subst hxy
              have hxy : ((x : Int) == (x : Int)) = true := beq_self_eq_true _
              clear hp
              obtain ⟨y, hy⟩ : ∃ y : Nat, x = y := ⟨_, rfl⟩
              rw [hy] at hw2
              have HY := Lib.hid hy
              clear hy
              obtain rfl := HY.out
              go_wp2_with fail
              refine wp_region_held_drew (S := fun w' => Below wb.heap.size wb w') (by kernel_rfl) (Below.refl _ _).drew (fun hHeld => ?_)
              refine wpAnyH_take (i := 0) (v := .int .i64 i) rfl (by kernel_rfl) (by kernel_rfl) (by kernel_rfl) (fun _ _ _ h => h) (Or.inl ⟨by rfl, fun w' h => by go_simp⟩) (by assumption) ?_
              try simp only [Act.put, List.getElem_toArray, List.getElem_cons_zero, List.getElem_cons_succ, List.setIfInBounds_toArray, List.set_cons_zero, List.set_cons_succ]
              refine wpAnyH_take (i := 1) (v := .int .i64 k) rfl (by kernel_rfl) (by kernel_rfl) (by kernel_rfl) (fun _ _ _ h => h) (Or.inl ⟨by rfl, fun w' h => by go_simp⟩) (by assumption) ?_
              try simp only [Act.put, List.getElem_toArray, List.getElem_cons_zero, List.getElem_cons_succ, List.setIfInBounds_toArray, List.set_cons_zero, List.set_cons_succ]
              refine wpAnyH_take (i := 2) (v := .bool true) rfl (by kernel_rfl) (by kernel_rfl) (by kernel_rfl) (fun _ _ _ h => h) (Or.inl ⟨by rfl, fun w' h => by (go_simp <;> omega)⟩) (by assumption) ?_
              try simp only [Act.put, List.getElem_toArray, List.getElem_cons_zero, List.getElem_cons_succ, List.setIfInBounds_toArray, List.set_cons_zero, List.set_cons_succ]
              refine wpAnyH_take (i := 3) (v := .bool true) rfl (by kernel_rfl) (by kernel_rfl) (by kernel_rfl) (fun _ _ _ h => h) (Or.inl ⟨by rfl, fun w' h => by go_simp⟩) (by assumption) ?_
              try simp only [Act.put, List.getElem_toArray, List.getElem_cons_zero, List.getElem_cons_succ, List.setIfInBounds_toArray, List.set_cons_zero, List.set_cons_succ]
              refine wpAnyH_take (i := 4) (v := .slice (some ⟨bR, oR, none⟩) N cv) rfl (by kernel_rfl) (by kernel_rfl) (by kernel_rfl) (fun _ _ _ h => h) (Or.inl ⟨by rfl, fun w' h => by go_simp⟩) (by assumption) ?_
              try simp only [Act.put, List.getElem_toArray, List.getElem_cons_zero, List.getElem_cons_succ, List.setIfInBounds_toArray, List.set_cons_zero, List.set_cons_succ]
              refine wpAnyH_take (i := 5) (v := .int .i64 i) rfl (by kernel_rfl) (by kernel_rfl) (by kernel_rfl) (fun _ _ _ h => h) (Or.inl ⟨by rfl, fun w' h => by go_simp⟩) (by assumption) ?_
              try simp only [Act.put, List.getElem_toArray, List.getElem_cons_zero, List.getElem_cons_succ, List.setIfInBounds_toArray, List.set_cons_zero, List.set_cons_succ]
              refine wpAnyH_take (i := 6) (v := .pointer (some ⟨bR, oR + i, none⟩)) rfl (by kernel_rfl) (by kernel_rfl) (by kernel_rfl) (fun _ _ _ h => h) (Or.inl ⟨by rfl, fun w' h => by go_simp⟩) (by assumption) ?_
              try simp only [Act.put, List.getElem_toArray, List.getElem_cons_zero, List.getElem_cons_succ, List.setIfInBounds_toArray, List.set_cons_zero, List.set_cons_succ]
              refine wpAnyH_take (i := 7) (v := .slice (some ⟨b1, o1, none⟩) N cI) rfl (by kernel_rfl) (by kernel_rfl) (by kernel_rfl) (fun _ _ _ h => h) (Or.inl ⟨by rfl, fun w' h => by have g1 := (h.cell (p := ⟨bR, oR + i, none⟩) hbR).trans hcI; go_simp⟩) (by assumption) ?_
              try simp only [Act.put, List.getElem_toArray, List.getElem_cons_zero, List.getElem_cons_succ, List.setIfInBounds_toArray, List.set_cons_zero, List.set_cons_succ]
              refine wpAnyH_take (i := 8) (v := .int .i64 k) rfl (by kernel_rfl) (by kernel_rfl) (by kernel_rfl) (fun _ _ _ h => h) (Or.inl ⟨by rfl, fun w' h => by go_simp⟩) (by assumption) ?_
              try simp only [Act.put, List.getElem_toArray, List.getElem_cons_zero, List.getElem_cons_succ, List.setIfInBounds_toArray, List.set_cons_zero, List.set_cons_succ]
              refine wpAnyH_take (i := 9) (v := .pointer (some ⟨b1, o1 + k, none⟩)) rfl (by kernel_rfl) (by kernel_rfl) (by kernel_rfl) (fun _ _ _ h => h) (Or.inl ⟨by rfl, fun w' h => by go_simp⟩) (by assumption) ?_
              try simp only [Act.put, List.getElem_toArray, List.getElem_cons_zero, List.getElem_cons_succ, List.setIfInBounds_toArray, List.set_cons_zero, List.set_cons_succ]
              refine wpAnyH_take (i := 10) (v := .int .i64 x) rfl (by kernel_rfl) (by kernel_rfl) (by kernel_rfl) (fun _ _ _ h => h) (Or.inl ⟨by rfl, fun w' h => by have g1 := (h.cell (p := ⟨b1, o1 + k, none⟩) hb1).trans hw1; go_simp⟩) (by assumption) ?_
              try simp only [Act.put, List.getElem_toArray, List.getElem_cons_zero, List.getElem_cons_succ, List.setIfInBounds_toArray, List.set_cons_zero, List.set_cons_succ]
              refine wpAnyH_take (i := 11) (v := .slice (some ⟨bR, oR, none⟩) N cv) rfl (by kernel_rfl) (by kernel_rfl) (by kernel_rfl) (fun _ _ _ h => h) (Or.inl ⟨by rfl, fun w' h => by go_simp⟩) (by assumption) ?_
              try simp only [Act.put, List.getElem_toArray, List.getElem_cons_zero, List.getElem_cons_succ, List.setIfInBounds_toArray, List.set_cons_zero, List.set_cons_succ]
              refine wpAnyH_take (i := 12) (v := .pointer (some ⟨bR, oR, none⟩)) rfl (by kernel_rfl) (by kernel_rfl) (by kernel_rfl) (fun _ _ _ h => h) (Or.inl ⟨by rfl, fun w' h => by (first | (go_simp; done) | (go_simp; intro e; omega))⟩) (by assumption) ?_
              try simp only [Act.put, List.getElem_toArray, List.getElem_cons_zero, List.getElem_cons_succ, List.setIfInBounds_toArray, List.set_cons_zero, List.set_cons_succ]
              refine wpAnyH_take (i := 13) (v := .slice (some ⟨b2, o2, none⟩) N c0) rfl (by kernel_rfl) (by kernel_rfl) (by kernel_rfl) (fun _ _ _ h => h) (Or.inl ⟨by rfl, fun w' h => by have g1 := (h.cell (p := ⟨bR, oR, none⟩) hbR).trans hc0; go_simp⟩) (by assumption) ?_
              try simp only [Act.put, List.getElem_toArray, List.getElem_cons_zero, List.getElem_cons_succ, List.setIfInBounds_toArray, List.set_cons_zero, List.set_cons_succ]
              refine wpAnyH_take (i := 14) (v := .pointer (some ⟨b2, o2 + 1, none⟩)) rfl (by kernel_rfl) (by kernel_rfl) (by kernel_rfl) (fun _ _ _ h => h) (Or.inl ⟨by rfl, fun w' h => by (first | (go_simp; done) | (go_simp; intro e; omega))⟩) (by assumption) ?_
              try simp only [Act.put, List.getElem_toArray, List.getElem_cons_zero, List.getElem_cons_succ, List.setIfInBounds_toArray, List.set_cons_zero, List.set_cons_succ]
              refine wpAnyH_take (i := 15) (v := .int .i64 x) rfl (by kernel_rfl) (by kernel_rfl) (by kernel_rfl) (fun _ _ _ h => h) (Or.inl ⟨by rfl, fun w' h => by have g1 := (h.cell (p := ⟨b2, o2 + 1, none⟩) hb2).trans hw2; go_simp⟩) (by assumption) ?_
              try simp only [Act.put, List.getElem_toArray, List.getElem_cons_zero, List.getElem_cons_succ, List.setIfInBounds_toArray, List.set_cons_zero, List.set_cons_succ]
              refine wpAnyH_take (i := 16) (v := .bool false) rfl (by kernel_rfl) (by kernel_rfl) (by kernel_rfl) (fun _ _ _ h => h) (Or.inl ⟨by rfl, fun w' h => by (first | (go_simp <;> omega) | (go_simp; simp [hxy]; done))⟩) (by assumption) ?_
              try simp only [Act.put, List.getElem_toArray, List.getElem_cons_zero, List.getElem_cons_succ, List.setIfInBounds_toArray, List.set_cons_zero, List.set_cons_succ]
              refine wpAnyH_take (i := 17) (v := .bool false) rfl (by kernel_rfl) (by kernel_rfl) (by kernel_rfl) (fun _ _ _ h => h) (Or.inl ⟨by rfl, fun w' h => by (first | (go_simp <;> omega) | (go_simp; simp [hxy]; done))⟩) (by assumption) ?_
              try simp only [Act.put, List.getElem_toArray, List.getElem_cons_zero, List.getElem_cons_succ, List.setIfInBounds_toArray, List.set_cons_zero, List.set_cons_succ]
              refine wpAnyH_done (by kernel_rfl) ?_ _
              try simp only [Act.put, List.getElem_toArray, List.getElem_cons_zero, List.getElem_cons_succ, List.setIfInBounds_toArray, List.set_cons_zero, List.set_cons_succ]
              have hb := hHeld
              clear hHeld
              have HB4 := Lib.hid (HB.out.trans (hb.mono HB.out.size))
              clear hb
              go_wp2
              go_roundw
              case rel => exact ⟨k + 1, by omega, by go_num, HS2.out, HB4.out⟩
              case measure => simp [intOf]; omega
            · have HF := Lib.hid (blL_no hlt hlt2 hik (by rw [hp, decide_eq_false hxy]))
              have hxy' : (x : Int) ≠ (y : Int) := by omega
              have hxy : ((x : Int) == (y : Int)) = false := by rw [beq_eq_false_iff_ne]; omega
              clear hp
              go_wp2_with fail
              refine wp_region_held_drew (S := fun w' => Below wb.heap.size wb w') (by kernel_rfl) (Below.refl _ _).drew (fun hHeld => ?_)
              refine wpAnyH_take (i := 0) (v := .int .i64 i) rfl (by kernel_rfl) (by kernel_rfl) (by kernel_rfl) (fun _ _ _ h => h) (Or.inl ⟨by rfl, fun w' h => by go_simp⟩) (by assumption) ?_
              try simp only [Act.put, List.getElem_toArray, List.getElem_cons_zero, List.getElem_cons_succ, List.setIfInBounds_toArray, List.set_cons_zero, List.set_cons_succ]
              refine wpAnyH_take (i := 1) (v := .int .i64 k) rfl (by kernel_rfl) (by kernel_rfl) (by kernel_rfl) (fun _ _ _ h => h) (Or.inl ⟨by rfl, fun w' h => by go_simp⟩) (by assumption) ?_
              try simp only [Act.put, List.getElem_toArray, List.getElem_cons_zero, List.getElem_cons_succ, List.setIfInBounds_toArray, List.set_cons_zero, List.set_cons_succ]
              refine wpAnyH_take (i := 2) (v := .bool true) rfl (by kernel_rfl) (by kernel_rfl) (by kernel_rfl) (fun _ _ _ h => h) (Or.inl ⟨by rfl, fun w' h => by (go_simp <;> omega)⟩) (by assumption) ?_
              try simp only [Act.put, List.getElem_toArray, List.getElem_cons_zero, List.getElem_cons_succ, List.setIfInBounds_toArray, List.set_cons_zero, List.set_cons_succ]
              refine wpAnyH_take (i := 3) (v := .bool true) rfl (by kernel_rfl) (by kernel_rfl) (by kernel_rfl) (fun _ _ _ h => h) (Or.inl ⟨by rfl, fun w' h => by go_simp⟩) (by assumption) ?_
              try simp only [Act.put, List.getElem_toArray, List.getElem_cons_zero, List.getElem_cons_succ, List.setIfInBounds_toArray, List.set_cons_zero, List.set_cons_succ]
              refine wpAnyH_take (i := 4) (v := .slice (some ⟨bR, oR, none⟩) N cv) rfl (by kernel_rfl) (by kernel_rfl) (by kernel_rfl) (fun _ _ _ h => h) (Or.inl ⟨by rfl, fun w' h => by go_simp⟩) (by assumption) ?_
              try simp only [Act.put, List.getElem_toArray, List.getElem_cons_zero, List.getElem_cons_succ, List.setIfInBounds_toArray, List.set_cons_zero, List.set_cons_succ]
              refine wpAnyH_take (i := 5) (v := .int .i64 i) rfl (by kernel_rfl) (by kernel_rfl) (by kernel_rfl) (fun _ _ _ h => h) (Or.inl ⟨by rfl, fun w' h => by go_simp⟩) (by assumption) ?_
              try simp only [Act.put, List.getElem_toArray, List.getElem_cons_zero, List.getElem_cons_succ, List.setIfInBounds_toArray, List.set_cons_zero, List.set_cons_succ]
              refine wpAnyH_take (i := 6) (v := .pointer (some ⟨bR, oR + i, none⟩)) rfl (by kernel_rfl) (by kernel_rfl) (by kernel_rfl) (fun _ _ _ h => h) (Or.inl ⟨by rfl, fun w' h => by go_simp⟩) (by assumption) ?_
              try simp only [Act.put, List.getElem_toArray, List.getElem_cons_zero, List.getElem_cons_succ, List.setIfInBounds_toArray, List.set_cons_zero, List.set_cons_succ]
              refine wpAnyH_take (i := 7) (v := .slice (some ⟨b1, o1, none⟩) N cI) rfl (by kernel_rfl) (by kernel_rfl) (by kernel_rfl) (fun _ _ _ h => h) (Or.inl ⟨by rfl, fun w' h => by have g1 := (h.cell (p := ⟨bR, oR + i, none⟩) hbR).trans hcI; go_simp⟩) (by assumption) ?_
              try simp only [Act.put, List.getElem_toArray, List.getElem_cons_zero, List.getElem_cons_succ, List.setIfInBounds_toArray, List.set_cons_zero, List.set_cons_succ]
              refine wpAnyH_take (i := 8) (v := .int .i64 k) rfl (by kernel_rfl) (by kernel_rfl) (by kernel_rfl) (fun _ _ _ h => h) (Or.inl ⟨by rfl, fun w' h => by go_simp⟩) (by assumption) ?_
              try simp only [Act.put, List.getElem_toArray, List.getElem_cons_zero, List.getElem_cons_succ, List.setIfInBounds_toArray, List.set_cons_zero, List.set_cons_succ]
              refine wpAnyH_take (i := 9) (v := .pointer (some ⟨b1, o1 + k, none⟩)) rfl (by kernel_rfl) (by kernel_rfl) (by kernel_rfl) (fun _ _ _ h => h) (Or.inl ⟨by rfl, fun w' h => by go_simp⟩) (by assumption) ?_
              try simp only [Act.put, List.getElem_toArray, List.getElem_cons_zero, List.getElem_cons_succ, List.setIfInBounds_toArray, List.set_cons_zero, List.set_cons_succ]
              refine wpAnyH_take (i := 10) (v := .int .i64 x) rfl (by kernel_rfl) (by kernel_rfl) (by kernel_rfl) (fun _ _ _ h => h) (Or.inl ⟨by rfl, fun w' h => by have g1 := (h.cell (p := ⟨b1, o1 + k, none⟩) hb1).trans hw1; go_simp⟩) (by assumption) ?_
              try simp only [Act.put, List.getElem_toArray, List.getElem_cons_zero, List.getElem_cons_succ, List.setIfInBounds_toArray, List.set_cons_zero, List.set_cons_succ]
              refine wpAnyH_take (i := 11) (v := .slice (some ⟨bR, oR, none⟩) N cv) rfl (by kernel_rfl) (by kernel_rfl) (by kernel_rfl) (fun _ _ _ h => h) (Or.inl ⟨by rfl, fun w' h => by go_simp⟩) (by assumption) ?_
              try simp only [Act.put, List.getElem_toArray, List.getElem_cons_zero, List.getElem_cons_succ, List.setIfInBounds_toArray, List.set_cons_zero, List.set_cons_succ]
              refine wpAnyH_take (i := 12) (v := .pointer (some ⟨bR, oR, none⟩)) rfl (by kernel_rfl) (by kernel_rfl) (by kernel_rfl) (fun _ _ _ h => h) (Or.inl ⟨by rfl, fun w' h => by (first | (go_simp; done) | (go_simp; intro e; omega))⟩) (by assumption) ?_
              try simp only [Act.put, List.getElem_toArray, List.getElem_cons_zero, List.getElem_cons_succ, List.setIfInBounds_toArray, List.set_cons_zero, List.set_cons_succ]
              refine wpAnyH_take (i := 13) (v := .slice (some ⟨b2, o2, none⟩) N c0) rfl (by kernel_rfl) (by kernel_rfl) (by kernel_rfl) (fun _ _ _ h => h) (Or.inl ⟨by rfl, fun w' h => by have g1 := (h.cell (p := ⟨bR, oR, none⟩) hbR).trans hc0; go_simp⟩) (by assumption) ?_
              try simp only [Act.put, List.getElem_toArray, List.getElem_cons_zero, List.getElem_cons_succ, List.setIfInBounds_toArray, List.set_cons_zero, List.set_cons_succ]
              refine wpAnyH_take (i := 14) (v := .pointer (some ⟨b2, o2 + 1, none⟩)) rfl (by kernel_rfl) (by kernel_rfl) (by kernel_rfl) (fun _ _ _ h => h) (Or.inl ⟨by rfl, fun w' h => by (first | (go_simp; done) | (go_simp; intro e; omega))⟩) (by assumption) ?_
              try simp only [Act.put, List.getElem_toArray, List.getElem_cons_zero, List.getElem_cons_succ, List.setIfInBounds_toArray, List.set_cons_zero, List.set_cons_succ]
              refine wpAnyH_take (i := 15) (v := .int .i64 y) rfl (by kernel_rfl) (by kernel_rfl) (by kernel_rfl) (fun _ _ _ h => h) (Or.inl ⟨by rfl, fun w' h => by have g1 := (h.cell (p := ⟨b2, o2 + 1, none⟩) hb2).trans hw2; go_simp⟩) (by assumption) ?_
              try simp only [Act.put, List.getElem_toArray, List.getElem_cons_zero, List.getElem_cons_succ, List.setIfInBounds_toArray, List.set_cons_zero, List.set_cons_succ]
              refine wpAnyH_take (i := 16) (v := .bool true) rfl (by kernel_rfl) (by kernel_rfl) (by kernel_rfl) (fun _ _ _ h => h) (Or.inl ⟨by rfl, fun w' h => by (first | (go_simp <;> omega) | (go_simp; simp [hxy]; done))⟩) (by assumption) ?_
              try simp only [Act.put, List.getElem_toArray, List.getElem_cons_zero, List.getElem_cons_succ, List.setIfInBounds_toArray, List.set_cons_zero, List.set_cons_succ]
              refine wpAnyH_take (i := 17) (v := .bool true) rfl (by kernel_rfl) (by kernel_rfl) (by kernel_rfl) (fun _ _ _ h => h) (Or.inl ⟨by rfl, fun w' h => by (first | (go_simp <;> omega) | (go_simp; simp [hxy]; done))⟩) (by assumption) ?_
              try simp only [Act.put, List.getElem_toArray, List.getElem_cons_zero, List.getElem_cons_succ, List.setIfInBounds_toArray, List.set_cons_zero, List.set_cons_succ]
              refine wpAnyH_done (by kernel_rfl) ?_ _
              try simp only [Act.put, List.getElem_toArray, List.getElem_cons_zero, List.getElem_cons_succ, List.setIfInBounds_toArray, List.set_cons_zero, List.set_cons_succ]
              have hb := hHeld
              clear hHeld
              have HB4 := Lib.hid (HB.out.trans (hb.mono HB.out.size))
              clear hb
              have HB5 := Lib.hid (HBw.out.trans (HB4.out.mono HBw.out.size))
              go_wp2
              first | go_ret2 | skip
              exact ⟨by (rw [E.out, HF.out]; first | done | rfl), HB5.out⟩
        · obtain rfl : k = N := by omega
          have HS2 := Lib.hid (blS_next HS.out)
          go_wp2
          go_roundw
          case rel => exact ⟨i + 1, by omega, by go_num, HS2.out, HB.out⟩
          case measure => simp [intOf]; omega
    · obtain rfl : i = N := by omega
      have HF := Lib.hid (blS_all HS.out)
      have HB5 := Lib.hid (HBw.out.trans (HB.out.mono HBw.out.size))
      go_wp2
      go_ret2
      exact ⟨by (rw [E.out, HF.out]; first | done | rfl), HB5.out⟩

set_option maxRecDepth 100000 in
set_option maxHeartbeats 2000000 in
theorem isOfTwo_any (i k : Nat) (w : World) : Calls Tryd.prog 42 #[.agg #[.int .i64 i, .int .i64 k]] w fun e w' => e = .returned (.bool (twB i k)) ∧ Below w.heap.size w w' := by
  have HB : Hid (Below w.heap.size w (w.alloc (.cells #[.int .i64 i, .int .i64 k] 68))) := (Below.refl _ w).alloc (Nat.le_refl _) _
  go_enter Tryd.func42, Tryd.ntmps42
  by_cases h : i = k
  · subst h
    have hv : twB i i = false := by simp [twB]
    rw [hv]
    go_wp2
    go_ret
    exact ⟨by simp, HB.out⟩
  · have hv : twB i k = true := by simp [twB, h]
    have hne : ((i : Int) == (k : Int)) = false := by rw [beq_eq_false_iff_ne]; omega
    have hne2 : (i : Int) ≠ (k : Int) := by omega
    rw [hv]
    go_wp2
    go_ret
    exact ⟨by first | rfl | simp [hne2, h], HB.out⟩

set_option maxRecDepth 100000 in
set_option maxHeartbeats 4000000 in
theorem pairsTwo_any (N : Nat) (hN8 : N ≤ 8) (w : World) (HCf : ∀ (i k : Nat), i < N → k < N → ∀ (W : World), Below w.heap.size w W → Calls Tryd.prog 42 #[.agg #[.int .i64 i, .int .i64 k]] W fun e w' => e = .returned (.bool (twB i k)) ∧ Below W.heap.size W w') :
    Calls Tryd.prog 41 #[.int .i64 N, .func (.func 42) #[] #[]] w fun e w' => ∃ A' c', e = .returned (.slice A' (thI (twB) N N).length c') ∧ w'.ownsRow w.heap.size 68 2 (.slice A' (thI (twB) N N).length c') (thI (twB) N N).length ((thI (twB) N N).flatMap pqc) ∧ Below w.heap.size w w' := by
  obtain ⟨i0, hi, hz0, hz1, hz2⟩ := info_parts Tryd.infoPq
  have HI := Lib.hid hi
  have HZ0 := Lib.hid hz0
  have HZ1 := Lib.hid hz1
  have HZ2 := Lib.hid hz2
  clear hi hz0 hz1 hz2

  have HC := Lib.hid HCf
  clear HCf
  have HO0 : Hid (w.ownsRow w.heap.size 68 2 (.slice none 0 0) (thI (twB) N 0).length ((thI (twB) N 0).flatMap pqc)) := ⟨rfl, .inl ⟨rfl, rfl⟩⟩
  have HB0 : Hid (Below w.heap.size w w) := Below.refl _ _
  go_enter Tryd.func41, Tryd.ntmps41
  go_wp2_with fail
  go_loopw [5, 10] (fun v j wr => ∃ (i : Nat) (A1 : Option Addr) (n1 c1 : Nat), i ≤ N ∧ j = .int .i64 i ∧ v = .slice A1 n1 c1 ∧ n1 = (thI (twB) N i).length ∧ wr.ownsRow w.heap.size 68 2 (.slice A1 n1 c1) n1 ((thI (twB) N i).flatMap pqc) ∧ Below w.heap.size w wr)
    (fun _ j _ => N - (intOf j).toNat)
  case atStart => exact ⟨0, none, 0, 0, by omega, rfl, rfl, rfl, HO0.out, HB0.out⟩
  case round =>
    clear HO0 HB0
    obtain ⟨i, A1, n1, c1, hi, rfl, rfl, hn1, hO, hB⟩ := hrel
    obtain ⟨wa, rfl⟩ : ∃ u, u = wr := ⟨_, rfl⟩
    have HO : Hid (n1 = (thI (twB) N i ++ thK (twB) i 0).length ∧ wa.ownsRow w.heap.size 68 2 (.slice A1 n1 c1) n1 ((thI (twB) N i ++ thK (twB) i 0).flatMap pqc)) := by
      show _ ∧ _
      rw [show thI (twB) N i ++ thK (twB) i 0 = thI (twB) N i from by simp [thK]]
      exact ⟨hn1, hO⟩
    have HB := Lib.hid hB
    have HN1 := Lib.hid hn1
    clear hO hB hn1
    have hi0 : (0 : Int) ≤ (i : Int) := Int.natCast_nonneg _
    by_cases hlt : i < N
    · have hi8 : (i : Int) < N := by omega
      have hl64 := thI_len64 (twB) hN8 (Nat.le_of_lt hlt)
      go_wp2_with fail
      clear HN1
      go_loopw [5, 14] (fun v j wr => ∃ (k : Nat) (A2 : Option Addr) (n2 c2 : Nat), k ≤ N ∧ j = .int .i64 k ∧ v = .slice A2 n2 c2 ∧ n2 = (thI (twB) N i ++ thK (twB) i k).length ∧ wr.ownsRow w.heap.size 68 2 (.slice A2 n2 c2) n2 ((thI (twB) N i ++ thK (twB) i k).flatMap pqc) ∧ Below w.heap.size w wr)
        (fun _ j _ => N - (intOf j).toNat)
      case atStart => exact ⟨0, A1, n1, c1, by omega, rfl, rfl, HO.out.1, HO.out.2, HB.out⟩
      case round =>
        clear HO HB
        obtain ⟨k, A2, n2, c2, hk, rfl, rfl, hn2, hO, hB⟩ := hrel
        obtain ⟨wb, rfl⟩ : ∃ u, u = wr := ⟨_, rfl⟩
        have HO := Lib.hid hO
        have HB := Lib.hid hB
        have HN2 := Lib.hid hn2
        clear hO hB
        have hk0 : (0 : Int) ≤ (k : Int) := Int.natCast_nonneg _
        by_cases hlt2 : k < N
        · have hk8 : (k : Int) < N := by omega
          have hn2b : n2 ≤ 72 := by have := thK_len (twB) i k; rw [hn2, List.length_append]; omega
          have hBa : Below wb.heap.size wb (wb.alloc (.cells #[.int .i64 i, .int .i64 k] 68)) := (Below.refl _ _).alloc (Nat.le_refl _) _
          have HCa := Lib.hid (HC.out i k hlt hlt2 _ (HB.out.trans (hBa.mono HB.out.size)))
          have hKa : Rs (wb.alloc (.cells #[.int .i64 i, .int .i64 k] 68)) wb.heap.size 68 pqc [((i : Int), (k : Int))] := by
            have := Blk.new wb 68 #[Value.int .i64 (i : Int), Value.int .i64 (k : Int)]
            simpa [Rs, pqc] using this
          have HBa := Lib.hid hBa
          have HKa := Lib.hid hKa
          clear hBa hKa hn2
          cases hf : twB i k
          · rw [hf] at HCa
            have hSt : Hid (thK (twB) i (k + 1) = thK (twB) i k) := thK_no hf
            clear hf
            go_wp2_with fail
            refine HCa.out.mono ?_
            rintro e w3 ⟨rfl, hb3⟩
            have hb3' := HBa.out.trans (hb3.mono HBa.out.size)
            have HO3 := Lib.hid (own_keep' HO.out hb3')
            have HB3 := Lib.hid (HB.out.trans (hb3'.mono HB.out.size))
            clear hb3 hb3' HCa HBa HKa HO HB
            go_wp2
            go_roundw
            case rel => exact ⟨k + 1, A2, n2, c2, by omega, by go_num, rfl, by rw [hSt.out]; exact HN2.out, by rw [hSt.out]; exact HO3.out, HB3.out⟩
            case measure => simp [intOf]; omega
          · rw [hf] at HCa
            have hSt : Hid (thK (twB) i (k + 1) = thK (twB) i k ++ [((i : Int), (k : Int))]) := thK_yes hf
            clear hf
            go_wp2_with fail
            refine HCa.out.mono ?_
            rintro e w3 ⟨rfl, hb3⟩
            have hb3' := HBa.out.trans (hb3.mono HBa.out.size)
            have HO3 := Lib.hid (own_keep' HO.out hb3')
            have HB3 := Lib.hid (HB.out.trans (hb3'.mono HB.out.size))
            have hK3 : Rs w3 wb.heap.size 68 pqc [((i : Int), (k : Int))] := Blk.keep HKa.out hb3
            have d0 : w3.cell? ⟨wb.heap.size, 0, none⟩ = some (.int .i64 i) := Rs.range hK3 0 _ (by simp [pqc])
            have d1 : w3.cell? ⟨wb.heap.size, 1, none⟩ = some (.int .i64 k) := by have := Rs.range hK3 1 (.int .i64 (k : Int)) (by simp [pqc]); simpa using this
            clear hb3 hb3' HCa HBa HKa HO HB hK3
            go_wp2_with (at_builtin; refine wpList_append_own _ rfl (.tmp 23) (.tmp 25) 63 rfl w.heap.size 68 i0 (.agg #[.int .i64 0, .int .i64 0]) 2 16 Tryd.underlying63 HI.out HZ0.out HZ1.out HZ2.out rfl (by decide) _ _ _ rfl (HO3.out.alloc _) ⟨w3.heap.size, 0, none⟩ 1 1 [.int .i64 i, .int .i64 k] rfl rfl ?c1 ?c2 ?c3 ?c4 ?c5 ?_)
            case c1 => exact cell_two_newP _ _ _ _
            case c2 => exact two_oneP _ _
            case c3 => unfold maxLen; omega
            case c4 => omega
            case c5 => have := HB3.out.size; simp; omega
            intro v' w4 hown' hgrow _
            have hown4 : w4.ownsRow w.heap.size 68 2 v' (n2 + 1) ((thI (twB) N i ++ thK (twB) i (k + 1)).flatMap pqc) := by
              rw [hSt.out, ← List.append_assoc, pqc_snoc]; simpa [pqc] using hown'
            have HB4 : Hid (Below w.heap.size w w4) := (HB3.out.alloc HB3.out.size _).grown hgrow (by have := HB3.out.size; simp; omega) (fun r e => (HO3.out.lt r e).1)
            have HN4 : Hid (n2 + 1 = (thI (twB) N i ++ thK (twB) i (k + 1)).length) := by
              show _ = _
              rw [hSt.out, ← List.append_assoc, List.length_append, ← HN2.out]; rfl
            obtain ⟨A8, c8, rfl⟩ : ∃ A8 c8, v' = .slice A8 (n2 + 1) c8 := by
              rcases hown4.2 with ⟨h1, h2⟩ | ⟨g, cap, cur, h1, -⟩
              · exact ⟨_, _, by rw [h1, h2]⟩
              · exact ⟨_, _, h1⟩
            have HO4 := Lib.hid hown4
            clear hown' hown4 hgrow d0 d1
            go_wp2
            go_roundw
            case rel => exact ⟨k + 1, A8, n2 + 1, c8, by omega, by go_num, rfl, HN4.out, HO4.out, HB4.out⟩
            case measure => simp [intOf]; omega
        · obtain rfl : k = N := by omega
          have HOx : Hid (n2 = (thI (twB) k (i + 1)).length ∧ wb.ownsRow w.heap.size 68 2 (.slice A2 n2 c2) n2 ((thI (twB) k (i + 1)).flatMap pqc)) := ⟨HN2.out, HO.out⟩
          clear hn2
          go_wp2
          go_roundw
          case rel => exact ⟨i + 1, A2, n2, c2, by omega, by go_num, rfl, HOx.out.1, HOx.out.2, HB.out⟩
          case measure => simp [intOf]; omega
    · obtain rfl : i = N := by omega
      have HOx : Hid (wa.ownsRow w.heap.size 68 2 (.slice A1 n1 c1) n1 ((thI (twB) i i).flatMap pqc)) := by
        have := HO.out.2
        rw [show thI (twB) i i ++ thK (twB) i 0 = thI (twB) i i from by simp [thK]] at this
        exact this
      go_wp2
      go_ret
      exact ⟨A1, c1, by (rw [← HN1.out]; first | done | rfl), by rw [← HN1.out]; exact HOx.out, HB.out⟩

/-- Whether a pair is there as often as the first one. -/
theorem blCl_go {ps : List Pq} {x y : Nat} {p : Pq} (hx : cntP ps p = x) (hy : cntP ps ((0 : Int), (1 : Int)) = y) : blP ps p = decide (x = y) := by unfold blP; rw [hx, hy]
set_option maxRecDepth 100000 in
set_option maxHeartbeats 4000000 in
theorem differs_any (N : Nat) (hN : N ≤ 8) (h2 : 2 ≤ N) (a b : Nat) (ha : a < 9) (hb9 : b < 9) (ps : List Pq) (B n D1 D2 : Nat) (D : DataW Unit) (A : Option Addr) (c : Nat) (w : World) (hO : OwnsP w B n D) (hH : Holds D ok2 kP (cntP ps)) (hlen : ps.length ≤ 6500)
    (hd1 : w.cell? ⟨D1, 0, none⟩ = some (.map (some B))) (hd2 : w.cell? ⟨D2, 0, none⟩ = some (.slice A (thI twB N N).length c)) (hr : Rd w w.heap.size pqc A (thI twB N N)) :
    Calls Tryd.prog 43 #[.agg #[.int .i64 a, .int .i64 b], .pointer (some ⟨D1, 0, none⟩), .pointer (some ⟨D2, 0, none⟩)] w fun e w' => e = .returned (.bool (!blP ps ((a : Int), (b : Int)))) ∧ Below w.heap.size w w' := by
  have HL : Hid (∀ (W : World), Below w.heap.size w W → ∀ (i k : Nat), i < 9 → k < 9 → (Instr.lookup 56 (.map (some B)) (.agg #[.int .i64 (i : Int), .int .i64 (k : Int)]) false).run Tryd.prog W = .ok (.int .i64 (cntP ps ((i : Int), (k : Int)))) W) := fun W hW i k hi hk =>
    tally_look (p := ((i : Int), (k : Int))) (hO.kept (grown_of_below hW) (by simp)) hH ⟨⟨by show (0 : Int) ≤ i; omega, by show (i : Int) < 9; omega⟩, ⟨by show (0 : Int) ≤ k; omega, by show (k : Int) < 9; omega⟩⟩
  have hL1 := fun W hW => HL.out W hW a b ha hb9
  have hL2 := fun W hW => HL.out W hW 0 1 (by omega) (by omega)
  have hbl1 := block_lt_of_cell hd1
  have hbl2 := block_lt_of_cell hd2
  obtain ⟨b3, o3, rfl, hb3, hrow⟩ := hr.at_ pqc_length (tw_first h2 hN)
  have hlp : 0 < (thI twB N N).length := (List.getElem?_eq_some_iff.1 (tw_first h2 hN)).1
  obtain ⟨L, hL⟩ : ∃ L, (thI twB N N).length = L := ⟨_, rfl⟩
  rw [hL] at hd2 hlp
  have hlp' : (0 : Int) < (L : Int) := by omega
  have hL64 : L ≤ 64 := by rw [← hL]; exact thI_len64 twB hN (Nat.le_refl N)
  obtain ⟨x, hx⟩ : ∃ x, cntP ps ((a : Int), (b : Int)) = x := ⟨_, rfl⟩
  obtain ⟨y, hy⟩ : ∃ y, cntP ps (((0 : Nat) : Int), ((1 : Nat) : Int)) = y := ⟨_, rfl⟩
  have hv := blCl_go hx hy
  rw [hx] at hL1
  rw [hy] at hL2
  obtain ⟨W, hW⟩ : ∃ W, w.alloc (.cells #[.int .i64 a, .int .i64 b] 68) = W := ⟨_, rfl⟩
  have hrg : W.rangeAt w.heap.size 0 (pqc ((a : Int), (b : Int))) := by rw [← hW]; exact pq_range w _
  have hlt : w.heap.size < W.heap.size := by rw [← hW]; simp
  have hB : Below w.heap.size w W := by rw [← hW]; exact (Below.refl _ w).alloc (Nat.le_refl _) _
  have L1 := Lib.hid hL1
  have L2 := Lib.hid hL2
  have HRg := Lib.hid hrg
  have HRw := Lib.hid hrow
  have HB := Lib.hid hB
  have HD1 := Lib.hid hd1
  have HD2 := Lib.hid hd2
  clear hO hH hr hL1 hL2 HL hx hy hrg hB hrow hd1 hd2 hlen hL
  go_enter Tryd.func43, Tryd.ntmps43
  go_wp2_with fail
  clear hW
  refine wp_region_held_drew (S := fun w' => Below W.heap.size W w') (by kernel_rfl) (Below.refl _ _).drew (fun hHeld => ?_)
  refine wpAnyH_take (i := 0) (v := .map (some B)) rfl (by kernel_rfl) (by kernel_rfl) (by kernel_rfl) (fun _ _ _ h => h) (Or.inl ⟨by rfl, fun w' h => by have g1 := (h.cell (p := ⟨D1, 0, none⟩) (Nat.lt_of_lt_of_le hbl1 HB.out.size)).trans ((HB.out.cell (p := ⟨D1, 0, none⟩) hbl1).trans HD1.out); go_simp⟩) (by assumption) ?_
  try simp only [Act.put, List.getElem_toArray, List.getElem_cons_zero, List.getElem_cons_succ, List.setIfInBounds_toArray, List.set_cons_zero, List.set_cons_succ]
  refine' wpAnyH_take (i := 1) (v := _) rfl (by kernel_rfl) (by kernel_rfl) (by kernel_rfl) (fun _ _ _ h => h) (yieldsIf_load_mid (by rfl) 68 (.tmp 3) rfl w.heap.size (0) rfl (pqc ((a : Int), (b : Int))) _ (fun w' h => fun j v hv => (rangeAt_below HRg.out h hlt) j v hv) Tryd.underlying68 rfl Tryd.sizePq) (by assumption) ?_
  try simp only [Act.put, List.getElem_toArray, List.getElem_cons_zero, List.getElem_cons_succ, List.setIfInBounds_toArray, List.set_cons_zero, List.set_cons_succ]
  refine' wpAnyH_take (i := 2) (v := _) rfl (by kernel_rfl) (by kernel_rfl) (by kernel_rfl) (fun _ _ _ h => h) (yieldsIf_lookupR (by rfl) 56 (.tmp 5) (.tmp 6) rfl rfl rfl (fun w' h => L1.out w' (HB.out.trans (h.mono HB.out.size)))) (by assumption) ?_
  try simp only [Act.put, List.getElem_toArray, List.getElem_cons_zero, List.getElem_cons_succ, List.setIfInBounds_toArray, List.set_cons_zero, List.set_cons_succ]
  refine wpAnyH_take (i := 3) (v := .map (some B)) rfl (by kernel_rfl) (by kernel_rfl) (by kernel_rfl) (fun _ _ _ h => h) (Or.inl ⟨by rfl, fun w' h => by have g1 := (h.cell (p := ⟨D1, 0, none⟩) (Nat.lt_of_lt_of_le hbl1 HB.out.size)).trans ((HB.out.cell (p := ⟨D1, 0, none⟩) hbl1).trans HD1.out); go_simp⟩) (by assumption) ?_
  try simp only [Act.put, List.getElem_toArray, List.getElem_cons_zero, List.getElem_cons_succ, List.setIfInBounds_toArray, List.set_cons_zero, List.set_cons_succ]
  refine wpAnyH_take (i := 4) (v := .slice (some ⟨b3, o3, none⟩) L c) rfl (by kernel_rfl) (by kernel_rfl) (by kernel_rfl) (fun _ _ _ h => h) (Or.inl ⟨by rfl, fun w' h => by have g1 := (h.cell (p := ⟨D2, 0, none⟩) (Nat.lt_of_lt_of_le hbl2 HB.out.size)).trans ((HB.out.cell (p := ⟨D2, 0, none⟩) hbl2).trans HD2.out); go_simp⟩) (by assumption) ?_
  try simp only [Act.put, List.getElem_toArray, List.getElem_cons_zero, List.getElem_cons_succ, List.setIfInBounds_toArray, List.set_cons_zero, List.set_cons_succ]
  refine wpAnyH_take (i := 5) (v := .pointer (some ⟨b3, o3, none⟩)) rfl (by kernel_rfl) (by kernel_rfl) (by kernel_rfl) (fun _ _ _ h => h) (Or.inl ⟨by rfl, fun w' h => by go_simp⟩) (by assumption) ?_
  try simp only [Act.put, List.getElem_toArray, List.getElem_cons_zero, List.getElem_cons_succ, List.setIfInBounds_toArray, List.set_cons_zero, List.set_cons_succ]
  refine' wpAnyH_take (i := 6) (v := _) rfl (by kernel_rfl) (by kernel_rfl) (by kernel_rfl) (fun _ _ _ h => h) (yieldsIf_load_mid (by rfl) 68 (.tmp 10) rfl b3 (o3) rfl (pqc (((0 : Nat) : Int), ((1 : Nat) : Int))) _ (fun w' h => fun j v hv => (rangeAt_below (rangeAt_below (by have := HRw.out; rw [Nat.zero_mul, Nat.add_zero] at this; exact this) HB.out hb3) h (Nat.lt_of_lt_of_le hb3 HB.out.size)) j v hv) Tryd.underlying68 rfl Tryd.sizePq) (by assumption) ?_
  try simp only [Act.put, List.getElem_toArray, List.getElem_cons_zero, List.getElem_cons_succ, List.setIfInBounds_toArray, List.set_cons_zero, List.set_cons_succ]
  refine' wpAnyH_take (i := 7) (v := _) rfl (by kernel_rfl) (by kernel_rfl) (by kernel_rfl) (fun _ _ _ h => h) (yieldsIf_lookupR (by rfl) 56 (.tmp 8) (.tmp 11) rfl rfl rfl (fun w' h => L2.out w' (HB.out.trans (h.mono HB.out.size)))) (by assumption) ?_
  try simp only [Act.put, List.getElem_toArray, List.getElem_cons_zero, List.getElem_cons_succ, List.setIfInBounds_toArray, List.set_cons_zero, List.set_cons_succ]
  refine wpAnyH_take (i := 8) (v := .bool (!decide (x = y))) rfl (by kernel_rfl) (by kernel_rfl) (by kernel_rfl) (fun _ _ _ h => h) (Or.inl ⟨by rfl, fun w' h => by (go_simp; first | done | (by_cases e : x = y <;> simp [e]; try omega))⟩) (by assumption) ?_
  try simp only [Act.put, List.getElem_toArray, List.getElem_cons_zero, List.getElem_cons_succ, List.setIfInBounds_toArray, List.set_cons_zero, List.set_cons_succ]
  refine wpAnyH_ready (rs := [9]) (by kernel_rfl) (by simp) ?_
  refine AllReadyH.cons rfl (fun K hK => ?_) AllReadyH.nil
  refine if_wanted rfl ?_
  refine wp_assign0 (v := .bool (!decide (x = y))) rfl rfl ?_
  refine hK.out _ _ hHeld (fun hHeld => ?_)
  clear hK K
  try simp only [Act.put, List.getElem_toArray, List.getElem_cons_zero, List.getElem_cons_succ, List.setIfInBounds_toArray, List.set_cons_zero, List.set_cons_succ]
  refine wpAnyH_done (by kernel_rfl) ?_ _
  try simp only [Act.put, List.getElem_toArray, List.getElem_cons_zero, List.getElem_cons_succ, List.setIfInBounds_toArray, List.set_cons_zero, List.set_cons_succ]
  have hb := hHeld
  clear hHeld
  have HB9 := Lib.hid (HB.out.trans (hb.mono HB.out.size))
  clear hb
  go_wp2
  go_ret
  exact ⟨by rw [hv]; first | done | rfl | (by_cases e : x = y <;> simp [e]), HB9.out⟩

theorem asc8_ok {N : Nat} (hN : N ≤ 8) {p : Pq} (h : p ∈ thI twB N N) : ∃ a b : Nat, a < 9 ∧ b < 9 ∧ p = ((a : Int), (b : Int)) := by
  obtain ⟨a, b, ha, hb, e⟩ := thI_mem h
  exact ⟨a, b, by omega, by omega, e⟩
set_option maxRecDepth 100000 in
set_option maxHeartbeats 4000000 in
theorem indexB_any (g : Pq → Bool) (qs : List Pq) (hq : qs.length ≤ 64) (D1 D2 : Nat) (A : Option Addr) (c : Nat) (w : World) (hr : Rd w w.heap.size pqc A qs)
    (HCf : ∀ p ∈ qs, ∀ (W : World), Below w.heap.size w W → Calls Tryd.prog 43 #[.agg (pqc p).toArray, .pointer (some ⟨D1, 0, none⟩), .pointer (some ⟨D2, 0, none⟩)] W fun e w' => e = .returned (.bool (!g p)) ∧ Below W.heap.size W w') :
    Calls Tryd.prog 68 #[.slice A qs.length c, .func (.func 43) #[] #[.pointer (some ⟨D1, 0, none⟩), .pointer (some ⟨D2, 0, none⟩)]] w fun e w' => ∃ i : Int, e = .returned (.int .i64 i) ∧ (decide (i < 0)) = qs.all g ∧ -1 ≤ i ∧ i ≤ qs.length ∧ Below w.heap.size w w' := by
  have HR := Lib.hid hr
  have HC := Lib.hid HCf
  clear hr HCf
  have hn0 : (0 : Int) ≤ (qs.length : Int) := Int.natCast_nonneg _
  go_enter Tryd.func68, Tryd.ntmps68
  go_wp2_with fail
  go_loopw [8] (fun i wr => ∃ (k : Nat), k ≤ qs.length ∧ i = .int .i64 k ∧ AllU g qs k ∧ Below w.heap.size w wr) (fun i _ => qs.length - (intOf i).toNat)
  case atStart => exact ⟨0, by omega, rfl, AllU.zero _ _, Below.refl _ _⟩
  case round =>
    obtain ⟨k, hk, rfl, hT, hB⟩ := hrel
    obtain ⟨wa, rfl⟩ : ∃ u, u = wr := ⟨_, rfl⟩
    have HT := Lib.hid hT
    have HB := Lib.hid hB
    clear hT hB
    by_cases hlt : k < qs.length
    · obtain ⟨x, hx⟩ : ∃ x, qs[k]? = some x := ⟨_, List.getElem?_eq_getElem hlt⟩
      obtain ⟨b, o, rfl, hbl, hrow⟩ := (HR.out.below (Nat.le_refl _) HB.out).at_ pqc_length hx
      have HX := Lib.hid hx
      have HRow := Lib.hid hrow
      have HCx := Lib.hid (HC.out x (List.mem_of_getElem? hx) wa HB.out)
      have hk0 : (0 : Int) ≤ (k : Int) := Int.natCast_nonneg _
      have hk8 : (k : Int) < qs.length := by omega
      clear hx hrow
      cases hv : g x
      · rw [hv] at HCx
        have HV := Lib.hid hv
        clear hv
        go_wp2_with (refine wpList_load_mid rfl 68 (.tmp 14) rfl b (o + k * 2) rfl (pqc x) _ HRow.out Tryd.underlying68 rfl Tryd.sizePq ?_)
        refine HCx.out.mono ?_
        rintro e w1 ⟨rfl, hb1⟩
        have HB1 : Hid (Below w.heap.size w w1) := HB.out.trans (hb1.mono HB.out.size)
        clear hb1
        go_wp2
        go_ret
        exact ⟨k, rfl, by rw [allU_no HX.out HV.out]; simp, by omega, by omega, HB1.out⟩
      · rw [hv] at HCx
        have HV := Lib.hid hv
        clear hv
        go_wp2_with (refine wpList_load_mid rfl 68 (.tmp 14) rfl b (o + k * 2) rfl (pqc x) _ HRow.out Tryd.underlying68 rfl Tryd.sizePq ?_)
        refine HCx.out.mono ?_
        rintro e w1 ⟨rfl, hb1⟩
        have HB1 : Hid (Below w.heap.size w w1) := HB.out.trans (hb1.mono HB.out.size)
        clear hb1
        go_wp2
        go_roundw
        case rel => exact ⟨k + 1, by omega, by go_num, HT.out.step HX.out HV.out, HB1.out⟩
        case measure => simp [intOf]; omega
    · obtain rfl : k = qs.length := by omega
      go_wp2
      go_ret
      exact ⟨-1, rfl, by rw [HT.out.all]; rfl, by omega, by omega, HB.out⟩
set_option maxHeartbeats 1000000 in
theorem containsB_any (g : Pq → Bool) (qs : List Pq) (hq : qs.length ≤ 64) (D1 D2 : Nat) (A : Option Addr) (c : Nat) (w : World) (hr : Rd w w.heap.size pqc A qs)
    (HCf : ∀ p ∈ qs, ∀ (W : World), Below w.heap.size w W → Calls Tryd.prog 43 #[.agg (pqc p).toArray, .pointer (some ⟨D1, 0, none⟩), .pointer (some ⟨D2, 0, none⟩)] W fun e w' => e = .returned (.bool (!g p)) ∧ Below W.heap.size W w') :
    Calls Tryd.prog 44 #[.slice A qs.length c, .func (.func 43) #[] #[.pointer (some ⟨D1, 0, none⟩), .pointer (some ⟨D2, 0, none⟩)]] w fun e w' => e = .returned (.bool (!qs.all g)) ∧ Below w.heap.size w w' := by
  have HI := Lib.hid (indexB_any g qs hq D1 D2 A c w hr HCf)
  clear hr HCf
  go_enter Tryd.func44, Tryd.ntmps44
  go_wp2_with fail
  refine HI.out.mono ?_
  rintro e w1 ⟨i, rfl, hi, hi0, hi1, hb⟩
  have HB := Lib.hid hb
  have HJ := Lib.hid hi
  clear hb hi HI
  go_wp2
  go_ret
  exact ⟨ret_bool (by rw [← HJ.out, ← decide_not]; rw [decide_eq_decide]; omega), HB.out⟩

set_option maxRecDepth 100000 in
set_option maxHeartbeats 8000000 in
theorem implBalanced_any (n : Int) (oss : List (List Int)) (A : Option Addr) (c : Nat) (ad : Nat → Addr) (w : World) (hl : oss.length ≤ 1048576) (hx : ∀ xs ∈ oss, xs.length ≤ 1048576) (hr : RdN w w.heap.size icells A oss) (hE : EW 5 w ad) :
    Calls Tryd.prog 17 #[.int .i64 n, .slice A oss.length c] w fun e w' => e = .returned (.tuple #[.bool (blA n oss), .int .i64 (foC n oss)]) ∧ Below w.heap.size w w' := by
  have HC := Lib.hid (followsOf_any n oss A c ad w hl hx hr hE)
  have HE := Lib.hid hE
  clear hr hx hE
  go_enter Tryd.func17, Tryd.ntmps17
  go_wp2_with fail
  refine HC.out.mono ?_
  rintro e w1 (⟨i, ho, rfl, hb⟩ | ⟨ho, B, k, D, rfl, q3, q4, hb⟩)
  · have E := Lib.hid (foE_some ho)
    have hE2 : blA n oss = false := by
      cases h : foOk n oss
      · exact blA_no h
      · have h1 := foOk_C0 h
        rw [(foE_some ho).2.1] at h1
        have h2 := (foE_some ho).2.2
        exfalso
        have : i = 0 ∨ i = 1 ∨ i = 2 ∨ i = 3 ∨ i = 4 := by omega
        rcases this with rfl | rfl | rfl | rfl | rfl <;> exact absurd h1 (by decide)
    have HE2 := Lib.hid hE2
    have hBW : Below w.heap.size w (w1.alloc (.cells #[.map none] 56)) := hb.alloc hb.size _
    have HB := Lib.hid hBW
    have HCd := Lib.hid (codeOf_O5 (HE.out.below hBW (Nat.le_refl _)) i (foE_some ho).2.2)
    rw [erO_some]
    clear ho hb HC hBW hE2
    go_wp2_with fail
    refine HCd.out.mono ?_
    rintro e w4 ⟨rfl, rfl⟩
    go_wp2
    go_ret2
    exact ⟨by (rw [HE2.out, E.out.2.1]; first | done | rfl), HB.out⟩
  · obtain ⟨h0, h1, h3⟩ := foE_none ho
    have E := Lib.hid (fo_yes h0 h1 h3).2
    have hok : foOk n oss = true := by simp [foOk, h0, h1, h3]
    have hBl := blA_yes hok
    have hn := wi_iff.1 h0
    obtain ⟨N, hN⟩ : ∃ N : Nat, n.toNat = N := ⟨_, rfl⟩
    have hnN : n = (N : Int) := by omega
    rw [hN] at hBl
    subst hnN
    have hN8 : N ≤ 8 := by omega
    have hN1 : 1 ≤ N := by omega
    have hps : (foP oss oss.length).length ≤ 6500 := by
      have := foP_len (oss := oss) (fun xs hm => by have := (orB_iff.1 (List.all_eq_true.1 h1 xs hm)).1; omega) oss.length (Nat.le_refl _)
      omega
    obtain ⟨ps, hpe⟩ : ∃ ps, foP oss oss.length = ps := ⟨_, rfl⟩
    rw [hpe] at q4 hps hBl
    have HBl := Lib.hid hBl
    obtain ⟨W, hW⟩ : ∃ W, w1.alloc (.cells #[.map (some B)] 56) = W := ⟨_, rfl⟩
    have hBW1 : Below w1.heap.size w1 W := by rw [← hW]; exact (Below.refl _ _).alloc (Nat.le_refl _) _
    have hK : Blk W w1.heap.size 56 #[.map (some B)] := by rw [← hW]; exact Blk.new w1 _ _
    have hd1 : W.cell? ⟨w1.heap.size, 0, none⟩ = some (.map (some B)) := Blk.cell hK 0
    have hlt1 : w1.heap.size < W.heap.size := by rw [← hW]; simp
    have HB := Lib.hid (hb.trans (hBW1.mono hb.size))
    have HO := Lib.hid (q3.kept (grown_of_below hBW1) (by simp))
    have HH := Lib.hid q4
    have HD1 := Lib.hid hd1
    have HTw := Lib.hid (pairsTwo_any N hN8 W (fun i k _ _ W _ => isOfTwo_any i k W))
    clear ho h0 h1 hn hN q3 q4 hb HC hok hBl hpe hBW1 hK hd1
    go_wp2_with fail
    refine HTw.out.mono ?_
    rintro e w2 ⟨A2, c2, rfl, hO2, hb2⟩
    have hR2 := own_rd2 pqc_length hO2
    obtain ⟨V, hV⟩ : ∃ V, w2.alloc (.cells #[.slice A2 (thI twB N N).length c2] 63) = V := ⟨_, rfl⟩
    have hBV : Below w2.heap.size w2 V := by rw [← hV]; exact (Below.refl _ _).alloc (Nat.le_refl _) _
    have hK2 : Blk V w2.heap.size 63 #[.slice A2 (thI twB N N).length c2] := by rw [← hV]; exact Blk.new w2 _ _
    have hd2 : V.cell? ⟨w2.heap.size, 0, none⟩ = some (.slice A2 (thI twB N N).length c2) := Blk.cell hK2 0
    have hlt2 : w2.heap.size < V.heap.size := by rw [← hV]; simp
    have hBWV : Below W.heap.size W V := hb2.trans (hBV.mono hb2.size)
    have hRV := hR2.keep hBV
    have hd1V := (hBWV.cell (p := ⟨w1.heap.size, 0, none⟩) hlt1).trans HD1.out
    have hOV := HO.out.kept (grown_of_below hBWV) (by simp)
    have HBV := Lib.hid (HB.out.trans (hBWV.mono HB.out.size))
    have hlV1 : w1.heap.size < V.heap.size := Nat.lt_of_lt_of_le hlt1 hBWV.size
    have HCt : Hid (Calls Tryd.prog 44 #[.slice A2 (thI twB N N).length c2, .func (.func 43) #[] #[.pointer (some ⟨w1.heap.size, 0, none⟩), .pointer (some ⟨w2.heap.size, 0, none⟩)]] V fun e w' => e = .returned (.bool (!(thI twB N N).all (blP ps))) ∧ Below V.heap.size V w') := by
      refine containsB_any (blP ps) (thI twB N N) (thI_len64 twB hN8 (Nat.le_refl N)) w1.heap.size w2.heap.size A2 c2 V hRV (fun p hp W2 hW2 => ?_)
      have h2 : 2 ≤ N := by
        refine Classical.byContradiction fun h => ?_
        obtain rfl : N = 1 := by omega
        rw [tw_one] at hp
        simp at hp
      obtain ⟨a, b, ha, hb, rfl⟩ := asc8_ok hN8 hp
      exact differs_any N hN8 h2 a b ha hb ps B k w1.heap.size w2.heap.size D A2 c2 W2 (hOV.kept (grown_of_below hW2) (by simp)) HH.out hps ((hW2.cell (p := ⟨w1.heap.size, 0, none⟩) hlV1).trans hd1V) ((hW2.cell (p := ⟨w2.heap.size, 0, none⟩) hlt2).trans hd2) (hRV.keep hW2)
    have HD2 := Lib.hid hd2
    clear hO2 hb2 hR2 hBV hK2 hd2 hBWV hRV hd1V hOV HTw hW
    obtain ⟨q, hq⟩ : ∃ q, (thI twB N N).length = q := ⟨_, rfl⟩
    rw [hq] at HCt HD2 hV ⊢
    have HBq : Hid ((thI twB N N).all (blP ps) = blL ps N) := rfl
    rw [HBq.out] at HCt
    obtain ⟨v, hv⟩ : ∃ v, blL ps N = v := ⟨_, rfl⟩
    rw [hv] at HCt HBl
    clear hq hv
    have hd2 := HD2.out
    go_wp2_with fail
    refine HCt.out.mono ?_
    rintro e w3 ⟨rfl, hb3⟩
    have HB5 := Lib.hid (HBV.out.trans (hb3.mono HBV.out.size))
    clear hb3 HCt hV hd2
    go_wp2
    go_ret2
    exact ⟨by (rw [E.out, HBl.out]; first | done | rfl | simp), HB5.out⟩
end Go.Proofs.YtfmfgpipklmecaaDoor

namespace Go.Proofs.YtfmfgpipklmecaaDoor
open Go.ChangeShapes Go.WideShapes Go.ChangeAt Go.RowKit Go.Deep

set_option maxRecDepth 100000 in
set_option maxHeartbeats 1000000 in
theorem szInt64SS_any (xss : List (List Int)) (A : Option Addr) (c : Nat) (l : Int) (hn : xss.length ≤ 9223372036854775807) (hx : ∀ xs ∈ xss, xs.length ≤ 9223372036854775807) (hl : 0 ≤ l ∧ l ≤ 1048576) (w : World) (hr : RdN w w.heap.size icells A xss) :
    Calls Tryd.prog 14 #[.slice A xss.length c, .int .i64 l] w fun e w' => e = .returned (.int .i64 (if l < xss.length + sumL xss then -1 else l - (xss.length + sumL xss))) ∧ w = w' := by
  obtain ⟨l0, l1⟩ := hl
  have HR := Lib.hid hr
  have HX := Lib.hid hx
  clear hr hx
  by_cases h : l < xss.length
  · rw [if_pos (by omega)]
    go_enter Tryd.func14, Tryd.ntmps14
    go_wp2
    go_ret
    exact ⟨rfl, rfl⟩
  obtain ⟨r, hr⟩ : ∃ r : Int, (if l < xss.length + sumL xss then -1 else l - (xss.length + sumL xss)) = r := ⟨_, rfl⟩
  rw [hr]
  have HRes := Lib.hid hr
  clear hr
  obtain ⟨m, hm⟩ : ∃ m : Int, l - xss.length = m := ⟨_, rfl⟩
  have HM := Lib.hid hm
  have hm0 : 0 ≤ m := by omega
  have hm1 : m ≤ 1048576 := by omega
  have hw1 : IntKind.i64.wrap (l - xss.length) = m := by rw [hm]; exact IntWalk.i64_in _ ⟨by omega, by omega⟩
  have hw2 : wrap64 (l - xss.length) = m := by rw [hm]; exact IntWalk.wrap64_in _ ⟨by omega, by omega⟩
  have hmn : ¬ m < 0 := by omega
  have HS := Lib.hid (sumTo_all xss)
  clear hm
  go_enter Tryd.func14, Tryd.ntmps14
  go_wp2_with fail
  clear hw1 hw2
  go_loop [1, 5] (fun s i => ∃ k : Nat, k ≤ xss.length ∧ i = .int .i64 k ∧ s = .int .i64 (m - sumTo xss k) ∧ (sumTo xss k : Int) ≤ m) (fun _ i => xss.length - (intOf i).toNat)
  case atStart => exact ⟨0, by omega, rfl, by simp [sumTo, sumL], by simpa [sumTo, sumL] using hm0⟩
  case round =>
    obtain ⟨k, hk, rfl, rfl, hs⟩ := hrel
    by_cases hlt : k < xss.length
    · obtain ⟨xs, hxs⟩ : ∃ x, xss[k]? = some x := ⟨_, List.getElem?_eq_getElem hlt⟩
      obtain ⟨b, o, a, c', rfl, hb, hc, -⟩ := HR.out.at_ hxs
      have hxl := HX.out xs (List.mem_of_getElem? hxs)
      have hk0 : (0 : Int) ≤ (k : Int) := Int.natCast_nonneg _
      have hk8 : (k : Int) < xss.length := by omega
      have HXs := Lib.hid hxs
      have hle := Lib.hid (le_sumL hxs)
      have hsl := Lib.hid (sumTo_le xss (k + 1))
      have hsu := Lib.hid (sumTo_succ hxs)
      clear hxs
      go_wp2_with fail
      refine (szInt64S_any a xs.length c' (m - sumTo xss k) hxl ⟨by omega, by omega⟩ _).mono ?_
      rintro e w' ⟨rfl, rfl⟩
      by_cases hn : m - (sumTo xss k : Int) < xs.length
      · rw [if_pos hn]
        go_wp2
        go_ret
        refine ⟨ret_i64 ?_, rfl⟩
        have q1 := hsl.out; have q2 := hsu.out; have q3 := HM.out
        rw [← HRes.out, if_pos (by omega)]
      · rw [if_neg hn]
        obtain ⟨z, hz⟩ : ∃ z : Int, m - (sumTo xss k : Int) - xs.length = z := ⟨_, rfl⟩
        have hz0 : ¬ z < 0 := by omega
        have HZ := Lib.hid hz
        rw [hz]
        clear hz hn
        go_wp2
        go_round
        case rel => exact ⟨k + 1, by omega, by go_num, by rw [hsu.out, ← HZ.out]; congr 1; omega, by have q1 := HZ.out; rw [hsu.out]; omega⟩
        case measure => simp [intOf]; omega
    · obtain rfl : k = xss.length := by omega
      go_wp2
      go_ret
      refine ⟨ret_i64 ?_, rfl⟩
      have q1 := HS.out; have q2 := HM.out
      rw [← HRes.out, if_neg (by omega)]
      omega

set_option maxRecDepth 100000 in
set_option maxHeartbeats 1000000 in
theorem toInt64SS_any (xss : List (List Int)) (A : Option Addr) (c : Nat) (w : World) (hl : xss.length ≤ 1048576) (hx : ∀ xs ∈ xss, xs.length ≤ 1048576) (hr : RdN w w.heap.size icells A xss) :
    Calls Tryd.prog 16 #[.slice A xss.length c] w fun e w' => e = .returned (.slice (some ⟨w.heap.size, 0, none⟩) xss.length xss.length) ∧ (∃ gs, RsN w' w.heap.size 23 2 icells xss gs) ∧ Below w.heap.size w w' := by
  obtain ⟨i0, hi, hz0, hz1, hz2⟩ := info_parts Tryd.infoLN
  have HR := Lib.hid hr
  have HX := Lib.hid hx
  clear hr hx
  go_enter Tryd.func16, Tryd.ntmps16
  go_wp2_with (refine wpList_make_full _ rfl (.tmp 6) (.tmp 6) 22 rfl w.heap.size 23 i0 _ 1 Tryd.underlying22 hi hz0 hz1 .i64 .i64 _ _ xss.length rfl rfl rfl rfl (by rw [hz2]; omega) (by unfold maxLen; omega) (Nat.le_refl _) ?_; intro w1 hown hg)
  have hR0 : Rs w1 w.heap.size 23 hcells (List.replicate xss.length (none, 0, 0)) := by
    have := blk_of_make hown
    rw [made_rows hcells_length (none, 0, 0) (Value.slice none 0 0).cells rfl (by omega)] at this
    exact this
  have hB0 : Below w.heap.size w w1 := (Below.refl _ w).grown hg (Nat.le_refl _) (fun _ h => by cases h)
  have HT : Hid (TMk xss w 0 [] (List.replicate xss.length (none, 0, 0)) w1) := ⟨by simp, rfl, hR0, fun i g xs h => by simp at h, by simp, by simp, hB0⟩
  clear hR0 hB0 hown hg hi hz0 hz1 hz2
  go_loopw [4] (fun i wr => ∃ (k : Nat), k ≤ xss.length ∧ i = .int .i64 k ∧ ∃ gs hs, TMk xss w k gs hs wr)
    (fun i _ => xss.length - (intOf i).toNat)
  case atStart => exact ⟨0, by omega, rfl, _, _, HT.out⟩
  case round =>
    clear HT
    obtain ⟨k, hk, rfl, gs, hs, hT⟩ := hrel
    have HT := Lib.hid hT
    clear hT
    by_cases hlt : k < xss.length
    · obtain ⟨xs, hxs⟩ : ∃ x, xss[k]? = some x := ⟨_, List.getElem?_eq_getElem hlt⟩
      obtain ⟨b, o, a, c', rfl, hb, hc, hrd⟩ := (HR.out.keep HT.out.2.2.2.2.2.2).at_ hxs
      have hxl := HX.out xs (List.mem_of_getElem? hxs)
      have hk0 : (0 : Int) ≤ (k : Int) := Int.natCast_nonneg _
      have hk8 : (k : Int) < xss.length := by omega
      have HXs := Lib.hid hxs
      clear hxs
      go_wp2_with fail
      refine (toInt64S_any xs a c' _ hxl hrd).mono ?_
      rintro e w2 ⟨rfl, hR2, hb2⟩
      obtain ⟨h0, hh⟩ : ∃ h, hs[k]? = some h := ⟨_, List.getElem?_eq_getElem (by rw [HT.out.1]; exact hlt)⟩
      have hK := Blk.keep HT.out.2.2.1 hb2
      have e1 : w2.cell? ⟨w.heap.size, k, none⟩ = some (.slice h0.1 h0.2.1 h0.2.2) := by
        have := rowH (range_row hcells_length (Rs.range hK) hh)
        simpa using this
      have e2 : w2.frozen? ⟨w.heap.size, k, none⟩ = false := Blk.frozen hK k
      have HB2 := Lib.hid hb2
      have HR2 := Lib.hid hR2
      clear hb2 hR2 hK hh
      go_wp2
      go_roundw
      case rel => exact ⟨k + 1, by omega, by go_num, _, _, HT.out.step HXs.out HR2.out HB2.out⟩
      case measure => simp [intOf]; omega
    · obtain rfl : k = xss.length := by omega
      go_wp2
      go_ret
      exact ⟨rfl, ⟨_, HT.out.done⟩, HT.out.2.2.2.2.2.2⟩

end Go.Proofs.YtfmfgpipklmecaaDoor

namespace Go.Proofs.YtfmfgpipklmecaaDoor
open Go.ChangeShapes Go.WideShapes Go.ChangeAt Go.RowKit Go.Deep

set_option maxRecDepth 100000 in
set_option maxHeartbeats 4000000 in
theorem bl7Law_any (m : List (List Int)) (A : Option Addr) (c : Nat) (n : Int) (ad : Nat → Addr) (w : World) (hl0 : m.length ≤ 9223372036854775807) (hr0 : RdN w w.heap.size icells A m) (hx0 : ∀ xs ∈ m, xs.length ≤ 9223372036854775807) (hw0 : ∀ xs ∈ m, ∀ x ∈ xs, wfI x) (hsn : wfI6 n) (hE : EW 5 w ad) :
    Calls Tryd.prog 4 #[.int .i64 n, .slice A m.length c] w (Good w) := by
  have HR0 := Lib.hid hr0
  have HW0 := Lib.hid hw0
  have HSn := Lib.hid hsn
  have HE := Lib.hid hE
  clear hE
  clear hr0 hw0 hsn
  go_enter Tryd.func4, Tryd.ntmps4
  go_wp2_with fail
  refine (szInt64SS_any m A c (1048576) hl0 hx0 ⟨by omega, by omega⟩ _ HR0.out).mono ?_
  rintro e w' ⟨rfl, rfl⟩
  by_cases hn0 : (1048576 : Int) < (m.length + sumL m)
  · rw [if_pos hn0]
    go_wp2
    go_ret
    exact ⟨rfl, (Below.refl _ _)⟩
  rw [if_neg hn0]
  have hz0 : (0 : Int) ≤ 1048576 - (m.length + sumL m) := by omega
  have hm0 : m.length ≤ 1048576 := by omega
  have hsm0 : sumL m ≤ 1048576 := by omega
  have hxm0 : ∀ xs ∈ m, xs.length ≤ 1048576 := fun xs hxs => by obtain ⟨j, hj, rfl⟩ := List.mem_iff_getElem.1 hxs; have := le_sumL (List.getElem?_eq_getElem hj); omega
  have HB_0 : Hid (Below w.heap.size w w) := Below.refl _ _
  go_wp2_with fail
  refine (toInt64SS_any m A c _ hm0 hxm0 (HR0.out.keep HB_0.out)).mono ?_
  rintro e w1 ⟨rfl, ⟨gsY0, hR⟩, hb⟩
  have HB_1 : Hid (Below w.heap.size w w1) := HB_0.out.trans (hb.mono HB_0.out.size)
  clear hb HB_0
  have Y0_1 : Hid (RsN w1 w.heap.size 23 2 icells m gsY0) := hR
  clear hR
  go_wp2_with fail
  refine (specBalanced_any n m _ _ _ _ hm0 hxm0 Y0_1.out).mono ?_
  rintro e w2 ⟨rfl, hb⟩
  clear Y0_1
  have HB_2 : Hid (Below w.heap.size w w2) := HB_1.out.trans (hb.mono HB_1.out.size)
  clear hb HB_1
  obtain ⟨cd0, hcd0⟩ : ∃ c, blA n m = c := ⟨_, rfl⟩
  have HCD0 := Lib.hid hcd0
  clear hcd0
  rw [HCD0.out]
  obtain ⟨cd1, hcd1⟩ : ∃ c, foC n m = c := ⟨_, rfl⟩
  have HCD1 := Lib.hid hcd1
  clear hcd1
  rw [HCD1.out]
  go_wp2_with fail
  refine (toInt64SS_any m A c _ hm0 hxm0 (HR0.out.keep HB_2.out)).mono ?_
  rintro e w3 ⟨rfl, ⟨gsX0, hR⟩, hb⟩
  have LE0 : Hid (w.heap.size ≤ w2.heap.size) := HB_2.out.size
  have HB_3 : Hid (Below w.heap.size w w3) := HB_2.out.trans (hb.mono HB_2.out.size)
  clear hb HB_2
  have X0_3 : Hid (RsN w3 w2.heap.size 23 2 icells m gsX0) := hR
  clear hR
  go_wp2_with fail
  refine (implBalanced_any n m _ _ ad _ hm0 hxm0 X0_3.out.rd (HE.out.below HB_3.out (Nat.le_refl _))).mono ?_
  rintro e w4 ⟨rfl, hb⟩
  have HB_4 : Hid (Below w.heap.size w w4) := HB_3.out.trans (hb.mono HB_3.out.size)
  have X0_4 : Hid (RsN w4 w2.heap.size 23 2 icells m gsX0) := X0_3.out.keep hb
  clear hb HB_3 X0_3
  rw [HCD0.out]
  rw [HCD1.out]
  cases cd0
  all_goals
    go_wp2_with fail
    refine (toInt64SS_any m A c _ hm0 hxm0 (HR0.out.keep HB_4.out)).mono ?_
    rintro e w5 ⟨rfl, ⟨gsZ0, hR⟩, hb⟩
    have HB_5 : Hid (Below w.heap.size w w5) := HB_4.out.trans (hb.mono HB_4.out.size)
    have X0_5 : Hid (RsN w5 w2.heap.size 23 2 icells m gsX0) := X0_4.out.keep hb
    clear hb HB_4 X0_4
    have Z0_5 : Hid (RsN w5 w4.heap.size 23 2 icells m gsZ0) := hR
    clear hR
    go_wp2_with fail
    refine (eqInt64SS_same m _ _ _ _ _ (by omega) hxm0 X0_5.out.rd Z0_5.out.rd).mono ?_
    rintro e w6 ⟨rfl, hb⟩
    clear Z0_5
    have HB_6 : Hid (Below w.heap.size w w6) := HB_5.out.trans (hb.mono HB_5.out.size)
    have X0_6 : Hid (RsN w6 w2.heap.size 23 2 icells m gsX0) := X0_5.out.keep hb
    clear hb HB_5 X0_5
    go_wp2
    go_ret
    exact ⟨rfl, HB_6.out⟩
end Go.Proofs.YtfmfgpipklmecaaDoor

namespace Go.Proofs.YtfmfgpipklmecaaDoor
open Go.ChangeShapes Go.WideShapes Go.ChangeAt Go.RowKit Go.Deep

set_option maxRecDepth 100000 in
theorem fnExactIsBalanced_lifted (os : Os) (started : os.Started) (H : Type) (enc : TypeId × Value → H) :
    ReturnsInHanded {} Tryd.checked os 4 .any (fun w args => (Rows.fnExactIsBalancedSpec.pre enc Tryd.prog Tryd.f4 Rows.fnExactIsBalancedRow.domain false w args ∧ laidMetH Tryd.prog (lay sl6) w) ∧ sizedMet enc Tryd.prog Tryd.f4 (OpenSpec.ofChange Rows.fnExactIsBalancedSpec) false w args)
      (Rows.fnExactIsBalancedSpec.post enc Tryd.prog Tryd.f4 false true false false) := by
  refine law_liftL (C := Tryd.checked) 2 6 Tryd.own started (by kernel_rfl) Tryd.func4
    (ChangeSpec.witness_shaped (enc := enc) (C := Tryd.checked) (os := os) (X := fun w _ => laidMetH Tryd.prog (lay sl6) w) false (World.doorLaid Tryd.prog 142 os) #[.int .i64 0, .slice none 0 0] 8 rfl (World.shaped_of_RefB (by kernel_rfl) (by kernel_rfl)) (by kernel_rfl) (by kernel_rfl) (by kernel_rfl)
      (laidMetH_of_parts3 (fuel := 8) (laidMet_of_run' 8 (by kernel_rfl) (by kernel_rfl)) (by kernel_rfl) (by kernel_rfl)))
    Tryd.laidOut (by kernel_rfl) rfl (by kernel_rfl) Tryd.underlying4 (by kernel_rfl) (by kernel_rfl)
    (fun ds gs h h' => by match ds, gs, h, h' with | [d1, d2], [g1, g2, g3, g4, g5, g6], _, _ => rfl) ?_
  intro W base args ds p hL hval hA
  rw [Tryd.params4] at hA hval
  obtain ⟨v0, v1, d0, d1, r0, r1, rfl, rfl, rfl, h0, h1⟩ := trodAll_two hA
  obtain ⟨n, rfl, rfl, rfl, wn0⟩ := open_int Tryd.underlying2 (hval 0 2 v0 rfl rfl) h0
  obtain ⟨A0, n0, c0, rfl⟩ := okWide_slice Tryd.underlying22 (hval 1 22 v1 rfl rfl)
  obtain ⟨A0, c0, xs0, he0, _, hcm0, hall0, hR0⟩ := open_nested icells wfI Tryd.underlying22 Tryd.underlying23 (by kernel_rfl) (.int Tryd.underlying2) Tryd.cells64 (by decide) icells_length icells_of rfl h1
  cases he0
  have hxl0 : ∀ xs ∈ xs0, xs.length ≤ 9223372036854775807 := fun xs hxs => by have := (hall0 xs hxs).1; unfold maxLen at this; omega
  have hwf0 : ∀ xs ∈ xs0, ∀ x ∈ xs, wfI x := fun xs hxs => (hall0 xs hxs).2
  unfold maxLen at hcm0
  obtain ⟨ad, hE⟩ := ew5_of hL
  exact bl7Law_any xs0 A0 c0 n ad W (by omega) hR0 hxl0 hwf0 (bounds_i64 wn0) hE

theorem fnExactIsBalanced_row : Rows.FnExactIsBalancedSaid :=
  OpenClaim.holds_of_wide 4 Tryd.f4 rfl rfl rfl rfl rfl rfl rfl ⟨rfl, rfl, rfl, rfl, rfl⟩ rfl rfl rfl rfl rfl (by kernel_rfl) Tryd.func4 (by kernel_rfl)
    (of_decide_eq_true (by kernel_rfl)) (by unfold Func.isWrapper; rw [if_neg (of_decide_eq_false (by kernel_rfl))]; exact ⟨rfl, rfl⟩)
    (fun os started H enc _ => fnExactIsBalanced_lifted os started H enc)

theorem fnExactIsBalanced_card : Rows.FnExactIsBalancedCardSaid :=
  Claim7.holds_tied_plain_at .later [] [.sentinel, .sentinel, .sentinel, .sentinel, .sentinel, .sentinel] true (true, "743a90fede1882260e67e33db3a613b22032078bbe0694545374f0acdb659fd9") true
    fnExactIsBalanced_row (fun _ h => by cases h) (by kernel_rfl) (fun _ h => by cases h) fnExactIsBalanced_row_tie rfl ⟨rfl, rfl⟩ (by kernel_rfl) rfl
    (fun f fn hf hfn => by
      obtain rfl : f = 4 := Option.some.inj ((show Tryd.prog.funcNamed "loop.example/g01353/laws.FnExactIsBalanced" = some 4 by kernel_rfl).symm.trans hf) |>.symm
      obtain rfl : fn = Tryd.f4 := (Option.some.inj (Tryd.func4.symm.trans hfn)).symm
      exact ⟨by kernel_rfl, fun j t ht => by
        have hm : t ∈ Tryd.f4.params.toList := Array.mem_toList_iff.2 (Array.mem_of_getElem? ht)
        have hall : (Tryd.f4.params.toList.all fun u => !Tryd.prog.wantsStandIn u) = true := by kernel_rfl
        exact (show Tryd.prog.wantsStandIn t = false by simpa using List.all_eq_true.1 hall t hm)⟩)
    (by kernel_rfl)
#print axioms fnExactIsBalanced_card
end Go.Proofs.YtfmfgpipklmecaaDoor
