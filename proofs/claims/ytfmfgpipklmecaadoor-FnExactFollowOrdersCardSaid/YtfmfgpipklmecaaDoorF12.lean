/-
  FnExactFollowOrders: for all arguments the law returns true, and they read as before. No condition but that the sentinel errors hold what the program's text lays (tied).
-/
import Derived.Test.YtfmfgpipklmecaaDoorZb
import Derived.Test.YtfmfgpipklmecaaDoorIo
import Derived.Test.YtfmfgpipklmecaaDoorZn
import Derived.Deep.LoopGhost
import Derived.Sort.WalkB12
import Derived.Lib.SlicesMore
import Derived.Test.YtfmfgpipklmecaaDoorOr0
import Derived.Test.YtfmfgpipklmecaaDoorZ0
import Derived.Test.YtfmfgpipklmecaaDoorTr1
import Derived.Test.YtfmfgpipklmecaaDoorCw
import Derived.Test.YtfmfgpipklmecaaDoorGk
import Derived.Maps.AppendAt
import Derived.Test.YtfmfgpipklmecaaDoorNq
import Derived.Test.YtfmfgpipklmecaaDoorEo
import Derived.Test.YtfmfgpipklmecaaDoorAs0
import Derived.Deep.RegionHeld3
import Derived.Test.YtfmfgpipklmecaaDoorTm
import Derived.Test.YtfmfgpipklmecaaDoorCards
import Derived.Test.YtfmfgpipklmecaaDoorTie
import Derived.Test.YtfmfgpipklmecaaDoorG
import Derived.Test.YtfmfgpipklmecaaDoorMkM
import Derived.SevenTiedAt
namespace Go.Proofs.YtfmfgpipklmecaaDoor
open Go.ChangeShapes Go.WideShapes Go.ChangeAt Go.RowKit Go.Deep

/-- The pairs of an order: of the i-th with those behind it, up to the k-th. -/
def opK (xs : List Int) (i : Nat) : Nat → List Pq
  | 0 => []
  | k + 1 => opK xs i k ++ (if i < k then [(xs.getD i 0, xs.getD k 0)] else [])
def opI (xs : List Int) : Nat → List Pq
  | 0 => []
  | i + 1 => opI xs i ++ opK xs i xs.length
theorem opK_low (xs : List Int) (i : Nat) : ∀ k, k ≤ i + 1 → opK xs i k = []
  | 0, _ => rfl
  | k + 1, h => by rw [opK, opK_low xs i k (by omega), if_neg (by omega)]; rfl
theorem opK_succ {xs : List Int} {i k : Nat} {x y : Int} (hx : xs[i]? = some x) (hy : xs[k]? = some y) (h : i < k) : opK xs i (k + 1) = opK xs i k ++ [(x, y)] := by
  rw [opK, if_pos h, List.getD_eq_getElem?_getD, List.getD_eq_getElem?_getD, hx, hy]; rfl
theorem opK_len (xs : List Int) (i : Nat) : ∀ k, (opK xs i k).length ≤ k
  | 0 => by simp [opK]
  | k + 1 => by
    have := opK_len xs i k
    rw [opK, List.length_append]
    split <;> simp <;> omega
theorem opI_len {xs : List Int} (h8 : xs.length ≤ 8) : ∀ i, (opI xs i).length ≤ 8 * i
  | 0 => by simp [opI]
  | i + 1 => by
    have := opI_len h8 i
    have := opK_len xs i xs.length
    rw [opI, List.length_append]; omega
theorem opK_mem {xs : List Int} {i : Nat} (hi : i < xs.length) : ∀ {k : Nat} {p : Pq}, k ≤ xs.length → p ∈ opK xs i k → p.1 ∈ xs ∧ p.2 ∈ xs
  | 0, p, _, h => by simp [opK] at h
  | k + 1, p, hk, h => by
    rw [opK, List.mem_append] at h
    rcases h with h | h
    · exact opK_mem hi (by omega) h
    · split at h
      · have e : p = (xs.getD i 0, xs.getD k 0) := by simpa using h
        rw [e, List.getD_eq_getElem?_getD, List.getD_eq_getElem?_getD, List.getElem?_eq_getElem hi, List.getElem?_eq_getElem (show k < xs.length by omega)]
        exact ⟨List.getElem_mem hi, List.getElem_mem (show k < xs.length by omega)⟩
      · simp at h
theorem opI_mem {xs : List Int} : ∀ {i : Nat} {p : Pq}, i ≤ xs.length → p ∈ opI xs i → p.1 ∈ xs ∧ p.2 ∈ xs
  | 0, p, _, h => by simp [opI] at h
  | i + 1, p, hi, h => by
    rw [opI, List.mem_append] at h
    rcases h with h | h
    · exact opI_mem (by omega) h
    · exact opK_mem (by omega) (Nat.le_refl _) h

theorem Tryd.asGiven (A : Option Addr) (n c : Nat) (w : World) : (Instr.typeAssert (.iface 59 (.slice A n c)) 80 59 true).run Tryd.prog w = .ok (.tuple #[.slice A n c, .bool true]) w := by kernel_rfl

set_option maxRecDepth 100000 in
set_option maxHeartbeats 2000000 in
theorem cloneG_any (xs : List Int) (h0 : 0 < xs.length) (h8 : xs.length ≤ 8) (A : Option Addr) (c : Nat) (w : World) (hr : Rd w w.heap.size icells A xs) :
    Calls Tryd.prog 75 #[.slice A xs.length c] w fun e w' => ∃ A' c', e = .returned (.slice A' xs.length c') ∧ w'.ownsRow w.heap.size 2 1 (.slice A' xs.length c') xs.length (xs.flatMap icells) ∧ Below w.heap.size w w' := by
  obtain ⟨i0, hi, hz0, hz1, hz2⟩ := info_parts Tryd.info64
  have HI := Lib.hid hi
  have HZ0 := Lib.hid hz0
  have HZ1 := Lib.hid hz1
  have HZ2 := Lib.hid hz2
  clear hi hz0 hz1 hz2
  have HR := Lib.hid hr
  obtain ⟨b0, o0, rfl, -, -⟩ := hr h0
  clear hr
  have hnil : ∀ w : World, (binOp .eql 59 (.slice (some ⟨b0, o0, none⟩) xs.length c) (.slice none 0 0)).run Tryd.prog w = .ok (.bool false) w := fun w => Lib.run_eql_slice_nil (P := Tryd.prog) w 59 2 (some ⟨b0, o0, none⟩) xs.length c 0 0 Tryd.underlying59
  go_enter Tryd.func75, Tryd.ntmps75
  go_wp2_with (at_builtin; refine wpList_append_any _ rfl (.tmp 5) (.tmp 6) 59 59 rfl w.heap.size 2 i0 (.int .i64 0) 1 8 Tryd.underlying59 HI.out HZ0.out HZ1.out HZ2.out rfl (by decide) _ 0 [] rfl ?own _ xs.length (xs.flatMap icells) rfl ?src ?c3 ?c4 ?c5 ?_)
  case own => exact ⟨by simp, .inr ⟨w.heap.size, 0, #[], rfl, Nat.le_refl _, heap_alloc_new w _, Nat.le_refl _, by unfold maxLen; omega, by simp, by simp⟩⟩
  case src => exact src_of_rd _ Tryd.underlying59 icells_length icells_one (HR.out.keep ((Below.refl _ w).alloc (Nat.le_refl _) _))
  case c3 => unfold maxLen; omega
  case c4 => omega
  case c5 => simp
  intro v' w2 hown hg _
  have hB : Below w.heap.size w w2 := ((Below.refl _ w).alloc (Nat.le_refl _) _).grown hg (by simp) (fun k e => by
    have e2 : w.heap.size = k := by simpa [Value.ownBlock] using e
    omega)
  have hown2 : w2.ownsRow w.heap.size 2 1 v' xs.length (xs.flatMap icells) := by simpa using hown
  obtain ⟨A', c', rfl, -, -⟩ := own_rd icells_length hown2
  have HO := Lib.hid hown2
  have HB := Lib.hid hB
  clear hown hown2 hg hB hnil
  go_wp2
  go_ret
  exact ⟨A', c', rfl, HO.out, HB.out⟩

set_option maxRecDepth 100000 in
set_option maxHeartbeats 2000000 in
theorem listOfG_any (xs : List Int) (h0 : 0 < xs.length) (h8 : xs.length ≤ 8) (A : Option Addr) (c : Nat) (w : World) (hr : Rd w w.heap.size icells A xs) :
    Calls Tryd.prog 55 #[.iface 59 (.slice A xs.length c)] w fun e w' => ∃ A' c', e = .returned (.slice A' xs.length c') ∧ w'.ownsRow w.heap.size 2 1 (.slice A' xs.length c') xs.length (xs.flatMap icells) ∧ Below w.heap.size w w' := by
  have HC := Lib.hid (cloneG_any xs h0 h8 A c w hr)
  have a1 := Tryd.asGiven A xs.length c
  clear hr
  go_enter Tryd.func55, Tryd.ntmps55
  go_wp2_with fail
  refine HC.out.mono ?_
  rintro e w1 ⟨A', c', rfl, hO, hb⟩
  have HO := Lib.hid hO
  have HB := Lib.hid hb
  clear hO hb HC a1
  go_wp2
  go_ret
  exact ⟨A', c', rfl, HO.out, HB.out⟩

set_option maxRecDepth 100000 in
set_option maxHeartbeats 8000000 in
theorem pairsInG_any (xs : List Int) (h0 : 0 < xs.length) (h8 : xs.length ≤ 8) (A : Option Addr) (c : Nat) (w : World) (hr : Rd w w.heap.size icells A xs) :
    Calls Tryd.prog 64 #[.iface 59 (.slice A xs.length c)] w fun e w' => ∃ A' c', e = .returned (.slice A' (opI xs xs.length).length c') ∧ w'.ownsRow w.heap.size 68 2 (.slice A' (opI xs xs.length).length c') (opI xs xs.length).length ((opI xs xs.length).flatMap pqc) ∧ Below w.heap.size w w' := by
  obtain ⟨i0, hi, hz0, hz1, hz2⟩ := info_parts Tryd.infoPq
  have HI := Lib.hid hi
  have HZ0 := Lib.hid hz0
  have HZ1 := Lib.hid hz1
  have HZ2 := Lib.hid hz2
  clear hi hz0 hz1 hz2
  have HC := Lib.hid (listOfG_any xs h0 h8 A c w hr)
  clear hr
  go_enter Tryd.func64, Tryd.ntmps64
  go_wp2_with fail
  refine HC.out.mono ?_
  rintro e w1 ⟨Aq, cq, rfl, hOq, hb1⟩
  have HBq := Lib.hid hb1
  obtain ⟨g, cap, hAq, hcap, hcells⟩ : ∃ g, ∃ _ : Nat, Aq = some ⟨g, 0, none⟩ ∧ xs.length ≤ cq ∧ ∀ (j : Nat) (x : Int), xs[j]? = some x → w1.cell? ⟨g, j, none⟩ = some (.int .i64 x) := by
    have hq := hOq
    rcases hOq.2 with ⟨h', h0'⟩ | ⟨g, cap, cur, h', hb', hg', hn', -⟩
    · omega
    · simp only [Value.slice.injEq, true_and] at h'
      obtain ⟨rfl, rfl⟩ := h'
      refine ⟨g, 0, rfl, hn', fun j x hj => ?_⟩
      have hjl := (List.getElem?_eq_some_iff.1 hj).1
      rw [hq.cellAt j (by omega), flat_iN, List.getElem?_map, hj]; rfl
  subst hAq
  have HCe := Lib.hid hcells
  have HO0 : Hid (w1.ownsRow w1.heap.size 68 2 (.slice none 0 0) 0 ((opI xs 0).flatMap pqc)) := ⟨rfl, .inl ⟨rfl, rfl⟩⟩
  clear hOq hb1 hcells HC
  go_wp2_with fail
  go_loopw [3, 13] (fun v j wr => ∃ (i : Nat) (A1 : Option Addr) (n1 c1 : Nat), i ≤ xs.length ∧ j = .int .i64 i ∧ v = .slice A1 n1 c1 ∧ n1 = (opI xs i).length ∧ wr.ownsRow w1.heap.size 68 2 (.slice A1 n1 c1) n1 ((opI xs i).flatMap pqc) ∧ Below w1.heap.size w1 wr)
    (fun _ j _ => xs.length - (intOf j).toNat)
  case atStart => exact ⟨0, none, 0, 0, by omega, rfl, rfl, rfl, HO0.out, Below.refl _ _⟩
  case round =>
    clear HO0
    obtain ⟨i, A1, n1, c1, hi, rfl, rfl, hn1, hO, hB⟩ := hrel
    obtain ⟨wa, rfl⟩ : ∃ u, u = wr := ⟨_, rfl⟩
    have HO : Hid (n1 = (opI xs i ++ opK xs i (i + 1)).length ∧ wa.ownsRow w1.heap.size 68 2 (.slice A1 n1 c1) n1 ((opI xs i ++ opK xs i (i + 1)).flatMap pqc)) := by
      show _ ∧ _
      rw [opK_low xs i (i + 1) (by omega), List.append_nil]
      exact ⟨hn1, hO⟩
    have HO9 := Lib.hid hO
    have HB := Lib.hid hB
    have HN1 := Lib.hid hn1
    clear hO hB hn1
    have hi0 : (0 : Int) ≤ (i : Int) := Int.natCast_nonneg _
    by_cases hlt : i < xs.length
    · have hi8 : (i : Int) < xs.length := by omega
      obtain ⟨x, hx⟩ : ∃ x, xs[i]? = some x := ⟨_, List.getElem?_eq_getElem hlt⟩
      have e1 := (HB.out.cell (p := ⟨g, i, none⟩) (cell_lt9 (HCe.out i x hx))).trans (HCe.out i x hx)
      have hl64 := opI_len h8 i
      have u0 : IntKind.i64.wrap ((i : Int) + 1) = (i : Int) + 1 := IntWalk.i64_in _ ⟨by omega, by omega⟩
      have u00 : wrap64 ((i : Int) + 1) = (i : Int) + 1 := IntWalk.wrap64_in _ ⟨by omega, by omega⟩
      have HX := Lib.hid hx
      have hic : i + 1 ≤ cq := by omega
      have hil : i + 1 ≤ xs.length := by omega
      clear hx HN1 HO9
      by_cases hlo : cq = i + 1
      · have hxl : xs.length = i + 1 := by omega
        subst hlo
        have hz : xs.length - (i + 1) = 0 := by omega
        have HO11 : Hid (n1 = (opI xs (i + 1)).length ∧ wa.ownsRow w1.heap.size 68 2 (.slice A1 n1 c1) n1 ((opI xs (i + 1)).flatMap pqc)) := by
          have := HO.out
          rw [show opI xs (i + 1) = opI xs i ++ opK xs i (i + 1) from by rw [opI, hxl]]
          exact this
        clear HO
        go_wp2_with fail
        refine wp_loop_rounds 1 ?_
        rw [rounds_succ]
        go_wp2
        go_roundw
        case rel => exact ⟨i + 1, A1, n1, c1, by omega, by go_num, rfl, HO11.out.1, HO11.out.2, HB.out⟩
        case measure => simp [intOf]; omega
      · go_wp2_with fail
        go_loopw [3, 23] (fun v j wr => ∃ (q : Nat) (A2 : Option Addr) (n2 c2 : Nat), q ≤ xs.length - (i + 1) ∧ j = .int .i64 q ∧ v = .slice A2 n2 c2 ∧ n2 = (opI xs i ++ opK xs i (i + 1 + q)).length ∧ wr.ownsRow w1.heap.size 68 2 (.slice A2 n2 c2) n2 ((opI xs i ++ opK xs i (i + 1 + q)).flatMap pqc) ∧ Below w1.heap.size w1 wr)
          (fun _ j _ => (xs.length - (i + 1)) - (intOf j).toNat)
        case atStart => exact ⟨0, A1, n1, c1, by omega, rfl, rfl, HO.out.1, HO.out.2, HB.out⟩
        case round =>
          clear HO HB e1
          obtain ⟨q, A2, n2, c2, hq, rfl, rfl, hn2, hO, hB⟩ := hrel
          obtain ⟨wb, rfl⟩ : ∃ u, u = wr := ⟨_, rfl⟩
          have HO := Lib.hid hO
          have HB := Lib.hid hB
          have HN2 := Lib.hid hn2
          have hn2b : n2 ≤ 80 := by have := opK_len xs i (i + 1 + q); rw [hn2, List.length_append]; omega
          clear hO hB hn2
          have hq0 : (0 : Int) ≤ (q : Int) := Int.natCast_nonneg _
          by_cases hlt2 : q < xs.length - (i + 1)
          · have hq8 : (q : Int) < ((xs.length - (i + 1) : Nat) : Int) := by omega
            have hiq : i + 1 + q < xs.length := by omega
            obtain ⟨y, hy⟩ : ∃ y, xs[i + 1 + q]? = some y := ⟨_, List.getElem?_eq_getElem hiq⟩
            have e2 := (HB.out.cell (p := ⟨g, i + 1 + q, none⟩) (cell_lt9 (HCe.out _ y hy))).trans (HCe.out _ y hy)
            have hSt : Hid (opK xs i (i + 1 + (q + 1)) = opK xs i (i + 1 + q) ++ [(x, y)]) := opK_succ (k := i + 1 + q) HX.out hy (by omega)
            clear hy
            go_wp2_with (at_builtin; refine wpList_append_own _ rfl (.tmp 27) (.tmp 31) 63 rfl w1.heap.size 68 i0 (.agg #[.int .i64 0, .int .i64 0]) 2 16 Tryd.underlying63 HI.out HZ0.out HZ1.out HZ2.out rfl (by decide) _ _ _ rfl (HO.out.alloc _) ⟨wb.heap.size, 0, none⟩ 1 1 [.int .i64 x, .int .i64 y] rfl rfl ?c1 ?c2 ?c3 ?c4 ?c5 ?_)
            case c1 => exact cell_two_newP _ _ _ _
            case c2 => exact two_oneP _ _
            case c3 => unfold maxLen; omega
            case c4 => omega
            case c5 => have := HB.out.size; simp; omega
            intro v' w4 hown' hgrow _
            have hown4 : w4.ownsRow w1.heap.size 68 2 v' (n2 + 1) ((opI xs i ++ opK xs i (i + 1 + (q + 1))).flatMap pqc) := by
              rw [hSt.out, ← List.append_assoc, pqc_snoc]; simpa [pqc] using hown'
            have HB4 : Hid (Below w1.heap.size w1 w4) := (HB.out.alloc HB.out.size _).grown hgrow (by have := HB.out.size; simp; omega) (fun r e => (HO.out.lt r e).1)
            have HN4 : Hid (n2 + 1 = (opI xs i ++ opK xs i (i + 1 + (q + 1))).length) := by
              show _ = _
              rw [hSt.out, ← List.append_assoc, List.length_append, ← HN2.out]; rfl
            obtain ⟨A8, c8, rfl⟩ : ∃ A8 c8, v' = .slice A8 (n2 + 1) c8 := by
              rcases hown4.2 with ⟨h1, h2⟩ | ⟨g, cap, cur, h1, -⟩
              · exact ⟨_, _, by rw [h1, h2]⟩
              · exact ⟨_, _, h1⟩
            have HO4 := Lib.hid hown4
            clear hown' hown4 hgrow e2
            go_wp2
            go_roundw
            case rel => exact ⟨q + 1, A8, n2 + 1, c8, by omega, by go_num, rfl, HN4.out, HO4.out, HB4.out⟩
            case measure => simp [intOf]; omega
          · have hqe : i + 1 + q = xs.length := by omega
            have HO11 : Hid (n2 = (opI xs (i + 1)).length ∧ wb.ownsRow w1.heap.size 68 2 (.slice A2 n2 c2) n2 ((opI xs (i + 1)).flatMap pqc)) := by
              have h1 := HN2.out
              have h2 := HO.out
              rw [hqe] at h1 h2
              exact ⟨h1, h2⟩
            have hq9 : ¬ (q : Int) < ((xs.length - (i + 1) : Nat) : Int) := by omega
            go_wp2
            go_roundw
            case rel => exact ⟨i + 1, A2, n2, c2, by omega, by go_num, rfl, HO11.out.1, HO11.out.2, HB.out⟩
            case measure => simp [intOf]; omega
    · obtain rfl : i = xs.length := by omega
      have HB9 := Lib.hid (HBq.out.trans (HB.out.mono HBq.out.size))
      have HO10 := Lib.hid (own_base HO9.out HBq.out.size)
      go_wp2
      go_ret
      exact ⟨A1, c1, by (rw [← HN1.out]; first | done | rfl), by rw [← HN1.out]; exact HO10.out, HB9.out⟩

set_option maxRecDepth 100000 in
set_option maxHeartbeats 2000000 in
theorem numberOf_any (a b : Nat) (ha : a < 9) (hb9 : b < 9) (ps : List Pq) (B n : Nat) (D : DataW Unit) (w : World) (hO : OwnsP w B n D) (hH : Holds D ok2 kP (cntP ps)) :
    Calls Tryd.prog 65 #[.map (some B), .agg #[.int .i64 a, .int .i64 b]] w fun e w' => e = .returned (.int .i64 (cntP ps ((a : Int), (b : Int)) : Nat)) ∧ Below w.heap.size w w' := by
  obtain ⟨W, hW⟩ : ∃ W, w.alloc (.cells #[.int .i64 a, .int .i64 b] 68) = W := ⟨_, rfl⟩
  have hB : Below w.heap.size w W := by rw [← hW]; exact (Below.refl _ w).alloc (Nat.le_refl _) _
  have hrg : W.rangeAt w.heap.size 0 (pqc ((a : Int), (b : Int))) := by rw [← hW]; exact pq_range w _
  have hL := tally_look (p := ((a : Int), (b : Int))) (hO.kept (grown_of_below hB) (by simp)) hH ⟨⟨by show (0 : Int) ≤ a; omega, by show (a : Int) < 9; omega⟩, ⟨by show (0 : Int) ≤ b; omega, by show (b : Int) < 9; omega⟩⟩
  have c0 : W.cell? ⟨w.heap.size, 0, none⟩ = some (.int .i64 a) := by have := hrg 0 (.int .i64 (a : Int)) (by simp [pqc]); simpa using this
  have c1 : W.cell? ⟨w.heap.size, 1, none⟩ = some (.int .i64 b) := by have := hrg 1 (.int .i64 (b : Int)) (by simp [pqc]); simpa using this
  have HB := Lib.hid hB
  have HL := Lib.hid hL
  obtain ⟨x, hx⟩ : ∃ x : Nat, cntP ps ((a : Int), (b : Int)) = x := ⟨_, rfl⟩
  rw [hx] at HL ⊢
  clear hO hH hrg hB hL hx
  go_enter Tryd.func65, Tryd.ntmps65
  go_wp2_with (refine wpList_lookupR rfl 56 (.tmp 5) (.tmp 6) rfl rfl rfl HL.out ?_)
  go_wp2
  go_ret
  exact ⟨rfl, HB.out⟩
set_option maxRecDepth 100000 in
set_option maxHeartbeats 4000000 in
theorem sumForN_any (g : Pq → Int) (M : Int) (hM : M ≤ 6500) (qs : List Pq) (hqs : qs.length ≤ 6500) (hg : ∀ p ∈ qs, 0 ≤ g p ∧ g p ≤ M) (A : Option Addr) (c : Nat) (w : World) (hr : Rd w w.heap.size pqc A qs) (B : Nat)
    (HCf : ∀ p ∈ qs, ∀ (W : World), Below w.heap.size w W → Calls Tryd.prog 65 #[.map (some B), .agg #[.int .i64 p.1, .int .i64 p.2]] W fun e w' => e = .returned (.int .i64 (g p)) ∧ Below W.heap.size W w') :
    Calls Tryd.prog 63 #[.slice A qs.length c, .func (.func 65) #[.map (some B)] #[]] w fun e w' => e = .returned (.int .i64 (suP g qs)) ∧ Below w.heap.size w w' := by
  have HR := Lib.hid hr
  have HC := Lib.hid HCf
  have HG := Lib.hid hg
  clear hr HCf hg
  go_enter Tryd.func63, Tryd.ntmps63
  go_wp2_with fail
  go_loopw [5, 10] (fun s j wr => ∃ (t : Nat), t ≤ qs.length ∧ j = .int .i64 t ∧ s = .int .i64 (suP g (qs.take t)) ∧ Below w.heap.size w wr) (fun _ j _ => qs.length - (intOf j).toNat)
  case atStart => exact ⟨0, by omega, rfl, rfl, Below.refl _ _⟩
  case round =>
    obtain ⟨t, ht, rfl, rfl, hB⟩ := hrel
    obtain ⟨wa, rfl⟩ : ∃ u, u = wr := ⟨_, rfl⟩
    have HB := Lib.hid hB
    clear hB
    have ht0 : (0 : Int) ≤ (t : Int) := Int.natCast_nonneg _
    by_cases hlt : t < qs.length
    · obtain ⟨p, hp⟩ : ∃ x, qs[t]? = some x := ⟨_, List.getElem?_eq_getElem hlt⟩
      have ht8 : (t : Int) < qs.length := by omega
      obtain ⟨b, o, rfl, hbl, hrow⟩ := (HR.out.keep HB.out).at_ pqc_length hp
      have hpm := List.mem_of_getElem? hp
      have hgb := HG.out p hpm
      have HSu := Lib.hid (suP_take (g := g) hp)
      obtain ⟨p1, p2⟩ := p
      have hsb := suP_b (g := g) (M := M) (qs := qs.take t) (fun q hq => HG.out q (List.mem_of_mem_take hq))
      have hsl : (((qs.take t).length : Nat) : Int) * M ≤ 6500 * 6500 := Int.mul_le_mul (by rw [List.length_take]; omega) hM (by omega) (by omega)
      have e1 : wa.cell? ⟨b, o + t * 2, none⟩ = some (.int .i64 p1) := by simpa using hrow 0 (.int .i64 p1) (by simp [pqc])
      have e2 : wa.cell? ⟨b, o + t * 2 + 1, none⟩ = some (.int .i64 p2) := by simpa using hrow 1 (.int .i64 p2) (by simp [pqc])
      have HBa : Hid (Below wa.heap.size wa (wa.alloc (.cells #[.int .i64 p1, .int .i64 p2] 68))) := (Below.refl _ _).alloc (Nat.le_refl _) _
      have HCa := Lib.hid (HC.out (p1, p2) hpm _ (HB.out.trans (HBa.out.mono HB.out.size)))
      obtain ⟨s, hs⟩ : ∃ s, suP g (qs.take t) = s := ⟨_, rfl⟩
      obtain ⟨r, hr⟩ : ∃ r, g (p1, p2) = r := ⟨_, rfl⟩
      rw [hr] at hgb HSu HCa
      rw [hs] at hsb HSu ⊢
      have u1 : IntKind.i64.wrap (s + r) = s + r := IntWalk.i64_in _ ⟨by omega, by omega⟩
      have u2 : wrap64 (s + r) = s + r := IntWalk.wrap64_in _ ⟨by omega, by omega⟩
      clear hp hrow hbl hs hr hgb hsb hsl hpm
      go_wp2_with fail
      refine HCa.out.mono ?_
      rintro e w3 ⟨rfl, hb3⟩
      have HB3 := Lib.hid (HB.out.trans ((HBa.out.trans (hb3.mono HBa.out.size)).mono HB.out.size))
      clear hb3 HCa HBa HB e1 e2
      go_wp2
      go_roundw
      case rel => exact ⟨t + 1, by omega, by go_num, by rw [HSu.out], HB3.out⟩
      case measure => simp [intOf]; omega
    · obtain rfl : t = qs.length := by omega
      have HTk : Hid (suP g (qs.take qs.length) = suP g qs) := by show _ = _; rw [List.take_length]
      rw [HTk.out]
      go_wp2
      go_ret
      exact ⟨rfl, HB.out⟩

set_option maxRecDepth 100000 in
set_option maxHeartbeats 4000000 in
theorem agreementG_any (xs : List Int) (hxs : ∀ x ∈ xs, 0 ≤ x ∧ x < 9) (h0 : 0 < xs.length) (h8 : xs.length ≤ 8) (ps : List Pq) (hps : ps.length ≤ 6500) (B n : Nat) (D : DataW Unit) (A : Option Addr) (c : Nat) (w : World) (hr : Rd w w.heap.size icells A xs) (hO : OwnsP w B n D) (hH : Holds D ok2 kP (cntP ps)) :
    Calls Tryd.prog 38 #[.map (some B), .iface 59 (.slice A xs.length c)] w fun e w' => e = .returned (.int .i64 (suP (fun p => ((cntP ps p : Nat) : Int)) (opI xs xs.length))) ∧ Below w.heap.size w w' := by
  have HC := Lib.hid (pairsInG_any xs h0 h8 A c w hr)
  have HK : Hid (∀ (W : World), Below w.heap.size w W → OwnsP W B n D) := fun W hW => hO.kept (grown_of_below hW) (by simp)
  have HH := Lib.hid hH
  have HX := Lib.hid hxs
  have HL := Lib.hid (opI_len h8 xs.length)
  clear hr hO hH hxs
  go_enter Tryd.func38, Tryd.ntmps38
  go_wp2_with fail
  refine HC.out.mono ?_
  rintro e w1 ⟨A', c', rfl, hO, hb⟩
  have HB := Lib.hid hb
  have HS := Lib.hid (sumForN_any (fun p => ((cntP ps p : Nat) : Int)) 6500 (by omega) (opI xs xs.length) (by have := HL.out; omega) (fun p _ => by have := cntP_le ps p; omega) A' c' w1 (own_rd2 pqc_length hO) B (fun p hp W hW => by
    obtain ⟨m1, m2⟩ := opI_mem (Nat.le_refl _) hp
    obtain ⟨p1, p2⟩ := p
    have b1 := HX.out p1 m1
    have b2 := HX.out p2 m2
    obtain ⟨a, rfl⟩ : ∃ a : Nat, p1 = (a : Int) := ⟨p1.toNat, by omega⟩
    obtain ⟨b, rfl⟩ : ∃ b : Nat, p2 = (b : Int) := ⟨p2.toNat, by omega⟩
    exact numberOf_any a b (by omega) (by omega) ps B n D W (HK.out W (hb.trans (hW.mono hb.size))) HH.out))
  clear hO hb HC
  go_wp2_with fail
  refine HS.out.mono ?_
  rintro e w2 ⟨rfl, hb2⟩
  have HB2 := Lib.hid (HB.out.trans (hb2.mono HB.out.size))
  clear hb2 HS
  go_wp2
  go_ret
  exact ⟨rfl, HB2.out⟩

set_option maxRecDepth 100000 in
set_option maxHeartbeats 4000000 in
theorem checkServings_any (n : Int) (oss : List (List Int)) (A : Option Addr) (c : Nat) (ad : Nat → Addr) (w : World) (hl : oss.length ≤ 1048576) (hx : ∀ xs ∈ oss, xs.length ≤ 1048576) (hr : RdN w w.heap.size icells A oss) (hE : EW 7 w ad) :
    Calls Tryd.prog 35 #[.int .i64 n, .slice A oss.length c] w fun e w' => e = .returned (erO ad (chk 2 (oss.all (ioB n)))) ∧ Below w.heap.size w w' := by
  have HR := Lib.hid hr
  have HX := Lib.hid hx
  have HE := Lib.hid hE
  clear hr hx hE
  go_enter Tryd.func35, Tryd.ntmps35
  go_wp2_with fail
  go_loopw [9] (fun j wr => ∃ (i : Nat), i ≤ oss.length ∧ j = .int .i64 i ∧ AllU (ioB n) oss i ∧ Below w.heap.size w wr) (fun j _ => oss.length - (intOf j).toNat)
  case atStart => exact ⟨0, by omega, rfl, AllU.zero _ _, Below.refl _ _⟩
  case round =>
    obtain ⟨i, hi, rfl, hA, hB⟩ := hrel
    obtain ⟨wa, rfl⟩ : ∃ u, u = wr := ⟨_, rfl⟩
    have HB := Lib.hid hB
    have HA := Lib.hid hA
    clear hA hB
    have hi0 : (0 : Int) ≤ (i : Int) := Int.natCast_nonneg _
    by_cases hlt : i < oss.length
    · obtain ⟨xs, hxs⟩ : ∃ x, oss[i]? = some x := ⟨_, List.getElem?_eq_getElem hlt⟩
      have hi8 : (i : Int) < oss.length := by omega
      obtain ⟨b, o, a, c', rfl, hb, hc, hrd⟩ := (HR.out.keep HB.out).at_ hxs
      have HEa := HE.out.below HB.out (Nat.le_refl _)
      have HC := Lib.hid (implIsOrder_any n xs a c' ad wa (HX.out xs (List.mem_of_getElem? hxs)) hrd (HEa.cell 0 (by omega)))
      have HXs := Lib.hid hxs
      clear hxs hrd HEa
      cases hv : ioB n xs
      · rw [hv] at HC
        have HV : Hid (oss.all (ioB n) = false) := allU_no HXs.out hv
        clear hv
        go_wp2_with fail
        refine HC.out.mono ?_
        rintro e w3 ⟨rfl, hb3⟩
        have HB3 := Lib.hid (HB.out.trans (hb3.mono HB.out.size))
        have c2 : w3.cell? ⟨1, 0, none⟩ = some (.iface 155 (.pointer (some (ad 2)))) := (HE.out.below HB3.out (Nat.le_refl _)).cell 2 (by omega)
        clear hb3 HC
        go_wp2
        first | go_ret | skip
        exact ⟨by (rw [HV.out, chk_no, erO_some]; first | done | rfl), HB3.out⟩
      · rw [hv] at HC
        have HV := Lib.hid (HA.out.step HXs.out hv)
        clear hv
        go_wp2_with fail
        refine HC.out.mono ?_
        rintro e w3 ⟨rfl, hb3⟩
        have HB3 := Lib.hid (HB.out.trans (hb3.mono HB.out.size))
        clear hb3 HC
        go_wp2
        go_roundw
        case rel => exact ⟨i + 1, by omega, by go_num, HV.out, HB3.out⟩
        case measure => simp [intOf]; omega
    · obtain rfl : i = oss.length := by omega
      have HV := Lib.hid HA.out.all
      go_wp2
      go_ret
      exact ⟨by (rw [HV.out, chk_yes, erO_none]; first | done | rfl), HB.out⟩
end Go.Proofs.YtfmfgpipklmecaaDoor

namespace Go.Proofs.YtfmfgpipklmecaaDoor
open Go.ChangeShapes Go.WideShapes Go.ChangeAt Go.RowKit Go.Deep

theorem suP_cons (g : Pq → Int) (q : Pq) (qs : List Pq) : suP g (q :: qs) = g q + suP g qs := by simp [suP]
theorem cntP_cons (q : Pq) (Q : List Pq) (p : Pq) : cntP (q :: Q) p = (if q = p then 1 else 0) + cntP Q p := by
  unfold cntP
  by_cases h : q = p
  · simp [h]; omega
  · simp [h]
theorem suP_add (g h : Pq → Int) : ∀ qs, suP (fun p => g p + h p) qs = suP g qs + suP h qs
  | [] => by simp [suP]
  | q :: qs => by rw [suP_cons, suP_cons, suP_cons, suP_add g h qs]; omega
theorem suP_nil0 : ∀ P : List Pq, suP (fun _ => 0) P = 0
  | [] => rfl
  | p :: P => by rw [suP_cons, suP_nil0 P]; rfl
theorem suP_one (q : Pq) : ∀ P, suP (fun p => if q = p then 1 else 0) P = ((cntP P q : Nat) : Int)
  | [] => rfl
  | p :: P => by
    rw [suP_cons, suP_one q P, cntP_cons]
    by_cases h : q = p
    · rw [if_pos h, if_pos h.symm]; omega
    · rw [if_neg h, if_neg (fun e => h e.symm)]; omega
theorem suP_swap : ∀ (Q P : List Pq), suP (fun p => ((cntP P p : Nat) : Int)) Q = suP (fun p => ((cntP Q p : Nat) : Int)) P
  | [], P => by
    have : suP (fun p => ((cntP [] p : Nat) : Int)) P = 0 := suP_nil0 P
    rw [this]; rfl
  | q :: Q, P => by
    rw [suP_cons, suP_swap Q P, ← suP_one q P, ← suP_add]
    refine suP_congr fun p _ => ?_
    rw [cntP_cons]
    by_cases h : q = p
    · rw [if_pos h, if_pos h]; omega
    · rw [if_neg h, if_neg h]; omega

theorem nd_inj {xs : List Int} (hn : xs.Nodup) {i j : Nat} {x : Int} (hi : xs[i]? = some x) (hj : xs[j]? = some x) : i = j :=
  (List.getElem?_inj (List.getElem?_eq_some_iff.1 hi).1 hn).1 (hi.trans hj.symm)
theorem cntP_opK {xs : List Int} (hn : xs.Nodup) {i i0 k0 : Nat} {x y : Int} (hi : i < xs.length) (hx : xs[i0]? = some x) (hy : xs[k0]? = some y) : ∀ K, K ≤ xs.length → cntP (opK xs i K) (x, y) = if i = i0 ∧ i < k0 ∧ k0 < K then 1 else 0
  | 0, _ => by simp [opK, cntP]
  | K + 1, h => by
    rw [opK, cntP_app, cntP_opK hn hi hx hy K (by omega)]
    by_cases hiK : i < K
    · rw [if_pos hiK]
      have hK : K < xs.length := by omega
      have e : cntP [(xs.getD i 0, xs.getD K 0)] (x, y) = if i = i0 ∧ K = k0 then 1 else 0 := by
        have ha : xs[i]? = some xs[i] := List.getElem?_eq_getElem hi
        have hb : xs[K]? = some xs[K] := List.getElem?_eq_getElem hK
        rw [List.getD_eq_getElem?_getD, List.getD_eq_getElem?_getD, ha, hb, Option.getD_some, Option.getD_some, cntP_cons, cntP_nil]
        by_cases h2 : i = i0 ∧ K = k0
        · obtain ⟨rfl, rfl⟩ := h2
          rw [ha] at hx
          rw [hb] at hy
          obtain rfl := Option.some.inj hx
          obtain rfl := Option.some.inj hy
          simp
        · rw [if_neg h2, if_neg]
          intro e
          simp only [Prod.mk.injEq] at e
          exact h2 ⟨nd_inj hn (ha.trans (congrArg some e.1)) hx, nd_inj hn (hb.trans (congrArg some e.2)) hy⟩
      rw [e]
      by_cases h1 : i = i0 ∧ i < k0 ∧ k0 < K
      · rw [if_pos h1, if_neg (by omega), if_pos (by omega)]
      · by_cases h2 : i = i0 ∧ K = k0
        · rw [if_neg h1, if_pos h2, if_pos (by omega)]
        · rw [if_neg h1, if_neg h2, if_neg (by omega)]
    · rw [if_neg hiK, cntP_nil, Nat.add_zero]
      by_cases h1 : i = i0 ∧ i < k0 ∧ k0 < K
      · omega
      · rw [if_neg h1, if_neg (by omega)]
theorem cntP_opI {xs : List Int} (hn : xs.Nodup) {i0 k0 : Nat} {x y : Int} (hx : xs[i0]? = some x) (hy : xs[k0]? = some y) : ∀ I, I ≤ xs.length → cntP (opI xs I) (x, y) = if i0 < I ∧ i0 < k0 then 1 else 0
  | 0, _ => by simp [opI, cntP]
  | I + 1, h => by
    have hk := (List.getElem?_eq_some_iff.1 hy).1
    rw [opI, cntP_app, cntP_opI hn hx hy I (by omega), cntP_opK hn (by omega) hx hy xs.length (Nat.le_refl _)]
    by_cases h1 : i0 < I ∧ i0 < k0
    · rw [if_pos h1, if_neg (by omega), if_pos (by omega)]
    · by_cases h2 : I = i0 ∧ I < k0 ∧ k0 < xs.length
      · rw [if_neg h1, if_pos h2, if_pos (by omega)]
      · rw [if_neg h1, if_neg h2, if_neg (by omega)]
/-- Where a sample stands. -/
def wb (b : List Int) (x : Int) : Nat := b.findIdx (fun y => y == x)
theorem wb_at {b : List Int} {x : Int} (h : x ∈ b) : b[wb b x]? = some x := by
  have hl : wb b x < b.length := List.findIdx_lt_length_of_exists ⟨x, h, by simp⟩
  have := List.findIdx_getElem (w := hl)
  rw [List.getElem?_eq_getElem hl]
  congr 1
  simp only [beq_iff_eq] at this
  exact this
theorem wb_no {b : List Int} {x : Int} {j : Nat} {y : Int} (hj : j < wb b x) (hy : b[j]? = some y) : (y == x) = false := by
  obtain ⟨h1, h2⟩ := List.getElem?_eq_some_iff.1 hy
  have := List.not_of_lt_findIdx hj
  rw [h2] at this
  simpa using this
theorem bef_rev {b : List Int} (hn : b.Nodup) {x y : Int} (hx : x ∈ b) (hy : y ∈ b) : cntP (opI b.reverse b.reverse.length) (x, y) = if wb b y < wb b x then 1 else 0 := by
  have h1 := wb_at hx
  have h2 := wb_at hy
  have l1 := (List.getElem?_eq_some_iff.1 h1).1
  have l2 := (List.getElem?_eq_some_iff.1 h2).1
  have e1 : b.reverse[b.length - 1 - wb b x]? = some x := by
    rw [List.getElem?_reverse (by omega), show b.length - 1 - (b.length - 1 - wb b x) = wb b x from by omega]; exact h1
  have e2 : b.reverse[b.length - 1 - wb b y]? = some y := by
    rw [List.getElem?_reverse (by omega), show b.length - 1 - (b.length - 1 - wb b y) = wb b y from by omega]; exact h2
  rw [cntP_opI (by rw [List.Nodup, List.pairwise_reverse]; exact List.Pairwise.imp (fun h e => h e.symm) hn) e1 e2 _ (Nat.le_refl _), List.length_reverse]
  by_cases h : wb b y < wb b x
  · rw [if_pos h, if_pos (by omega)]
  · rw [if_neg h, if_neg (by omega)]
/-- An order holds each sample. -/
theorem orB_mem {n : Int} {xs : List Int} (h : orB n xs = true) {x : Int} (h0 : 0 ≤ x) (h1 : x < n) : x ∈ xs := by
  have hl := (orB_iff.1 h).1
  have hp : (xs.mergeSort (fun a b => decide (a ≤ b))).Perm xs := List.mergeSort_perm _ _
  have hs : srt (xs.mergeSort (fun a b => decide (a ≤ b))) := fun p q x y hpq hx hy => by
    have hw := List.pairwise_mergeSort (le := fun a b : Int => decide (a ≤ b)) (fun a b c => by simp; omega) (fun a b => by simp; omega) xs
    obtain ⟨p1, rfl⟩ := List.getElem?_eq_some_iff.1 hx
    obtain ⟨q1, rfl⟩ := List.getElem?_eq_some_iff.1 hy
    have := (List.pairwise_iff_getElem.1 hw) p q p1 q1 hpq
    simpa using this
  have := srt_iota hp hs
  rw [show (xs.length : Int) = n from hl, h, decide_eq_true_eq] at this
  refine hp.mem_iff.1 ?_
  rw [this, iota_mem]
  have := hp.length_eq
  omega
/-- How many pairs are the other way round. -/
def dcS (a b : List Int) : Int := suP (fun p => if wb b p.2 < wb b p.1 then 1 else 0) (opI a a.length)
theorem dcS_eq {n : Int} {a b : List Int} (ha : orB n a = true) (hb : orB n b = true) : suP (fun p => ((cntP (opI a a.length) p : Nat) : Int)) (opI b.reverse b.reverse.length) = dcS a b := by
  rw [suP_swap]
  refine suP_congr fun p hp => ?_
  obtain ⟨m1, m2⟩ := opI_mem (Nat.le_refl _) hp
  obtain ⟨-, hab, -⟩ := orB_iff.1 ha
  obtain ⟨p1, p2⟩ := p
  have b1 := hab p1 m1
  have b2 := hab p2 m2
  rw [bef_rev (orB_iff.1 hb).2.2 (orB_mem hb b1.1 (by omega)) (orB_mem hb b2.1 (by omega))]
  split <;> rfl
end Go.Proofs.YtfmfgpipklmecaaDoor

namespace Go.Proofs.YtfmfgpipklmecaaDoor
open Go.ChangeShapes Go.WideShapes Go.ChangeAt Go.RowKit Go.Deep

/-- Turned round up to i from both ends. -/
def rvT (xs : List Int) (i : Nat) (X : List Int) : Prop := X.length = xs.length ∧ ∀ p, p < xs.length → X[p]? = if p < i ∨ xs.length < p + i + 1 then xs[xs.length - 1 - p]? else xs[p]?
theorem rvT.zero (xs : List Int) : rvT xs 0 xs := ⟨rfl, fun p hp => by rw [if_neg (by omega)]⟩
theorem rvT.done {xs X : List Int} {i : Nat} (h : rvT xs i X) (hi : xs.length ≤ 2 * i + 1) : X = xs.reverse := by
  apply List.ext_getElem?
  intro p
  by_cases hp : p < xs.length
  · rw [h.2 p hp, List.getElem?_reverse hp]
    by_cases h1 : p < i ∨ xs.length < p + i + 1
    · rw [if_pos h1]
    · rw [if_neg h1, show xs.length - 1 - p = p from by omega]
  · rw [List.getElem?_eq_none (by rw [h.1]; omega), List.getElem?_eq_none (by simp; omega)]
theorem rvT.step {xs X : List Int} {i j : Nat} {a b : Int} (h : rvT xs i X) (hij : i < j) (hj : i + j + 1 = xs.length) (ha : X[i]? = some a) (hb : X[j]? = some b) : rvT xs (i + 1) ((X.set i b).set j a) := by
  have hai := h.2 i (by omega)
  rw [if_neg (by omega), ha] at hai
  have hbj := h.2 j (by omega)
  rw [if_neg (by omega), hb] at hbj
  refine ⟨by simp [h.1], fun p hp => ?_⟩
  by_cases e1 : p = j
  · subst e1
    rw [List.getElem?_set_self (by rw [List.length_set, h.1]; omega), if_pos (by omega), show xs.length - 1 - p = i from by omega, hai]
  · rw [List.getElem?_set_ne (Ne.symm e1)]
    by_cases e2 : p = i
    · subst e2
      rw [List.getElem?_set_self (by rw [h.1]; omega), if_pos (by omega), show xs.length - 1 - p = j from by omega, hbj]
    · rw [List.getElem?_set_ne (Ne.symm e2), h.2 p hp]
      by_cases h1 : p < i ∨ xs.length < p + i + 1
      · rw [if_pos h1, if_pos (by omega)]
      · rw [if_neg h1, if_neg (by omega)]

set_option maxRecDepth 100000 in
set_option maxHeartbeats 4000000 in
theorem reverseI_any (xs : List Int) (h0 : 0 < xs.length) (h8 : xs.length ≤ 8) (g cap base : Nat) (hbg : base ≤ g) (w : World) (h : OI w g xs cap) :
    Calls Tryd.prog 78 #[.slice (some ⟨g, 0, none⟩) xs.length cap] w fun e w' => (∃ v, e = .returned v) ∧ OI w' g xs.reverse cap ∧ Below base w w' := by
  have H := Lib.hid h
  clear h
  go_enter Tryd.func78, Tryd.ntmps78
  have v1 : IntKind.i64.wrap ((xs.length : Int) - 1) = (xs.length : Int) - 1 := IntWalk.i64_in _ ⟨by omega, by omega⟩
  have v2 : wrap64 ((xs.length : Int) - 1) = (xs.length : Int) - 1 := IntWalk.wrap64_in _ ⟨by omega, by omega⟩
  go_wp2_with fail
  go_loopw [2, 3] (fun s2 s3 wr => ∃ (i : Nat) (X : List Int), i ≤ xs.length ∧ s2 = .int .i64 i ∧ s3 = .int .i64 ((xs.length : Int) - 1 - i) ∧ rvT xs i X ∧ OI wr g X cap ∧ Below base w wr) (fun s2 _ _ => xs.length - (intOf s2).toNat)
  case atStart => exact ⟨0, xs, by omega, rfl, by simp, rvT.zero xs, H.out, Below.refl _ _⟩
  case round =>
    clear v1 v2
    obtain ⟨i, X, hi, rfl, rfl, hT, hO, hB⟩ := hrel
    obtain ⟨wb, rfl⟩ : ∃ u, u = wr := ⟨_, rfl⟩
    have HT := Lib.hid hT
    have HO := Lib.hid hO
    have HB := Lib.hid hB
    have HXl := Lib.hid hT.1
    clear hT hO hB
    have hi0 : (0 : Int) ≤ (i : Int) := Int.natCast_nonneg _
    by_cases hlt : 2 * i + 1 < xs.length
    · obtain ⟨j, hj⟩ : ∃ j, i + j + 1 = xs.length := ⟨xs.length - 1 - i, by omega⟩
      have hje : (xs.length : Int) - 1 - (i : Int) = (j : Int) := by omega
      rw [hje]
      have hlt9 : (i : Int) < (j : Int) := by omega
      have hi8 : (i : Int) < xs.length := by omega
      have hj8 : (j : Int) < xs.length := by omega
      have hj0 : (0 : Int) ≤ (j : Int) := Int.natCast_nonneg _
      have hij : i ≠ j := by omega
      obtain ⟨a, ha⟩ : ∃ a, X[i]? = some a := ⟨_, List.getElem?_eq_getElem (by rw [HXl.out]; omega)⟩
      obtain ⟨b, hb⟩ : ∃ b, X[j]? = some b := ⟨_, List.getElem?_eq_getElem (by rw [HXl.out]; omega)⟩
      have c1 := HO.out.cell ha
      have c2 := HO.out.cell hb
      have f1 := HO.out.frozen i
      have f2 := HO.out.frozen j
      have HSt := Lib.hid (HT.out.step (by omega) hj ha hb)
      have m1 : OI ((wb.setCell ⟨g, i, none⟩ (.int .i64 b)).setCell ⟨g, j, none⟩ (.int .i64 a)) g ((X.set i b).set j a) cap := (HO.out.set i b).set j a
      have mb : Below base w ((wb.setCell ⟨g, i, none⟩ (.int .i64 b)).setCell ⟨g, j, none⟩ (.int .i64 a)) := (HB.out.setCell (p := ⟨g, i, none⟩) hbg _).setCell (p := ⟨g, j, none⟩) hbg _
      have mb2 : Below base w ((wb.drew.setCell ⟨g, i, none⟩ (.int .i64 b)).setCell ⟨g, j, none⟩ (.int .i64 a)) := (HB.out.drew.setCell (p := ⟨g, i, none⟩) hbg _).setCell (p := ⟨g, j, none⟩) hbg _
      have M1 := Lib.hid m1
      have MB := Lib.hid mb
      have MB2 := Lib.hid mb2
      have u1 : IntKind.i64.wrap ((j : Int) - 1) = (j : Int) - 1 := IntWalk.i64_in _ ⟨by omega, by omega⟩
      have u2 : wrap64 ((j : Int) - 1) = (j : Int) - 1 := IntWalk.wrap64_in _ ⟨by omega, by omega⟩
      clear ha hb m1 mb mb2
      go_wp2_with fail
      go_region
      go_wp2
      go_roundw
      case rel => exact ⟨i + 1, (X.set i b).set j a, by omega, by go_num, by (congr 1; omega), HSt.out, by first | exact M1.out | exact M1.out.drew, by first | exact MB.out | exact MB.out.drew | exact MB2.out⟩
      case measure => simp [intOf]; omega
    · have HX9 : Hid (X = xs.reverse) := HT.out.done (by omega)
      have hn9 : ¬ (i : Int) < (xs.length : Int) - 1 - i := by omega
      go_wp2
      go_end0
      exact ⟨⟨_, rfl⟩, by rw [← HX9.out]; exact HO.out, HB.out⟩

theorem Tryd.asB0 (v : Value) (w : World) : (Instr.typeAssert (.iface 85 (.agg #[v])) 80 59 true).run Tryd.prog w = .ok (.tuple #[.slice none 0 0, .bool false]) w := by kernel_rfl
theorem Tryd.asB1 (v : Value) (w : World) : (Instr.typeAssert (.iface 85 (.agg #[v])) 80 78 true).run Tryd.prog w = .ok (.tuple #[.int .i64 0, .bool false]) w := by kernel_rfl
theorem Tryd.asB2 (v : Value) (w : World) : (Instr.typeAssert (.iface 85 (.agg #[v])) 80 82 true).run Tryd.prog w = .ok (.tuple #[.agg #[.nilIface, .int .i64 0], .bool false]) w := by kernel_rfl
theorem Tryd.asB3 (v : Value) (w : World) : (Instr.typeAssert (.iface 85 (.agg #[v])) 80 85 true).run Tryd.prog w = .ok (.tuple #[.agg #[v], .bool true]) w := by kernel_rfl

set_option maxRecDepth 100000 in
set_option maxHeartbeats 4000000 in
theorem listOfB_any (xs : List Int) (h0 : 0 < xs.length) (h8 : xs.length ≤ 8) (A : Option Addr) (c : Nat) (w : World) (hr : Rd w w.heap.size icells A xs) :
    Calls Tryd.prog 55 #[.iface 85 (.agg #[.iface 59 (.slice A xs.length c)])] w fun e w' => ∃ A' c', e = .returned (.slice A' xs.reverse.length c') ∧ w'.ownsRow w.heap.size 2 1 (.slice A' xs.reverse.length c') xs.reverse.length (xs.reverse.flatMap icells) ∧ Below w.heap.size w w' := by
  have b0 := Tryd.asB0 (.iface 59 (.slice A xs.length c))
  have b1 := Tryd.asB1 (.iface 59 (.slice A xs.length c))
  have b2 := Tryd.asB2 (.iface 59 (.slice A xs.length c))
  have b3 := Tryd.asB3 (.iface 59 (.slice A xs.length c))
  have HR := Lib.hid hr
  have hB1 : Below w.heap.size w (w.alloc (.cells #[.iface 59 (.slice A xs.length c)] 85)) := (Below.refl _ _).alloc (Nat.le_refl _) _
  have HC := Lib.hid (listOfG_any xs h0 h8 A c (w.alloc (.cells #[.iface 59 (.slice A xs.length c)] 85)) (HR.out.keep hB1))
  have HB1 := Lib.hid hB1
  have HLr : Hid (xs.reverse.length = xs.length) := List.length_reverse
  clear hr hB1
  go_enter Tryd.func55, Tryd.ntmps55
  go_wp2_with fail
  refine HC.out.mono ?_
  rintro e w1 ⟨A', c', rfl, hO, hb⟩
  have HB2 := Lib.hid (HB1.out.trans (hb.mono HB1.out.size))
  rcases OI.of hO with ⟨-, hn⟩ | ⟨g, cap, hv, hbg, hOI⟩
  · rw [hn] at h0; exact absurd h0 (by simp)
  simp only [Value.slice.injEq, true_and] at hv
  obtain ⟨rfl, rfl⟩ := hv
  have hbg2 : w.heap.size ≤ g := Nat.le_trans HB1.out.size hbg
  have HRv := Lib.hid (reverseI_any xs h0 h8 g c' w.heap.size hbg2 w1 hOI)
  clear hO hb HC hOI hbg b0 b1 b2 b3
  go_wp2_with fail
  refine HRv.out.mono ?_
  rintro e w2 ⟨⟨v, rfl⟩, hOI, hb⟩
  have HO2 := Lib.hid (hOI.own hbg2)
  have HB3 := Lib.hid (HB2.out.trans hb)
  clear hOI hb HRv
  rw [HLr.out] at HO2
  go_wp2
  go_ret
  exact ⟨some ⟨g, 0, none⟩, c', by (rw [HLr.out]; first | done | rfl), by rw [HLr.out]; exact HO2.out, HB3.out⟩

set_option maxRecDepth 100000 in
set_option maxHeartbeats 8000000 in
theorem pairsInV_any (sv : Value) (xs : List Int) (h0 : 0 < xs.length) (h8 : xs.length ≤ 8) (w : World) (HC0 : Calls Tryd.prog 55 #[sv] w fun e w' => ∃ A' c', e = .returned (.slice A' xs.length c') ∧ w'.ownsRow w.heap.size 2 1 (.slice A' xs.length c') xs.length (xs.flatMap icells) ∧ Below w.heap.size w w') :
    Calls Tryd.prog 64 #[sv] w fun e w' => ∃ A' c', e = .returned (.slice A' (opI xs xs.length).length c') ∧ w'.ownsRow w.heap.size 68 2 (.slice A' (opI xs xs.length).length c') (opI xs xs.length).length ((opI xs xs.length).flatMap pqc) ∧ Below w.heap.size w w' := by
  obtain ⟨i0, hi, hz0, hz1, hz2⟩ := info_parts Tryd.infoPq
  have HI := Lib.hid hi
  have HZ0 := Lib.hid hz0
  have HZ1 := Lib.hid hz1
  have HZ2 := Lib.hid hz2
  clear hi hz0 hz1 hz2
  have HC := Lib.hid HC0
  clear HC0
  go_enter Tryd.func64, Tryd.ntmps64
  go_wp2_with fail
  refine HC.out.mono ?_
  rintro e w1 ⟨Aq, cq, rfl, hOq, hb1⟩
  have HBq := Lib.hid hb1
  obtain ⟨g, cap, hAq, hcap, hcells⟩ : ∃ g, ∃ _ : Nat, Aq = some ⟨g, 0, none⟩ ∧ xs.length ≤ cq ∧ ∀ (j : Nat) (x : Int), xs[j]? = some x → w1.cell? ⟨g, j, none⟩ = some (.int .i64 x) := by
    have hq := hOq
    rcases hOq.2 with ⟨h', h0'⟩ | ⟨g, cap, cur, h', hb', hg', hn', -⟩
    · omega
    · simp only [Value.slice.injEq, true_and] at h'
      obtain ⟨rfl, rfl⟩ := h'
      refine ⟨g, 0, rfl, hn', fun j x hj => ?_⟩
      have hjl := (List.getElem?_eq_some_iff.1 hj).1
      rw [hq.cellAt j (by omega), flat_iN, List.getElem?_map, hj]; rfl
  subst hAq
  have HCe := Lib.hid hcells
  have HO0 : Hid (w1.ownsRow w1.heap.size 68 2 (.slice none 0 0) 0 ((opI xs 0).flatMap pqc)) := ⟨rfl, .inl ⟨rfl, rfl⟩⟩
  clear hOq hb1 hcells HC
  go_wp2_with fail
  go_loopw [3, 13] (fun v j wr => ∃ (i : Nat) (A1 : Option Addr) (n1 c1 : Nat), i ≤ xs.length ∧ j = .int .i64 i ∧ v = .slice A1 n1 c1 ∧ n1 = (opI xs i).length ∧ wr.ownsRow w1.heap.size 68 2 (.slice A1 n1 c1) n1 ((opI xs i).flatMap pqc) ∧ Below w1.heap.size w1 wr)
    (fun _ j _ => xs.length - (intOf j).toNat)
  case atStart => exact ⟨0, none, 0, 0, by omega, rfl, rfl, rfl, HO0.out, Below.refl _ _⟩
  case round =>
    clear HO0
    obtain ⟨i, A1, n1, c1, hi, rfl, rfl, hn1, hO, hB⟩ := hrel
    obtain ⟨wa, rfl⟩ : ∃ u, u = wr := ⟨_, rfl⟩
    have HO : Hid (n1 = (opI xs i ++ opK xs i (i + 1)).length ∧ wa.ownsRow w1.heap.size 68 2 (.slice A1 n1 c1) n1 ((opI xs i ++ opK xs i (i + 1)).flatMap pqc)) := by
      show _ ∧ _
      rw [opK_low xs i (i + 1) (by omega), List.append_nil]
      exact ⟨hn1, hO⟩
    have HO9 := Lib.hid hO
    have HB := Lib.hid hB
    have HN1 := Lib.hid hn1
    clear hO hB hn1
    have hi0 : (0 : Int) ≤ (i : Int) := Int.natCast_nonneg _
    by_cases hlt : i < xs.length
    · have hi8 : (i : Int) < xs.length := by omega
      obtain ⟨x, hx⟩ : ∃ x, xs[i]? = some x := ⟨_, List.getElem?_eq_getElem hlt⟩
      have e1 := (HB.out.cell (p := ⟨g, i, none⟩) (cell_lt9 (HCe.out i x hx))).trans (HCe.out i x hx)
      have hl64 := opI_len h8 i
      have u0 : IntKind.i64.wrap ((i : Int) + 1) = (i : Int) + 1 := IntWalk.i64_in _ ⟨by omega, by omega⟩
      have u00 : wrap64 ((i : Int) + 1) = (i : Int) + 1 := IntWalk.wrap64_in _ ⟨by omega, by omega⟩
      have HX := Lib.hid hx
      have hic : i + 1 ≤ cq := by omega
      have hil : i + 1 ≤ xs.length := by omega
      clear hx HN1 HO9
      by_cases hlo : cq = i + 1
      · have hxl : xs.length = i + 1 := by omega
        subst hlo
        have hz : xs.length - (i + 1) = 0 := by omega
        have HO11 : Hid (n1 = (opI xs (i + 1)).length ∧ wa.ownsRow w1.heap.size 68 2 (.slice A1 n1 c1) n1 ((opI xs (i + 1)).flatMap pqc)) := by
          have := HO.out
          rw [show opI xs (i + 1) = opI xs i ++ opK xs i (i + 1) from by rw [opI, hxl]]
          exact this
        clear HO
        go_wp2_with fail
        refine wp_loop_rounds 1 ?_
        rw [rounds_succ]
        go_wp2
        go_roundw
        case rel => exact ⟨i + 1, A1, n1, c1, by omega, by go_num, rfl, HO11.out.1, HO11.out.2, HB.out⟩
        case measure => simp [intOf]; omega
      · go_wp2_with fail
        go_loopw [3, 23] (fun v j wr => ∃ (q : Nat) (A2 : Option Addr) (n2 c2 : Nat), q ≤ xs.length - (i + 1) ∧ j = .int .i64 q ∧ v = .slice A2 n2 c2 ∧ n2 = (opI xs i ++ opK xs i (i + 1 + q)).length ∧ wr.ownsRow w1.heap.size 68 2 (.slice A2 n2 c2) n2 ((opI xs i ++ opK xs i (i + 1 + q)).flatMap pqc) ∧ Below w1.heap.size w1 wr)
          (fun _ j _ => (xs.length - (i + 1)) - (intOf j).toNat)
        case atStart => exact ⟨0, A1, n1, c1, by omega, rfl, rfl, HO.out.1, HO.out.2, HB.out⟩
        case round =>
          clear HO HB e1
          obtain ⟨q, A2, n2, c2, hq, rfl, rfl, hn2, hO, hB⟩ := hrel
          obtain ⟨wb, rfl⟩ : ∃ u, u = wr := ⟨_, rfl⟩
          have HO := Lib.hid hO
          have HB := Lib.hid hB
          have HN2 := Lib.hid hn2
          have hn2b : n2 ≤ 80 := by have := opK_len xs i (i + 1 + q); rw [hn2, List.length_append]; omega
          clear hO hB hn2
          have hq0 : (0 : Int) ≤ (q : Int) := Int.natCast_nonneg _
          by_cases hlt2 : q < xs.length - (i + 1)
          · have hq8 : (q : Int) < ((xs.length - (i + 1) : Nat) : Int) := by omega
            have hiq : i + 1 + q < xs.length := by omega
            obtain ⟨y, hy⟩ : ∃ y, xs[i + 1 + q]? = some y := ⟨_, List.getElem?_eq_getElem hiq⟩
            have e2 := (HB.out.cell (p := ⟨g, i + 1 + q, none⟩) (cell_lt9 (HCe.out _ y hy))).trans (HCe.out _ y hy)
            have hSt : Hid (opK xs i (i + 1 + (q + 1)) = opK xs i (i + 1 + q) ++ [(x, y)]) := opK_succ (k := i + 1 + q) HX.out hy (by omega)
            clear hy
            go_wp2_with (at_builtin; refine wpList_append_own _ rfl (.tmp 27) (.tmp 31) 63 rfl w1.heap.size 68 i0 (.agg #[.int .i64 0, .int .i64 0]) 2 16 Tryd.underlying63 HI.out HZ0.out HZ1.out HZ2.out rfl (by decide) _ _ _ rfl (HO.out.alloc _) ⟨wb.heap.size, 0, none⟩ 1 1 [.int .i64 x, .int .i64 y] rfl rfl ?c1 ?c2 ?c3 ?c4 ?c5 ?_)
            case c1 => exact cell_two_newP _ _ _ _
            case c2 => exact two_oneP _ _
            case c3 => unfold maxLen; omega
            case c4 => omega
            case c5 => have := HB.out.size; simp; omega
            intro v' w4 hown' hgrow _
            have hown4 : w4.ownsRow w1.heap.size 68 2 v' (n2 + 1) ((opI xs i ++ opK xs i (i + 1 + (q + 1))).flatMap pqc) := by
              rw [hSt.out, ← List.append_assoc, pqc_snoc]; simpa [pqc] using hown'
            have HB4 : Hid (Below w1.heap.size w1 w4) := (HB.out.alloc HB.out.size _).grown hgrow (by have := HB.out.size; simp; omega) (fun r e => (HO.out.lt r e).1)
            have HN4 : Hid (n2 + 1 = (opI xs i ++ opK xs i (i + 1 + (q + 1))).length) := by
              show _ = _
              rw [hSt.out, ← List.append_assoc, List.length_append, ← HN2.out]; rfl
            obtain ⟨A8, c8, rfl⟩ : ∃ A8 c8, v' = .slice A8 (n2 + 1) c8 := by
              rcases hown4.2 with ⟨h1, h2⟩ | ⟨g, cap, cur, h1, -⟩
              · exact ⟨_, _, by rw [h1, h2]⟩
              · exact ⟨_, _, h1⟩
            have HO4 := Lib.hid hown4
            clear hown' hown4 hgrow e2
            go_wp2
            go_roundw
            case rel => exact ⟨q + 1, A8, n2 + 1, c8, by omega, by go_num, rfl, HN4.out, HO4.out, HB4.out⟩
            case measure => simp [intOf]; omega
          · have hqe : i + 1 + q = xs.length := by omega
            have HO11 : Hid (n2 = (opI xs (i + 1)).length ∧ wb.ownsRow w1.heap.size 68 2 (.slice A2 n2 c2) n2 ((opI xs (i + 1)).flatMap pqc)) := by
              have h1 := HN2.out
              have h2 := HO.out
              rw [hqe] at h1 h2
              exact ⟨h1, h2⟩
            have hq9 : ¬ (q : Int) < ((xs.length - (i + 1) : Nat) : Int) := by omega
            go_wp2
            go_roundw
            case rel => exact ⟨i + 1, A2, n2, c2, by omega, by go_num, rfl, HO11.out.1, HO11.out.2, HB.out⟩
            case measure => simp [intOf]; omega
    · obtain rfl : i = xs.length := by omega
      have HB9 := Lib.hid (HBq.out.trans (HB.out.mono HBq.out.size))
      have HO10 := Lib.hid (own_base HO9.out HBq.out.size)
      go_wp2
      go_ret
      exact ⟨A1, c1, by (rw [← HN1.out]; first | done | rfl), by rw [← HN1.out]; exact HO10.out, HB9.out⟩


set_option maxRecDepth 100000 in
set_option maxHeartbeats 4000000 in
theorem agreementV_any (sv : Value) (xs : List Int) (hxs : ∀ x ∈ xs, 0 ≤ x ∧ x < 9) (h0 : 0 < xs.length) (h8 : xs.length ≤ 8) (ps : List Pq) (hps : ps.length ≤ 6500) (B n : Nat) (D : DataW Unit) (w : World) (HC0 : Calls Tryd.prog 64 #[sv] w fun e w' => ∃ A' c', e = .returned (.slice A' (opI xs xs.length).length c') ∧ w'.ownsRow w.heap.size 68 2 (.slice A' (opI xs xs.length).length c') (opI xs xs.length).length ((opI xs xs.length).flatMap pqc) ∧ Below w.heap.size w w') (hO : OwnsP w B n D) (hH : Holds D ok2 kP (cntP ps)) :
    Calls Tryd.prog 38 #[.map (some B), sv] w fun e w' => e = .returned (.int .i64 (suP (fun p => ((cntP ps p : Nat) : Int)) (opI xs xs.length))) ∧ Below w.heap.size w w' := by
  have HC := Lib.hid HC0
  have HK : Hid (∀ (W : World), Below w.heap.size w W → OwnsP W B n D) := fun W hW => hO.kept (grown_of_below hW) (by simp)
  have HH := Lib.hid hH
  have HX := Lib.hid hxs
  have HL := Lib.hid (opI_len h8 xs.length)
  clear HC0 hO hH hxs
  go_enter Tryd.func38, Tryd.ntmps38
  go_wp2_with fail
  refine HC.out.mono ?_
  rintro e w1 ⟨A', c', rfl, hO, hb⟩
  have HB := Lib.hid hb
  have HS := Lib.hid (sumForN_any (fun p => ((cntP ps p : Nat) : Int)) 6500 (by omega) (opI xs xs.length) (by have := HL.out; omega) (fun p _ => by have := cntP_le ps p; omega) A' c' w1 (own_rd2 pqc_length hO) B (fun p hp W hW => by
    obtain ⟨m1, m2⟩ := opI_mem (Nat.le_refl _) hp
    obtain ⟨p1, p2⟩ := p
    have b1 := HX.out p1 m1
    have b2 := HX.out p2 m2
    obtain ⟨a, rfl⟩ : ∃ a : Nat, p1 = (a : Int) := ⟨p1.toNat, by omega⟩
    obtain ⟨b, rfl⟩ : ∃ b : Nat, p2 = (b : Int) := ⟨p2.toNat, by omega⟩
    exact numberOf_any a b (by omega) (by omega) ps B n D W (HK.out W (hb.trans (hW.mono hb.size))) HH.out))
  clear hO hb HC
  go_wp2_with fail
  refine HS.out.mono ?_
  rintro e w2 ⟨rfl, hb2⟩
  have HB2 := Lib.hid (HB.out.trans (hb2.mono HB.out.size))
  clear hb2 HS
  go_wp2
  go_ret
  exact ⟨rfl, HB2.out⟩


set_option maxRecDepth 100000 in
set_option maxHeartbeats 4000000 in
theorem checkServings5_any (n : Int) (oss : List (List Int)) (A : Option Addr) (c : Nat) (ad : Nat → Addr) (w : World) (hl : oss.length ≤ 1048576) (hx : ∀ xs ∈ oss, xs.length ≤ 1048576) (hr : RdN w w.heap.size icells A oss) (hE : EW 5 w ad) :
    Calls Tryd.prog 35 #[.int .i64 n, .slice A oss.length c] w fun e w' => e = .returned (erO ad (chk 2 (oss.all (ioB n)))) ∧ Below w.heap.size w w' := by
  have HR := Lib.hid hr
  have HX := Lib.hid hx
  have HE := Lib.hid hE
  clear hr hx hE
  go_enter Tryd.func35, Tryd.ntmps35
  go_wp2_with fail
  go_loopw [9] (fun j wr => ∃ (i : Nat), i ≤ oss.length ∧ j = .int .i64 i ∧ AllU (ioB n) oss i ∧ Below w.heap.size w wr) (fun j _ => oss.length - (intOf j).toNat)
  case atStart => exact ⟨0, by omega, rfl, AllU.zero _ _, Below.refl _ _⟩
  case round =>
    obtain ⟨i, hi, rfl, hA, hB⟩ := hrel
    obtain ⟨wa, rfl⟩ : ∃ u, u = wr := ⟨_, rfl⟩
    have HB := Lib.hid hB
    have HA := Lib.hid hA
    clear hA hB
    have hi0 : (0 : Int) ≤ (i : Int) := Int.natCast_nonneg _
    by_cases hlt : i < oss.length
    · obtain ⟨xs, hxs⟩ : ∃ x, oss[i]? = some x := ⟨_, List.getElem?_eq_getElem hlt⟩
      have hi8 : (i : Int) < oss.length := by omega
      obtain ⟨b, o, a, c', rfl, hb, hc, hrd⟩ := (HR.out.keep HB.out).at_ hxs
      have HEa := HE.out.below HB.out (Nat.le_refl _)
      have HC := Lib.hid (implIsOrder_any n xs a c' ad wa (HX.out xs (List.mem_of_getElem? hxs)) hrd (HEa.cell 0 (by omega)))
      have HXs := Lib.hid hxs
      clear hxs hrd HEa
      cases hv : ioB n xs
      · rw [hv] at HC
        have HV : Hid (oss.all (ioB n) = false) := allU_no HXs.out hv
        clear hv
        go_wp2_with fail
        refine HC.out.mono ?_
        rintro e w3 ⟨rfl, hb3⟩
        have HB3 := Lib.hid (HB.out.trans (hb3.mono HB.out.size))
        have c2 : w3.cell? ⟨1, 0, none⟩ = some (.iface 155 (.pointer (some (ad 2)))) := (HE.out.below HB3.out (Nat.le_refl _)).cell 2 (by omega)
        clear hb3 HC
        go_wp2
        first | go_ret | skip
        exact ⟨by (rw [HV.out, chk_no, erO_some]; first | done | rfl), HB3.out⟩
      · rw [hv] at HC
        have HV := Lib.hid (HA.out.step HXs.out hv)
        clear hv
        go_wp2_with fail
        refine HC.out.mono ?_
        rintro e w3 ⟨rfl, hb3⟩
        have HB3 := Lib.hid (HB.out.trans (hb3.mono HB.out.size))
        clear hb3 HC
        go_wp2
        go_roundw
        case rel => exact ⟨i + 1, by omega, by go_num, HV.out, HB3.out⟩
        case measure => simp [intOf]; omega
    · obtain rfl : i = oss.length := by omega
      have HV := Lib.hid HA.out.all
      go_wp2
      go_ret
      exact ⟨by (rw [HV.out, chk_yes, erO_none]; first | done | rfl), HB.out⟩

end Go.Proofs.YtfmfgpipklmecaaDoor

namespace Go.Proofs.YtfmfgpipklmecaaDoor
open Go.RowKit

/-- The sample in a place of the first order. -/
def zgV (N k : Nat) : Nat := if k % 2 = 1 then (k + 1) / 2 else if k = 0 then 0 else N - k / 2
theorem zgV_lt {N k : Nat} (h : k < N) : zgV N k < N := by
  unfold zgV; split
  · omega
  · split <;> omega
theorem zgV_odd {N k : Nat} (h : k % 2 = 1) : zgV N k = (k + 1) / 2 := by rw [zgV, if_pos h]
theorem zgV_even {N k : Nat} (h : ¬ k % 2 = 1) (h0 : 0 < k) : zgV N k = N - k / 2 := by rw [zgV, if_neg h, if_neg (by omega)]
theorem zgV_zero (N : Nat) : zgV N 0 = 0 := rfl
def zgL (N k : Nat) : List Int := (List.range k).map fun i => ((zgV N i : Nat) : Int)
theorem zgL_succ (N k : Nat) : zgL N (k + 1) = zgL N k ++ [((zgV N k : Nat) : Int)] := by simp [zgL, List.range_succ]
theorem zgL_len (N k : Nat) : (zgL N k).length = k := by simp [zgL]
theorem zgL_at {N k i : Nat} (h : i < k) : (zgL N k)[i]? = some ((zgV N i : Nat) : Int) := by simp [zgL, h]
theorem zgL_one (N : Nat) : zgL N 1 = [0] := rfl
/-- .. of the order in which each number is greater by so much. -/
def fwV (N b k : Nat) : Nat := (zgV N k + b) % N
theorem fwV_lt {N b k : Nat} (h : 0 < N) : fwV N b k < N := Nat.mod_lt _ h
def fwR (N b k : Nat) : List Int := (List.range k).map fun i => ((fwV N b i : Nat) : Int)
theorem fwR_succ (N b k : Nat) : fwR N b (k + 1) = fwR N b k ++ [((fwV N b k : Nat) : Int)] := by simp [fwR, List.range_succ]
theorem fwR_len (N b k : Nat) : (fwR N b k).length = k := by simp [fwR]
theorem fwR_at {N b k i : Nat} (h : i < k) : (fwR N b k)[i]? = some ((fwV N b i : Nat) : Int) := by simp [fwR, h]
def fwS (N k : Nat) : List (List Int) := (List.range k).map fun b => fwR N b N
theorem fwS_succ (N k : Nat) : fwS N (k + 1) = fwS N k ++ [fwR N k N] := by simp [fwS, List.range_succ]
theorem fwS_len (N k : Nat) : (fwS N k).length = k := by simp [fwS]
theorem fwS_at {N k i : Nat} (h : i < k) : (fwS N k)[i]? = some (fwR N i N) := by simp [fwS, h]
def bwS (N k : Nat) : List (List Int) := fwS N N ++ (List.range k).map fun b => (fwR N b N).reverse
theorem bwS_zero (N : Nat) : bwS N 0 = fwS N N := by simp [bwS]
theorem bwS_succ (N k : Nat) : bwS N (k + 1) = bwS N k ++ [(fwR N k N).reverse] := by simp [bwS, List.range_succ]
theorem bwS_len (N k : Nat) : (bwS N k).length = N + k := by simp [bwS, fwS_len]
theorem bwS_at {N k i : Nat} (h : i < N) : (bwS N k)[i]? = some (fwR N i N) := by
  rw [bwS, List.getElem?_append_left (by rw [fwS_len]; exact h), fwS_at h]
theorem bwS_at2 {N k i : Nat} (h : i < k) : (bwS N k)[N + i]? = some ((fwR N i N).reverse) := by
  rw [bwS, List.getElem?_append_right (by rw [fwS_len]; omega), fwS_len, Nat.add_sub_cancel_left]
  simp [h]
/-- The last m of an order, from the end. -/
def bwR (N b m : Nat) : List Int := (fwR N b N).reverse.take m
theorem bwR_succ {N b m : Nat} (h : m < N) : bwR N b (m + 1) = bwR N b m ++ [((fwV N b (N - 1 - m) : Nat) : Int)] := by
  have hl : m < (fwR N b N).reverse.length := by rw [List.length_reverse, fwR_len]; exact h
  unfold bwR
  rw [List.take_succ_eq_append_getElem hl, List.getElem_reverse]
  congr 2
  have := fwR_at (N := N) (b := b) (k := N) (i := (fwR N b N).length - 1 - m) (by rw [fwR_len]; omega)
  rw [List.getElem?_eq_getElem (by rw [fwR_len]; omega)] at this
  rw [Option.some.inj this, fwR_len]
theorem bwR_len {N b m : Nat} (h : m ≤ N) : (bwR N b m).length = m := by unfold bwR; rw [List.length_take, List.length_reverse, fwR_len]; omega
theorem bwR_all (N b : Nat) : bwR N b N = (fwR N b N).reverse := by unfold bwR; rw [List.take_of_length_le (by rw [List.length_reverse, fwR_len]; omega)]
def fdB (N : Nat) : Bool := decide (N % 2 = 1) && decide (1 < N)
def fdL (N : Nat) : List (List Int) := if fdB N = true then bwS N N else fwS N N
def fdA (n : Int) : List (List Int) := if wi 1 8 n = true then fdL n.toNat else []
def fdC (n : Int) : Int := if wi 1 8 n = true then 0 else 2
theorem fd_no {n : Int} (h : wi 1 8 n = false) : fdA n = [] ∧ fdC n = 2 := by simp [fdA, fdC, h]
theorem fd_yes {n : Int} (h : wi 1 8 n = true) : fdA n = fdL n.toNat ∧ fdC n = 0 := by simp [fdA, fdC, h]
theorem fdL_back {N : Nat} (h : fdB N = true) : fdL N = bwS N N := by rw [fdL, if_pos h]
theorem fdL_not {N : Nat} (h : fdB N = false) : fdL N = fwS N N := by rw [fdL, h]; rfl
theorem fdL_len (N : Nat) : (fdL N).length ≤ 2 * N := by
  unfold fdL; split
  · rw [bwS_len]; omega
  · rw [fwS_len]; omega
theorem fdL_each {N : Nat} {ys : List Int} (h : ys ∈ fdL N) : ys.length = N := by
  have hf : ∀ ys ∈ fwS N N, ys.length = N := fun ys h => by
    obtain ⟨b, -, rfl⟩ := List.mem_map.1 h
    exact fwR_len N b N
  unfold fdL at h
  split at h
  · rcases List.mem_append.1 h with h | h
    · exact hf _ h
    · obtain ⟨b, -, rfl⟩ := List.mem_map.1 h
      rw [List.length_reverse, fwR_len]
  · exact hf _ h
theorem fdA_len (n : Int) : (fdA n).length ≤ 1048576 := by
  unfold fdA; split
  · have := wi_iff.1 ‹_›
    have := fdL_len n.toNat
    omega
  · simp
theorem fdA_each (n : Int) : ∀ ys ∈ fdA n, ys.length ≤ 1048576 := by
  unfold fdA; split
  · have := wi_iff.1 ‹_›
    intro ys h
    have := fdL_each h
    omega
  · simp
/-- What dividing and its rest give. -/
theorem zg_odd (k : Nat) (h : k % 2 = 1) : Int.tmod (k : Int) 2 = 1 ∧ Int.tdiv ((k : Int) + 1) 2 = (((k + 1) / 2 : Nat) : Int) := by
  refine ⟨by rw [Int.tmod_eq_emod_of_nonneg (by omega)]; omega, ?_⟩
  rw [Int.tdiv_eq_ediv_of_nonneg (by omega)]; omega
theorem zg_even (k : Nat) (h : ¬ k % 2 = 1) : Int.tmod (k : Int) 2 = 0 ∧ Int.tdiv (k : Int) 2 = ((k / 2 : Nat) : Int) := by
  refine ⟨by rw [Int.tmod_eq_emod_of_nonneg (by omega)]; omega, ?_⟩
  rw [Int.tdiv_eq_ediv_of_nonneg (by omega)]; omega
theorem fw_mod (N b k : Nat) : Int.tmod (((zgV N k : Nat) : Int) + (b : Int)) (N : Int) = ((fwV N b k : Nat) : Int) := by
  rw [Int.tmod_eq_emod_of_nonneg (by omega), fwV, ← Int.natCast_add, ← Int.natCast_emod]
/-- The first order's own remainder changes nothing but at its beginning. -/
theorem zg_mod {N k : Nat} (hk : k < N) (h : ¬ k % 2 = 1) : Int.tmod ((N : Int) - ((k / 2 : Nat) : Int)) (N : Int) = ((zgV N k : Nat) : Int) := by
  rw [Int.tmod_eq_emod_of_nonneg (by omega)]
  by_cases h0 : k = 0
  · subst h0
    simp [zgV]
  · rw [zgV_even h (by omega), Int.emod_eq_of_lt (by omega) (by omega)]; omega
end Go.Proofs.YtfmfgpipklmecaaDoor

namespace Go.Proofs.YtfmfgpipklmecaaDoor
open Go.ChangeShapes Go.WideShapes Go.ChangeAt Go.RowKit Go.Deep

set_option maxRecDepth 100000 in
set_option maxHeartbeats 4000000 in
theorem l07Square_any (N : Nat) (hN8 : N ≤ 8) (w : World) :
    Calls Tryd.prog 57 #[.int .i64 N] w fun e w' => ∃ A' c' hs, e = .returned (.slice A' N c') ∧ OwnN w' w.heap.size 23 2 1 icells A' c' hs (zL N N) ∧ Below w.heap.size w w' := by
  obtain ⟨i0, hi, hz0, hz1, hz2⟩ := info_parts Tryd.info64
  have HI := Lib.hid hi
  have HZ0 := Lib.hid hz0
  have HZ1 := Lib.hid hz1
  have HZ2 := Lib.hid hz2
  obtain ⟨j0, hj, hy0, hy1, hy2⟩ := info_parts Tryd.infoLN
  have HJ := Lib.hid hj
  have HY0 := Lib.hid hy0
  have HY1 := Lib.hid hy1
  have HY2 := Lib.hid hy2
  clear hi hz0 hz1 hz2 hj hy0 hy1 hy2
  obtain ⟨W1, hW1⟩ : ∃ W, w.alloc (.cells #[] 23) = W := ⟨_, rfl⟩
  have HB1 : Hid (Below w.heap.size w W1) := by show Below _ _ _; rw [← hW1]; exact (Below.refl _ w).alloc (Nat.le_refl _) _
  have HO1 : Hid (OwnN W1 w.heap.size 23 2 1 icells (some ⟨w.heap.size, 0, none⟩) 0 [] ([] : List (List Int))) := by show OwnN W1 _ _ _ _ _ _ _ _ _; rw [← hW1]; exact empty_ownH w _ (Nat.le_refl _)
  go_enter Tryd.func57, Tryd.ntmps57
  go_wp2_with fail
  clear hW1
  go_loopw [3, 4] (fun v i wr => ∃ (k : Nat) (A1 : Option Addr) (c1 : Nat) (hs : List Hd), k ≤ N ∧ i = .int .i64 k ∧ v = .slice A1 hs.length c1 ∧ OwnN wr w.heap.size 23 2 1 icells A1 c1 hs (zL N k) ∧ Below w.heap.size w wr)
    (fun _ i _ => N - (intOf i).toNat)
  case atStart => exact ⟨0, _, _, [], by omega, rfl, rfl, HO1.out, HB1.out⟩
  case round =>
    clear HO1 HB1
    obtain ⟨k, A1, c1, hs, hk, rfl, rfl, hO, hB⟩ := hrel
    obtain ⟨wa, rfl⟩ : ∃ u, u = wr := ⟨_, rfl⟩
    have HO := Lib.hid hO
    have HB := Lib.hid hB
    have HHl : Hid (hs.length = k) := hO.2.1.trans (zL_len N k)
    clear hO hB
    have hk0 : (0 : Int) ≤ (k : Int) := Int.natCast_nonneg _
    by_cases hlt : k < N
    · have hk8 : (k : Int) < N := by omega
      have hHl : hs.length ≤ 8 := by have := HHl.out; omega
      have HSt : Hid (zL N (k + 1) = zL N k ++ [List.replicate N 0]) := zL_succ N k
      go_wp2_with (first
        | (refine wpList_make_full _ rfl (.tmp 12) (.tmp 12) 23 rfl wa.heap.size 2 i0 _ 1 Tryd.underlying23 HI.out HZ0.out HZ1.out .i64 .i64 _ _ N rfl rfl rfl rfl (by rw [HZ2.out]; omega) (by unfold maxLen; omega) (Nat.le_refl _) ?_
           intro w1 hown hg
           have hR0 : Rs w1 wa.heap.size 2 icells (List.replicate N 0) := by
             have := blk_of_make hown
             rw [made_rows icells_length 0 (Value.int IntKind.i64 0).cells rfl (by omega)] at this
             exact this
           have hB0 : Below wa.heap.size wa w1 := (Below.refl _ wa).grown hg (Nat.le_refl _) (fun _ h => by cases h)
           have hlN : (List.replicate N (0 : Int)).length = N := by simp
           obtain ⟨ys, hys⟩ : ∃ ys, List.replicate N (0 : Int) = ys := ⟨_, rfl⟩
           rw [hys] at hR0 HSt hlN
           have hO2 : w1.ownsRow wa.heap.size 2 1 (.slice (some ⟨wa.heap.size, 0, none⟩) ys.length ys.length) ys.length (ys.flatMap icells) := own_of_rs icells_length hR0 (by rw [hlN]; unfold maxLen; omega)
           have HO2 := Lib.hid hO2
           have HB0 := Lib.hid hB0
           have hyx : Hid (N = ys.length) := hlN.symm
           have HBn : Hid (Below w1.heap.size w1 (w1.alloc (.cells (hcells (some ⟨wa.heap.size, 0, none⟩, ys.length, ys.length)).toArray 23))) := (Below.refl _ _).alloc (Nat.le_refl _) _
           have HN2 := Lib.hid (HO.out.keep HB0.out)
           have HSr := Lib.hid (src_hd (P := Tryd.prog) Tryd.underlying22 w1 (some ⟨wa.heap.size, 0, none⟩, ys.length, ys.length))
           have HBs : Hid (w.heap.size ≤ w1.heap.size + 1) := by have := HB.out.size; have := HB0.out.size; show _ ≤ _; omega
           clear hR0 hB0 hown hg hys hlN hO2
           have hA : (N : Nat) = ys.length := hyx.out
           rw [show (Value.slice (some ⟨wa.heap.size, 0, none⟩) N N) = Value.slice (some ⟨wa.heap.size, 0, none⟩) ys.length ys.length from by rw [← hA]]
           clear hA)
        | (at_builtin; refine wpList_append_any _ rfl (.tmp 11) (.tmp 14) 22 22 rfl w.heap.size 23 j0 (.slice none 0 0) 1 24 Tryd.underlying22 HJ.out HY0.out HY1.out HY2.out rfl (by decide) _ hs.length (hs.flatMap hcells) rfl ?o1 _ 1 (hcells (some ⟨wa.heap.size, 0, none⟩, ys.length, ys.length)) rfl ?o2 ?o3 ?o4 ?o5 ?_))
      case o1 => exact (HN2.out.keep HBn.out).1
      case o2 => exact HSr.out
      case o3 => unfold maxLen; omega
      case o4 => omega
      case o5 => have := HBs.out; simp; omega
      intro v' w8 hown' hgrow hblk
      obtain ⟨A8, c8, rfl⟩ : ∃ A8 c8, v' = .slice A8 (hs.length + 1) c8 := by
        rcases hown'.2 with ⟨h1, h2⟩ | ⟨g, cap, cur, h1, -⟩
        · exact ⟨_, _, by rw [h1, h2]⟩
        · exact ⟨_, _, h1⟩
      rw [ownBlock_slice] at hgrow hblk
      rw [ownBlock_slice] at hblk
      have hN8 := HO.out.snoc HB.out.size (HB0.out.trans (HBn.out.mono HB0.out.size)) (own_keep' HO2.out HBn.out) hown' hgrow (hblk.imp id (fun h => h.trans (by simp)))
      rw [← HSt.out] at hN8
      have HN8 := Lib.hid hN8
      have HB8 : Hid (Below w.heap.size w w8) := by
        show Below _ _ _
        have h1 := HB.out.trans ((HB0.out.trans (HBn.out.mono HB0.out.size)).mono HB.out.size)
        exact h1.grown hgrow h1.size (fun r e => (own_block HO.out.1 (by rw [ownBlock_slice]; exact e)).1)
      clear hown' hgrow hblk hN8 HN2 HBn
      go_wp2
      go_roundw
      case rel => exact ⟨k + 1, A8, c8, _, by omega, by go_num, by first | rfl | simp, HN8.out, HB8.out⟩
      case measure => simp [intOf]; omega
    · obtain rfl : k = N := by omega
      have HLn := Lib.hid HHl.out
      go_wp2
      go_ret
      exact ⟨A1, c1, hs, by (rw [HLn.out]; first | done | rfl), HO.out, HB.out⟩

set_option maxRecDepth 100000 in
set_option maxHeartbeats 8000000 in
theorem l07Pairs_any (n : Int) (m : List (List Int)) (hv : mkOk n m = true) (A : Option Addr) (c : Nat) (w : World) (hr : RdN w w.heap.size icells A m) :
    Calls Tryd.prog 32 #[.int .i64 n, .slice A m.length c] w fun e w' => ∃ A' c' hs, e = .returned (.slice A' n.toNat c') ∧ OwnN w' w.heap.size 23 2 1 icells A' c' hs (mat n.toNat (prF m m.length)) ∧ Below w.heap.size w w' := by
  obtain ⟨⟨hn1, hn8⟩, hm12, hrows⟩ := mkOk_iff.1 hv
  have HRow : Hid (∀ xs ∈ m, (xs.length : Int) = n) := fun xs h => (mkRow_iff.1 (hrows xs h)).1
  obtain ⟨N, hN⟩ : ∃ N : Nat, n.toNat = N := ⟨_, rfl⟩
  have hnN : n = (N : Int) := by omega
  subst hnN
  have hNe : ((N : Int)).toNat = N := by omega
  rw [hNe]
  have HR := Lib.hid hr
  have hN8 : N ≤ 8 := by omega
  have HC := Lib.hid (l07Square_any N hN8 w)
  clear hr hrows hN hNe hv
  go_enter Tryd.func32, Tryd.ntmps32
  go_wp2_with fail
  refine HC.out.mono ?_
  rintro e w1 ⟨Aq, cq, hsq, rfl, hO, hb⟩
  have HO1 : Hid (OwnN w1 w.heap.size 23 2 1 icells Aq cq hsq (mat N (prF m 0))) := by show OwnN _ _ _ _ _ _ _ _ _ _; rw [prF_zero]; exact hO
  have HB1 := Lib.hid hb
  clear hO hb HC
  go_wp2_with fail
  go_loopw [6] (fun i wr => ∃ (t : Nat), t ≤ m.length ∧ i = .int .i64 t ∧ OwnN wr w.heap.size 23 2 1 icells Aq cq hsq (mat N (prF m t)) ∧ Below w.heap.size w wr)
    (fun i _ => m.length - (intOf i).toNat)
  case atStart => exact ⟨0, by omega, rfl, HO1.out, HB1.out⟩
  case round =>
    clear HO1 HB1
    obtain ⟨t, ht, rfl, hO, hB⟩ := hrel
    obtain ⟨wa, rfl⟩ : ∃ u, u = wr := ⟨_, rfl⟩
    have HO := Lib.hid hO
    have HB := Lib.hid hB
    clear hO hB
    have ht0 : (0 : Int) ≤ (t : Int) := Int.natCast_nonneg _
    by_cases hlt : t < m.length
    · obtain ⟨xs, hxs⟩ : ∃ x, m[t]? = some x := ⟨_, List.getElem?_eq_getElem hlt⟩
      have ht8 : (t : Int) < m.length := by omega
      have hxn := HRow.out xs (List.mem_of_getElem? hxs)
      have HXs := Lib.hid hxs
      have HXn : Hid (xs.length = N) := by show _ = _; omega
      have HO2 : Hid (OwnN wa w.heap.size 23 2 1 icells Aq cq hsq (mat N (upTo (prF m t) (prF m (t + 1)) 0 0))) := by show OwnN _ _ _ _ _ _ _ _ _ _; rw [upTo_start]; exact HO.out
      clear hxs hxn HO
      go_wp2_with fail
      go_loopw [7] (fun i wr => ∃ (i0 : Nat), i0 ≤ N ∧ i = .int .i64 i0 ∧ OwnN wr w.heap.size 23 2 1 icells Aq cq hsq (mat N (upTo (prF m t) (prF m (t + 1)) i0 0)) ∧ Below w.heap.size w wr)
        (fun i _ => N - (intOf i).toNat)
      case atStart => exact ⟨0, by omega, rfl, HO2.out, HB.out⟩
      case round =>
        clear HO2 HB
        obtain ⟨i, hi, rfl, hO, hB⟩ := hrel
        obtain ⟨wb, rfl⟩ : ∃ u, u = wr := ⟨_, rfl⟩
        have HO := Lib.hid hO
        have HB := Lib.hid hB
        clear hO hB
        have hi0 : (0 : Int) ≤ (i : Int) := Int.natCast_nonneg _
        by_cases hlt2 : i < N
        · have hi8 : (i : Int) < N := by omega
          obtain ⟨x, hx⟩ : ∃ x, xs[i]? = some x := ⟨_, List.getElem?_eq_getElem (by rw [HXn.out]; exact hlt2)⟩
          have HX := Lib.hid hx
          clear hx
          go_wp2_with fail
          go_loopw [8] (fun i9 wr => ∃ (k : Nat), k ≤ N ∧ i9 = .int .i64 k ∧ OwnN wr w.heap.size 23 2 1 icells Aq cq hsq (mat N (upTo (prF m t) (prF m (t + 1)) i k)) ∧ Below w.heap.size w wr)
            (fun i9 _ => N - (intOf i9).toNat)
          case atStart => exact ⟨0, by omega, rfl, HO.out, HB.out⟩
          case round =>
            clear HO HB
            obtain ⟨k, hk, rfl, hO, hB⟩ := hrel
            obtain ⟨wc, rfl⟩ : ∃ u, u = wr := ⟨_, rfl⟩
            have HO := Lib.hid hO
            have HB := Lib.hid hB
            clear hO hB
            have hk0 : (0 : Int) ≤ (k : Int) := Int.natCast_nonneg _
            by_cases hlt3 : k < N
            · have hk8 : (k : Int) < N := by omega
              obtain ⟨y, hy⟩ : ∃ y, xs[k]? = some y := ⟨_, List.getElem?_eq_getElem (by rw [HXn.out]; exact hlt3)⟩
              have hix : (i : Int) < xs.length := by rw [HXn.out]; exact hi8
              have hkx : (k : Int) < xs.length := by rw [HXn.out]; exact hk8
              obtain ⟨b, o, a, c', rfl, hb, hc, hrd⟩ := (HR.out.keep HB.out).at_ HXs.out
              obtain ⟨b3, o3, rfl, hbl, hrow⟩ := hrd.at_ icells_length hy
              obtain ⟨b4, o4, eA, hbl4, hrow4⟩ := hrd.at_ icells_length HX.out
              obtain ⟨rfl, rfl⟩ : b3 = b4 ∧ o3 = o4 := by simpa using eA
              have e1 := rowI hrow
              have e2 := rowI hrow4
              have hpS := prTo_succ HXs.out i k
              rw [prB_at HX.out hy] at hpS
              have hpl := prTo_le m i k t
              cases hd : decide (y < x)
              · have hyx : ¬ y < x := of_decide_eq_false hd
                have HOx : Hid (OwnN wc w.heap.size 23 2 1 icells Aq cq hsq (mat N (upTo (prF m t) (prF m (t + 1)) i (k + 1)))) := by
                  show OwnN _ _ _ _ _ _ _ _ _ _
                  rw [upTo_skip (by show prTo m i k (t + 1) = prTo m i k t; rw [hpS, hd]; rfl)]
                  exact HO.out
                clear hpS hpl hd hy hrd hrow hrow4 eA HO
                go_wp2_with fail
                go_region
                go_wp2
                go_roundw
                case rel => exact ⟨k + 1, by omega, by go_num, by first | exact HOx.out | exact HOx.out.keep ((Below.refl _ _).drew), by first | exact HB.out | exact HB.out.drew⟩
                case measure => simp [intOf]; omega
              · have hyx : y < x := of_decide_eq_true hd
                obtain ⟨gA, g, c0, rfl, f1, -, hbg, f2, f3, f4⟩ := HO.out.rowAt (mat_at _ hlt2) (by rw [mRow_len]; omega)
                have f5 := f2 k _ (mRow_at _ i hlt3)
                have f6 := f3 k
                have f7 := f4 k ((prF m (t + 1) i k : Nat) : Int)
                rw [upTo_set hlt2 hlt3] at f7
                rw [upTo_at] at f5
                rw [mRow_len] at f1
                have f8 : prF m (t + 1) i k = prF m t i k + 1 := by show prTo m i k (t + 1) = prTo m i k t + 1; rw [hpS, hd]; rfl
                have hpl' : prF m t i k ≤ t := hpl
                rw [f8] at f7
                obtain ⟨q, hq⟩ : ∃ q, prF m t i k = q := ⟨_, rfl⟩
                rw [hq] at f5 f7 hpl'
                have u1 : IntKind.i64.wrap ((q : Int) + 1) = (q : Int) + 1 := IntWalk.i64_in _ ⟨by omega, by omega⟩
                have u2 : wrap64 ((q : Int) + 1) = (q : Int) + 1 := IntWalk.wrap64_in _ ⟨by omega, by omega⟩
                have HOx : Hid (OwnN (wc.setCell ⟨g, k, none⟩ (.int .i64 ((q : Int) + 1))) w.heap.size 23 2 1 icells (some ⟨gA, 0, none⟩) cq hsq (mat N (upTo (prF m t) (prF m (t + 1)) i (k + 1)))) := f7
                have HBx : Hid (Below w.heap.size w (wc.setCell ⟨g, k, none⟩ (.int .i64 ((q : Int) + 1)))) := HB.out.setCell (p := ⟨g, k, none⟩) hbg _
                clear hpS hpl hd hy hrd hrow hrow4 eA f2 f3 f4 f7 f8 hpl' hq
                go_wp2_with fail
                go_region
                go_wp2
                go_roundw
                case rel => exact ⟨k + 1, by omega, by go_num, by first | exact HOx.out | exact HOx.out.keep ((Below.refl _ _).drew), by first | exact HBx.out | exact HBx.out.drew⟩
                case measure => simp [intOf]; omega
            · obtain rfl : k = N := by omega
              have HOx : Hid (OwnN wc w.heap.size 23 2 1 icells Aq cq hsq (mat k (upTo (prF m t) (prF m (t + 1)) (i + 1) 0))) := by show OwnN _ _ _ _ _ _ _ _ _ _; rw [← upTo_next]; exact HO.out
              go_wp2
              go_roundw
              case rel => exact ⟨i + 1, by omega, by go_num, HOx.out, HB.out⟩
              case measure => simp [intOf]; omega
        · obtain rfl : i = N := by omega
          have HOx : Hid (OwnN wb w.heap.size 23 2 1 icells Aq cq hsq (mat i (prF m (t + 1)))) := by show OwnN _ _ _ _ _ _ _ _ _ _; rw [← upTo_all (prF m t)]; exact HO.out
          go_wp2
          go_roundw
          case rel => exact ⟨t + 1, by omega, by go_num, HOx.out, HB.out⟩
          case measure => simp [intOf]; omega
    · obtain rfl : t = m.length := by omega
      go_wp2
      go_ret
      exact ⟨Aq, cq, hsq, rfl, HO.out, HB.out⟩
end Go.Proofs.YtfmfgpipklmecaaDoor

namespace Go.Proofs.YtfmfgpipklmecaaDoor
open Go.ChangeShapes Go.WideShapes Go.ChangeAt Go.RowKit Go.Deep

theorem own_of_rsI {w : World} {g b : Nat} {xs : List Int} (h : Rs w g 2 icells xs) (hb : b ≤ g) (hm : xs.length ≤ maxLen) : w.ownsRow b 2 1 (.slice (some ⟨g, 0, none⟩) xs.length xs.length) xs.length (xs.flatMap icells) :=
  own_base (own_of_rs icells_length h hm) hb
theorem rs_setI {w : World} {g : Nat} {X : List Int} (h : Rs w g 2 icells X) {k : Nat} (hk : k < X.length) (x : Int) : Rs (w.setCell ⟨g, k, none⟩ (.int .i64 x)) g 2 icells (X.set k x) := by
  have := Rs.set_ icells_length h hk x
  simpa [icells, World.setCells] using this
theorem rkLs_all_at {m : List (List Int)} {t : Nat} {xs : List Int} (h : m[t]? = some xs) : (rkLs m m.length)[t]? = some (rkL xs) := by
  rw [rkLs, List.take_of_length_le (Nat.le_refl _), List.getElem?_map, h]; rfl

set_option maxRecDepth 100000 in
set_option maxHeartbeats 8000000 in
theorem l07Sums_any (n : Int) (m : List (List Int)) (hv : mkOk n m = true) (A : Option Addr) (c : Nat) (w : World) (hr : RdN w w.heap.size icells A m) :
    Calls Tryd.prog 45 #[.int .i64 n, .slice A m.length c] w fun e w' => e = .returned (.slice (some ⟨w.heap.size, 0, none⟩) n.toNat n.toNat) ∧ Rs w' w.heap.size 2 icells (rsL n.toNat m m.length) ∧ Below w.heap.size w w' := by
  obtain ⟨i0, hi, hz0, hz1, hz2⟩ := info_parts Tryd.info64
  obtain ⟨⟨hn1, hn8⟩, hm12, hrows⟩ := mkOk_iff.1 hv
  have HRow : Hid (∀ xs ∈ m, (xs.length : Int) = n) := fun xs h => (mkRow_iff.1 (hrows xs h)).1
  have HRb : Hid (∀ (i t : Nat), t ≤ m.length → 0 ≤ rsTo m i t ∧ rsTo m i t ≤ 17 * (t : Int)) := fun i t => rsTo_b (fun xs h => by have := HRow.out xs h; omega) i t
  obtain ⟨N, hN⟩ : ∃ N : Nat, n.toNat = N := ⟨_, rfl⟩
  have hnN : n = (N : Int) := by omega
  subst hnN
  have hNe : ((N : Int)).toNat = N := by omega
  rw [hNe]
  have HR := Lib.hid hr
  have HVd := Lib.hid hv
  have hN8 : N ≤ 8 := by omega
  clear hr hrows hN hNe hv
  go_enter Tryd.func45, Tryd.ntmps45
  go_wp2_with (refine wpList_make_full _ rfl (.tmp 9) (.tmp 9) 23 rfl w.heap.size 2 i0 _ 1 Tryd.underlying23 hi hz0 hz1 .i64 .i64 _ _ N rfl rfl rfl rfl (by rw [hz2]; omega) (by unfold maxLen; omega) (Nat.le_refl _) ?_; intro w1 hown hg)
  have hR0 : Rs w1 w.heap.size 2 icells (List.replicate N 0) := by
    have := blk_of_make hown
    rw [made_rows icells_length 0 (Value.int IntKind.i64 0).cells rfl (by omega)] at this
    exact this
  have hB0 : Below w.heap.size w w1 := (Below.refl _ w).grown hg (Nat.le_refl _) (fun _ h => by cases h)
  rw [← rsL_zero N m] at hR0
  have HR0 := Lib.hid hR0
  have HB0 := Lib.hid hB0
  have HC := Lib.hid (l07Ranks_any (N : Int) m HVd.out A c w1 (HR.out.keep hB0))
  clear hR0 hB0 hown hg hi hz0 hz1 hz2
  have HLr : Hid ((rkLs m m.length).length = m.length) := rkLs_len (Nat.le_refl _)
  go_wp2_with fail
  refine HC.out.mono ?_
  rintro e w2 ⟨Aq, cq, hsq, rfl, hO, hb⟩
  have HQ : Hid (RdN w2 w2.heap.size icells Aq (rkLs m m.length)) := hO.rd icells_length
  have HR2 : Hid (Rs w2 w.heap.size 2 icells (rsL N m 0)) := Blk.keep HR0.out hb
  have HB2 : Hid (Below w.heap.size w w2) := HB0.out.trans (hb.mono HB0.out.size)
  have HQ0 : Hid (Below w2.heap.size w2 w2) := Below.refl _ _
  -- the ranks lie in blocks of their own: not in that of the sums
  have HQa : Hid (∀ (w' : World), Only (fun k => k = w.heap.size) w2 w' → OwnN w' w1.heap.size 23 2 1 icells Aq cq hsq (rkLs m m.length)) := fun w' ho => by
    have hlt := HR0.out.lt
    exact hO.only ho (fun k e => by subst e; exact hlt)
  clear hO hb HC HR0 HB0 HQ
  rw [HLr.out]
  go_wp2_with fail
  go_loopw [7] (fun i wr => ∃ (t : Nat), t ≤ m.length ∧ i = .int .i64 t ∧ Rs wr w.heap.size 2 icells (rsL N m t) ∧ Only (fun k => k = w.heap.size) w2 wr ∧ Below w.heap.size w wr)
    (fun i _ => m.length - (intOf i).toNat)
  case atStart => exact ⟨0, by omega, rfl, HR2.out, Only.refl _ _, HB2.out⟩
  case round =>
    clear HR2
    obtain ⟨t, ht, rfl, hS, hO, hB⟩ := hrel
    obtain ⟨wa, rfl⟩ : ∃ u, u = wr := ⟨_, rfl⟩
    have HS := Lib.hid hS
    have HO := Lib.hid hO
    have HB := Lib.hid hB
    clear hS hO hB
    have ht0 : (0 : Int) ≤ (t : Int) := Int.natCast_nonneg _
    by_cases hlt : t < m.length
    · obtain ⟨xs, hxs⟩ : ∃ x, m[t]? = some x := ⟨_, List.getElem?_eq_getElem hlt⟩
      have ht8 : (t : Int) < m.length := by omega
      have hxn := HRow.out xs (List.mem_of_getElem? hxs)
      have HXs := Lib.hid hxs
      have HXn : Hid (xs.length = N) := by show _ = _; omega
      have HS0 : Hid (Rs wa w.heap.size 2 icells (rsM N m t 0)) := by show Rs _ _ _ _ _; rw [rsM_zero]; exact HS.out
      clear hxs hxn
      go_wp2_with fail
      go_loopw [8] (fun j wr2 => ∃ (q : Nat), q ≤ N ∧ j = .int .i64 q ∧ Rs wr2 w.heap.size 2 icells (rsM N m t q) ∧ Only (fun k => k = w.heap.size) w2 wr2 ∧ Below w.heap.size w wr2)
        (fun j _ => N - (intOf j).toNat)
      case atStart => exact ⟨0, by omega, rfl, HS0.out, HO.out, HB.out⟩
      case round =>
        clear HS0 HS HO HB
        obtain ⟨q, hq, rfl, hS, hO, hB⟩ := hrel
        obtain ⟨wb, rfl⟩ : ∃ u, u = wr := ⟨_, rfl⟩
        have HS := Lib.hid hS
        have HO := Lib.hid hO
        have HB := Lib.hid hB
        clear hS hO hB
        have hq0 : (0 : Int) ≤ (q : Int) := Int.natCast_nonneg _
        by_cases hlt2 : q < N
        · have hq8 : (q : Int) < N := by omega
          obtain ⟨x, hx⟩ : ∃ x, xs[q]? = some x := ⟨_, List.getElem?_eq_getElem (by rw [HXn.out]; exact hlt2)⟩
          have HSu := Lib.hid (rsTo_succ HXs.out hx)
          have hat := rkL_at hx
          have hrb := rkTo_b xs x xs.length
          have hsb := HRb.out q t (by omega)
          obtain ⟨b, o, a, c', rfl, hb, hc, hrd⟩ := ((HQa.out _ HO.out).rd icells_length).at_ (rkLs_all_at HXs.out)
          obtain ⟨b3, o3, rfl, hbl, hrow⟩ := hrd.at_ icells_length hat
          have e1 := rowI hrow
          have e2 : wb.cell? ⟨w.heap.size, q, none⟩ = some (.int .i64 (rsTo m q t)) := by
            have h9 : (rsM N m t q)[q]? = some (rsTo m q t) := by rw [rsM_at hlt2, if_neg (by omega)]
            have := rowI (range_row icells_length (Rs.range HS.out) h9)
            simpa using this
          have e3 := Blk.frozen HS.out q
          have hrl : (rkL xs).length = N := by rw [rkL_len, HXn.out]
          have hxl := HXn.out
          obtain ⟨s, hs⟩ : ∃ s, rsTo m q t = s := ⟨_, rfl⟩
          obtain ⟨r, hr⟩ : ∃ r, rkTo xs x xs.length = r := ⟨_, rfl⟩
          rw [hr] at e1 hrb HSu
          rw [hs] at e2 hsb HSu
          rw [hrl] at hc
          have u1 : IntKind.i64.wrap (s + r) = s + r := IntWalk.i64_in _ ⟨by omega, by omega⟩
          have u2 : wrap64 (s + r) = s + r := IntWalk.wrap64_in _ ⟨by omega, by omega⟩
          have HNx : Hid (Rs (wb.setCell ⟨w.heap.size, q, none⟩ (.int .i64 (s + r))) w.heap.size 2 icells (rsM N m t (q + 1))) := by
            show Rs _ _ _ _ _
            rw [← rsM_step hlt2, HSu.out]
            exact rs_setI HS.out (by rw [rsM_len]; exact hlt2) _
          have HNo : Hid (Only (fun k => k = w.heap.size) w2 (wb.setCell ⟨w.heap.size, q, none⟩ (.int .i64 (s + r)))) := HO.out.trans (only_set _ _ _ _)
          have HNb : Hid (Below w.heap.size w (wb.setCell ⟨w.heap.size, q, none⟩ (.int .i64 (s + r)))) := HB.out.setCell (p := ⟨w.heap.size, q, none⟩) (Nat.le_refl _) _
          clear hx hat hrow hrd hs hr hrl hxl hrb hsb
          go_wp2_with fail
          go_region
          go_wp2
          go_roundw
          case rel => exact ⟨q + 1, by omega, by go_num, by first | exact HNx.out | exact HNx.out.drew | (have := HNx.out; simpa using this), by first | exact HNo.out | (have := HNo.out; exact ⟨this.os, this.tape, this.output, this.size, this.block⟩), by first | exact HNb.out | exact HNb.out.drew⟩
          case measure => simp [intOf]; omega
        · obtain rfl : q = N := by omega
          have HSx : Hid (Rs wb w.heap.size 2 icells (rsL q m (t + 1))) := by show Rs _ _ _ _ _; rw [← rsM_all]; exact HS.out
          go_wp2
          go_roundw
          case rel => exact ⟨t + 1, by omega, by go_num, HSx.out, HO.out, HB.out⟩
          case measure => simp [intOf]; omega
    · obtain rfl : t = m.length := by omega
      go_wp2
      go_ret
      exact ⟨rfl, HS.out, HB.out⟩
theorem nil_own8 (w : World) (b : Nat) : w.ownsRow b 2 1 (.slice none 0 0) ([] : List Int).length (([] : List Int).flatMap icells) := ⟨rfl, .inl ⟨rfl, rfl⟩⟩
end Go.Proofs.YtfmfgpipklmecaaDoor

namespace Go.Proofs.YtfmfgpipklmecaaDoor
open Go.ChangeShapes Go.WideShapes Go.ChangeAt Go.RowKit Go.Deep

theorem cell_grown1 {w w1 : World} {row : Option Nat} {B j : Nat} {v : Value} (hg : w.grownBy w1 row) (hlt : B < w.heap.size) (hne : row ≠ some B) (hc : w.cell? ⟨B, j, none⟩ = some v) : w1.cell? ⟨B, j, none⟩ = some v := by
  have := hg.block B hlt (fun e => hne e.symm)
  simp only [World.cell?] at hc ⊢
  rw [this]; exact hc

set_option maxRecDepth 100000 in
set_option maxHeartbeats 8000000 in
theorem specFollowOrders_any (n : Int) (w : World) :
    Calls Tryd.prog 24 #[.int .i64 n] w fun e w' => ∃ A' c', e = .returned (.tuple #[.slice A' (fdA n).length c', .int .i64 (fdC n)]) ∧ RdN w' w'.heap.size icells A' (fdA n) ∧ Below w.heap.size w w' := by
  obtain ⟨i0, hi, hz0, hz1, hz2⟩ := info_parts Tryd.info64
  have HI := Lib.hid hi
  have HZ0 := Lib.hid hz0
  have HZ1 := Lib.hid hz1
  have HZ2 := Lib.hid hz2
  obtain ⟨j0, hj, hy0, hy1, hy2⟩ := info_parts Tryd.infoLN
  have HJ := Lib.hid hj
  have HY0 := Lib.hid hy0
  have HY1 := Lib.hid hy1
  have HY2 := Lib.hid hy2
  clear hi hz0 hz1 hz2 hj hy0 hy1 hy2
  obtain ⟨W1, hW1⟩ : ∃ W, w.alloc (.cells #[] 23) = W := ⟨_, rfl⟩
  have HB1 : Hid (Below w.heap.size w W1) := by show Below _ _ _; rw [← hW1]; exact (Below.refl _ w).alloc (Nat.le_refl _) _
  have HO1 : Hid (OwnN W1 w.heap.size 23 2 1 icells (some ⟨w.heap.size, 0, none⟩) 0 [] ([] : List (List Int))) := by show OwnN W1 _ _ _ _ _ _ _ _ _; rw [← hW1]; exact empty_ownH w _ (Nat.le_refl _)
  have hlt1 : w.heap.size < W1.heap.size := by rw [← hW1]; simp
  have HC := Lib.hid (l07Samples_any n W1)
  go_enter Tryd.func24, Tryd.ntmps24
  go_wp2_with fail
  refine HC.out.mono ?_
  rintro e w1 ⟨rfl, rfl⟩
  clear HC hW1
  cases h0 : wi 1 8 n
  · have E := Lib.hid (fd_no h0)
    clear h0
    go_wp2
    go_ret2
    refine ⟨_, _, by (rw [E.out.1, E.out.2]; first | done | rfl), ?_, HB1.out⟩
    rw [E.out.1]
    exact HO1.out.rd icells_length
  have E := Lib.hid (fd_yes h0)
  have hn := wi_iff.1 h0
  obtain ⟨N, hN⟩ : ∃ N : Nat, n.toNat = N := ⟨_, rfl⟩
  have hnN : n = (N : Int) := by omega
  rw [hN] at E
  subst hnN
  have hN8 : N ≤ 8 := by omega
  have hN1 : 0 < N := by omega
  obtain ⟨W2, hW2⟩ : ∃ W, W1.alloc (.cells #[.int .i64 0] 2) = W := ⟨_, rfl⟩
  have hB2 : Below W1.heap.size W1 W2 := by rw [← hW2]; exact (Below.refl _ _).alloc (Nat.le_refl _) _
  have HF0 : Hid (W2.ownsRow W1.heap.size 2 1 (.slice (some ⟨W1.heap.size, 0, none⟩) 1 1) 1 ((zgL N 1).flatMap icells)) := by
    have hK : Rs W2 W1.heap.size 2 icells [(0 : Int)] := by
      rw [← hW2]
      have := Blk.new W1 2 #[Value.int .i64 0]
      simpa [Rs, icells] using this
    exact own_of_rsI hK (Nat.le_refl _) (by rw [show (zgL N 1).length = 1 from zgL_len N 1]; decide)
  have HB2 := Lib.hid hB2
  clear h0 hN hB2
  go_wp2_with fail
  clear hW2
  go_loopw [5, 6] (fun v i wr => ∃ (k : Nat) (A1 : Option Addr) (c1 : Nat), 1 ≤ k ∧ k ≤ N ∧ i = .int .i64 k ∧ v = .slice A1 k c1 ∧ wr.ownsRow W1.heap.size 2 1 (.slice A1 k c1) k ((zgL N k).flatMap icells) ∧ Below W1.heap.size W1 wr) (fun _ i _ => N - (intOf i).toNat)
  case atStart => exact ⟨1, _, _, by omega, by omega, rfl, rfl, HF0.out, HB2.out⟩
  case round =>
    clear HF0 HB2
    obtain ⟨k, A1, c1, hk1, hk, rfl, rfl, hO, hB⟩ := hrel
    obtain ⟨wa, rfl⟩ : ∃ u, u = wr := ⟨_, rfl⟩
    have HF := Lib.hid hO
    have HBf := Lib.hid hB
    clear hO hB
    by_cases hlt : k < N
    · have HSt := Lib.hid (zgL_succ N k)
      have hz := zgV_lt hlt
      obtain ⟨kI, hkI⟩ : ∃ kI : Int, (k : Int) = kI := ⟨_, rfl⟩
      have HK := Lib.hid hkI
      have hk8 : kI < (N : Int) := by omega
      have hkb : 1 ≤ kI ∧ kI ≤ 8 := by omega
      by_cases hodd : k % 2 = 1
      · obtain ⟨t1, t2⟩ := zg_odd k hodd
        rw [zgV_odd hodd] at HSt hz
        obtain ⟨q, hq⟩ : ∃ q : Int, (((k + 1) / 2 : Nat) : Int) = q := ⟨_, rfl⟩
        rw [hq] at t2 HSt
        rw [hkI] at t1 t2 ⊢
        have hqb : 0 ≤ q ∧ q ≤ 8 := by omega
        have u1 : IntKind.i64.wrap (kI + 1) = kI + 1 := IntWalk.i64_in _ ⟨by omega, by omega⟩
        have u2 : wrap64 (kI + 1) = kI + 1 := IntWalk.wrap64_in _ ⟨by omega, by omega⟩
        have u5 : IntKind.i64.wrap q = q := IntWalk.i64_in _ ⟨by omega, by omega⟩
        have u6 : wrap64 q = q := IntWalk.wrap64_in _ ⟨by omega, by omega⟩
        clear hkI hq hz hodd
        go_wp2_with (at_builtin; refine wpList_append_own _ rfl (.tmp 27) (.tmp 31) 23 rfl W1.heap.size 2 i0 (.int .i64 0) 1 8 Tryd.underlying23 HI.out HZ0.out HZ1.out HZ2.out rfl (by decide) _ _ _ rfl (HF.out.alloc _) ⟨wa.heap.size, 0, none⟩ 1 1 [.int .i64 q] rfl rfl ?f1 ?f2 ?f3 ?f4 ?f5 ?_)
        case f1 => exact cell_one_new _ _ _
        case f2 => simp [Value.oneCell']
        case f3 => unfold maxLen; omega
        case f4 => omega
        case f5 => have := HBf.out.size; simp; omega
        intro v' w8 hown' hgrow _
        have hown8 : w8.ownsRow W1.heap.size 2 1 v' (k + 1) ((zgL N (k + 1)).flatMap icells) := by rw [HSt.out, List.flatMap_append]; exact hown'
        obtain ⟨A8, c8, rfl⟩ : ∃ A8 c8, v' = .slice A8 (k + 1) c8 := by
          rcases hown8.2 with ⟨h1, h2⟩ | ⟨g, cap, cur, h1, -⟩
          · exact ⟨_, _, by rw [h1, h2]⟩
          · exact ⟨_, _, h1⟩
        have HO8 := Lib.hid hown8
        have HB8 : Hid (Below W1.heap.size W1 w8) := (HBf.out.alloc HBf.out.size _).grown hgrow (by have := HBf.out.size; simp; omega) (fun r e => (HF.out.lt r e).1)
        have HKn : Hid (kI + 1 = ((k + 1 : Nat) : Int)) := by show _ = _; have := HK.out; omega
        have HMs : Hid (N - (kI + 1).toNat < N - kI.toNat) := by show _ < _; have := HK.out; omega
        have hk1N : k + 1 ≤ N := by omega
        clear hown' hown8 hgrow t1 t2
        go_wp2
        go_roundw
        case rel => exact ⟨k + 1, A8, c8, by omega, hk1N, by rw [HKn.out], rfl, HO8.out, HB8.out⟩
        case measure => first | exact HMs.out | (simp [intOf]; exact HMs.out) | (simp only [intOf]; exact HMs.out)
      · obtain ⟨t1, t2⟩ := zg_even k hodd
        rw [zgV_even hodd (by omega)] at HSt hz
        obtain ⟨q, hq⟩ : ∃ q : Int, ((k / 2 : Nat) : Int) = q := ⟨_, rfl⟩
        obtain ⟨d, hd⟩ : ∃ d : Int, ((N - k / 2 : Nat) : Int) = d := ⟨_, rfl⟩
        rw [hq] at t2
        rw [hd] at HSt
        have hqb : 0 ≤ q ∧ q ≤ 8 := by omega
        have hdq : (N : Int) - q = d := by omega
        rw [hkI] at t1 t2 ⊢
        have u1 : IntKind.i64.wrap (kI + 1) = kI + 1 := IntWalk.i64_in _ ⟨by omega, by omega⟩
        have u2 : wrap64 (kI + 1) = kI + 1 := IntWalk.wrap64_in _ ⟨by omega, by omega⟩
        have u5 : IntKind.i64.wrap q = q := IntWalk.i64_in _ ⟨by omega, by omega⟩
        have u6 : wrap64 q = q := IntWalk.wrap64_in _ ⟨by omega, by omega⟩
        have u7 : IntKind.i64.wrap ((N : Int) - q) = d := by rw [hdq]; exact IntWalk.i64_in _ ⟨by omega, by omega⟩
        have u8 : wrap64 ((N : Int) - q) = d := by rw [hdq]; exact IntWalk.wrap64_in _ ⟨by omega, by omega⟩
        clear hkI hq hz hodd hd hdq
        go_wp2_with (at_builtin; refine wpList_append_own _ rfl (.tmp 33) (.tmp 38) 23 rfl W1.heap.size 2 i0 (.int .i64 0) 1 8 Tryd.underlying23 HI.out HZ0.out HZ1.out HZ2.out rfl (by decide) _ _ _ rfl (HF.out.alloc _) ⟨wa.heap.size, 0, none⟩ 1 1 [.int .i64 d] rfl rfl ?f1 ?f2 ?f3 ?f4 ?f5 ?_)
        case f1 => exact cell_one_new _ _ _
        case f2 => simp [Value.oneCell']
        case f3 => unfold maxLen; omega
        case f4 => omega
        case f5 => have := HBf.out.size; simp; omega
        intro v' w8 hown' hgrow _
        have hown8 : w8.ownsRow W1.heap.size 2 1 v' (k + 1) ((zgL N (k + 1)).flatMap icells) := by rw [HSt.out, List.flatMap_append]; exact hown'
        obtain ⟨A8, c8, rfl⟩ : ∃ A8 c8, v' = .slice A8 (k + 1) c8 := by
          rcases hown8.2 with ⟨h1, h2⟩ | ⟨g, cap, cur, h1, -⟩
          · exact ⟨_, _, by rw [h1, h2]⟩
          · exact ⟨_, _, h1⟩
        have HO8 := Lib.hid hown8
        have HB8 : Hid (Below W1.heap.size W1 w8) := (HBf.out.alloc HBf.out.size _).grown hgrow (by have := HBf.out.size; simp; omega) (fun r e => (HF.out.lt r e).1)
        have HKn : Hid (kI + 1 = ((k + 1 : Nat) : Int)) := by show _ = _; have := HK.out; omega
        have HMs : Hid (N - (kI + 1).toNat < N - kI.toNat) := by show _ < _; have := HK.out; omega
        have hk1N : k + 1 ≤ N := by omega
        clear hown' hown8 hgrow t1 t2
        go_wp2
        go_roundw
        case rel => exact ⟨k + 1, A8, c8, by omega, hk1N, by rw [HKn.out], rfl, HO8.out, HB8.out⟩
        case measure => first | exact HMs.out | (simp [intOf]; exact HMs.out) | (simp only [intOf]; exact HMs.out)
    · obtain rfl : k = N := by omega
      have hF' : wa.ownsRow W1.heap.size 2 1 (.slice A1 k c1) (zgL k k).length ((zgL k k).flatMap icells) := by rw [zgL_len]; exact HF.out
      obtain ⟨gF, hA1, hgF1, hgF2, hcF⟩ : ∃ gF, A1 = some ⟨gF, 0, none⟩ ∧ W1.heap.size ≤ gF ∧ gF < wa.heap.size ∧ ∀ j, j < k → wa.cell? ⟨gF, j, none⟩ = some (.int .i64 ((zgV k j : Nat) : Int)) := by
        rcases HF.out.2 with ⟨-, h0'⟩ | ⟨g, cap, cur, h1, h3, h4, h5, h6, h7, h8⟩
        · omega
        · simp only [Value.slice.injEq, true_and] at h1
          obtain ⟨rfl, rfl⟩ := h1
          refine ⟨g, rfl, h3, (Array.getElem?_eq_some_iff.1 h4).1, fun j hj => ?_⟩
          rw [cell_of_row wa g j cur _ (0, 0) h4]
          have h9 : (cur.toList.take (k * 1))[j]? = some (.int .i64 ((zgV k j : Nat) : Int)) := by
            rw [h8, flat_iN, List.getElem?_map, zgL_at hj]; rfl
          rw [List.getElem?_take] at h9
          split at h9
          · simpa using h9
          · cases h9
      subst hA1
      have HO0 : Hid (OwnN wa w.heap.size 23 2 1 icells (some ⟨w.heap.size, 0, none⟩) 0 [] (fwS k 0)) := HO1.out.keep HBf.out
      have HG0 := Lib.hid hgF2
      have HC0 := Lib.hid hcF
      have HNe0 : Hid (∀ r, (some (⟨w.heap.size, 0, none⟩ : Addr)).map (·.block) = some r → r ≠ gF) := fun r e => by
        have : w.heap.size = r := by simpa using e
        omega
      have HB0 := Lib.hid (HB1.out.trans (HBf.out.mono HB1.out.size))
      clear hF' hgF1 hgF2 hcF HF HBf HO1 HB1
      go_wp2_with fail
      go_loopw [4, 7] (fun v i wr => ∃ (b : Nat) (bi : Int) (A1 : Option Addr) (c1 : Nat) (hs : List Hd), b ≤ k ∧ bi = b ∧ i = .int .i64 bi ∧ v = .slice A1 hs.length c1 ∧ OwnN wr w.heap.size 23 2 1 icells A1 c1 hs (fwS k b) ∧ gF < wr.heap.size ∧ (∀ j, j < k → wr.cell? ⟨gF, j, none⟩ = some (.int .i64 ((zgV k j : Nat) : Int))) ∧ (∀ r, A1.map (·.block) = some r → r ≠ gF) ∧ Below w.heap.size w wr) (fun _ i _ => k - (intOf i).toNat)
      case atStart => exact ⟨0, 0, _, _, [], by omega, rfl, rfl, rfl, HO0.out, HG0.out, HC0.out, HNe0.out, HB0.out⟩
      case round =>
        clear HO0 HG0 HC0 HNe0 HB0
        obtain ⟨b, bi, A1, cO, hs, hb, hbi, rfl, rfl, hO, hg, hc, hne, hB⟩ := hrel
        obtain ⟨wa, rfl⟩ : ∃ u, u = wr := ⟨_, rfl⟩
        have HO := Lib.hid hO
        have HG := Lib.hid hg
        have HCf := Lib.hid hc
        have HNe := Lib.hid hne
        have HB := Lib.hid hB
        have HHl : Hid (hs.length = b) := hO.2.1.trans (fwS_len k b)
        have HBi := Lib.hid hbi
        have hbi0 : 0 ≤ bi ∧ bi ≤ 8 := by omega
        clear hO hg hc hne hB
        by_cases hlt : b < k
        · have hb8 : bi < (k : Int) := by omega
          have hHl : hs.length ≤ 16 := by have := HHl.out; omega
          have HSt := Lib.hid (fwS_succ k b)
          have HIn0 : Hid ((wa.alloc (.cells #[] 2)).ownsRow wa.heap.size 2 1 (.slice (some ⟨wa.heap.size, 0, none⟩) 0 0) 0 ((fwR k b 0).flatMap icells)) := empty_ownI wa wa.heap.size (Nat.le_refl _)
          have HIb0 : Hid (Below wa.heap.size wa (wa.alloc (.cells #[] 2))) := (Below.refl _ _).alloc (Nat.le_refl _) _
          clear hbi
          go_wp2_with fail
          go_loopw [8, 9] (fun v i wr2 => ∃ (q : Nat) (A2 : Option Addr) (c2 : Nat), q ≤ k ∧ i = .int .i64 q ∧ v = .slice A2 q c2 ∧ wr2.ownsRow wa.heap.size 2 1 (.slice A2 q c2) q ((fwR k b q).flatMap icells) ∧ Below wa.heap.size wa wr2) (fun _ i _ => k - (intOf i).toNat)
          case atStart => exact ⟨0, _, _, by omega, rfl, rfl, HIn0.out, HIb0.out⟩
          case round =>
            clear HIn0 HIb0
            obtain ⟨q, A2, c2, hq, rfl, rfl, hO2, hB2⟩ := hrel
            obtain ⟨wb, rfl⟩ : ∃ u, u = wr := ⟨_, rfl⟩
            have HO2 := Lib.hid hO2
            have HB2 := Lib.hid hB2
            clear hO2 hB2
            have hq0 : (0 : Int) ≤ (q : Int) := Int.natCast_nonneg _
            by_cases hlt2 : q < k
            · have hq8 : (q : Int) < k := by omega
              have e1 := (HB2.out.cell (p := ⟨gF, q, none⟩) HG.out).trans (HCf.out q hlt2)
              have HSt2 := Lib.hid (fwR_succ k b q)
              have hz := zgV_lt hlt2
              have hf := fwV_lt (b := b) (k := q) hN1
              have hm := fw_mod k b q
              obtain ⟨z, hz2⟩ : ∃ z : Int, ((zgV k q : Nat) : Int) = z := ⟨_, rfl⟩
              obtain ⟨f, hf2⟩ : ∃ f : Int, ((fwV k b q : Nat) : Int) = f := ⟨_, rfl⟩
              rw [hz2, ← HBi.out] at hm
              rw [hf2] at hm HSt2
              rw [hz2] at e1
              have hzb : 0 ≤ z ∧ z ≤ 8 := by omega
              have hfb : 0 ≤ f ∧ f ≤ 8 := by omega
              obtain ⟨s, hs2⟩ : ∃ s : Int, z + bi = s := ⟨_, rfl⟩
              rw [hs2] at hm
              have hN0 : ¬ (k : Int) = 0 := by omega
              have hNn : ¬ k = 0 := by omega
              have hNb : ((k : Int) == 0) = false := by rw [beq_eq_false_iff_ne]; exact hN0
              have u1 : IntKind.i64.wrap (z + bi) = s := by rw [hs2]; exact IntWalk.i64_in _ ⟨by omega, by omega⟩
              have u2 : wrap64 (z + bi) = s := by rw [hs2]; exact IntWalk.wrap64_in _ ⟨by omega, by omega⟩
              have u3 : IntKind.i64.wrap f = f := IntWalk.i64_in _ ⟨by omega, by omega⟩
              have u4 : wrap64 f = f := IntWalk.wrap64_in _ ⟨by omega, by omega⟩
              clear hz hf hz2 hf2 hs2
              go_wp2_with (at_builtin; refine wpList_append_own _ rfl (.tmp 52) (.tmp 61) 23 rfl wa.heap.size 2 i0 (.int .i64 0) 1 8 Tryd.underlying23 HI.out HZ0.out HZ1.out HZ2.out rfl (by decide) _ _ _ rfl (HO2.out.alloc _) ⟨wb.heap.size, 0, none⟩ 1 1 [.int .i64 f] rfl rfl ?f1 ?f2 ?f3 ?f4 ?f5 ?_)
              case f1 => exact cell_one_new _ _ _
              case f2 => simp [Value.oneCell']
              case f3 => unfold maxLen; omega
              case f4 => omega
              case f5 => have := HB2.out.size; simp; omega
              intro v' w8 hown' hgrow _
              have hown8 : w8.ownsRow wa.heap.size 2 1 v' (q + 1) ((fwR k b (q + 1)).flatMap icells) := by rw [HSt2.out, List.flatMap_append]; exact hown'
              obtain ⟨A8, c8, rfl⟩ : ∃ A8 c8, v' = .slice A8 (q + 1) c8 := by
                rcases hown8.2 with ⟨h1, h2⟩ | ⟨g, cap, cur, h1, -⟩
                · exact ⟨_, _, by rw [h1, h2]⟩
                · exact ⟨_, _, h1⟩
              have HO8 := Lib.hid hown8
              have HB8 : Hid (Below wa.heap.size wa w8) := (HB2.out.alloc HB2.out.size _).grown hgrow (by have := HB2.out.size; simp; omega) (fun r e => (HO2.out.lt r e).1)
              clear hown' hown8 hgrow hm e1
              go_wp2
              go_roundw
              case rel => exact ⟨q + 1, A8, c8, by omega, by go_num, rfl, HO8.out, HB8.out⟩
              case measure => first | (simp [intOf]; done) | (simp [intOf]; omega)
            · obtain rfl : q = k := by omega
              have hyx : Hid (q = (fwR q b q).length) := by show _ = _; rw [fwR_len]
              obtain ⟨ys, hys⟩ : ∃ ys, fwR q b q = ys := ⟨_, rfl⟩
              rw [hys] at HO2 HSt hyx
              have HO9 : Hid (wb.ownsRow wa.heap.size 2 1 (.slice A2 ys.length c2) ys.length (ys.flatMap icells)) := by show World.ownsRow _ _ _ _ _ _ _; rw [← hyx.out]; exact HO2.out
              have HBn : Hid (Below wb.heap.size wb (wb.alloc (.cells (hcells (A2, ys.length, c2)).toArray 23))) := (Below.refl _ _).alloc (Nat.le_refl _) _
              have HN2 := Lib.hid (HO.out.keep HB2.out)
              have HSr := Lib.hid (src_hd (P := Tryd.prog) Tryd.underlying22 wb (A2, ys.length, c2))
              have HBs : Hid (w.heap.size ≤ wb.heap.size + 1) := by have := HB.out.size; have := HB2.out.size; show _ ≤ _; omega
              rw [show (Value.slice A2 q c2) = Value.slice A2 ys.length c2 from by rw [← hyx.out]]
              clear hys HO2
              have HO2 := Lib.hid HO9.out
              clear HO9
              go_wp2_with (at_builtin; refine wpList_append_any _ rfl (.tmp 63) (.tmp 65) 22 22 rfl w.heap.size 23 j0 (.slice none 0 0) 1 24 Tryd.underlying22 HJ.out HY0.out HY1.out HY2.out rfl (by decide) _ hs.length (hs.flatMap hcells) rfl ?o1 _ 1 (hcells (A2, ys.length, c2)) rfl ?o2 ?o3 ?o4 ?o5 ?_)
              case o1 => exact (HN2.out.keep HBn.out).1
              case o2 => exact HSr.out
              case o3 => unfold maxLen; omega
              case o4 => omega
              case o5 => have := HBs.out; simp; omega
              intro v' w8 hown' hgrow hblk
              obtain ⟨A8, c8, rfl⟩ : ∃ A8 c8, v' = .slice A8 (hs.length + 1) c8 := by
                rcases hown'.2 with ⟨h1, h2⟩ | ⟨g, cap, cur, h1, -⟩
                · exact ⟨_, _, by rw [h1, h2]⟩
                · exact ⟨_, _, h1⟩
              rw [ownBlock_slice] at hgrow hblk
              rw [ownBlock_slice] at hblk
              have hN8' := HO.out.snoc HB.out.size (HB2.out.trans (HBn.out.mono HB2.out.size)) (own_keep' HO2.out HBn.out) hown' hgrow (hblk.imp id (fun h => h.trans (by simp)))
              rw [← HSt.out] at hN8'
              have HN8 := Lib.hid hN8'
              have HB8 : Hid (Below w.heap.size w w8) := by
                show Below _ _ _
                have h1 := HB.out.trans ((HB2.out.trans (HBn.out.mono HB2.out.size)).mono HB.out.size)
                exact h1.grown hgrow h1.size (fun r e => (own_block HO.out.1 (by rw [ownBlock_slice]; exact e)).1)
              have hAl : Below wb.heap.size wb (wb.alloc (.cells (hcells (A2, ys.length, c2)).toArray 23)) := (Below.refl _ _).alloc (Nat.le_refl _) _
              have hGb : gF < wb.heap.size := Nat.lt_of_lt_of_le HG.out HB2.out.size
              have HC8 : Hid (∀ j, j < q → w8.cell? ⟨gF, j, none⟩ = some (.int .i64 ((zgV q j : Nat) : Int))) := fun j hj => cell_grown1 hgrow (Nat.lt_of_lt_of_le hGb hAl.size) (fun e => HNe.out _ e rfl) ((hAl.cell (p := ⟨gF, j, none⟩) hGb).trans ((HB2.out.cell (p := ⟨gF, j, none⟩) HG.out).trans (HCf.out j hj)))
              have HNe8 : Hid (∀ r, A8.map (·.block) = some r → r ≠ gF) := fun r e => by
                rcases hblk with h | h
                · exact HNe.out r (h.symm.trans e)
                · rw [e] at h
                  have h9 := Option.some.inj h
                  have h11 : wb.heap.size ≤ r := by rw [h9]; exact Nat.le_of_lt (by simp)
                  omega
              have HG8 : Hid (gF < w8.heap.size) := Nat.lt_of_lt_of_le hGb (Nat.le_trans hAl.size hgrow.size)
              have hbn : bi + 1 = ((b + 1 : Nat) : Int) := by have := HBi.out; omega
              have u1 : IntKind.i64.wrap (bi + 1) = bi + 1 := IntWalk.i64_in _ ⟨by omega, by omega⟩
              have u2 : wrap64 (bi + 1) = bi + 1 := IntWalk.wrap64_in _ ⟨by omega, by omega⟩
              have HBn1 := Lib.hid hbn
              have hbms : b + 1 ≤ q := by omega
              have HMs : Hid (q - (bi + 1).toNat < q - bi.toNat) := by show _ < _; have := HBi.out; omega
              clear hown' hgrow hblk hN8' HN2 HBn hAl hbn
              go_wp2
              go_roundw
              case rel => exact ⟨b + 1, bi + 1, A8, c8, _, hbms, HBn1.out, by first | rfl | go_num, by first | rfl | simp, HN8.out, HG8.out, HC8.out, HNe8.out, HB8.out⟩
              case measure => first | exact HMs.out | (simp [intOf]; exact HMs.out) | (simp only [intOf]; exact HMs.out)
        · obtain rfl : b = k := by omega
          have hbk : bi = (b : Int) := hbi
          subst hbk
          clear HBi
          cases hB9 : fdB b
          · have HM : Hid (fdL b = fwS b b) := fdL_not hB9
            by_cases hodd : b % 2 = 1
            · have hb1 : b = 1 := by
                simp only [fdB, Bool.and_eq_false_iff, decide_eq_false_iff_not] at hB9
                omega
              have hb1i : (b : Int) = 1 := by omega
              have hb1b : ((b : Int) == 1) = true := by rw [beq_iff_eq]; exact hb1i
              have t1 := (zg_odd b hodd).1
              have HE1 := Lib.hid hb1i
              clear hB9 hodd hb1 hb1i
              go_wp2
              first | go_ret2 | skip
              first
                | refine ⟨A1, cO, by (rw [E.out.1, E.out.2, HM.out, fwS_len, ← HHl.out]; first | done | rfl), ?_, HB.out⟩
                | refine ⟨A1, ⟨cO, by (rw [E.out.1, E.out.2, HM.out, fwS_len, ← HHl.out]; first | done | rfl)⟩, ?_, HB.out⟩
              rw [E.out.1, HM.out]
              exact HO.out.rd icells_length
            · have t1 := (zg_even b hodd).1
              clear hB9 hodd
              go_wp2
              first | go_ret2 | skip
              first
                | refine ⟨A1, cO, by (rw [E.out.1, E.out.2, HM.out, fwS_len, ← HHl.out]; first | done | rfl), ?_, HB.out⟩
                | refine ⟨A1, ⟨cO, by (rw [E.out.1, E.out.2, HM.out, fwS_len, ← HHl.out]; first | done | rfl)⟩, ?_, HB.out⟩
              rw [E.out.1, HM.out]
              exact HO.out.rd icells_length
          · have HM : Hid (fdL b = bwS b b) := fdL_back hB9
            simp only [fdB, Bool.and_eq_true, decide_eq_true_eq] at hB9
            have t1 := (zg_odd b hB9.1).1
            have hb1 : ¬ (b : Int) = 1 := by omega
            have hb1n : ¬ b = 1 := by omega
            have hb1b : ((b : Int) == 1) = false := by rw [beq_eq_false_iff_ne]; exact hb1
            have HO9 : Hid (OwnN wa w.heap.size 23 2 1 icells A1 cO hs (bwS b 0)) := by show OwnN _ _ _ _ _ _ _ _ _ _; rw [bwS_zero]; exact HO.out
            have HB0 := Lib.hid HB.out
            clear hB9 HO HG HCf HNe HB HHl
            go_wp2_with fail
            clear t1 hb1 hb1n hb1b
            go_loopw [4, 10] (fun v i wr => ∃ (p : Nat) (A1 : Option Addr) (c1 : Nat) (hs : List Hd), p ≤ b ∧ i = .int .i64 p ∧ v = .slice A1 hs.length c1 ∧ OwnN wr w.heap.size 23 2 1 icells A1 c1 hs (bwS b p) ∧ Below w.heap.size w wr) (fun _ i _ => b - (intOf i).toNat)
            case atStart => exact ⟨0, _, _, hs, by omega, rfl, rfl, HO9.out, HB0.out⟩
            case round =>
              clear HO9 HB0
              obtain ⟨p, A1, cO, hs, hp, rfl, rfl, hO, hB⟩ := hrel
              obtain ⟨wa, rfl⟩ : ∃ u, u = wr := ⟨_, rfl⟩
              have HO := Lib.hid hO
              have HB := Lib.hid hB
              have HHl : Hid (hs.length = b + p) := hO.2.1.trans (bwS_len b p)
              clear hO hB
              have hp0 : (0 : Int) ≤ (p : Int) := Int.natCast_nonneg _
              by_cases hlt : p < b
              · have hp8 : (p : Int) < b := by omega
                have hHl : hs.length ≤ 16 := by have := HHl.out; omega
                have hpl : (p : Int) < hs.length := by have := HHl.out; omega
                have HSt := Lib.hid (bwS_succ b p)
                have HIn0 : Hid ((wa.alloc (.cells #[] 2)).ownsRow wa.heap.size 2 1 (.slice (some ⟨wa.heap.size, 0, none⟩) 0 0) 0 ((bwR b p 0).flatMap icells)) := empty_ownI wa wa.heap.size (Nat.le_refl _)
                have HIb0 : Hid (Below wa.heap.size wa (wa.alloc (.cells #[] 2))) := (Below.refl _ _).alloc (Nat.le_refl _) _
                have u7 : IntKind.i64.wrap ((b : Int) - 1) = (b : Int) - 1 := IntWalk.i64_in _ ⟨by omega, by omega⟩
                have u8 : wrap64 ((b : Int) - 1) = (b : Int) - 1 := IntWalk.wrap64_in _ ⟨by omega, by omega⟩
                go_wp2_with fail
                clear u7 u8
                go_loopw [11, 12] (fun v i wr2 => ∃ (q : Nat) (r : Int) (A2 : Option Addr) (c2 : Nat), q ≤ b ∧ r = (b : Int) - 1 - q ∧ i = .int .i64 r ∧ v = .slice A2 q c2 ∧ wr2.ownsRow wa.heap.size 2 1 (.slice A2 q c2) q ((bwR b p q).flatMap icells) ∧ Below wa.heap.size wa wr2) (fun _ i _ => (intOf i + 1).toNat)
                case atStart => exact ⟨0, _, _, _, by omega, by omega, rfl, rfl, HIn0.out, HIb0.out⟩
                case round =>
                  clear HIn0 HIb0
                  obtain ⟨q, r, A2, c2, hq, hr, rfl, rfl, hO2, hB2⟩ := hrel
                  obtain ⟨wb, rfl⟩ : ∃ u, u = wr := ⟨_, rfl⟩
                  have HO2 := Lib.hid hO2
                  have HB2 := Lib.hid hB2
                  have HR := Lib.hid hr
                  clear hO2 hB2
                  by_cases hlt2 : q < b
                  · obtain ⟨j, hj⟩ : ∃ j : Nat, b - 1 - q = j := ⟨_, rfl⟩
                    have hrj : r = (j : Int) := by omega
                    subst hrj
                    have hj0 : (0 : Int) ≤ (j : Int) := Int.natCast_nonneg _
                    have hj8 : (j : Int) < b := by omega
                    have hjb : j < b := by omega
                    have HSt2 := Lib.hid (bwR_succ (b := p) hlt2)
                    rw [hj] at HSt2
                    obtain ⟨gA, g1, d1, rfl, f1, -, -, f2, -, -⟩ := (HO.out.keep HB2.out).rowAt (bwS_at (k := p) hlt) (by rw [fwR_len]; omega)
                    have f5 := f2 j _ (fwR_at hjb)
                    rw [fwR_len] at f1
                    obtain ⟨f, hf⟩ : ∃ f : Int, ((fwV b p j : Nat) : Int) = f := ⟨_, rfl⟩
                    rw [hf] at f5 HSt2
                    have HRn : Hid ((j : Int) - 1 = (b : Int) - 1 - ((q + 1 : Nat) : Int)) := by show _ = _; omega
                    have u1 : IntKind.i64.wrap ((j : Int) - 1) = (j : Int) - 1 := IntWalk.i64_in _ ⟨by omega, by omega⟩
                    have u2 : wrap64 ((j : Int) - 1) = (j : Int) - 1 := IntWalk.wrap64_in _ ⟨by omega, by omega⟩
                    clear f2 hf hj hr
                    go_wp2_with (at_builtin; refine wpList_append_own _ rfl (.tmp 87) (.tmp 95) 23 rfl wa.heap.size 2 i0 (.int .i64 0) 1 8 Tryd.underlying23 HI.out HZ0.out HZ1.out HZ2.out rfl (by decide) _ _ _ rfl (HO2.out.alloc _) ⟨wb.heap.size, 0, none⟩ 1 1 [.int .i64 f] rfl rfl ?f1 ?f2 ?f3 ?f4 ?f5 ?_)
                    case f1 => exact cell_one_new _ _ _
                    case f2 => simp [Value.oneCell']
                    case f3 => unfold maxLen; omega
                    case f4 => omega
                    case f5 => have := HB2.out.size; simp; omega
                    intro v' w8 hown' hgrow _
                    have hown8 : w8.ownsRow wa.heap.size 2 1 v' (q + 1) ((bwR b p (q + 1)).flatMap icells) := by rw [HSt2.out, List.flatMap_append]; exact hown'
                    obtain ⟨A8, c8, rfl⟩ : ∃ A8 c8, v' = .slice A8 (q + 1) c8 := by
                      rcases hown8.2 with ⟨h1, h2⟩ | ⟨g, cap, cur, h1, -⟩
                      · exact ⟨_, _, by rw [h1, h2]⟩
                      · exact ⟨_, _, h1⟩
                    have HO8 := Lib.hid hown8
                    have HB8 : Hid (Below wa.heap.size wa w8) := (HB2.out.alloc HB2.out.size _).grown hgrow (by have := HB2.out.size; simp; omega) (fun r e => (HO2.out.lt r e).1)
                    clear hown' hown8 hgrow f1 f5
                    go_wp2
                    go_roundw
                    case rel => exact ⟨q + 1, (j : Int) - 1, A8, c8, by omega, HRn.out, by first | rfl | go_num, rfl, HO8.out, HB8.out⟩
                    case measure => first | (simp [intOf]; done) | (simp [intOf]; omega)
                  · obtain rfl : q = b := by omega
                    have hrn : ¬ 0 ≤ r := by omega
                    clear hr
                    have hyx : Hid (q = ((fwR q p q).reverse).length) := by show _ = _; rw [List.length_reverse, fwR_len]
                    obtain ⟨ys, hys⟩ : ∃ ys, (fwR q p q).reverse = ys := ⟨_, rfl⟩
                    rw [bwR_all] at HO2
                    rw [hys] at HO2 HSt hyx
                    have HO9 : Hid (wb.ownsRow wa.heap.size 2 1 (.slice A2 ys.length c2) ys.length (ys.flatMap icells)) := by show World.ownsRow _ _ _ _ _ _ _; rw [← hyx.out]; exact HO2.out
                    have HBn : Hid (Below wb.heap.size wb (wb.alloc (.cells (hcells (A2, ys.length, c2)).toArray 23))) := (Below.refl _ _).alloc (Nat.le_refl _) _
                    have HN2 := Lib.hid (HO.out.keep HB2.out)
                    have HSr := Lib.hid (src_hd (P := Tryd.prog) Tryd.underlying22 wb (A2, ys.length, c2))
                    have HBs : Hid (w.heap.size ≤ wb.heap.size + 1) := by have := HB.out.size; have := HB2.out.size; show _ ≤ _; omega
                    rw [show (Value.slice A2 q c2) = Value.slice A2 ys.length c2 from by rw [← hyx.out]]
                    clear hys HO2
                    have HO2 := Lib.hid HO9.out
                    clear HO9
                    go_wp2_with (at_builtin; refine wpList_append_any _ rfl (.tmp 97) (.tmp 99) 22 22 rfl w.heap.size 23 j0 (.slice none 0 0) 1 24 Tryd.underlying22 HJ.out HY0.out HY1.out HY2.out rfl (by decide) _ hs.length (hs.flatMap hcells) rfl ?o1 _ 1 (hcells (A2, ys.length, c2)) rfl ?o2 ?o3 ?o4 ?o5 ?_)
                    case o1 => exact (HN2.out.keep HBn.out).1
                    case o2 => exact HSr.out
                    case o3 => unfold maxLen; omega
                    case o4 => omega
                    case o5 => have := HBs.out; simp; omega
                    intro v' w8 hown' hgrow hblk
                    obtain ⟨A8, c8, rfl⟩ : ∃ A8 c8, v' = .slice A8 (hs.length + 1) c8 := by
                      rcases hown'.2 with ⟨h1, h2⟩ | ⟨g, cap, cur, h1, -⟩
                      · exact ⟨_, _, by rw [h1, h2]⟩
                      · exact ⟨_, _, h1⟩
                    rw [ownBlock_slice] at hgrow hblk
                    rw [ownBlock_slice] at hblk
                    have hN8' := HO.out.snoc HB.out.size (HB2.out.trans (HBn.out.mono HB2.out.size)) (own_keep' HO2.out HBn.out) hown' hgrow (hblk.imp id (fun h => h.trans (by simp)))
                    rw [← HSt.out] at hN8'
                    have HN8 := Lib.hid hN8'
                    have HB8 : Hid (Below w.heap.size w w8) := by
                      show Below _ _ _
                      have h1 := HB.out.trans ((HB2.out.trans (HBn.out.mono HB2.out.size)).mono HB.out.size)
                      exact h1.grown hgrow h1.size (fun r e => (own_block HO.out.1 (by rw [ownBlock_slice]; exact e)).1)
                    clear hown' hgrow hblk hN8' HN2 HBn
                    go_wp2
                    go_roundw
                    case rel => exact ⟨p + 1, A8, c8, _, by omega, by go_num, by first | rfl | simp, HN8.out, HB8.out⟩
                    case measure => first | (simp [intOf]; done) | (simp [intOf]; omega)
              · obtain rfl : p = b := by omega
                go_wp2
                go_ret2
                refine ⟨A1, cO, by (rw [E.out.1, E.out.2, HM.out, bwS_len, ← HHl.out]; first | done | rfl), ?_, HB.out⟩
                rw [E.out.1, HM.out]
                exact HO.out.rd icells_length
end Go.Proofs.YtfmfgpipklmecaaDoor

namespace Go.Proofs.YtfmfgpipklmecaaDoor
open Go.ChangeShapes Go.WideShapes Go.ChangeAt Go.RowKit Go.Deep

theorem nil_ownF (w : World) (b : Nat) : w.ownsRow b 2 1 (.slice none 0 0) 0 (([] : List Int).flatMap icells) := ⟨rfl, .inl ⟨rfl, rfl⟩⟩
theorem src_int (w : World) (x : Int) : Src Tryd.prog 1 23 (.slice (some ⟨w.heap.size, 0, none⟩) 1 1) 1 (icells x) (w.alloc (.cells #[.int .i64 x] 2)) := by
  have h1 : [x].flatMap icells = icells x := by simp
  have h2 : w.heap.size < (w.alloc (.cells #[.int .i64 x] 2)).heap.size := by simp
  have := src_of_rd (P := Tryd.prog) (w.alloc (.cells #[.int .i64 x] 2)) Tryd.underlying23 icells_length icells_one (c := 1) (A := some ⟨w.heap.size, 0, none⟩) (xs := [x]) (fun _ => ⟨w.heap.size, 0, rfl, h2, by
    rw [h1]
    have hK : Rs (w.alloc (.cells #[.int .i64 x] 2)) w.heap.size 2 icells [x] := by
      have := Blk.new w 2 #[Value.int .i64 x]
      simpa [Rs, icells] using this
    have := Rs.range hK
    rw [h1] at this
    exact this⟩)
  rw [h1] at this
  exact this
abbrev zgI (N : Nat) : Value := .iface 78 (.int .i64 N)
abbrev rsI (N b : Nat) : Value := .iface 82 (.agg #[zgI N, .int .i64 b])
abbrev bkI (v : Value) : Value := .iface 85 (.agg #[v])
theorem Tryd.asZ0 (n : Int) (w : World) : (Instr.typeAssert (.iface 78 (.int .i64 n)) 80 59 true).run Tryd.prog w = .ok (.tuple #[.slice none 0 0, .bool false]) w := by kernel_rfl
theorem Tryd.asZ1 (n : Int) (w : World) : (Instr.typeAssert (.iface 78 (.int .i64 n)) 80 78 true).run Tryd.prog w = .ok (.tuple #[.int .i64 n, .bool true]) w := by kernel_rfl
theorem Tryd.asR0 (v : Value) (b : Int) (w : World) : (Instr.typeAssert (.iface 82 (.agg #[v, .int .i64 b])) 80 59 true).run Tryd.prog w = .ok (.tuple #[.slice none 0 0, .bool false]) w := by kernel_rfl
theorem Tryd.asR1 (v : Value) (b : Int) (w : World) : (Instr.typeAssert (.iface 82 (.agg #[v, .int .i64 b])) 80 78 true).run Tryd.prog w = .ok (.tuple #[.int .i64 0, .bool false]) w := by kernel_rfl
theorem Tryd.asR2 (v : Value) (b : Int) (w : World) : (Instr.typeAssert (.iface 82 (.agg #[v, .int .i64 b])) 80 82 true).run Tryd.prog w = .ok (.tuple #[.agg #[v, .int .i64 b], .bool true]) w := by kernel_rfl
theorem Tryd.methZig (n : Int) (w : World) : (method 292 78 (.int .i64 n) "loop.example/g01353/impl.samples").run Tryd.prog w = .ok (76, .int .i64 n) w := by kernel_rfl

theorem samplesZ_any (N : Nat) (hN : N ≤ 8) (w : World) : Calls Tryd.prog 76 #[.int .i64 N] w fun e w' => e = .returned (.int .i64 N) ∧ w = w' := by
  have hw : IntKind.i64.wrap (N : Int) = N := IntWalk.i64_in _ ⟨by omega, by omega⟩
  have hw2 : wrap64 (N : Int) = N := IntWalk.wrap64_in _ ⟨by omega, by omega⟩
  go_enter Tryd.func76, Tryd.ntmps76
  go_wp2
  go_ret
  exact ⟨by first | rfl | simp [hw, hw2], rfl⟩
theorem atZodd_any (n k q : Int) (hk : 0 ≤ k ∧ k ≤ 100) (hq : 0 ≤ q ∧ q ≤ 100) (h1 : Int.tmod k 2 = 1) (h2 : Int.tdiv (k + 1) 2 = q) (w : World) : Calls Tryd.prog 77 #[.int .i64 n, .int .i64 k] w fun e w' => e = .returned (.int .i64 q) ∧ w = w' := by
  have u1 : IntKind.i64.wrap (k + 1) = k + 1 := IntWalk.i64_in _ ⟨by omega, by omega⟩
  have u2 : wrap64 (k + 1) = k + 1 := IntWalk.wrap64_in _ ⟨by omega, by omega⟩
  have u5 : IntKind.i64.wrap q = q := IntWalk.i64_in _ ⟨by omega, by omega⟩
  have u6 : wrap64 q = q := IntWalk.wrap64_in _ ⟨by omega, by omega⟩
  go_enter Tryd.func77, Tryd.ntmps77
  go_wp2
  go_ret
  exact ⟨by first | rfl | simp [h2, u5, u6], rfl⟩
theorem atZeven_any (n k q d z : Int) (hn : 0 < n ∧ n ≤ 100) (hk : 0 ≤ k ∧ k ≤ 100) (hq : 0 ≤ q ∧ q ≤ 100) (hz : 0 ≤ z ∧ z ≤ 100) (h1 : Int.tmod k 2 = 0) (h2 : Int.tdiv k 2 = q) (HD : Hid (n - q = d)) (h3 : Int.tmod d n = z) (w : World) : Calls Tryd.prog 77 #[.int .i64 n, .int .i64 k] w fun e w' => e = .returned (.int .i64 z) ∧ w = w' := by
  have hN0 : ¬ n = 0 := by omega
  have hNb : (n == 0) = false := by rw [beq_eq_false_iff_ne]; exact hN0
  have u3 : IntKind.i64.wrap n = n := IntWalk.i64_in _ ⟨by omega, by omega⟩
  have u4 : wrap64 n = n := IntWalk.wrap64_in _ ⟨by omega, by omega⟩
  have u5 : IntKind.i64.wrap q = q := IntWalk.i64_in _ ⟨by omega, by omega⟩
  have u6 : wrap64 q = q := IntWalk.wrap64_in _ ⟨by omega, by omega⟩
  have u7 : IntKind.i64.wrap (n - q) = d := by rw [HD.out]; have := HD.out; exact IntWalk.i64_in _ ⟨by omega, by omega⟩
  have u8 : wrap64 (n - q) = d := by rw [HD.out]; have := HD.out; exact IntWalk.wrap64_in _ ⟨by omega, by omega⟩
  have u9 : IntKind.i64.wrap z = z := IntWalk.i64_in _ ⟨by omega, by omega⟩
  have u10 : wrap64 z = z := IntWalk.wrap64_in _ ⟨by omega, by omega⟩
  go_enter Tryd.func77, Tryd.ntmps77
  go_wp2
  go_ret
  exact ⟨by first | rfl | simp [h3, u9, u10], rfl⟩
theorem atZ_any (N k : Nat) (hN : N ≤ 8) (hk : k < N) (w : World) : Calls Tryd.prog 77 #[.int .i64 N, .int .i64 k] w fun e w' => e = .returned (.int .i64 ((zgV N k : Nat) : Int)) ∧ w = w' := by
  have hz := zgV_lt hk
  by_cases h : k % 2 = 1
  · obtain ⟨h1, h2⟩ := zg_odd k h
    rw [zgV_odd h] at hz ⊢
    exact atZodd_any N k _ (by omega) (by omega) h1 h2 w
  · obtain ⟨h1, h2⟩ := zg_even k h
    exact atZeven_any N k _ _ _ (by omega) (by omega) (by omega) (by omega) h1 h2 (Lib.hid rfl) (zg_mod hk h) w

set_option maxRecDepth 100000 in
set_option maxHeartbeats 4000000 in
theorem listOfZ_any (N : Nat) (hN : N ≤ 8) (w : World) :
    Calls Tryd.prog 55 #[zgI N] w fun e w' => ∃ A' c', e = .returned (.slice A' N c') ∧ w'.ownsRow w.heap.size 2 1 (.slice A' N c') N ((zgL N N).flatMap icells) ∧ Below w.heap.size w w' := by
  obtain ⟨i0, hi, hz0, hz1, hz2⟩ := info_parts Tryd.info64
  have HI := Lib.hid hi
  have HZ0 := Lib.hid hz0
  have HZ1 := Lib.hid hz1
  have HZ2 := Lib.hid hz2
  clear hi hz0 hz1 hz2
  have a0 := Tryd.asZ0 (N : Int)
  have a1 := Tryd.asZ1 (N : Int)
  have HSa := Lib.hid (samplesZ_any N hN)
  have HO0 : Hid (w.ownsRow w.heap.size 2 1 (.slice none 0 0) 0 ((zgL N 0).flatMap icells)) := nil_ownF _ _
  go_enter Tryd.func55, Tryd.ntmps55
  go_wp2_with fail
  refine (HSa.out _).mono ?_
  rintro e w1 ⟨rfl, rfl⟩
  clear HSa
  go_wp2_with fail
  clear a0 a1
  go_loopw [3, 22] (fun v j wr => ∃ (k : Nat) (A1 : Option Addr) (c1 : Nat), k ≤ N ∧ j = .int .i64 k ∧ v = .slice A1 k c1 ∧ wr.ownsRow w.heap.size 2 1 (.slice A1 k c1) k ((zgL N k).flatMap icells) ∧ Below w.heap.size w wr)
    (fun _ j _ => N - (intOf j).toNat)
  case atStart => exact ⟨0, none, 0, by omega, rfl, rfl, HO0.out, Below.refl _ _⟩
  case round =>
    clear HO0
    obtain ⟨k, A1, c1, hk, rfl, rfl, hO, hB⟩ := hrel
    obtain ⟨wa, rfl⟩ : ∃ u, u = wr := ⟨_, rfl⟩
    have HO := Lib.hid hO
    have HB := Lib.hid hB
    clear hO hB
    have hk0 : (0 : Int) ≤ (k : Int) := Int.natCast_nonneg _
    by_cases hlt : k < N
    · have hk8 : (k : Int) < N := by omega
      have HA := Lib.hid (atZ_any N k hN hlt)
      have HSt := Lib.hid (zgL_succ N k)
      obtain ⟨z, hz⟩ : ∃ z : Int, ((zgV N k : Nat) : Int) = z := ⟨_, rfl⟩
      rw [hz] at HA HSt
      clear hz
      go_wp2_with fail
      refine (HA.out _).mono ?_
      rintro e w3 ⟨rfl, rfl⟩
      clear HA
      go_wp2_with (at_builtin; refine wpList_append_own _ rfl (.tmp 25) (.tmp 29) 23 rfl w.heap.size 2 i0 (.int .i64 0) 1 8 Tryd.underlying23 HI.out HZ0.out HZ1.out HZ2.out rfl (by decide) _ _ _ rfl (HO.out.alloc _) ⟨wa.heap.size, 0, none⟩ 1 1 [.int .i64 z] rfl rfl ?f1 ?f2 ?f3 ?f4 ?f5 ?_)
      case f1 => exact cell_one_new _ _ _
      case f2 => simp [Value.oneCell']
      case f3 => unfold maxLen; omega
      case f4 => omega
      case f5 => have := HB.out.size; simp; omega
      intro v' w8 hown' hgrow _
      have hown8 : w8.ownsRow w.heap.size 2 1 v' (k + 1) ((zgL N (k + 1)).flatMap icells) := by rw [HSt.out, List.flatMap_append]; exact hown'
      obtain ⟨A8, c8, rfl⟩ : ∃ A8 c8, v' = .slice A8 (k + 1) c8 := by
        rcases hown8.2 with ⟨h1, h2⟩ | ⟨g, cap, cur, h1, -⟩
        · exact ⟨_, _, by rw [h1, h2]⟩
        · exact ⟨_, _, h1⟩
      have HO8 := Lib.hid hown8
      have HB8 : Hid (Below w.heap.size w w8) := (HB.out.alloc HB.out.size _).grown hgrow (by have := HB.out.size; simp; omega) (fun r e => (HO.out.lt r e).1)
      clear hown' hown8 hgrow
      go_wp2
      go_roundw
      case rel => exact ⟨k + 1, A8, c8, by omega, by go_num, rfl, HO8.out, HB8.out⟩
      case measure => simp [intOf]; omega
    · obtain rfl : k = N := by omega
      go_wp2
      go_ret
      exact ⟨_, _, rfl, HO.out, HB.out⟩

set_option maxRecDepth 100000 in
set_option maxHeartbeats 8000000 in
theorem listOfR_any (N b : Nat) (hN : N ≤ 8) (hN1 : 0 < N) (hb8 : b ≤ 8) (w : World) :
    Calls Tryd.prog 55 #[rsI N b] w fun e w' => ∃ A' c', e = .returned (.slice A' N c') ∧ w'.ownsRow w.heap.size 2 1 (.slice A' N c') N ((fwR N b N).flatMap icells) ∧ Below w.heap.size w w' := by
  obtain ⟨i0, hi, hz0, hz1, hz2⟩ := info_parts Tryd.info64
  have HI := Lib.hid hi
  have HZ0 := Lib.hid hz0
  have HZ1 := Lib.hid hz1
  have HZ2 := Lib.hid hz2
  clear hi hz0 hz1 hz2
  have a0 := Tryd.asR0 (zgI N) (b : Int)
  have a1 := Tryd.asR1 (zgI N) (b : Int)
  have a2 := Tryd.asR2 (zgI N) (b : Int)
  have hBW : Below w.heap.size w (w.alloc (.cells #[zgI N, .int .i64 b] 82)) := (Below.refl _ _).alloc (Nat.le_refl _) _
  have HL := Lib.hid (listOfZ_any N hN (w.alloc (.cells #[zgI N, .int .i64 b] 82)))
  have hK := Blk.new w 82 #[zgI N, .int .i64 b]
  have HK0 : Hid ((w.alloc (.cells #[zgI N, .int .i64 b] 82)).cell? ⟨w.heap.size, 0, none⟩ = some (zgI N)) := hK.cell 0
  have HK1 : Hid ((w.alloc (.cells #[zgI N, .int .i64 b] 82)).cell? ⟨w.heap.size, 1, none⟩ = some (.int .i64 b)) := hK.cell 1
  have HBW := Lib.hid hBW
  have HSa := Lib.hid (samplesZ_any N hN)
  have hlw : w.heap.size < (w.alloc (.cells #[zgI N, .int .i64 b] 82)).heap.size := by simp
  have HLw := Lib.hid hlw
  clear hBW hK hlw
  go_enter Tryd.func55, Tryd.ntmps55
  go_wp2_with fail
  refine HL.out.mono ?_
  rintro e w1 ⟨A3, c3, rfl, hO, hb⟩
  have hRd : Rd w1 w1.heap.size icells A3 (zgL N N) := by
    have h1 : w1.ownsRow (w.alloc (.cells #[zgI N, .int .i64 b] 82)).heap.size 2 1 (.slice A3 (zgL N N).length c3) (zgL N N).length ((zgL N N).flatMap icells) := by rw [zgL_len]; exact hO
    exact own_rd2 icells_length h1
  have HRd := Lib.hid hRd
  have HC0 : Hid (w1.cell? ⟨w.heap.size, 0, none⟩ = some (zgI N)) := (hb.cell (p := ⟨w.heap.size, 0, none⟩) HLw.out).trans HK0.out
  have HC1 : Hid (w1.cell? ⟨w.heap.size, 1, none⟩ = some (.int .i64 b)) := (hb.cell (p := ⟨w.heap.size, 1, none⟩) HLw.out).trans HK1.out
  have HB1 := Lib.hid (HBW.out.trans (hb.mono HBW.out.size))
  have HLw1 : Hid (w.heap.size < w1.heap.size) := Nat.lt_of_lt_of_le HLw.out hb.size
  have HO0 : Hid (w1.ownsRow w1.heap.size 2 1 (.slice none 0 0) 0 ((fwR N b 0).flatMap icells)) := nil_ownF _ _
  clear hO hb hRd HL HK0 HK1 HBW HLw
  go_wp2_with fail
  clear a0 a1 a2
  go_loopw [3, 39] (fun v j wr => ∃ (k : Nat) (A1 : Option Addr) (c1 : Nat), k ≤ N ∧ j = .int .i64 k ∧ v = .slice A1 k c1 ∧ wr.ownsRow w1.heap.size 2 1 (.slice A1 k c1) k ((fwR N b k).flatMap icells) ∧ Below w1.heap.size w1 wr)
    (fun _ j _ => N - (intOf j).toNat)
  case atStart => exact ⟨0, none, 0, by omega, rfl, rfl, HO0.out, Below.refl _ _⟩
  case round =>
    clear HO0
    obtain ⟨k, A1, c1, hk, rfl, rfl, hO, hB⟩ := hrel
    obtain ⟨wa, rfl⟩ : ∃ u, u = wr := ⟨_, rfl⟩
    have hk0 : (0 : Int) ≤ (k : Int) := Int.natCast_nonneg _
    by_cases hlt : k < N
    · have hk8 : (k : Int) < N := by omega
      obtain ⟨b3, o3, rfl, hbl, hrow⟩ := (HRd.out.keep hB).at_ icells_length (zgL_at hlt)
      have e1 := rowI hrow
      have HSt := Lib.hid (fwR_succ N b k)
      have hz := zgV_lt hlt
      have hf := fwV_lt (b := b) (k := k) hN1
      have hm := fw_mod N b k
      obtain ⟨z, hz2⟩ : ∃ z : Nat, zgV N k = z := ⟨_, rfl⟩
      obtain ⟨f, hf2⟩ : ∃ f : Nat, fwV N b k = f := ⟨_, rfl⟩
      rw [hz2] at e1 hz hm
      rw [hf2] at HSt hf hm
      obtain ⟨s, hs⟩ : ∃ s : Int, (z : Int) + (b : Int) = s := ⟨_, rfl⟩
      rw [hs] at hm
      have hN0 : ¬ (N : Int) = 0 := by omega
      have hNb : ((N : Int) == 0) = false := by rw [beq_eq_false_iff_ne]; exact hN0
      have U1 : Hid (IntKind.i64.wrap ((z : Int) + (b : Int)) = s) := by show _ = _; rw [hs]; exact IntWalk.i64_in _ ⟨by omega, by omega⟩
      have U2 : Hid (wrap64 ((z : Int) + (b : Int)) = s) := by show _ = _; rw [hs]; exact IntWalk.wrap64_in _ ⟨by omega, by omega⟩
      have U3 : Hid (IntKind.i64.wrap (f : Int) = f) := IntWalk.i64_in _ ⟨by omega, by omega⟩
      have U4 : Hid (wrap64 (f : Int) = f) := IntWalk.wrap64_in _ ⟨by omega, by omega⟩
      have HM := Lib.hid hm
      obtain ⟨wd, hwd⟩ : ∃ wd, wa.drew = wd := ⟨_, rfl⟩
      have HOd : Hid (wd.ownsRow w1.heap.size 2 1 (.slice A1 k c1) k ((fwR N b k).flatMap icells)) := by show World.ownsRow _ _ _ _ _ _ _; rw [← hwd]; exact hO.drew
      have HBd : Hid (Below w1.heap.size w1 wd) := by show Below _ _ _; rw [← hwd]; exact hB.drew
      have WD := Lib.hid hwd
      have e2 := (HBd.out.cell (p := ⟨w.heap.size, 0, none⟩) HLw1.out).trans HC0.out
      clear hwd hO hB hrow hs hz2 hf2 hm
      have mz := Tryd.methZig (N : Int)
      go_wp2_with fail
      refine wp_region_held_drew (S := fun w' => Below w1.heap.size w1 w') (by kernel_rfl) (by rw [WD.out]; exact HBd.out) (fun hHeld => ?_)
      refine wpAnyH_take (i := 0) (v := .slice A1 k c1) rfl (by kernel_rfl) (by kernel_rfl) (by kernel_rfl) (fun _ _ _ h => h) (Or.inl ⟨by rfl, fun w' h => by go_simp⟩) (by assumption) ?_
      try simp only [Act.put, List.getElem_toArray, List.getElem_cons_zero, List.getElem_cons_succ, List.setIfInBounds_toArray, List.set_cons_zero, List.set_cons_succ]
      refine wpAnyH_take (i := 1) (v := .int .i64 z) rfl (by kernel_rfl) (by kernel_rfl) (by kernel_rfl) (fun _ _ _ h => h) (Or.inl ⟨by rfl, fun w' h => by go_simp⟩) (by assumption) ?_
      try simp only [Act.put, List.getElem_toArray, List.getElem_cons_zero, List.getElem_cons_succ, List.setIfInBounds_toArray, List.set_cons_zero, List.set_cons_succ]
      refine wpAnyH_take (i := 2) (v := .pointer (some ⟨w.heap.size, 1, none⟩)) rfl (by kernel_rfl) (by kernel_rfl) (by kernel_rfl) (fun _ _ _ h => h) (Or.inl ⟨by rfl, fun w' h => by go_simp⟩) (by assumption) ?_
      try simp only [Act.put, List.getElem_toArray, List.getElem_cons_zero, List.getElem_cons_succ, List.setIfInBounds_toArray, List.set_cons_zero, List.set_cons_succ]
      refine wpAnyH_take (i := 3) (v := .int .i64 b) rfl (by kernel_rfl) (by kernel_rfl) (by kernel_rfl) (fun _ _ _ h => h) (Or.inl ⟨by rfl, fun w' h => by have q9 : w'.cell? ⟨w.heap.size, 1, none⟩ = some (.int .i64 b) := (h.cell (p := ⟨w.heap.size, 1, none⟩) HLw1.out).trans HC1.out; go_simp⟩) (by assumption) ?_
      try simp only [Act.put, List.getElem_toArray, List.getElem_cons_zero, List.getElem_cons_succ, List.setIfInBounds_toArray, List.set_cons_zero, List.set_cons_succ]
      refine wpAnyH_take (i := 4) (v := .int .i64 s) rfl (by kernel_rfl) (by kernel_rfl) (by kernel_rfl) (fun _ _ _ h => h) (Or.inl ⟨by rfl, fun w' h => by (have u1 := U1.out; have u2 := U2.out; go_simp)⟩) (by assumption) ?_
      try simp only [Act.put, List.getElem_toArray, List.getElem_cons_zero, List.getElem_cons_succ, List.setIfInBounds_toArray, List.set_cons_zero, List.set_cons_succ]
      refine wpAnyH_take (i := 5) (v := .pointer (some ⟨w.heap.size, 0, none⟩)) rfl (by kernel_rfl) (by kernel_rfl) (by kernel_rfl) (fun _ _ _ h => h) (Or.inl ⟨by rfl, fun w' h => by go_simp⟩) (by assumption) ?_
      try simp only [Act.put, List.getElem_toArray, List.getElem_cons_zero, List.getElem_cons_succ, List.setIfInBounds_toArray, List.set_cons_zero, List.set_cons_succ]
      refine wpAnyH_take (i := 6) (v := zgI N) rfl (by kernel_rfl) (by kernel_rfl) (by kernel_rfl) (fun _ _ _ h => h) (Or.inl ⟨by rfl, fun w' h => by have q9 : w'.cell? ⟨w.heap.size, 0, none⟩ = some (zgI N) := (h.cell (p := ⟨w.heap.size, 0, none⟩) HLw1.out).trans HC0.out; go_simp⟩) (by assumption) ?_
      try simp only [Act.put, List.getElem_toArray, List.getElem_cons_zero, List.getElem_cons_succ, List.setIfInBounds_toArray, List.set_cons_zero, List.set_cons_succ]
      rw [WD.out] at hHeld ⊢
      refine wpAnyH_ready (rs := [7]) (by kernel_rfl) (by simp) ?_
      refine AllReadyH.cons rfl (fun K hK => ?_) AllReadyH.nil
      refine if_wanted rfl ?_
      go_simp
      refine (HSa.out _).mono ?_
      rintro e w3 ⟨rfl, rfl⟩
      dsimp only
      refine hK.out _ _ hHeld (fun hHeld => ?_)
      clear hK K
      try simp only [Act.put, List.getElem_toArray, List.getElem_cons_zero, List.getElem_cons_succ, List.setIfInBounds_toArray, List.set_cons_zero, List.set_cons_succ]
      refine wpAnyH_take (i := 8) (v := .int .i64 f) rfl (by kernel_rfl) (by kernel_rfl) (by kernel_rfl) (fun _ _ _ h => h) (Or.inl ⟨by rfl, fun w' h => by (have m1 := HM.out; have u3 := U3.out; have u4 := U4.out; go_simp <;> omega)⟩) (by assumption) ?_
      try simp only [Act.put, List.getElem_toArray, List.getElem_cons_zero, List.getElem_cons_succ, List.setIfInBounds_toArray, List.set_cons_zero, List.set_cons_succ]
      refine wpAnyH_ready (rs := [9]) (by kernel_rfl) (by simp) ?_
      refine AllReadyH.cons rfl (fun K hK => ?_) AllReadyH.nil
      refine if_wanted rfl ?_
      go_simp
      refine hK.out _ _ (HBd.out.alloc HBd.out.size _) (fun hHeld => ?_)
      clear hK K hHeld
      try simp only [Act.put, List.getElem_toArray, List.getElem_cons_zero, List.getElem_cons_succ, List.setIfInBounds_toArray, List.set_cons_zero, List.set_cons_succ]
      refine wpAnyH_ready (rs := [10]) (by kernel_rfl) (by simp) ?_
      refine AllReadyH.cons rfl (fun K hK => ?_) AllReadyH.nil
      refine if_wanted rfl (wp_append_any _ (.tmp 43) (.tmp 52) 23 23 rfl w1.heap.size 2 i0 (.int .i64 0) 1 8 Tryd.underlying23 HI.out HZ0.out HZ1.out HZ2.out rfl (by decide) _ k _ rfl (HOd.out.alloc _) _ 1 (icells f) rfl ?c2 ?c3 ?c4 ?c5 ?_)
      case c2 => exact src_int wd f
      case c3 => unfold maxLen; omega
      case c4 => omega
      case c5 => have := HBd.out.size; simp; omega
      intro v' w4 hown' hgrow _
      have hown4 : w4.ownsRow w1.heap.size 2 1 v' (k + 1) ((fwR N b (k + 1)).flatMap icells) := by rw [HSt.out, List.flatMap_append]; exact hown'
      have hB4 : Below w1.heap.size w1 w4 := (HBd.out.alloc HBd.out.size _).grown hgrow (by have := HBd.out.size; simp; omega) (fun r e => (HOd.out.lt r e).1)
      obtain ⟨A8, c8, rfl⟩ : ∃ A8 c8, v' = .slice A8 (k + 1) c8 := by
        rcases hown4.2 with ⟨h1, h2⟩ | ⟨g, cap, cur, h1, -⟩
        · exact ⟨_, _, by rw [h1, h2]⟩
        · exact ⟨_, _, h1⟩
      refine hK.out _ _ hB4 (fun hHeld => ?_)
      clear hK K
      try simp only [Act.put, List.getElem_toArray, List.getElem_cons_zero, List.getElem_cons_succ, List.setIfInBounds_toArray, List.set_cons_zero, List.set_cons_succ]
      refine wpAnyH_ready (rs := [11]) (by kernel_rfl) (by simp) ?_
      refine AllReadyH.cons rfl (fun K hK => ?_) AllReadyH.nil
      refine if_wanted rfl ?_
      refine wp_assign0 (v := .slice A8 (k + 1) c8) rfl rfl ?_
      refine hK.out _ _ hHeld (fun hHeld => ?_)
      clear hK K
      try simp only [Act.put, List.getElem_toArray, List.getElem_cons_zero, List.getElem_cons_succ, List.setIfInBounds_toArray, List.set_cons_zero, List.set_cons_succ]
      refine wpAnyH_done (by kernel_rfl) ?_ _
      try simp only [Act.put, List.getElem_toArray, List.getElem_cons_zero, List.getElem_cons_succ, List.setIfInBounds_toArray, List.set_cons_zero, List.set_cons_succ]
      clear hHeld
      have HO4 := Lib.hid hown4
      have HB4 := Lib.hid hB4
      clear hown' hown4 hgrow hB4
      go_wp2
      go_roundw
      case rel => exact ⟨k + 1, A8, c8, by omega, by go_num, rfl, HO4.out, HB4.out⟩
      case measure => simp [intOf]; omega
    · obtain rfl : k = N := by omega
      have HB9 := Lib.hid (HB1.out.trans (hB.mono HB1.out.size))
      have HO9 := Lib.hid (own_base hO HB1.out.size)
      clear hO hB
      go_wp2
      go_ret
      exact ⟨_, _, rfl, HO9.out, HB9.out⟩

set_option maxRecDepth 100000 in
set_option maxHeartbeats 4000000 in
theorem listOfBR_any (N b : Nat) (hN : N ≤ 8) (hN1 : 0 < N) (hb8 : b ≤ 8) (w : World) :
    Calls Tryd.prog 55 #[bkI (rsI N b)] w fun e w' => ∃ A' c', e = .returned (.slice A' N c') ∧ w'.ownsRow w.heap.size 2 1 (.slice A' N c') N ((fwR N b N).reverse.flatMap icells) ∧ Below w.heap.size w w' := by
  have b0 := Tryd.asB0 (rsI N b)
  have b1 := Tryd.asB1 (rsI N b)
  have b2 := Tryd.asB2 (rsI N b)
  have b3 := Tryd.asB3 (rsI N b)
  have hB1 : Below w.heap.size w (w.alloc (.cells #[rsI N b] 85)) := (Below.refl _ _).alloc (Nat.le_refl _) _
  have HC := Lib.hid (listOfR_any N b hN hN1 hb8 (w.alloc (.cells #[rsI N b] 85)))
  have HB1 := Lib.hid hB1
  have HLr : Hid ((fwR N b N).reverse.length = N) := by show _ = _; rw [List.length_reverse, fwR_len]
  have HLf : Hid ((fwR N b N).length = N) := fwR_len N b N
  clear hB1
  go_enter Tryd.func55, Tryd.ntmps55
  go_wp2_with fail
  refine HC.out.mono ?_
  rintro e w1 ⟨A', c', rfl, hO, hb⟩
  have HB2 := Lib.hid (HB1.out.trans (hb.mono HB1.out.size))
  have hO' : w1.ownsRow (w.alloc (.cells #[rsI N b] 85)).heap.size 2 1 (.slice A' N c') (fwR N b N).length ((fwR N b N).flatMap icells) := by rw [HLf.out]; exact hO
  rcases OI.of hO' with ⟨-, hn⟩ | ⟨g, cap, hv, hbg, hOI⟩
  · have := congrArg List.length hn
    rw [HLf.out] at this
    simp at this; omega
  rw [HLf.out] at hv
  simp only [Value.slice.injEq, true_and] at hv
  obtain ⟨rfl, rfl⟩ := hv
  have hbg2 : w.heap.size ≤ g := Nat.le_trans HB1.out.size hbg
  have HRv := Lib.hid (reverseI_any (fwR N b N) (by rw [fwR_len]; exact hN1) (by rw [fwR_len]; exact hN) g c' w.heap.size hbg2 w1 hOI)
  rw [HLf.out] at HRv
  clear hO hO' hb HC hOI hbg b0 b1 b2 b3
  go_wp2_with fail
  refine HRv.out.mono ?_
  rintro e w2 ⟨⟨v, rfl⟩, hOI, hb⟩
  have HO2 := Lib.hid (hOI.own hbg2)
  have HB3 := Lib.hid (HB2.out.trans hb)
  clear hOI hb HRv
  rw [HLr.out] at HO2
  go_wp2
  go_ret
  exact ⟨some ⟨g, 0, none⟩, c', rfl, HO2.out, HB3.out⟩
end Go.Proofs.YtfmfgpipklmecaaDoor

namespace Go.Proofs.YtfmfgpipklmecaaDoor
open Go.ChangeShapes Go.WideShapes Go.ChangeAt Go.RowKit Go.Deep

/-- The servings one after another: raised ones, and the same backward. -/
def svI (N i : Nat) : Value := if i < N then rsI N i else bkI (rsI N (i - N))
def sc (N i : Nat) : List Value := [svI N i]
theorem sc_length (N i : Nat) : (sc N i).length = 1 := rfl
theorem svI_one (N i : Nat) : (svI N i).oneCell' = true := by unfold svI; split <;> rfl
theorem sc_one (N i : Nat) : (sc N i).toArray.all (·.oneCell') = true := by simp [sc, svI_one]
theorem svI_lo {N i : Nat} (h : i < N) : svI N i = rsI N i := by rw [svI, if_pos h]
theorem svI_hi (N i : Nat) : svI N (N + i) = bkI (rsI N i) := by rw [svI, if_neg (by omega), Nat.add_sub_cancel_left]
def rwF (N i : Nat) : List Int := if i < N then fwR N i N else (fwR N (i - N) N).reverse
theorem rwF_len (N i : Nat) : (rwF N i).length = N := by
  unfold rwF; split
  · exact fwR_len N i N
  · rw [List.length_reverse, fwR_len]
def rwS (N t : Nat) : List (List Int) := (List.range t).map (rwF N)
theorem rwS_succ (N t : Nat) : rwS N (t + 1) = rwS N t ++ [rwF N t] := by simp [rwS, List.range_succ]
theorem rwS_len (N t : Nat) : (rwS N t).length = t := by simp [rwS]
theorem rwS_lo (N : Nat) : rwS N N = fwS N N := by
  unfold rwS fwS
  refine List.map_congr_left fun i hi => ?_
  rw [rwF, if_pos (List.mem_range.1 hi)]
theorem rwS_hi (N : Nat) : ∀ k, rwS N (N + k) = bwS N k
  | 0 => by rw [Nat.add_zero, rwS_lo, bwS_zero]
  | k + 1 => by
    rw [← Nat.add_assoc, rwS_succ, rwS_hi N k, bwS_succ, rwF, if_neg (by omega), Nat.add_sub_cancel_left]
def fdM (N : Nat) : Nat := if fdB N = true then N + N else N
theorem fdL_rw (N : Nat) : fdL N = rwS N (fdM N) := by
  unfold fdL fdM
  split
  · rw [rwS_hi]
  · rw [rwS_lo]
theorem Tryd.infoSv : (Tryd.prog.info? 80).map (fun i => (i.zero, i.size, i.bytes)) = some (some .nilIface, 1, 16) := by kernel_rfl
theorem range_at {M i : Nat} (h : i < M) : (List.range M)[i]? = some i := by simp [h]
theorem cell_grown {w w1 : World} {row : Option Nat} {B j : Nat} {v : Value} (hg : w.grownBy w1 row) (hlt : B < w.heap.size) (hne : row ≠ some B) (hc : w.cell? ⟨B, j, none⟩ = some v) : w1.cell? ⟨B, j, none⟩ = some v := by
  have := hg.block B hlt (fun e => hne e.symm)
  simp only [World.cell?] at hc ⊢
  rw [this]; exact hc
theorem cell_one_v (W : World) (v : Value) (hv : v.oneCell' = true) (t : TypeId) : ∀ j u, [v][j]? = some u → (W.alloc (.cells #[v] t)).cell? ((⟨W.heap.size, 0, none⟩ : Addr).add j) = some u := by
  intro j u hj
  match j, hj with
  | 0, hj => simp at hj; subst hj; simp [Addr.add]

theorem listOfE_any (N i : Nat) (hN : N ≤ 8) (hN1 : 0 < N) (hi : i < N + N) (w : World) :
    Calls Tryd.prog 55 #[svI N i] w fun e w' => ∃ A' c', e = .returned (.slice A' N c') ∧ w'.ownsRow w.heap.size 2 1 (.slice A' N c') N ((rwF N i).flatMap icells) ∧ Below w.heap.size w w' := by
  by_cases h : i < N
  · rw [svI_lo h, rwF, if_pos h]
    exact listOfR_any N i hN hN1 (by omega) w
  · obtain ⟨k, rfl⟩ : ∃ k, i = N + k := ⟨i - N, by omega⟩
    rw [svI_hi, rwF, if_neg h, Nat.add_sub_cancel_left]
    exact listOfBR_any N k hN hN1 (by omega) w

set_option maxRecDepth 100000 in
set_option maxHeartbeats 1000000 in
theorem cloneSv_any (N M : Nat) (h0 : 0 < M) (hM : M ≤ 16) (A : Option Addr) (c : Nat) (w : World) (hr : Rd w w.heap.size (sc N) A (List.range M)) :
    Calls Tryd.prog 54 #[.slice A M c] w fun e w' => ∃ g c', e = .returned (.slice (some ⟨g, 0, none⟩) M c') ∧ w.heap.size ≤ g ∧ g < w'.heap.size ∧ (∀ j, j < M → w'.cell? ⟨g, j, none⟩ = some (svI N j)) ∧ Below w.heap.size w w' := by
  obtain ⟨i0, hi, hz0, hz1, hz2⟩ := info_parts Tryd.infoSv
  have HI := Lib.hid hi
  have HZ0 := Lib.hid hz0
  have HZ1 := Lib.hid hz1
  have HZ2 := Lib.hid hz2
  clear hi hz0 hz1 hz2
  have HR := Lib.hid hr
  obtain ⟨b0, o0, rfl, -, -⟩ := hr (by rw [List.length_range]; exact h0)
  clear hr
  have hnil : ∀ w : World, (binOp .eql 77 (.slice (some ⟨b0, o0, none⟩) M c) (.slice none 0 0)).run Tryd.prog w = .ok (.bool false) w := fun w => Lib.run_eql_slice_nil (P := Tryd.prog) w 77 80 (some ⟨b0, o0, none⟩) M c 0 0 Tryd.underlying77
  go_enter Tryd.func54, Tryd.ntmps54
  go_wp2_with (at_builtin; refine wpList_append_any _ rfl (.tmp 5) (.tmp 6) 77 77 rfl w.heap.size 80 i0 .nilIface 1 16 Tryd.underlying77 HI.out HZ0.out HZ1.out HZ2.out rfl (by decide) _ 0 [] rfl ?own _ M ((List.range M).flatMap (sc N)) rfl ?src ?c3 ?c4 ?c5 ?_)
  case own => exact ⟨by simp, .inr ⟨w.heap.size, 0, #[], rfl, Nat.le_refl _, heap_alloc_new w _, Nat.le_refl _, by unfold maxLen; omega, by simp, by simp⟩⟩
  case src =>
    have := src_of_rd (P := Tryd.prog) (w.alloc (.cells #[] 80)) Tryd.underlying77 (sc_length N) (sc_one N) (HR.out.keep ((Below.refl _ w).alloc (Nat.le_refl _) _)) (c := c)
    rw [List.length_range] at this
    exact this
  case c3 => unfold maxLen; omega
  case c4 => omega
  case c5 => simp
  intro v' w2 hown hg _
  have hB : Below w.heap.size w w2 := ((Below.refl _ w).alloc (Nat.le_refl _) _).grown hg (by simp) (fun k e => by
    have e2 : w.heap.size = k := by simpa [Value.ownBlock] using e
    omega)
  have hown2 : w2.ownsRow w.heap.size 80 1 v' M ((List.range M).flatMap (sc N)) := by simpa using hown
  obtain ⟨g, c', rfl, hgb, hgl, hcl⟩ : ∃ g c', v' = .slice (some ⟨g, 0, none⟩) M c' ∧ w.heap.size ≤ g ∧ g < w2.heap.size ∧ ∀ j, j < M → w2.cell? ⟨g, j, none⟩ = some (svI N j) := by
    have h2 := hown2
    rcases hown2.2 with ⟨-, h0'⟩ | ⟨g, cap, cur, h1, h3, h4, -⟩
    · omega
    · refine ⟨g, cap, h1, h3, (Array.getElem?_eq_some_iff.1 h4).1, fun j hj => ?_⟩
      subst h1
      have hfl : (List.range M).flatMap (sc N) = (List.range M).map (svI N) := by
        generalize List.range M = l
        induction l with
        | nil => rfl
        | cons a l ih => rw [List.flatMap_cons, ih]; rfl
      rw [h2.cellAt j (by omega), hfl, List.getElem?_map, range_at hj]; rfl
  have HG := Lib.hid hgb
  have HL := Lib.hid hgl
  have HC := Lib.hid hcl
  have HB := Lib.hid hB
  clear hown hown2 hg hB hnil hgb hgl hcl
  go_wp2
  go_ret
  exact ⟨g, c', rfl, HG.out, HL.out, HC.out, HB.out⟩

set_option maxRecDepth 100000 in
set_option maxHeartbeats 8000000 in
theorem implFollowOrders_any (n : Int) (ad : Nat → Addr) (w : World) (hE : EW 5 w ad) :
    Calls Tryd.prog 25 #[.int .i64 n] w fun e w' => ∃ A' c' hs, e = .returned (.tuple #[.slice A' (fdA n).length c', .int .i64 (fdC n)]) ∧ OwnN w' w.heap.size 23 2 1 icells A' c' hs (fdA n) ∧ Below w.heap.size w w' := by
  obtain ⟨i0, hi, hz0, hz1, hz2⟩ := info_parts Tryd.infoSv
  have HI := Lib.hid hi
  have HZ0 := Lib.hid hz0
  have HZ1 := Lib.hid hz1
  have HZ2 := Lib.hid hz2
  obtain ⟨j0, hj, hy0, hy1, hy2⟩ := info_parts Tryd.infoLN
  have HJ := Lib.hid hj
  have HY0 := Lib.hid hy0
  have HY1 := Lib.hid hy1
  have HY2 := Lib.hid hy2
  clear hi hz0 hz1 hz2 hj hy0 hy1 hy2
  have HE := Lib.hid hE
  have HCs := Lib.hid (checkSamples_any n ad w (hE.cell 0 (by omega)))
  rw [show (decide (1 ≤ n) && decide (n ≤ 8)) = wi 1 8 n from rfl] at HCs
  clear hE
  go_enter Tryd.func25, Tryd.ntmps25
  go_wp2_with fail
  refine HCs.out.mono ?_
  rintro e w1 ⟨rfl, rfl⟩
  clear HCs
  cases h0 : wi 1 8 n
  · have E := Lib.hid (fd_no h0)
    rw [chk_no, erO_some]
    clear h0
    go_wp2_with fail
    refine (codeOf_0 HE.out).mono ?_
    rintro e w4 ⟨rfl, rfl⟩
    go_wp2
    go_ret2
    refine ⟨none, 0, [], by (rw [E.out.1, E.out.2]; first | done | rfl), ?_, Below.refl _ _⟩
    rw [E.out.1]
    exact OwnN.nil _ _ _ _ _ _
  have E := Lib.hid (fd_yes h0)
  have hn := wi_iff.1 h0
  rw [chk_yes, erO_none]
  obtain ⟨N, hN⟩ : ∃ N : Nat, n.toNat = N := ⟨_, rfl⟩
  have hnN : n = (N : Int) := by omega
  rw [hN] at E
  subst hnN
  have hN8 : N ≤ 8 := by omega
  have hN1 : 0 < N := by omega
  have HO0 : Hid (w.ownsRow w.heap.size 80 1 (.slice none 0 0) 0 ((List.range 0).flatMap (sc N))) := ⟨rfl, .inl ⟨rfl, rfl⟩⟩
  clear h0 hN
  go_wp2_with fail
  go_loopw [5, 19] (fun v j wr => ∃ (k : Nat) (A1 : Option Addr) (c1 : Nat), k ≤ N ∧ j = .int .i64 k ∧ v = .slice A1 k c1 ∧ wr.ownsRow w.heap.size 80 1 (.slice A1 k c1) k ((List.range k).flatMap (sc N)) ∧ Below w.heap.size w wr)
    (fun _ j _ => N - (intOf j).toNat)
  case atStart => exact ⟨0, none, 0, by omega, rfl, rfl, HO0.out, Below.refl _ _⟩
  case round =>
    clear HO0
    obtain ⟨k, A1, c1, hk, rfl, rfl, hO, hB⟩ := hrel
    obtain ⟨wa, rfl⟩ : ∃ u, u = wr := ⟨_, rfl⟩
    have HO := Lib.hid hO
    have HB := Lib.hid hB
    clear hO hB
    have hk0 : (0 : Int) ≤ (k : Int) := Int.natCast_nonneg _
    by_cases hlt : k < N
    · have hk8 : (k : Int) < N := by omega
      have HSt : Hid ((List.range (k + 1)).flatMap (sc N) = (List.range k).flatMap (sc N) ++ [rsI N k]) := by
        show _ = _
        rw [List.range_succ, List.flatMap_append]
        congr 1
        show sc N k ++ [] = _
        rw [sc, svI_lo hlt]; rfl
      go_wp2_with (at_builtin; refine wpList_append_own _ rfl (.tmp 22) (.tmp 28) 77 rfl w.heap.size 80 i0 .nilIface 1 16 Tryd.underlying77 HI.out HZ0.out HZ1.out HZ2.out rfl (by decide) _ _ _ rfl (HO.out.alloc _) ⟨wa.heap.size, 0, none⟩ 1 1 [rsI N k] rfl rfl ?f1 ?f2 ?f3 ?f4 ?f5 ?_)
      case f1 => exact cell_one_v _ _ rfl _
      case f2 => simp [Value.oneCell']
      case f3 => unfold maxLen; omega
      case f4 => omega
      case f5 => have := HB.out.size; simp; omega
      intro v' w8 hown' hgrow _
      have hown8 : w8.ownsRow w.heap.size 80 1 v' (k + 1) ((List.range (k + 1)).flatMap (sc N)) := by rw [HSt.out]; exact hown'
      obtain ⟨A8, c8, rfl⟩ : ∃ A8 c8, v' = .slice A8 (k + 1) c8 := by
        rcases hown8.2 with ⟨h1, h2⟩ | ⟨g, cap, cur, h1, -⟩
        · exact ⟨_, _, by rw [h1, h2]⟩
        · exact ⟨_, _, h1⟩
      have HO8 := Lib.hid hown8
      have HB8 : Hid (Below w.heap.size w w8) := (HB.out.alloc HB.out.size _).grown hgrow (by have := HB.out.size; simp; omega) (fun r e => (HO.out.lt r e).1)
      clear hown' hown8 hgrow
      go_wp2
      go_roundw
      case rel => exact ⟨k + 1, A8, c8, by omega, by go_num, rfl, HO8.out, HB8.out⟩
      case measure => simp [intOf]; omega
    · obtain rfl : k = N := by omega
      cases hB2 : fdB k
      · have HM : Hid (fdL k = rwS k k) := by show _ = _; rw [fdL_rw, fdM, hB2]; rfl
        have HOm := Lib.hid HO.out
        have HBm := Lib.hid HB.out
        by_cases hodd : k % 2 = 1
        · have h1k : ¬ (1 : Int) < (k : Int) := by
            simp only [fdB, Bool.and_eq_false_iff, decide_eq_false_iff_not] at hB2
            omega
          have t1 := (zg_odd k hodd).1
          clear hB2 hodd
          have hRm : Rd wa wa.heap.size (sc k) A1 (List.range k) := by
            have h1 : wa.ownsRow w.heap.size 80 1 (.slice A1 (List.range k).length c1) (List.range k).length ((List.range k).flatMap (sc k)) := by rw [List.length_range]; exact HOm.out
            exact own_rd2 (sc_length k) h1
          have HRm := Lib.hid hRm
          have HN0 : Hid (OwnN wa wa.heap.size 23 2 1 icells none 0 [] (rwS k 0)) := OwnN.nil _ _ _ _ _ _
          clear hRm
          go_wp2_with fail
          clear t1
          go_loopw [9, 54] (fun v j wr => ∃ (t : Nat) (A5 : Option Addr) (c5 : Nat) (hs : List Hd), t ≤ k ∧ j = .int .i64 t ∧ v = .slice A5 hs.length c5 ∧ OwnN wr wa.heap.size 23 2 1 icells A5 c5 hs (rwS k t) ∧ Below wa.heap.size wa wr)
            (fun _ j _ => k - (intOf j).toNat)
          case atStart => exact ⟨0, none, 0, [], by omega, rfl, rfl, HN0.out, Below.refl _ _⟩
          case round =>
            clear HN0
            obtain ⟨t, A5, c5, hs, ht, rfl, rfl, hO, hB⟩ := hrel
            obtain ⟨wd, rfl⟩ : ∃ u, u = wr := ⟨_, rfl⟩
            have HHl : Hid (hs.length = t) := hO.2.1.trans (rwS_len k t)
            have HO5 := Lib.hid hO
            have HB5 := Lib.hid hB
            have ht0 : (0 : Int) ≤ (t : Int) := Int.natCast_nonneg _
            by_cases hlt5 : t < k
            · have ht8 : (t : Int) < k := by omega
              have hHl : hs.length ≤ 16 := by have := HHl.out; omega
              obtain ⟨b3, o3, rfl, hbl, hrow⟩ := (HRm.out.keep hB).at_ (sc_length k) (range_at hlt5)
              have e1 : wd.cell? ⟨b3, o3 + t, none⟩ = some (svI k t) := by have := hrow 0 (svI k t) rfl; simpa using this
              have HL := Lib.hid (listOfE_any k t hN8 hN1 (by omega) wd)
              have HSt := Lib.hid (rwS_succ k t)
              have hyl := rwF_len k t
              obtain ⟨sv, hsv⟩ : ∃ sv, svI k t = sv := ⟨_, rfl⟩
              obtain ⟨ys, hys⟩ : ∃ ys, rwF k t = ys := ⟨_, rfl⟩
              rw [hsv] at e1 HL
              rw [hys] at HL HSt hyl
              have HYl := Lib.hid hyl
              have HO1 : Hid (sv.oneCell' = true) := by show _ = _; rw [← hsv]; exact svI_one _ _
              clear hrow hO hB hsv hys hyl
              have ho1 := HO1.out
              go_wp2_with fail
              refine HL.out.mono ?_
              rintro e w6 ⟨A6, c6, rfl, hO6, hb6⟩
              have HBn : Hid (Below w6.heap.size w6 (w6.alloc (.cells (hcells (A6, ys.length, c6)).toArray 23))) := (Below.refl _ _).alloc (Nat.le_refl _) _
              have HO9 : Hid (w6.ownsRow wd.heap.size 2 1 (.slice A6 ys.length c6) ys.length (ys.flatMap icells)) := by show World.ownsRow _ _ _ _ _ _ _; rw [HYl.out]; exact hO6
              have HB6 := Lib.hid hb6
              have HN2 := Lib.hid (HO5.out.keep hb6)
              have HSr := Lib.hid (src_hd (P := Tryd.prog) Tryd.underlying22 w6 (A6, ys.length, c6))
              have HBs : Hid (wa.heap.size ≤ w6.heap.size + 1) := by have := HB5.out.size; have := hb6.size; show _ ≤ _; omega
              rw [show (Value.slice A6 k c6) = Value.slice A6 ys.length c6 from by rw [HYl.out]]
              clear hO6 hb6 HL e1
              go_wp2_with (at_builtin; refine wpList_append_any _ rfl (.tmp 58) (.tmp 61) 22 22 rfl wa.heap.size 23 j0 (.slice none 0 0) 1 24 Tryd.underlying22 HJ.out HY0.out HY1.out HY2.out rfl (by decide) _ hs.length (hs.flatMap hcells) rfl ?o1 _ 1 (hcells (A6, ys.length, c6)) rfl ?o2 ?o3 ?o4 ?o5 ?_)
              case o1 => exact (HN2.out.keep HBn.out).1
              case o2 => exact HSr.out
              case o3 => unfold maxLen; omega
              case o4 => omega
              case o5 => have := HBs.out; simp; omega
              intro v' w8 hown' hgrow hblk
              obtain ⟨A8, c8, rfl⟩ : ∃ A8 c8, v' = .slice A8 (hs.length + 1) c8 := by
                rcases hown'.2 with ⟨h1, h2⟩ | ⟨g, cap, cur, h1, -⟩
                · exact ⟨_, _, by rw [h1, h2]⟩
                · exact ⟨_, _, h1⟩
              rw [ownBlock_slice] at hgrow hblk
              rw [ownBlock_slice] at hblk
              have hN8' := HO5.out.snoc HB5.out.size (HB6.out.trans (HBn.out.mono HB6.out.size)) (own_keep' HO9.out HBn.out) hown' hgrow (hblk.imp id (fun h => h.trans (by simp)))
              rw [← HSt.out] at hN8'
              have HN8 := Lib.hid hN8'
              have HB8 : Hid (Below wa.heap.size wa w8) := by
                show Below _ _ _
                have h1 := HB5.out.trans ((HB6.out.trans (HBn.out.mono HB6.out.size)).mono HB5.out.size)
                exact h1.grown hgrow h1.size (fun r e => (own_block HO5.out.1 (by rw [ownBlock_slice]; exact e)).1)
              clear hown' hgrow hblk hN8' HN2 HBn
              go_wp2
              go_roundw
              case rel => exact ⟨t + 1, A8, c8, _, by omega, by go_num, by first | rfl | simp, HN8.out, HB8.out⟩
              case measure => simp [intOf]; omega
            · obtain rfl : t = k := by omega
              have HB9 := Lib.hid (HBm.out.trans (hB.mono HBm.out.size))
              have HO9 := Lib.hid (hO.base HBm.out.size)
              have HLn := Lib.hid HHl.out
              clear hO hB
              go_wp2
              go_ret2
              refine ⟨A5, c5, hs, by (rw [E.out.1, E.out.2, HM.out, rwS_len, HLn.out]; first | done | rfl), ?_, HB9.out⟩
              rw [E.out.1, HM.out]
              exact HO9.out
        · have t1 := (zg_even k hodd).1
          clear hB2 hodd
          have hRm : Rd wa wa.heap.size (sc k) A1 (List.range k) := by
            have h1 : wa.ownsRow w.heap.size 80 1 (.slice A1 (List.range k).length c1) (List.range k).length ((List.range k).flatMap (sc k)) := by rw [List.length_range]; exact HOm.out
            exact own_rd2 (sc_length k) h1
          have HRm := Lib.hid hRm
          have HN0 : Hid (OwnN wa wa.heap.size 23 2 1 icells none 0 [] (rwS k 0)) := OwnN.nil _ _ _ _ _ _
          clear hRm
          go_wp2_with fail
          clear t1
          go_loopw [9, 54] (fun v j wr => ∃ (t : Nat) (A5 : Option Addr) (c5 : Nat) (hs : List Hd), t ≤ k ∧ j = .int .i64 t ∧ v = .slice A5 hs.length c5 ∧ OwnN wr wa.heap.size 23 2 1 icells A5 c5 hs (rwS k t) ∧ Below wa.heap.size wa wr)
            (fun _ j _ => k - (intOf j).toNat)
          case atStart => exact ⟨0, none, 0, [], by omega, rfl, rfl, HN0.out, Below.refl _ _⟩
          case round =>
            clear HN0
            obtain ⟨t, A5, c5, hs, ht, rfl, rfl, hO, hB⟩ := hrel
            obtain ⟨wd, rfl⟩ : ∃ u, u = wr := ⟨_, rfl⟩
            have HHl : Hid (hs.length = t) := hO.2.1.trans (rwS_len k t)
            have HO5 := Lib.hid hO
            have HB5 := Lib.hid hB
            have ht0 : (0 : Int) ≤ (t : Int) := Int.natCast_nonneg _
            by_cases hlt5 : t < k
            · have ht8 : (t : Int) < k := by omega
              have hHl : hs.length ≤ 16 := by have := HHl.out; omega
              obtain ⟨b3, o3, rfl, hbl, hrow⟩ := (HRm.out.keep hB).at_ (sc_length k) (range_at hlt5)
              have e1 : wd.cell? ⟨b3, o3 + t, none⟩ = some (svI k t) := by have := hrow 0 (svI k t) rfl; simpa using this
              have HL := Lib.hid (listOfE_any k t hN8 hN1 (by omega) wd)
              have HSt := Lib.hid (rwS_succ k t)
              have hyl := rwF_len k t
              obtain ⟨sv, hsv⟩ : ∃ sv, svI k t = sv := ⟨_, rfl⟩
              obtain ⟨ys, hys⟩ : ∃ ys, rwF k t = ys := ⟨_, rfl⟩
              rw [hsv] at e1 HL
              rw [hys] at HL HSt hyl
              have HYl := Lib.hid hyl
              have HO1 : Hid (sv.oneCell' = true) := by show _ = _; rw [← hsv]; exact svI_one _ _
              clear hrow hO hB hsv hys hyl
              have ho1 := HO1.out
              go_wp2_with fail
              refine HL.out.mono ?_
              rintro e w6 ⟨A6, c6, rfl, hO6, hb6⟩
              have HBn : Hid (Below w6.heap.size w6 (w6.alloc (.cells (hcells (A6, ys.length, c6)).toArray 23))) := (Below.refl _ _).alloc (Nat.le_refl _) _
              have HO9 : Hid (w6.ownsRow wd.heap.size 2 1 (.slice A6 ys.length c6) ys.length (ys.flatMap icells)) := by show World.ownsRow _ _ _ _ _ _ _; rw [HYl.out]; exact hO6
              have HB6 := Lib.hid hb6
              have HN2 := Lib.hid (HO5.out.keep hb6)
              have HSr := Lib.hid (src_hd (P := Tryd.prog) Tryd.underlying22 w6 (A6, ys.length, c6))
              have HBs : Hid (wa.heap.size ≤ w6.heap.size + 1) := by have := HB5.out.size; have := hb6.size; show _ ≤ _; omega
              rw [show (Value.slice A6 k c6) = Value.slice A6 ys.length c6 from by rw [HYl.out]]
              clear hO6 hb6 HL e1
              go_wp2_with (at_builtin; refine wpList_append_any _ rfl (.tmp 58) (.tmp 61) 22 22 rfl wa.heap.size 23 j0 (.slice none 0 0) 1 24 Tryd.underlying22 HJ.out HY0.out HY1.out HY2.out rfl (by decide) _ hs.length (hs.flatMap hcells) rfl ?o1 _ 1 (hcells (A6, ys.length, c6)) rfl ?o2 ?o3 ?o4 ?o5 ?_)
              case o1 => exact (HN2.out.keep HBn.out).1
              case o2 => exact HSr.out
              case o3 => unfold maxLen; omega
              case o4 => omega
              case o5 => have := HBs.out; simp; omega
              intro v' w8 hown' hgrow hblk
              obtain ⟨A8, c8, rfl⟩ : ∃ A8 c8, v' = .slice A8 (hs.length + 1) c8 := by
                rcases hown'.2 with ⟨h1, h2⟩ | ⟨g, cap, cur, h1, -⟩
                · exact ⟨_, _, by rw [h1, h2]⟩
                · exact ⟨_, _, h1⟩
              rw [ownBlock_slice] at hgrow hblk
              rw [ownBlock_slice] at hblk
              have hN8' := HO5.out.snoc HB5.out.size (HB6.out.trans (HBn.out.mono HB6.out.size)) (own_keep' HO9.out HBn.out) hown' hgrow (hblk.imp id (fun h => h.trans (by simp)))
              rw [← HSt.out] at hN8'
              have HN8 := Lib.hid hN8'
              have HB8 : Hid (Below wa.heap.size wa w8) := by
                show Below _ _ _
                have h1 := HB5.out.trans ((HB6.out.trans (HBn.out.mono HB6.out.size)).mono HB5.out.size)
                exact h1.grown hgrow h1.size (fun r e => (own_block HO5.out.1 (by rw [ownBlock_slice]; exact e)).1)
              clear hown' hgrow hblk hN8' HN2 HBn
              go_wp2
              go_roundw
              case rel => exact ⟨t + 1, A8, c8, _, by omega, by go_num, by first | rfl | simp, HN8.out, HB8.out⟩
              case measure => simp [intOf]; omega
            · obtain rfl : t = k := by omega
              have HB9 := Lib.hid (HBm.out.trans (hB.mono HBm.out.size))
              have HO9 := Lib.hid (hO.base HBm.out.size)
              have HLn := Lib.hid HHl.out
              clear hO hB
              go_wp2
              go_ret2
              refine ⟨A5, c5, hs, by (rw [E.out.1, E.out.2, HM.out, rwS_len, HLn.out]; first | done | rfl), ?_, HB9.out⟩
              rw [E.out.1, HM.out]
              exact HO9.out
      · have HM : Hid (fdL k = rwS k (k + k)) := by show _ = _; rw [fdL_rw, fdM, hB2]; rfl
        simp only [fdB, Bool.and_eq_true, decide_eq_true_eq] at hB2
        have t1 := (zg_odd k hB2.1).1
        have h1k : (1 : Int) < (k : Int) := by omega
        have hRd : Rd wa wa.heap.size (sc k) A1 (List.range k) := by
          have h1 : wa.ownsRow w.heap.size 80 1 (.slice A1 (List.range k).length c1) (List.range k).length ((List.range k).flatMap (sc k)) := by rw [List.length_range]; exact HO.out
          exact own_rd2 (sc_length k) h1
        have HCl := Lib.hid (cloneSv_any k k hN1 (by omega) A1 c1 wa hRd)
        clear hRd hB2
        go_wp2_with fail
        clear t1
        refine HCl.out.mono ?_
        rintro e w2 ⟨gC, cC, rfl, hg1, hg2, hcl, hb⟩
        have HCc := Lib.hid hcl
        have HG2 := Lib.hid hg2
        have HO2 : Hid (w2.ownsRow w.heap.size 80 1 (.slice A1 k c1) k ((List.range (k + 0)).flatMap (sc k))) := own_keep' HO.out hb
        have HNe : Hid (∀ r, A1.map (·.block) = some r → r ≠ gC) := fun r e => by
          have := (HO.out.lt r (by rw [ownBlock_slice]; exact e)).2
          omega
        have HB2 := Lib.hid (HB.out.trans (hb.mono HB.out.size))
        clear hcl hb HCl HO HB hg1 hg2
        go_wp2_with fail
        go_loopw [5, 41] (fun v j wr => ∃ (q : Nat) (A1 : Option Addr) (c1 : Nat), q ≤ k ∧ j = .int .i64 q ∧ v = .slice A1 (k + q) c1 ∧ wr.ownsRow w.heap.size 80 1 (.slice A1 (k + q) c1) (k + q) ((List.range (k + q)).flatMap (sc k)) ∧ gC < wr.heap.size ∧ (∀ j, j < k → wr.cell? ⟨gC, j, none⟩ = some (svI k j)) ∧ (∀ r, A1.map (·.block) = some r → r ≠ gC) ∧ Below w.heap.size w wr)
          (fun _ j _ => k - (intOf j).toNat)
        case atStart => exact ⟨0, A1, c1, by omega, rfl, rfl, HO2.out, HG2.out, HCc.out, HNe.out, HB2.out⟩
        case round =>
          clear HO2 HG2 HCc HNe HB2
          obtain ⟨q, A2, c2, hq, rfl, rfl, hO, hg, hcl, hne, hB⟩ := hrel
          obtain ⟨wb, rfl⟩ : ∃ u, u = wr := ⟨_, rfl⟩
          have HO := Lib.hid hO
          have HCc := Lib.hid hcl
          have HNe := Lib.hid hne
          have HG := Lib.hid hg
          have HB := Lib.hid hB
          clear hO hcl hne hB hg
          have hq0 : (0 : Int) ≤ (q : Int) := Int.natCast_nonneg _
          by_cases hlt2 : q < k
          · have hq8 : (q : Int) < k := by omega
            have e1 := HCc.out q hlt2
            rw [svI_lo hlt2] at e1
            have HSt : Hid ((List.range (k + q + 1)).flatMap (sc k) = (List.range (k + q)).flatMap (sc k) ++ [bkI (rsI k q)]) := by
              show _ = _
              rw [List.range_succ, List.flatMap_append]
              congr 1
              show sc k (k + q) ++ [] = _
              rw [sc, svI_hi]; rfl
            obtain ⟨m, hm⟩ : ∃ m, k + q = m := ⟨_, rfl⟩
            have hmb : m ≤ 16 := by omega
            rw [hm] at HO HSt ⊢
            have HM2 := Lib.hid hm
            clear hm
            go_wp2_with (at_builtin; refine wpList_append_own_at _ rfl (.tmp 45) (.tmp 49) 77 rfl w.heap.size 80 i0 .nilIface 1 16 Tryd.underlying77 HI.out HZ0.out HZ1.out HZ2.out rfl (by decide) _ _ _ rfl (HO.out.alloc _) ⟨wb.heap.size, 0, none⟩ 1 1 [bkI (rsI k q)] rfl rfl ?f1 ?f2 ?f3 ?f4 ?f5 ?_)
            case f1 => exact cell_one_v _ _ rfl _
            case f2 => simp [Value.oneCell']
            case f3 => unfold maxLen; omega
            case f4 => omega
            case f5 => have := HB.out.size; simp; omega
            intro v' w8 hown' hgrow _ hblk
            have hown8 : w8.ownsRow w.heap.size 80 1 v' (m + 1) ((List.range (m + 1)).flatMap (sc k)) := by rw [HSt.out]; exact hown'
            obtain ⟨A8, c8, rfl⟩ : ∃ A8 c8, v' = .slice A8 (m + 1) c8 := by
              rcases hown8.2 with ⟨h1, h2⟩ | ⟨g, cap, cur, h1, -⟩
              · exact ⟨_, _, by rw [h1, h2]⟩
              · exact ⟨_, _, h1⟩
            rw [ownBlock_slice] at hgrow hblk
            rw [ownBlock_slice] at hblk
            have hAl : Below wb.heap.size wb (wb.alloc (.cells #[bkI (rsI k q)] 80)) := (Below.refl _ _).alloc (Nat.le_refl _) _
            have HC8 : Hid (∀ j, j < k → w8.cell? ⟨gC, j, none⟩ = some (svI k j)) := fun j hj => cell_grown hgrow (Nat.lt_of_lt_of_le HG.out hAl.size) (fun e => HNe.out _ e rfl) ((hAl.cell (p := ⟨gC, j, none⟩) HG.out).trans (HCc.out j hj))
            have HNe8 : Hid (∀ r, A8.map (·.block) = some r → r ≠ gC) := fun r e => by
              rcases hblk with h | h
              · exact HNe.out r (h.symm.trans e)
              · rw [e] at h
                have h9 := Option.some.inj h
                have h10 := HG.out
                have h11 : wb.heap.size ≤ r := by rw [h9]; exact Nat.le_of_lt (by simp)
                omega
            have HG8 : Hid (gC < w8.heap.size) := Nat.lt_of_lt_of_le HG.out (Nat.le_trans hAl.size hgrow.size)
            have HO8 : Hid (w8.ownsRow w.heap.size 80 1 (.slice A8 (k + (q + 1)) c8) (k + (q + 1)) ((List.range (k + (q + 1))).flatMap (sc k))) := by
              show World.ownsRow _ _ _ _ _ _ _
              rw [← Nat.add_assoc, HM2.out]; exact hown8
            have HB8 : Hid (Below w.heap.size w w8) := (HB.out.alloc HB.out.size _).grown hgrow (by have := HB.out.size; simp; omega) (fun r e => (HO.out.lt r (by rw [ownBlock_slice]; exact e)).1)
            have HV8 : Hid (Value.slice A8 (m + 1) c8 = Value.slice A8 (k + (q + 1)) c8) := by show _ = _; rw [← Nat.add_assoc, HM2.out]
            clear hown' hown8 hgrow hblk hAl
            go_wp2
            go_roundw
            case rel => exact ⟨q + 1, A8, c8, by omega, by go_num, HV8.out, HO8.out, HG8.out, HC8.out, HNe8.out, HB8.out⟩
            case measure => simp [intOf]; omega
          · obtain rfl : q = k := by omega
            have HOm := Lib.hid HO.out
            have HBm := Lib.hid HB.out
            obtain ⟨M, hM⟩ : ∃ M, q + q = M := ⟨_, rfl⟩
            have hM16 : M ≤ 16 := by omega
            have hM2 : M ≤ q + q := by omega
            rw [hM] at HOm HM ⊢
            clear hM HO HB HCc HNe HG
            have hRm : Rd wb wb.heap.size (sc q) A2 (List.range M) := by
              have h1 : wb.ownsRow w.heap.size 80 1 (.slice A2 (List.range M).length c2) (List.range M).length ((List.range M).flatMap (sc q)) := by rw [List.length_range]; exact HOm.out
              exact own_rd2 (sc_length q) h1
            have HRm := Lib.hid hRm
            have HN0 : Hid (OwnN wb wb.heap.size 23 2 1 icells none 0 [] (rwS q 0)) := OwnN.nil _ _ _ _ _ _
            clear hRm
            go_wp2_with fail
            skip
            go_loopw [9, 54] (fun v j wr => ∃ (t : Nat) (A5 : Option Addr) (c5 : Nat) (hs : List Hd), t ≤ M ∧ j = .int .i64 t ∧ v = .slice A5 hs.length c5 ∧ OwnN wr wb.heap.size 23 2 1 icells A5 c5 hs (rwS q t) ∧ Below wb.heap.size wb wr)
              (fun _ j _ => M - (intOf j).toNat)
            case atStart => exact ⟨0, none, 0, [], by omega, rfl, rfl, HN0.out, Below.refl _ _⟩
            case round =>
              clear HN0
              obtain ⟨t, A5, c5, hs, ht, rfl, rfl, hO, hB⟩ := hrel
              obtain ⟨wd, rfl⟩ : ∃ u, u = wr := ⟨_, rfl⟩
              have HHl : Hid (hs.length = t) := hO.2.1.trans (rwS_len q t)
              have HO5 := Lib.hid hO
              have HB5 := Lib.hid hB
              have ht0 : (0 : Int) ≤ (t : Int) := Int.natCast_nonneg _
              by_cases hlt5 : t < M
              · have ht8 : (t : Int) < M := by omega
                have hHl : hs.length ≤ 16 := by have := HHl.out; omega
                obtain ⟨b3, o3, rfl, hbl, hrow⟩ := (HRm.out.keep hB).at_ (sc_length q) (range_at hlt5)
                have e1 : wd.cell? ⟨b3, o3 + t, none⟩ = some (svI q t) := by have := hrow 0 (svI q t) rfl; simpa using this
                have HL := Lib.hid (listOfE_any q t hN8 hN1 (by omega) wd)
                have HSt := Lib.hid (rwS_succ q t)
                have hyl := rwF_len q t
                obtain ⟨sv, hsv⟩ : ∃ sv, svI q t = sv := ⟨_, rfl⟩
                obtain ⟨ys, hys⟩ : ∃ ys, rwF q t = ys := ⟨_, rfl⟩
                rw [hsv] at e1 HL
                rw [hys] at HL HSt hyl
                have HYl := Lib.hid hyl
                have HO1 : Hid (sv.oneCell' = true) := by show _ = _; rw [← hsv]; exact svI_one _ _
                clear hrow hO hB hsv hys hyl
                have ho1 := HO1.out
                go_wp2_with fail
                refine HL.out.mono ?_
                rintro e w6 ⟨A6, c6, rfl, hO6, hb6⟩
                have HBn : Hid (Below w6.heap.size w6 (w6.alloc (.cells (hcells (A6, ys.length, c6)).toArray 23))) := (Below.refl _ _).alloc (Nat.le_refl _) _
                have HO9 : Hid (w6.ownsRow wd.heap.size 2 1 (.slice A6 ys.length c6) ys.length (ys.flatMap icells)) := by show World.ownsRow _ _ _ _ _ _ _; rw [HYl.out]; exact hO6
                have HB6 := Lib.hid hb6
                have HN2 := Lib.hid (HO5.out.keep hb6)
                have HSr := Lib.hid (src_hd (P := Tryd.prog) Tryd.underlying22 w6 (A6, ys.length, c6))
                have HBs : Hid (wb.heap.size ≤ w6.heap.size + 1) := by have := HB5.out.size; have := hb6.size; show _ ≤ _; omega
                rw [show (Value.slice A6 q c6) = Value.slice A6 ys.length c6 from by rw [HYl.out]]
                clear hO6 hb6 HL e1
                go_wp2_with (at_builtin; refine wpList_append_any _ rfl (.tmp 58) (.tmp 61) 22 22 rfl wb.heap.size 23 j0 (.slice none 0 0) 1 24 Tryd.underlying22 HJ.out HY0.out HY1.out HY2.out rfl (by decide) _ hs.length (hs.flatMap hcells) rfl ?o1 _ 1 (hcells (A6, ys.length, c6)) rfl ?o2 ?o3 ?o4 ?o5 ?_)
                case o1 => exact (HN2.out.keep HBn.out).1
                case o2 => exact HSr.out
                case o3 => unfold maxLen; omega
                case o4 => omega
                case o5 => have := HBs.out; simp; omega
                intro v' w8 hown' hgrow hblk
                obtain ⟨A8, c8, rfl⟩ : ∃ A8 c8, v' = .slice A8 (hs.length + 1) c8 := by
                  rcases hown'.2 with ⟨h1, h2⟩ | ⟨g, cap, cur, h1, -⟩
                  · exact ⟨_, _, by rw [h1, h2]⟩
                  · exact ⟨_, _, h1⟩
                rw [ownBlock_slice] at hgrow hblk
                rw [ownBlock_slice] at hblk
                have hN8' := HO5.out.snoc HB5.out.size (HB6.out.trans (HBn.out.mono HB6.out.size)) (own_keep' HO9.out HBn.out) hown' hgrow (hblk.imp id (fun h => h.trans (by simp)))
                rw [← HSt.out] at hN8'
                have HN8 := Lib.hid hN8'
                have HB8 : Hid (Below wb.heap.size wb w8) := by
                  show Below _ _ _
                  have h1 := HB5.out.trans ((HB6.out.trans (HBn.out.mono HB6.out.size)).mono HB5.out.size)
                  exact h1.grown hgrow h1.size (fun r e => (own_block HO5.out.1 (by rw [ownBlock_slice]; exact e)).1)
                clear hown' hgrow hblk hN8' HN2 HBn
                go_wp2
                go_roundw
                case rel => exact ⟨t + 1, A8, c8, _, by omega, by go_num, by first | rfl | simp, HN8.out, HB8.out⟩
                case measure => simp [intOf]; omega
              · obtain rfl : t = M := by omega
                have HB9 := Lib.hid (HBm.out.trans (hB.mono HBm.out.size))
                have HO9 := Lib.hid (hO.base HBm.out.size)
                have HLn := Lib.hid HHl.out
                clear hO hB
                go_wp2
                go_ret2
                refine ⟨A5, c5, hs, by (rw [E.out.1, E.out.2, HM.out, rwS_len, HLn.out]; first | done | rfl), ?_, HB9.out⟩
                rw [E.out.1, HM.out]
                exact HO9.out
end Go.Proofs.YtfmfgpipklmecaaDoor

namespace Go.Proofs.YtfmfgpipklmecaaDoor
open Go.ChangeShapes Go.WideShapes Go.ChangeAt Go.RowKit Go.Deep

set_option maxRecDepth 100000 in
set_option maxHeartbeats 1000000 in
theorem szInt64SS_any (xss : List (List Int)) (A : Option Addr) (c : Nat) (l : Int) (hn : xss.length ≤ 9223372036854775807) (hx : ∀ xs ∈ xss, xs.length ≤ 9223372036854775807) (hl : 0 ≤ l ∧ l ≤ 1048576) (w : World) (hr : RdN w w.heap.size icells A xss) :
    Calls Tryd.prog 14 #[.slice A xss.length c, .int .i64 l] w fun e w' => e = .returned (.int .i64 (if l < xss.length + sumL xss then -1 else l - (xss.length + sumL xss))) ∧ w = w' := by
  obtain ⟨l0, l1⟩ := hl
  have HR := Lib.hid hr
  have HX := Lib.hid hx
  clear hr hx
  by_cases h : l < xss.length
  · rw [if_pos (by omega)]
    go_enter Tryd.func14, Tryd.ntmps14
    go_wp2
    go_ret
    exact ⟨rfl, rfl⟩
  obtain ⟨r, hr⟩ : ∃ r : Int, (if l < xss.length + sumL xss then -1 else l - (xss.length + sumL xss)) = r := ⟨_, rfl⟩
  rw [hr]
  have HRes := Lib.hid hr
  clear hr
  obtain ⟨m, hm⟩ : ∃ m : Int, l - xss.length = m := ⟨_, rfl⟩
  have HM := Lib.hid hm
  have hm0 : 0 ≤ m := by omega
  have hm1 : m ≤ 1048576 := by omega
  have hw1 : IntKind.i64.wrap (l - xss.length) = m := by rw [hm]; exact IntWalk.i64_in _ ⟨by omega, by omega⟩
  have hw2 : wrap64 (l - xss.length) = m := by rw [hm]; exact IntWalk.wrap64_in _ ⟨by omega, by omega⟩
  have hmn : ¬ m < 0 := by omega
  have HS := Lib.hid (sumTo_all xss)
  clear hm
  go_enter Tryd.func14, Tryd.ntmps14
  go_wp2_with fail
  clear hw1 hw2
  go_loop [1, 5] (fun s i => ∃ k : Nat, k ≤ xss.length ∧ i = .int .i64 k ∧ s = .int .i64 (m - sumTo xss k) ∧ (sumTo xss k : Int) ≤ m) (fun _ i => xss.length - (intOf i).toNat)
  case atStart => exact ⟨0, by omega, rfl, by simp [sumTo, sumL], by simpa [sumTo, sumL] using hm0⟩
  case round =>
    obtain ⟨k, hk, rfl, rfl, hs⟩ := hrel
    by_cases hlt : k < xss.length
    · obtain ⟨xs, hxs⟩ : ∃ x, xss[k]? = some x := ⟨_, List.getElem?_eq_getElem hlt⟩
      obtain ⟨b, o, a, c', rfl, hb, hc, -⟩ := HR.out.at_ hxs
      have hxl := HX.out xs (List.mem_of_getElem? hxs)
      have hk0 : (0 : Int) ≤ (k : Int) := Int.natCast_nonneg _
      have hk8 : (k : Int) < xss.length := by omega
      have HXs := Lib.hid hxs
      have hle := Lib.hid (le_sumL hxs)
      have hsl := Lib.hid (sumTo_le xss (k + 1))
      have hsu := Lib.hid (sumTo_succ hxs)
      clear hxs
      go_wp2_with fail
      refine (szInt64S_any a xs.length c' (m - sumTo xss k) hxl ⟨by omega, by omega⟩ _).mono ?_
      rintro e w' ⟨rfl, rfl⟩
      by_cases hn : m - (sumTo xss k : Int) < xs.length
      · rw [if_pos hn]
        go_wp2
        go_ret
        refine ⟨ret_i64 ?_, rfl⟩
        have q1 := hsl.out; have q2 := hsu.out; have q3 := HM.out
        rw [← HRes.out, if_pos (by omega)]
      · rw [if_neg hn]
        obtain ⟨z, hz⟩ : ∃ z : Int, m - (sumTo xss k : Int) - xs.length = z := ⟨_, rfl⟩
        have hz0 : ¬ z < 0 := by omega
        have HZ := Lib.hid hz
        rw [hz]
        clear hz hn
        go_wp2
        go_round
        case rel => exact ⟨k + 1, by omega, by go_num, by rw [hsu.out, ← HZ.out]; congr 1; omega, by have q1 := HZ.out; rw [hsu.out]; omega⟩
        case measure => simp [intOf]; omega
    · obtain rfl : k = xss.length := by omega
      go_wp2
      go_ret
      refine ⟨ret_i64 ?_, rfl⟩
      have q1 := HS.out; have q2 := HM.out
      rw [← HRes.out, if_neg (by omega)]
      omega

set_option maxRecDepth 100000 in
set_option maxHeartbeats 1000000 in
theorem toInt64SS_any (xss : List (List Int)) (A : Option Addr) (c : Nat) (w : World) (hl : xss.length ≤ 1048576) (hx : ∀ xs ∈ xss, xs.length ≤ 1048576) (hr : RdN w w.heap.size icells A xss) :
    Calls Tryd.prog 16 #[.slice A xss.length c] w fun e w' => e = .returned (.slice (some ⟨w.heap.size, 0, none⟩) xss.length xss.length) ∧ (∃ gs, RsN w' w.heap.size 23 2 icells xss gs) ∧ Below w.heap.size w w' := by
  obtain ⟨i0, hi, hz0, hz1, hz2⟩ := info_parts Tryd.infoLN
  have HR := Lib.hid hr
  have HX := Lib.hid hx
  clear hr hx
  go_enter Tryd.func16, Tryd.ntmps16
  go_wp2_with (refine wpList_make_full _ rfl (.tmp 6) (.tmp 6) 22 rfl w.heap.size 23 i0 _ 1 Tryd.underlying22 hi hz0 hz1 .i64 .i64 _ _ xss.length rfl rfl rfl rfl (by rw [hz2]; omega) (by unfold maxLen; omega) (Nat.le_refl _) ?_; intro w1 hown hg)
  have hR0 : Rs w1 w.heap.size 23 hcells (List.replicate xss.length (none, 0, 0)) := by
    have := blk_of_make hown
    rw [made_rows hcells_length (none, 0, 0) (Value.slice none 0 0).cells rfl (by omega)] at this
    exact this
  have hB0 : Below w.heap.size w w1 := (Below.refl _ w).grown hg (Nat.le_refl _) (fun _ h => by cases h)
  have HT : Hid (TMk xss w 0 [] (List.replicate xss.length (none, 0, 0)) w1) := ⟨by simp, rfl, hR0, fun i g xs h => by simp at h, by simp, by simp, hB0⟩
  clear hR0 hB0 hown hg hi hz0 hz1 hz2
  go_loopw [4] (fun i wr => ∃ (k : Nat), k ≤ xss.length ∧ i = .int .i64 k ∧ ∃ gs hs, TMk xss w k gs hs wr)
    (fun i _ => xss.length - (intOf i).toNat)
  case atStart => exact ⟨0, by omega, rfl, _, _, HT.out⟩
  case round =>
    clear HT
    obtain ⟨k, hk, rfl, gs, hs, hT⟩ := hrel
    have HT := Lib.hid hT
    clear hT
    by_cases hlt : k < xss.length
    · obtain ⟨xs, hxs⟩ : ∃ x, xss[k]? = some x := ⟨_, List.getElem?_eq_getElem hlt⟩
      obtain ⟨b, o, a, c', rfl, hb, hc, hrd⟩ := (HR.out.keep HT.out.2.2.2.2.2.2).at_ hxs
      have hxl := HX.out xs (List.mem_of_getElem? hxs)
      have hk0 : (0 : Int) ≤ (k : Int) := Int.natCast_nonneg _
      have hk8 : (k : Int) < xss.length := by omega
      have HXs := Lib.hid hxs
      clear hxs
      go_wp2_with fail
      refine (toInt64S_any xs a c' _ hxl hrd).mono ?_
      rintro e w2 ⟨rfl, hR2, hb2⟩
      obtain ⟨h0, hh⟩ : ∃ h, hs[k]? = some h := ⟨_, List.getElem?_eq_getElem (by rw [HT.out.1]; exact hlt)⟩
      have hK := Blk.keep HT.out.2.2.1 hb2
      have e1 : w2.cell? ⟨w.heap.size, k, none⟩ = some (.slice h0.1 h0.2.1 h0.2.2) := by
        have := rowH (range_row hcells_length (Rs.range hK) hh)
        simpa using this
      have e2 : w2.frozen? ⟨w.heap.size, k, none⟩ = false := Blk.frozen hK k
      have HB2 := Lib.hid hb2
      have HR2 := Lib.hid hR2
      clear hb2 hR2 hK hh
      go_wp2
      go_roundw
      case rel => exact ⟨k + 1, by omega, by go_num, _, _, HT.out.step HXs.out HR2.out HB2.out⟩
      case measure => simp [intOf]; omega
    · obtain rfl : k = xss.length := by omega
      go_wp2
      go_ret
      exact ⟨rfl, ⟨_, HT.out.done⟩, HT.out.2.2.2.2.2.2⟩

end Go.Proofs.YtfmfgpipklmecaaDoor

namespace Go.Proofs.YtfmfgpipklmecaaDoor
open Go.ChangeShapes Go.WideShapes Go.ChangeAt Go.RowKit Go.Deep

set_option maxRecDepth 100000 in
set_option maxHeartbeats 4000000 in
theorem fd7Law_any (n : Int) (ad : Nat → Addr) (w : World)  (hsn : wfI6 n) (hE : EW 5 w ad) :
    Calls Tryd.prog 6 #[.int .i64 n] w (Good w) := by
  have HSn := Lib.hid hsn
  have HE := Lib.hid hE
  clear hE
  clear hsn
  go_enter Tryd.func6, Tryd.ntmps6
  have HB_0 : Hid (Below w.heap.size w w) := Below.refl _ _
  go_wp2_with fail
  refine (specFollowOrders_any n _).mono ?_
  rintro e w1 ⟨Av0, cv0, rfl, hN0, hb⟩
  have HB_1 : Hid (Below w.heap.size w w1) := HB_0.out.trans (hb.mono HB_0.out.size)
  clear hb HB_0
  have RV0 : Hid (RdN w1 w1.heap.size icells Av0 (fdA n)) := hN0
  clear hN0
  have HV_1 : Hid (Below w1.heap.size w1 w1) := Below.refl _ _
  obtain ⟨cd0, hcd0⟩ : ∃ c, fdC n = c := ⟨_, rfl⟩
  have HCD0 := Lib.hid hcd0
  clear hcd0
  rw [HCD0.out]
  go_wp2_with fail
  refine (implFollowOrders_any n ad _ (HE.out.below HB_1.out (Nat.le_refl _))).mono ?_
  rintro e w2 ⟨Ag0, cg0, hsg0, rfl, hN0, hb⟩
  have LE0 : Hid (w.heap.size ≤ w1.heap.size) := HB_1.out.size
  have LE1 : Hid (w1.heap.size ≤ w1.heap.size) := HV_1.out.size
  have LE2 : Hid (w1.heap.size ≤ w2.heap.size) := hb.size
  have HB_2 : Hid (Below w.heap.size w w2) := HB_1.out.trans (hb.mono HB_1.out.size)
  have HV_2 : Hid (Below w1.heap.size w1 w2) := HV_1.out.trans (hb.mono HV_1.out.size)
  clear hb HB_1 HV_1
  rw [HCD0.out]
  have N0_2 := Lib.hid hN0
  clear hN0
  have HGS0 := Lib.hid (own_srcM N0_2.out).2.2.2.2.2
  have hLl : (fdA n).length ≤ 1048576 := fdA_len n
  have HLx : Hid (∀ ys ∈ fdA n, ys.length ≤ 1048576) := fdA_each n
  have hLn : sumL (fdA n) ≤ 1048576 * 1048576 := sum_bnd _ _ _ hLl HLx.out
  go_wp2_with fail
  refine (eqInt64SS_same (fdA n) _ _ _ _ _ (by omega) HLx.out (N0_2.out.rd icells_length) (RV0.out.keep HV_2.out)).mono ?_
  rintro e w3 ⟨rfl, hb⟩
  have HB_3 : Hid (Below w.heap.size w w3) := HB_2.out.trans (hb.mono HB_2.out.size)
  have HV_3 : Hid (Below w1.heap.size w1 w3) := HV_2.out.trans (hb.mono HV_2.out.size)
  have N0_3 : Hid (OwnN w3 w1.heap.size 23 2 1 icells Ag0 cg0 hsg0 (fdA n)) := N0_2.out.keep hb
  clear hb HB_2 HV_2 N0_2
  have hgx0 : (0 : Int) ≤ (sumL (fdA n) : Int) := Int.natCast_nonneg _
  obtain ⟨q1, q2, q3, q4, q5, q6⟩ := own_srcM N0_3.out
  clear N0_3
  go_wp2_with fail
  refine (mkInt64SS_any (fdA n) hsg0 Ag0 _ (1) _ (by omega) (by omega) (by omega) q1 q2 q3 q4 q5).mono ?_
  rintro e w4 ⟨rfl, hM, hO⟩
  have hS := HGS0.out
  clear q1 q2 q3 q4 q5 q6 HGS0
  have HB_4 : Hid (Below w.heap.size w w4) := hO.below HB_3.out HB_3.out.size (fun k e => by have lk := hS k e; have l0 := LE0.out; have l1 := LE1.out; have l2 := LE2.out; omega)
  have HV_4 : Hid (Below w1.heap.size w1 w4) := hO.below HV_3.out HV_3.out.size (fun k e => by have lk := hS k e; have l0 := LE0.out; have l1 := LE1.out; have l2 := LE2.out; omega)
  clear hO hS HB_3 HV_3
  have Q0_4 : Hid (MkdM w4 Ag0 hsg0 (fdA n) 1) := hM
  clear hM
  have hmn : ¬ (1 + (sumL (fdA n) : Int) < 0) := by omega
  go_wp2_with fail
  refine (hdInt64SS_any (fdA n) hsg0 Ag0 _ (1) _ (by omega) (by omega) (by omega) Q0_4.out).mono ?_
  rintro e w' ⟨rfl, rfl⟩
  go_wp2_with fail
  refine (implFollowOrders_any n ad _ (HE.out.below HB_4.out (Nat.le_refl _))).mono ?_
  rintro e w5 ⟨Ah0, ch0, hsh0, rfl, hN0, hb⟩
  have HB_5 : Hid (Below w.heap.size w w5) := HB_4.out.trans (hb.mono HB_4.out.size)
  have HV_5 : Hid (Below w1.heap.size w1 w5) := HV_4.out.trans (hb.mono HV_4.out.size)
  have Q0_5 : Hid (MkdM w5 Ag0 hsg0 (fdA n) 1) := Q0_4.out.below hb
  clear hb HB_4 HV_4 Q0_4
  rw [HCD0.out]
  have P0_5 := Lib.hid hN0
  clear hN0
  go_wp2_with fail
  refine (eqInt64SS_same (fdA n) _ _ _ _ _ (by omega) HLx.out (P0_5.out.rd icells_length) (RV0.out.keep HV_5.out)).mono ?_
  rintro e w6 ⟨rfl, hb⟩
  have HB_6 : Hid (Below w.heap.size w w6) := HB_5.out.trans (hb.mono HB_5.out.size)
  have HV_6 : Hid (Below w1.heap.size w1 w6) := HV_5.out.trans (hb.mono HV_5.out.size)
  have P0_6 : Hid (OwnN w6 w4.heap.size 23 2 1 icells Ah0 ch0 hsh0 (fdA n)) := P0_5.out.keep hb
  have Q0_6 : Hid (MkdM w6 Ag0 hsg0 (fdA n) 1) := Q0_5.out.below hb
  clear hb HB_5 HV_5 P0_5 Q0_5
  go_wp2_with fail
  refine (hdInt64SS_any (fdA n) hsg0 Ag0 _ (1) _ (by omega) (by omega) (by omega) Q0_6.out).mono ?_
  rintro e w' ⟨rfl, rfl⟩
  go_wp2
  go_ret
  exact ⟨rfl, HB_6.out⟩
end Go.Proofs.YtfmfgpipklmecaaDoor

namespace Go.Proofs.YtfmfgpipklmecaaDoor
open Go.ChangeShapes Go.WideShapes Go.ChangeAt Go.RowKit Go.Deep

set_option maxRecDepth 100000 in
theorem fnExactFollowOrders_lifted (os : Os) (started : os.Started) (H : Type) (enc : TypeId × Value → H) :
    ReturnsInHanded {} Tryd.checked os 6 .any (fun w args => (Rows.fnExactFollowOrdersSpec.pre enc Tryd.prog Tryd.f6 Rows.fnExactFollowOrdersRow.domain false w args ∧ laidMetH Tryd.prog (lay sl6) w) ∧ sizedMet enc Tryd.prog Tryd.f6 (OpenSpec.ofChange Rows.fnExactFollowOrdersSpec) false w args)
      (Rows.fnExactFollowOrdersSpec.post enc Tryd.prog Tryd.f6 false true false false) := by
  refine law_liftL (C := Tryd.checked) 1 6 Tryd.own started (by kernel_rfl) Tryd.func6
    (ChangeSpec.witness_shaped (enc := enc) (C := Tryd.checked) (os := os) (X := fun w _ => laidMetH Tryd.prog (lay sl6) w) false (World.doorLaid Tryd.prog 142 os) #[.int .i64 0] 8 rfl (World.shaped_of_RefB (by kernel_rfl) (by kernel_rfl)) (by kernel_rfl) (by kernel_rfl) (by kernel_rfl)
      (laidMetH_of_parts3 (fuel := 8) (laidMet_of_run' 8 (by kernel_rfl) (by kernel_rfl)) (by kernel_rfl) (by kernel_rfl)))
    Tryd.laidOut (by kernel_rfl) rfl (by kernel_rfl) Tryd.underlying4 (by kernel_rfl) (by kernel_rfl)
    (fun ds gs h h' => by match ds, gs, h, h' with | [d1], [g1, g2, g3, g4, g5, g6], _, _ => rfl) ?_
  intro W base args ds p hL hval hA
  rw [Tryd.params6] at hA hval
  obtain ⟨v0, d0, rfl, rfl, h0⟩ := trodAll_one hA
  obtain ⟨n, rfl, rfl, rfl, wn0⟩ := open_int Tryd.underlying2 (hval 0 2 v0 rfl rfl) h0
  obtain ⟨ad, hE⟩ := ew5_of hL
  exact fd7Law_any n ad W (bounds_i64 wn0) hE

theorem fnExactFollowOrders_row : Rows.FnExactFollowOrdersSaid :=
  OpenClaim.holds_of_wide 6 Tryd.f6 rfl rfl rfl rfl rfl rfl rfl ⟨rfl, rfl, rfl, rfl, rfl⟩ rfl rfl rfl rfl rfl (by kernel_rfl) Tryd.func6 (by kernel_rfl)
    (of_decide_eq_true (by kernel_rfl)) (by unfold Func.isWrapper; rw [if_neg (of_decide_eq_false (by kernel_rfl))]; exact ⟨rfl, rfl⟩)
    (fun os started H enc _ => fnExactFollowOrders_lifted os started H enc)

theorem fnExactFollowOrders_card : Rows.FnExactFollowOrdersCardSaid :=
  Claim7.holds_tied_plain_at .later [] [.sentinel, .sentinel, .sentinel, .sentinel, .sentinel, .sentinel] true (true, "743a90fede1882260e67e33db3a613b22032078bbe0694545374f0acdb659fd9") true
    fnExactFollowOrders_row (fun _ h => by cases h) (by kernel_rfl) (fun _ h => by cases h) fnExactFollowOrders_row_tie rfl ⟨rfl, rfl⟩ (by kernel_rfl) rfl
    (fun f fn hf hfn => by
      obtain rfl : f = 6 := Option.some.inj ((show Tryd.prog.funcNamed "loop.example/g01353/laws.FnExactFollowOrders" = some 6 by kernel_rfl).symm.trans hf) |>.symm
      obtain rfl : fn = Tryd.f6 := (Option.some.inj (Tryd.func6.symm.trans hfn)).symm
      exact ⟨by kernel_rfl, fun j t ht => by
        have hm : t ∈ Tryd.f6.params.toList := Array.mem_toList_iff.2 (Array.mem_of_getElem? ht)
        have hall : (Tryd.f6.params.toList.all fun u => !Tryd.prog.wantsStandIn u) = true := by kernel_rfl
        exact (show Tryd.prog.wantsStandIn t = false by simpa using List.all_eq_true.1 hall t hm)⟩)
    (by kernel_rfl)
#print axioms fnExactFollowOrders_card
end Go.Proofs.YtfmfgpipklmecaaDoor
