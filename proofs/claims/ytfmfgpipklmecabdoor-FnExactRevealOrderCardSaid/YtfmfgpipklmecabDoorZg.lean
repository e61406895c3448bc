/-
  Orders of samples and their pairs: the program's contracts, of checkServings, listOf and pairsIn at a given order, numberOf, agreement. Condition: orders of at most eight samples.
-/
import Derived.Test.YtfmfgpipklmecabDoorZb
import Derived.Test.YtfmfgpipklmecabDoorIo
import Derived.Test.YtfmfgpipklmecabDoorZn
namespace Go.Proofs.YtfmfgpipklmecabDoor
open Go.ChangeShapes Go.WideShapes Go.ChangeAt Go.RowKit Go.Deep

/-- The pairs of an order: of the i-th with those behind it, up to the k-th. -/
def opK (xs : List Int) (i : Nat) : Nat → List Pq
  | 0 => []
  | k + 1 => opK xs i k ++ (if i < k then [(xs.getD i 0, xs.getD k 0)] else [])
def opI (xs : List Int) : Nat → List Pq
  | 0 => []
  | i + 1 => opI xs i ++ opK xs i xs.length
theorem opK_low (xs : List Int) (i : Nat) : ∀ k, k ≤ i + 1 → opK xs i k = []
  | 0, _ => rfl
  | k + 1, h => by rw [opK, opK_low xs i k (by omega), if_neg (by omega)]; rfl
theorem opK_succ {xs : List Int} {i k : Nat} {x y : Int} (hx : xs[i]? = some x) (hy : xs[k]? = some y) (h : i < k) : opK xs i (k + 1) = opK xs i k ++ [(x, y)] := by
  rw [opK, if_pos h, List.getD_eq_getElem?_getD, List.getD_eq_getElem?_getD, hx, hy]; rfl
theorem opK_len (xs : List Int) (i : Nat) : ∀ k, (opK xs i k).length ≤ k
  | 0 => by simp [opK]
  | k + 1 => by
    have := opK_len xs i k
    rw [opK, List.length_append]
    split <;> simp <;> omega
theorem opI_len {xs : List Int} (h8 : xs.length ≤ 8) : ∀ i, (opI xs i).length ≤ 8 * i
  | 0 => by simp [opI]
  | i + 1 => by
    have := opI_len h8 i
    have := opK_len xs i xs.length
    rw [opI, List.length_append]; omega
theorem opK_mem {xs : List Int} {i : Nat} (hi : i < xs.length) : ∀ {k : Nat} {p : Pq}, k ≤ xs.length → p ∈ opK xs i k → p.1 ∈ xs ∧ p.2 ∈ xs
  | 0, p, _, h => by simp [opK] at h
  | k + 1, p, hk, h => by
    rw [opK, List.mem_append] at h
    rcases h with h | h
    · exact opK_mem hi (by omega) h
    · split at h
      · have e : p = (xs.getD i 0, xs.getD k 0) := by simpa using h
        rw [e, List.getD_eq_getElem?_getD, List.getD_eq_getElem?_getD, List.getElem?_eq_getElem hi, List.getElem?_eq_getElem (show k < xs.length by omega)]
        exact ⟨List.getElem_mem hi, List.getElem_mem (show k < xs.length by omega)⟩
      · simp at h
theorem opI_mem {xs : List Int} : ∀ {i : Nat} {p : Pq}, i ≤ xs.length → p ∈ opI xs i → p.1 ∈ xs ∧ p.2 ∈ xs
  | 0, p, _, h => by simp [opI] at h
  | i + 1, p, hi, h => by
    rw [opI, List.mem_append] at h
    rcases h with h | h
    · exact opI_mem (by omega) h
    · exact opK_mem (by omega) (Nat.le_refl _) h

theorem Tryd.asGiven (A : Option Addr) (n c : Nat) (w : World) : (Instr.typeAssert (.iface 54 (.slice A n c)) 107 54 true).run Tryd.prog w = .ok (.tuple #[.slice A n c, .bool true]) w := by kernel_rfl

set_option maxRecDepth 100000 in
set_option maxHeartbeats 2000000 in
theorem cloneG_any (xs : List Int) (h0 : 0 < xs.length) (h8 : xs.length ≤ 8) (A : Option Addr) (c : Nat) (w : World) (hr : Rd w w.heap.size icells A xs) :
    Calls Tryd.prog 96 #[.slice A xs.length c] w fun e w' => ∃ A' c', e = .returned (.slice A' xs.length c') ∧ w'.ownsRow w.heap.size 2 1 (.slice A' xs.length c') xs.length (xs.flatMap icells) ∧ Below w.heap.size w w' := by
  obtain ⟨i0, hi, hz0, hz1, hz2⟩ := info_parts Tryd.info64
  have HI := Lib.hid hi
  have HZ0 := Lib.hid hz0
  have HZ1 := Lib.hid hz1
  have HZ2 := Lib.hid hz2
  clear hi hz0 hz1 hz2
  have HR := Lib.hid hr
  obtain ⟨b0, o0, rfl, -, -⟩ := hr h0
  clear hr
  have hnil : ∀ w : World, (binOp .eql 54 (.slice (some ⟨b0, o0, none⟩) xs.length c) (.slice none 0 0)).run Tryd.prog w = .ok (.bool false) w := fun w => Lib.run_eql_slice_nil (P := Tryd.prog) w 54 2 (some ⟨b0, o0, none⟩) xs.length c 0 0 Tryd.underlying54
  go_enter Tryd.func96, Tryd.ntmps96
  go_wp2_with (at_builtin; refine wpList_append_any _ rfl (.tmp 5) (.tmp 6) 54 54 rfl w.heap.size 2 i0 (.int .i64 0) 1 8 Tryd.underlying54 HI.out HZ0.out HZ1.out HZ2.out rfl (by decide) _ 0 [] rfl ?own _ xs.length (xs.flatMap icells) rfl ?src ?c3 ?c4 ?c5 ?_)
  case own => exact ⟨by simp, .inr ⟨w.heap.size, 0, #[], rfl, Nat.le_refl _, heap_alloc_new w _, Nat.le_refl _, by unfold maxLen; omega, by simp, by simp⟩⟩
  case src => exact src_of_rd _ Tryd.underlying54 icells_length icells_one (HR.out.keep ((Below.refl _ w).alloc (Nat.le_refl _) _))
  case c3 => unfold maxLen; omega
  case c4 => omega
  case c5 => simp
  intro v' w2 hown hg _
  have hB : Below w.heap.size w w2 := ((Below.refl _ w).alloc (Nat.le_refl _) _).grown hg (by simp) (fun k e => by
    have e2 : w.heap.size = k := by simpa [Value.ownBlock] using e
    omega)
  have hown2 : w2.ownsRow w.heap.size 2 1 v' xs.length (xs.flatMap icells) := by simpa using hown
  obtain ⟨A', c', rfl, -, -⟩ := own_rd icells_length hown2
  have HO := Lib.hid hown2
  have HB := Lib.hid hB
  clear hown hown2 hg hB hnil
  go_wp2
  go_ret
  exact ⟨A', c', rfl, HO.out, HB.out⟩

set_option maxRecDepth 100000 in
set_option maxHeartbeats 2000000 in
theorem listOfG_any (xs : List Int) (h0 : 0 < xs.length) (h8 : xs.length ≤ 8) (A : Option Addr) (c : Nat) (w : World) (hr : Rd w w.heap.size icells A xs) :
    Calls Tryd.prog 86 #[.iface 54 (.slice A xs.length c)] w fun e w' => ∃ A' c', e = .returned (.slice A' xs.length c') ∧ w'.ownsRow w.heap.size 2 1 (.slice A' xs.length c') xs.length (xs.flatMap icells) ∧ Below w.heap.size w w' := by
  have HC := Lib.hid (cloneG_any xs h0 h8 A c w hr)
  have a1 := Tryd.asGiven A xs.length c
  clear hr
  go_enter Tryd.func86, Tryd.ntmps86
  go_wp2_with fail
  refine HC.out.mono ?_
  rintro e w1 ⟨A', c', rfl, hO, hb⟩
  have HO := Lib.hid hO
  have HB := Lib.hid hb
  clear hO hb HC a1
  go_wp2
  go_ret
  exact ⟨A', c', rfl, HO.out, HB.out⟩

set_option maxRecDepth 100000 in
set_option maxHeartbeats 8000000 in
theorem pairsInG_any (xs : List Int) (h0 : 0 < xs.length) (h8 : xs.length ≤ 8) (A : Option Addr) (c : Nat) (w : World) (hr : Rd w w.heap.size icells A xs) :
    Calls Tryd.prog 69 #[.iface 54 (.slice A xs.length c)] w fun e w' => ∃ A' c', e = .returned (.slice A' (opI xs xs.length).length c') ∧ w'.ownsRow w.heap.size 110 2 (.slice A' (opI xs xs.length).length c') (opI xs xs.length).length ((opI xs xs.length).flatMap pqc) ∧ Below w.heap.size w w' := by
  obtain ⟨i0, hi, hz0, hz1, hz2⟩ := info_parts Tryd.infoPq
  have HI := Lib.hid hi
  have HZ0 := Lib.hid hz0
  have HZ1 := Lib.hid hz1
  have HZ2 := Lib.hid hz2
  clear hi hz0 hz1 hz2
  have HC := Lib.hid (listOfG_any xs h0 h8 A c w hr)
  clear hr
  go_enter Tryd.func69, Tryd.ntmps69
  go_wp2_with fail
  refine HC.out.mono ?_
  rintro e w1 ⟨Aq, cq, rfl, hOq, hb1⟩
  have HBq := Lib.hid hb1
  obtain ⟨g, cap, hAq, hcap, hcells⟩ : ∃ g, ∃ _ : Nat, Aq = some ⟨g, 0, none⟩ ∧ xs.length ≤ cq ∧ ∀ (j : Nat) (x : Int), xs[j]? = some x → w1.cell? ⟨g, j, none⟩ = some (.int .i64 x) := by
    have hq := hOq
    rcases hOq.2 with ⟨h', h0'⟩ | ⟨g, cap, cur, h', hb', hg', hn', -⟩
    · omega
    · simp only [Value.slice.injEq, true_and] at h'
      obtain ⟨rfl, rfl⟩ := h'
      refine ⟨g, 0, rfl, hn', fun j x hj => ?_⟩
      have hjl := (List.getElem?_eq_some_iff.1 hj).1
      rw [hq.cellAt j (by omega), flat_iN, List.getElem?_map, hj]; rfl
  subst hAq
  have HCe := Lib.hid hcells
  have HO0 : Hid (w1.ownsRow w1.heap.size 110 2 (.slice none 0 0) 0 ((opI xs 0).flatMap pqc)) := ⟨rfl, .inl ⟨rfl, rfl⟩⟩
  clear hOq hb1 hcells HC
  go_wp2_with fail
  go_loopw [3, 13] (fun v j wr => ∃ (i : Nat) (A1 : Option Addr) (n1 c1 : Nat), i ≤ xs.length ∧ j = .int .i64 i ∧ v = .slice A1 n1 c1 ∧ n1 = (opI xs i).length ∧ wr.ownsRow w1.heap.size 110 2 (.slice A1 n1 c1) n1 ((opI xs i).flatMap pqc) ∧ Below w1.heap.size w1 wr)
    (fun _ j _ => xs.length - (intOf j).toNat)
  case atStart => exact ⟨0, none, 0, 0, by omega, rfl, rfl, rfl, HO0.out, Below.refl _ _⟩
  case round =>
    clear HO0
    obtain ⟨i, A1, n1, c1, hi, rfl, rfl, hn1, hO, hB⟩ := hrel
    obtain ⟨wa, rfl⟩ : ∃ u, u = wr := ⟨_, rfl⟩
    have HO : Hid (n1 = (opI xs i ++ opK xs i (i + 1)).length ∧ wa.ownsRow w1.heap.size 110 2 (.slice A1 n1 c1) n1 ((opI xs i ++ opK xs i (i + 1)).flatMap pqc)) := by
      show _ ∧ _
      rw [opK_low xs i (i + 1) (by omega), List.append_nil]
      exact ⟨hn1, hO⟩
    have HO9 := Lib.hid hO
    have HB := Lib.hid hB
    have HN1 := Lib.hid hn1
    clear hO hB hn1
    have hi0 : (0 : Int) ≤ (i : Int) := Int.natCast_nonneg _
    by_cases hlt : i < xs.length
    · have hi8 : (i : Int) < xs.length := by omega
      obtain ⟨x, hx⟩ : ∃ x, xs[i]? = some x := ⟨_, List.getElem?_eq_getElem hlt⟩
      have e1 := (HB.out.cell (p := ⟨g, i, none⟩) (cell_lt9 (HCe.out i x hx))).trans (HCe.out i x hx)
      have hl64 := opI_len h8 i
      have u0 : IntKind.i64.wrap ((i : Int) + 1) = (i : Int) + 1 := IntWalk.i64_in _ ⟨by omega, by omega⟩
      have u00 : wrap64 ((i : Int) + 1) = (i : Int) + 1 := IntWalk.wrap64_in _ ⟨by omega, by omega⟩
      have HX := Lib.hid hx
      have hic : i + 1 ≤ cq := by omega
      have hil : i + 1 ≤ xs.length := by omega
      clear hx HN1 HO9
      by_cases hlo : cq = i + 1
      · have hxl : xs.length = i + 1 := by omega
        subst hlo
        have hz : xs.length - (i + 1) = 0 := by omega
        have HO11 : Hid (n1 = (opI xs (i + 1)).length ∧ wa.ownsRow w1.heap.size 110 2 (.slice A1 n1 c1) n1 ((opI xs (i + 1)).flatMap pqc)) := by
          have := HO.out
          rw [show opI xs (i + 1) = opI xs i ++ opK xs i (i + 1) from by rw [opI, hxl]]
          exact this
        clear HO
        go_wp2_with fail
        refine wp_loop_rounds 1 ?_
        rw [rounds_succ]
        go_wp2
        go_roundw
        case rel => exact ⟨i + 1, A1, n1, c1, by omega, by go_num, rfl, HO11.out.1, HO11.out.2, HB.out⟩
        case measure => simp [intOf]; omega
      · go_wp2_with fail
        go_loopw [3, 23] (fun v j wr => ∃ (q : Nat) (A2 : Option Addr) (n2 c2 : Nat), q ≤ xs.length - (i + 1) ∧ j = .int .i64 q ∧ v = .slice A2 n2 c2 ∧ n2 = (opI xs i ++ opK xs i (i + 1 + q)).length ∧ wr.ownsRow w1.heap.size 110 2 (.slice A2 n2 c2) n2 ((opI xs i ++ opK xs i (i + 1 + q)).flatMap pqc) ∧ Below w1.heap.size w1 wr)
          (fun _ j _ => (xs.length - (i + 1)) - (intOf j).toNat)
        case atStart => exact ⟨0, A1, n1, c1, by omega, rfl, rfl, HO.out.1, HO.out.2, HB.out⟩
        case round =>
          clear HO HB e1
          obtain ⟨q, A2, n2, c2, hq, rfl, rfl, hn2, hO, hB⟩ := hrel
          obtain ⟨wb, rfl⟩ : ∃ u, u = wr := ⟨_, rfl⟩
          have HO := Lib.hid hO
          have HB := Lib.hid hB
          have HN2 := Lib.hid hn2
          have hn2b : n2 ≤ 80 := by have := opK_len xs i (i + 1 + q); rw [hn2, List.length_append]; omega
          clear hO hB hn2
          have hq0 : (0 : Int) ≤ (q : Int) := Int.natCast_nonneg _
          by_cases hlt2 : q < xs.length - (i + 1)
          · have hq8 : (q : Int) < ((xs.length - (i + 1) : Nat) : Int) := by omega
            have hiq : i + 1 + q < xs.length := by omega
            obtain ⟨y, hy⟩ : ∃ y, xs[i + 1 + q]? = some y := ⟨_, List.getElem?_eq_getElem hiq⟩
            have e2 := (HB.out.cell (p := ⟨g, i + 1 + q, none⟩) (cell_lt9 (HCe.out _ y hy))).trans (HCe.out _ y hy)
            have hSt : Hid (opK xs i (i + 1 + (q + 1)) = opK xs i (i + 1 + q) ++ [(x, y)]) := opK_succ (k := i + 1 + q) HX.out hy (by omega)
            clear hy
            go_wp2_with (at_builtin; refine wpList_append_own _ rfl (.tmp 27) (.tmp 31) 101 rfl w1.heap.size 110 i0 (.agg #[.int .i64 0, .int .i64 0]) 2 16 Tryd.underlying101 HI.out HZ0.out HZ1.out HZ2.out rfl (by decide) _ _ _ rfl (HO.out.alloc _) ⟨wb.heap.size, 0, none⟩ 1 1 [.int .i64 x, .int .i64 y] rfl rfl ?c1 ?c2 ?c3 ?c4 ?c5 ?_)
            case c1 => exact cell_two_newP _ _ _ _
            case c2 => exact two_oneP _ _
            case c3 => unfold maxLen; omega
            case c4 => omega
            case c5 => have := HB.out.size; simp; omega
            intro v' w4 hown' hgrow _
            have hown4 : w4.ownsRow w1.heap.size 110 2 v' (n2 + 1) ((opI xs i ++ opK xs i (i + 1 + (q + 1))).flatMap pqc) := by
              rw [hSt.out, ← List.append_assoc, pqc_snoc]; simpa [pqc] using hown'
            have HB4 : Hid (Below w1.heap.size w1 w4) := (HB.out.alloc HB.out.size _).grown hgrow (by have := HB.out.size; simp; omega) (fun r e => (HO.out.lt r e).1)
            have HN4 : Hid (n2 + 1 = (opI xs i ++ opK xs i (i + 1 + (q + 1))).length) := by
              show _ = _
              rw [hSt.out, ← List.append_assoc, List.length_append, ← HN2.out]; rfl
            obtain ⟨A8, c8, rfl⟩ : ∃ A8 c8, v' = .slice A8 (n2 + 1) c8 := by
              rcases hown4.2 with ⟨h1, h2⟩ | ⟨g, cap, cur, h1, -⟩
              · exact ⟨_, _, by rw [h1, h2]⟩
              · exact ⟨_, _, h1⟩
            have HO4 := Lib.hid hown4
            clear hown' hown4 hgrow e2
            go_wp2
            go_roundw
            case rel => exact ⟨q + 1, A8, n2 + 1, c8, by omega, by go_num, rfl, HN4.out, HO4.out, HB4.out⟩
            case measure => simp [intOf]; omega
          · have hqe : i + 1 + q = xs.length := by omega
            have HO11 : Hid (n2 = (opI xs (i + 1)).length ∧ wb.ownsRow w1.heap.size 110 2 (.slice A2 n2 c2) n2 ((opI xs (i + 1)).flatMap pqc)) := by
              have h1 := HN2.out
              have h2 := HO.out
              rw [hqe] at h1 h2
              exact ⟨h1, h2⟩
            have hq9 : ¬ (q : Int) < ((xs.length - (i + 1) : Nat) : Int) := by omega
            go_wp2
            go_roundw
            case rel => exact ⟨i + 1, A2, n2, c2, by omega, by go_num, rfl, HO11.out.1, HO11.out.2, HB.out⟩
            case measure => simp [intOf]; omega
    · obtain rfl : i = xs.length := by omega
      have HB9 := Lib.hid (HBq.out.trans (HB.out.mono HBq.out.size))
      have HO10 := Lib.hid (own_base HO9.out HBq.out.size)
      go_wp2
      go_ret
      exact ⟨A1, c1, by (rw [← HN1.out]; first | done | rfl), by rw [← HN1.out]; exact HO10.out, HB9.out⟩

set_option maxRecDepth 100000 in
set_option maxHeartbeats 2000000 in
theorem numberOf_any (a b : Nat) (ha : a < 9) (hb9 : b < 9) (ps : List Pq) (B n : Nat) (D : DataW Unit) (w : World) (hO : OwnsP w B n D) (hH : Holds D ok2 kP (cntP ps)) :
    Calls Tryd.prog 70 #[.map (some B), .agg #[.int .i64 a, .int .i64 b]] w fun e w' => e = .returned (.int .i64 (cntP ps ((a : Int), (b : Int)) : Nat)) ∧ Below w.heap.size w w' := by
  obtain ⟨W, hW⟩ : ∃ W, w.alloc (.cells #[.int .i64 a, .int .i64 b] 110) = W := ⟨_, rfl⟩
  have hB : Below w.heap.size w W := by rw [← hW]; exact (Below.refl _ w).alloc (Nat.le_refl _) _
  have hrg : W.rangeAt w.heap.size 0 (pqc ((a : Int), (b : Int))) := by rw [← hW]; exact pq_range w _
  have hL := tally_look (p := ((a : Int), (b : Int))) (hO.kept (grown_of_below hB) (by simp)) hH ⟨⟨by show (0 : Int) ≤ a; omega, by show (a : Int) < 9; omega⟩, ⟨by show (0 : Int) ≤ b; omega, by show (b : Int) < 9; omega⟩⟩
  have c0 : W.cell? ⟨w.heap.size, 0, none⟩ = some (.int .i64 a) := by have := hrg 0 (.int .i64 (a : Int)) (by simp [pqc]); simpa using this
  have c1 : W.cell? ⟨w.heap.size, 1, none⟩ = some (.int .i64 b) := by have := hrg 1 (.int .i64 (b : Int)) (by simp [pqc]); simpa using this
  have HB := Lib.hid hB
  have HL := Lib.hid hL
  obtain ⟨x, hx⟩ : ∃ x : Nat, cntP ps ((a : Int), (b : Int)) = x := ⟨_, rfl⟩
  rw [hx] at HL ⊢
  clear hO hH hrg hB hL hx
  go_enter Tryd.func70, Tryd.ntmps70
  go_wp2_with (refine wpList_lookupR rfl 60 (.tmp 5) (.tmp 6) rfl rfl rfl HL.out ?_)
  go_wp2
  go_ret
  exact ⟨rfl, HB.out⟩
set_option maxRecDepth 100000 in
set_option maxHeartbeats 4000000 in
theorem sumForN_any (g : Pq → Int) (M : Int) (hM : M ≤ 6500) (qs : List Pq) (hqs : qs.length ≤ 6500) (hg : ∀ p ∈ qs, 0 ≤ g p ∧ g p ≤ M) (A : Option Addr) (c : Nat) (w : World) (hr : Rd w w.heap.size pqc A qs) (B : Nat)
    (HCf : ∀ p ∈ qs, ∀ (W : World), Below w.heap.size w W → Calls Tryd.prog 70 #[.map (some B), .agg #[.int .i64 p.1, .int .i64 p.2]] W fun e w' => e = .returned (.int .i64 (g p)) ∧ Below W.heap.size W w') :
    Calls Tryd.prog 68 #[.slice A qs.length c, .func (.func 70) #[.map (some B)] #[]] w fun e w' => e = .returned (.int .i64 (suP g qs)) ∧ Below w.heap.size w w' := by
  have HR := Lib.hid hr
  have HC := Lib.hid HCf
  have HG := Lib.hid hg
  clear hr HCf hg
  go_enter Tryd.func68, Tryd.ntmps68
  go_wp2_with fail
  go_loopw [5, 10] (fun s j wr => ∃ (t : Nat), t ≤ qs.length ∧ j = .int .i64 t ∧ s = .int .i64 (suP g (qs.take t)) ∧ Below w.heap.size w wr) (fun _ j _ => qs.length - (intOf j).toNat)
  case atStart => exact ⟨0, by omega, rfl, rfl, Below.refl _ _⟩
  case round =>
    obtain ⟨t, ht, rfl, rfl, hB⟩ := hrel
    obtain ⟨wa, rfl⟩ : ∃ u, u = wr := ⟨_, rfl⟩
    have HB := Lib.hid hB
    clear hB
    have ht0 : (0 : Int) ≤ (t : Int) := Int.natCast_nonneg _
    by_cases hlt : t < qs.length
    · obtain ⟨p, hp⟩ : ∃ x, qs[t]? = some x := ⟨_, List.getElem?_eq_getElem hlt⟩
      have ht8 : (t : Int) < qs.length := by omega
      obtain ⟨b, o, rfl, hbl, hrow⟩ := (HR.out.keep HB.out).at_ pqc_length hp
      have hpm := List.mem_of_getElem? hp
      have hgb := HG.out p hpm
      have HSu := Lib.hid (suP_take (g := g) hp)
      obtain ⟨p1, p2⟩ := p
      have hsb := suP_b (g := g) (M := M) (qs := qs.take t) (fun q hq => HG.out q (List.mem_of_mem_take hq))
      have hsl : (((qs.take t).length : Nat) : Int) * M ≤ 6500 * 6500 := Int.mul_le_mul (by rw [List.length_take]; omega) hM (by omega) (by omega)
      have e1 : wa.cell? ⟨b, o + t * 2, none⟩ = some (.int .i64 p1) := by simpa using hrow 0 (.int .i64 p1) (by simp [pqc])
      have e2 : wa.cell? ⟨b, o + t * 2 + 1, none⟩ = some (.int .i64 p2) := by simpa using hrow 1 (.int .i64 p2) (by simp [pqc])
      have HBa : Hid (Below wa.heap.size wa (wa.alloc (.cells #[.int .i64 p1, .int .i64 p2] 110))) := (Below.refl _ _).alloc (Nat.le_refl _) _
      have HCa := Lib.hid (HC.out (p1, p2) hpm _ (HB.out.trans (HBa.out.mono HB.out.size)))
      obtain ⟨s, hs⟩ : ∃ s, suP g (qs.take t) = s := ⟨_, rfl⟩
      obtain ⟨r, hr⟩ : ∃ r, g (p1, p2) = r := ⟨_, rfl⟩
      rw [hr] at hgb HSu HCa
      rw [hs] at hsb HSu ⊢
      have u1 : IntKind.i64.wrap (s + r) = s + r := IntWalk.i64_in _ ⟨by omega, by omega⟩
      have u2 : wrap64 (s + r) = s + r := IntWalk.wrap64_in _ ⟨by omega, by omega⟩
      clear hp hrow hbl hs hr hgb hsb hsl hpm
      go_wp2_with fail
      refine HCa.out.mono ?_
      rintro e w3 ⟨rfl, hb3⟩
      have HB3 := Lib.hid (HB.out.trans ((HBa.out.trans (hb3.mono HBa.out.size)).mono HB.out.size))
      clear hb3 HCa HBa HB e1 e2
      go_wp2
      go_roundw
      case rel => exact ⟨t + 1, by omega, by go_num, by rw [HSu.out], HB3.out⟩
      case measure => simp [intOf]; omega
    · obtain rfl : t = qs.length := by omega
      have HTk : Hid (suP g (qs.take qs.length) = suP g qs) := by show _ = _; rw [List.take_length]
      rw [HTk.out]
      go_wp2
      go_ret
      exact ⟨rfl, HB.out⟩

set_option maxRecDepth 100000 in
set_option maxHeartbeats 4000000 in
theorem agreementG_any (xs : List Int) (hxs : ∀ x ∈ xs, 0 ≤ x ∧ x < 9) (h0 : 0 < xs.length) (h8 : xs.length ≤ 8) (ps : List Pq) (hps : ps.length ≤ 6500) (B n : Nat) (D : DataW Unit) (A : Option Addr) (c : Nat) (w : World) (hr : Rd w w.heap.size icells A xs) (hO : OwnsP w B n D) (hH : Holds D ok2 kP (cntP ps)) :
    Calls Tryd.prog 37 #[.map (some B), .iface 54 (.slice A xs.length c)] w fun e w' => e = .returned (.int .i64 (suP (fun p => ((cntP ps p : Nat) : Int)) (opI xs xs.length))) ∧ Below w.heap.size w w' := by
  have HC := Lib.hid (pairsInG_any xs h0 h8 A c w hr)
  have HK : Hid (∀ (W : World), Below w.heap.size w W → OwnsP W B n D) := fun W hW => hO.kept (grown_of_below hW) (by simp)
  have HH := Lib.hid hH
  have HX := Lib.hid hxs
  have HL := Lib.hid (opI_len h8 xs.length)
  clear hr hO hH hxs
  go_enter Tryd.func37, Tryd.ntmps37
  go_wp2_with fail
  refine HC.out.mono ?_
  rintro e w1 ⟨A', c', rfl, hO, hb⟩
  have HB := Lib.hid hb
  have HS := Lib.hid (sumForN_any (fun p => ((cntP ps p : Nat) : Int)) 6500 (by omega) (opI xs xs.length) (by have := HL.out; omega) (fun p _ => by have := cntP_le ps p; omega) A' c' w1 (own_rd2 pqc_length hO) B (fun p hp W hW => by
    obtain ⟨m1, m2⟩ := opI_mem (Nat.le_refl _) hp
    obtain ⟨p1, p2⟩ := p
    have b1 := HX.out p1 m1
    have b2 := HX.out p2 m2
    obtain ⟨a, rfl⟩ : ∃ a : Nat, p1 = (a : Int) := ⟨p1.toNat, by omega⟩
    obtain ⟨b, rfl⟩ : ∃ b : Nat, p2 = (b : Int) := ⟨p2.toNat, by omega⟩
    exact numberOf_any a b (by omega) (by omega) ps B n D W (HK.out W (hb.trans (hW.mono hb.size))) HH.out))
  clear hO hb HC
  go_wp2_with fail
  refine HS.out.mono ?_
  rintro e w2 ⟨rfl, hb2⟩
  have HB2 := Lib.hid (HB.out.trans (hb2.mono HB.out.size))
  clear hb2 HS
  go_wp2
  go_ret
  exact ⟨rfl, HB2.out⟩

end Go.Proofs.YtfmfgpipklmecabDoor
