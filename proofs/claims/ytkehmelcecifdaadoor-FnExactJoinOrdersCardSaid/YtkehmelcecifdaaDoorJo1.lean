/-
  JoinOrders: the model's contract. Condition: the orders read, their numbers fit their kinds, not more than 1048576.
-/
import Derived.Test.YtkehmelcecifdaaDoorJo0
import Derived.Test.YtkehmelcecifdaaDoorWb
import Derived.Test.YtkehmelcecifdaaDoorAs0
import Derived.BigQuiet
import Derived.Deep.RegionHeld3
namespace Go.Proofs.YtkehmelcecifdaaDoor
open Go.ChangeShapes Go.WideShapes Go.ChangeAt Go.RowKit Go.Deep

theorem cells3J (W : World) (t : TypeId) (k y n : Int) : ∀ (j : Nat) (u : Value), [Value.int .u8 k, .int .i16 y, .int .i16 n][j]? = some u → (W.alloc (.cells #[.int .u8 k, .int .i16 y, .int .i16 n] t)).cell? ((⟨W.heap.size, 0, none⟩ : Addr).add j) = some u := fun j u hu => by
  have e : (⟨W.heap.size, 0, none⟩ : Addr).add j = ⟨W.heap.size, j, none⟩ := by cases j <;> simp [Addr.add]
  rw [e, Blk.cell (Blk.new W t #[.int .u8 k, .int .i16 y, .int .i16 n])]
  simpa using hu
theorem one3J (k y n : Int) : ∀ u ∈ [Value.int .u8 k, .int .i16 y, .int .i16 n], u.oneCell' = true := by
  intro u hu
  simp only [List.mem_cons, List.not_mem_nil, or_false] at hu
  rcases hu with rfl | rfl | rfl <;> rfl
theorem own_blockJ {w : World} {b size n : Nat} {e : TypeId} {v : Value} {xs : List Value} (h : w.ownsRow b e size v n xs) {k : Nat} (hk : v.ownBlock = some k) : b ≤ k ∧ k < w.heap.size := by
  rcases h.2 with ⟨rfl, -⟩ | ⟨g, cap, cur, rfl, h2, h3, -⟩
  · cases hk
  · obtain rfl : g = k := by simpa [Value.ownBlock] using hk
    exact ⟨h2, (Array.getElem?_eq_some_iff.1 h3).1⟩
theorem empty_ownJ (w : World) (t : TypeId) (size : Nat) : (w.alloc (.cells #[] t)).ownsRow w.heap.size t size (.slice (some ⟨w.heap.size, 0, none⟩) 0 0) 0 [] :=
  ⟨by simp, .inr ⟨w.heap.size, 0, #[], rfl, Nat.le_refl _, heap_alloc_new w _, Nat.le_refl _, by unfold maxLen; omega, by simp, by simp⟩⟩
theorem src_wt (w : World) (p : Wnt) : Src Tryd.prog 3 46 (.slice (some ⟨w.heap.size, 0, none⟩) 1 1) 1 (wcells p) (w.alloc (.cells #[.int .u8 p.1.1, .int .i16 p.1.2, .int .i16 p.2] 91)) := by
  have hK : Blk (w.alloc (.cells #[.int .u8 p.1.1, .int .i16 p.1.2, .int .i16 p.2] 91)) w.heap.size 91 #[.int .u8 p.1.1, .int .i16 p.1.2, .int .i16 p.2] := Blk.new w _ _
  have := src_of_rd (P := Tryd.prog) (w.alloc (.cells #[.int .u8 p.1.1, .int .i16 p.1.2, .int .i16 p.2] 91)) Tryd.underlying46 wcells_length wcells_one (c := 1) (B := w.heap.size + 1) (A := some ⟨w.heap.size, 0, none⟩) (xs := [p]) (fun _ => ⟨w.heap.size, 0, rfl, by omega, fun j v hv => by
    rw [Nat.zero_add, hK.cell j]
    simpa [wcells] using hv⟩)
  simpa using this
theorem mg_a {a b out L : List Wnt} {i k : Nat} {x : Wnt} (hi : a[i]? = some x) (hb : b.length ≤ k) (h : out ++ mgL (a.drop i) (b.drop k) = L) : (out ++ [x]) ++ mgL (a.drop (i + 1)) (b.drop k) = L := by
  obtain ⟨h1, h2⟩ := List.getElem?_eq_some_iff.1 hi
  rw [← h, List.drop_eq_nil_of_le hb, mgL_nil2, mgL_nil2, List.drop_eq_getElem_cons h1, h2]; simp
theorem mg_b {a b out L : List Wnt} {i k : Nat} {y : Wnt} (hk : b[k]? = some y) (ha : a.length ≤ i) (h : out ++ mgL (a.drop i) (b.drop k) = L) : (out ++ [y]) ++ mgL (a.drop i) (b.drop (k + 1)) = L := by
  obtain ⟨h1, h2⟩ := List.getElem?_eq_some_iff.1 hk
  rw [← h, List.drop_eq_nil_of_le ha, mgL_nil, mgL_nil, List.drop_eq_getElem_cons h1, h2]; simp
theorem mg_lt {a b out L : List Wnt} {i k : Nat} {x y : Wnt} (hi : a[i]? = some x) (hk : b[k]? = some y) (hc : cmpB x.1 y.1 < 0) (h : out ++ mgL (a.drop i) (b.drop k) = L) : (out ++ [x]) ++ mgL (a.drop (i + 1)) (b.drop k) = L := by
  obtain ⟨h1, h2⟩ := List.getElem?_eq_some_iff.1 hi
  obtain ⟨k1, k2⟩ := List.getElem?_eq_some_iff.1 hk
  rw [← h, List.drop_eq_getElem_cons h1, h2, List.drop_eq_getElem_cons k1, k2, mgL_lt hc]; simp
theorem mg_gt {a b out L : List Wnt} {i k : Nat} {x y : Wnt} (hi : a[i]? = some x) (hk : b[k]? = some y) (hc : 0 < cmpB x.1 y.1) (h : out ++ mgL (a.drop i) (b.drop k) = L) : (out ++ [y]) ++ mgL (a.drop i) (b.drop (k + 1)) = L := by
  obtain ⟨h1, h2⟩ := List.getElem?_eq_some_iff.1 hi
  obtain ⟨k1, k2⟩ := List.getElem?_eq_some_iff.1 hk
  rw [← h, List.drop_eq_getElem_cons h1, h2, List.drop_eq_getElem_cons k1, k2, mgL_gt hc]; simp
theorem mg_eq {a b out L : List Wnt} {i k : Nat} {x y : Wnt} (hi : a[i]? = some x) (hk : b[k]? = some y) (hc : cmpB x.1 y.1 = 0) (h : out ++ mgL (a.drop i) (b.drop k) = L) : (out ++ [(x.1, x.2 + y.2)]) ++ mgL (a.drop (i + 1)) (b.drop (k + 1)) = L := by
  obtain ⟨h1, h2⟩ := List.getElem?_eq_some_iff.1 hi
  obtain ⟨k1, k2⟩ := List.getElem?_eq_some_iff.1 hk
  rw [← h, List.drop_eq_getElem_cons h1, h2, List.drop_eq_getElem_cons k1, k2, mgL_eq hc]; simp

set_option maxRecDepth 100000 in
set_option maxHeartbeats 8000000 in
theorem specJoin_any (a b : List Wnt) (hwa : ∀ x ∈ a, wfW x) (hwb : ∀ x ∈ b, wfW x) (A B : Option Addr) (c d : Nat) (w : World) (hla : a.length ≤ 1048576) (hlb : b.length ≤ 1048576) (hra : Rd w w.heap.size wcells A a) (hrb : Rd w w.heap.size wcells B b) :
    Calls Tryd.prog 35 #[.slice A a.length c, .slice B b.length d] w fun e w' => ∃ v, e = .returned (.tuple #[v, .int .i64 (joC a b)]) ∧ w'.ownsRow w.heap.size 91 3 v (joL a b).length ((joL a b).flatMap wcells) ∧ Below w.heap.size w w' := by
  obtain ⟨i0, hi0, hz0, hz1, hz2⟩ := info_parts Tryd.infoWI
  have HI := Lib.hid hi0
  have HZ0 := Lib.hid hz0
  have HZ1 := Lib.hid hz1
  have HZ2 := Lib.hid hz2
  clear hi0 hz0 hz1 hz2
  have HRa := Lib.hid hra
  have HRb := Lib.hid hrb
  have HWa := Lib.hid hwa
  have HWb := Lib.hid hwb
  clear hra hrb hwa hwb
  go_enter Tryd.func35, Tryd.ntmps35
  go_wp2_with fail
  refine (l02Ok_any a HWa.out A c w hla HRa.out).mono ?_
  rintro e w1 ⟨rfl, hb⟩
  have HB1 := Lib.hid hb
  clear hb
  cases hoa : ordOk a
  · have E := Lib.hid (jo_bad (a := a) (b := b) (by simp [joK, hoa]))
    clear hoa
    go_wp2
    go_ret2
    exact ⟨_, by (rw [E.out.2]; first | done | rfl), by rw [E.out.1]; exact own_base (empty_ownJ w1 91 3) HB1.out.size, HB1.out.alloc HB1.out.size _⟩
  go_wp2_with fail
  refine (l02Ok_any b HWb.out B d w1 hlb (HRb.out.keep HB1.out)).mono ?_
  rintro e w2 ⟨rfl, hb⟩
  have HB2 : Hid (Below w.heap.size w w2) := HB1.out.trans (hb.mono HB1.out.size)
  clear hb HB1
  cases hob : ordOk b
  · have E := Lib.hid (jo_bad (a := a) (b := b) (by simp [joK, hob]))
    clear hoa hob
    go_wp2
    go_ret2
    exact ⟨_, by (rw [E.out.2]; first | done | rfl), by rw [E.out.1]; exact own_base (empty_ownJ w2 91 3) HB2.out.size, HB2.out.alloc HB2.out.size _⟩
  have hK : joK a b = true := by simp [joK, hoa, hob]
  have HK := Lib.hid hK
  have HNa := Lib.hid (ordOk_N hoa)
  have HNb := Lib.hid (ordOk_N hob)
  have hLa := ordOk_L hoa
  have hLb := ordOk_L hob
  have HO0 : Hid ((w2.alloc (.cells #[] 91)).ownsRow w.heap.size 91 3 (.slice (some ⟨w2.heap.size, 0, none⟩) ([] : List Wnt).length 0) ([] : List Wnt).length (([] : List Wnt).flatMap wcells)) := own_base (empty_ownJ w2 _ 3) HB2.out.size
  have HB0 : Hid (Below w.heap.size w (w2.alloc (.cells #[] 91))) := HB2.out.alloc HB2.out.size _
  clear hoa hob hK HB2
  go_wp2_with fail
  go_loopw [6, 7, 8] (fun ov iv kv wr => ∃ (i k : Nat) (O : Option Addr) (oc : Nat) (out : List Wnt), i ≤ a.length ∧ k ≤ b.length ∧ ov = .slice O out.length oc ∧ iv = .int .i64 i ∧ kv = .int .i64 k ∧ out.length ≤ i + k ∧ out ++ mgL (a.drop i) (b.drop k) = mgL a b ∧ wr.ownsRow w.heap.size 91 3 (.slice O out.length oc) out.length (out.flatMap wcells) ∧ Below w.heap.size w wr)
      (fun _ i k _ => a.length + b.length - ((intOf i).toNat + (intOf k).toNat))
  case atStart => exact ⟨0, 0, _, 0, [], Nat.zero_le _, Nat.zero_le _, rfl, rfl, rfl, Nat.zero_le _, rfl, HO0.out, HB0.out⟩
  case round =>
    clear HO0 HB0
    obtain ⟨i, k, O, oc, out, hi, hk, rfl, rfl, rfl, hol, hF, hO, hB⟩ := hrel
    obtain ⟨wa, rfl⟩ : ∃ u, u = wr := ⟨_, rfl⟩
    have HF := Lib.hid hF
    have HO := Lib.hid hO
    have HB := Lib.hid hB
    have HOl : Hid (out.length ≤ 16) := by show _ ≤ _; omega
    have HOl2 : Hid (out.length ≤ i + k) := hol
    clear hF hO hB hol
    have hi0 : (0 : Int) ≤ (i : Int) := Int.natCast_nonneg _
    have hk0 : (0 : Int) ≤ (k : Int) := Int.natCast_nonneg _
    have ui : IntKind.i64.wrap ((i : Int) + 1) = (i : Int) + 1 := IntWalk.i64_in _ ⟨by omega, by omega⟩
    have ui2 : wrap64 ((i : Int) + 1) = (i : Int) + 1 := IntWalk.wrap64_in _ ⟨by omega, by omega⟩
    have uk : IntKind.i64.wrap ((k : Int) + 1) = (k : Int) + 1 := IntWalk.i64_in _ ⟨by omega, by omega⟩
    have uk2 : wrap64 ((k : Int) + 1) = (k : Int) + 1 := IntWalk.wrap64_in _ ⟨by omega, by omega⟩
    have UI := Lib.hid ui
    have UI2 := Lib.hid ui2
    have UK := Lib.hid uk
    have UK2 := Lib.hid uk2
    clear ui ui2 uk uk2
    by_cases hia : i < a.length
    · have hi8 : (i : Int) < a.length := by omega
      obtain ⟨⟨⟨k1, y1⟩, n1⟩, hx⟩ : ∃ x, a[i]? = some x := ⟨_, List.getElem?_eq_getElem hia⟩
      obtain ⟨bA, oA, rfl, hbA, hrowA⟩ := HRa.out.at_ wcells_length hx
      have HRa0 := Lib.hid hrowA
      have HLa0 := Lib.hid hbA
      have HRowA := Lib.hid (rangeAt_below HRa0.out HB.out HLa0.out)
      have HBlA : Hid (bA < wa.heap.size) := Nat.lt_of_lt_of_le HLa0.out HB.out.size
      have HXa := Lib.hid hx
      have hn1 := HNa.out _ (List.mem_of_getElem? hx)
      have hn11 : 1 ≤ n1 := hn1.1
      have hn12 : n1 ≤ 144 := hn1.2
      clear hrowA hbA hx hn1
      have hine : ((i : Int) == (a.length : Int)) = false := by simp; omega
      by_cases hkb : k < b.length
      · have hk8 : (k : Int) < b.length := by omega
        have hkne : ((k : Int) == (b.length : Int)) = false := by simp; omega
        obtain ⟨⟨⟨k2, y2⟩, n2⟩, hy⟩ : ∃ x, b[k]? = some x := ⟨_, List.getElem?_eq_getElem hkb⟩
        obtain ⟨bB, oB, rfl, hbB, hrowB⟩ := HRb.out.at_ wcells_length hy
        have HRb0 := Lib.hid hrowB
        have HLb0 := Lib.hid hbB
        have HRowB := Lib.hid (rangeAt_below HRb0.out HB.out HLb0.out)
        have HBlB : Hid (bB < wa.heap.size) := Nat.lt_of_lt_of_le HLb0.out HB.out.size
        have HYb := Lib.hid hy
        have hn2 := HNb.out _ (List.mem_of_getElem? hy)
        have hn21 : 1 ≤ n2 := hn2.1
        have hn22 : n2 ≤ 144 := hn2.2
        clear hrowB hbB hy hn2
        go_wp2_with fail
        refine wp_region_held_drew (S := fun w' => Below wa.heap.size wa w') (by kernel_rfl) (Below.refl _ _).drew (fun hHeld => ?_)
        refine wpAnyH_take (i := 0) (v := .slice (some ⟨bA, oA, none⟩) a.length c) rfl (by kernel_rfl) (by kernel_rfl) (by kernel_rfl) (fun _ _ _ h => h) (Or.inl ⟨by rfl, fun w' h => by go_simp⟩) (by assumption) ?_
        try simp only [Act.put, List.getElem_toArray, List.getElem_cons_zero, List.getElem_cons_succ, List.setIfInBounds_toArray, List.set_cons_zero, List.set_cons_succ]
        refine wpAnyH_take (i := 1) (v := .int .i64 i) rfl (by kernel_rfl) (by kernel_rfl) (by kernel_rfl) (fun _ _ _ h => h) (Or.inl ⟨by rfl, fun w' h => by go_simp⟩) (by assumption) ?_
        try simp only [Act.put, List.getElem_toArray, List.getElem_cons_zero, List.getElem_cons_succ, List.setIfInBounds_toArray, List.set_cons_zero, List.set_cons_succ]
        refine wpAnyH_take (i := 2) (v := .pointer (some ⟨bA, oA + i * 3, none⟩)) rfl (by kernel_rfl) (by kernel_rfl) (by kernel_rfl) (fun _ _ _ h => h) (Or.inl ⟨by rfl, fun w' h => by go_simp⟩) (by assumption) ?_
        try simp only [Act.put, List.getElem_toArray, List.getElem_cons_zero, List.getElem_cons_succ, List.setIfInBounds_toArray, List.set_cons_zero, List.set_cons_succ]
        refine wpAnyH_take (i := 3) (v := .pointer (some ⟨bA, oA + i * 3, none⟩)) rfl (by kernel_rfl) (by kernel_rfl) (by kernel_rfl) (fun _ _ _ h => h) (Or.inl ⟨by rfl, fun w' h => by go_simp⟩) (by assumption) ?_
        try simp only [Act.put, List.getElem_toArray, List.getElem_cons_zero, List.getElem_cons_succ, List.setIfInBounds_toArray, List.set_cons_zero, List.set_cons_succ]
        refine wpAnyH_take (i := 4) (v := .agg #[.int .u8 k1, .int .i16 y1]) rfl (by kernel_rfl) (by kernel_rfl) (by kernel_rfl) (fun _ _ _ h => h) (Or.inl ⟨by rfl, fun w' h => by obtain ⟨f1, f2, f3⟩ := rowW (rangeAt_below HRowA.out (h) HBlA.out); go_simp⟩) (by assumption) ?_
        try simp only [Act.put, List.getElem_toArray, List.getElem_cons_zero, List.getElem_cons_succ, List.setIfInBounds_toArray, List.set_cons_zero, List.set_cons_succ]
        refine wpAnyH_take (i := 5) (v := .slice (some ⟨bB, oB, none⟩) b.length d) rfl (by kernel_rfl) (by kernel_rfl) (by kernel_rfl) (fun _ _ _ h => h) (Or.inl ⟨by rfl, fun w' h => by go_simp⟩) (by assumption) ?_
        try simp only [Act.put, List.getElem_toArray, List.getElem_cons_zero, List.getElem_cons_succ, List.setIfInBounds_toArray, List.set_cons_zero, List.set_cons_succ]
        refine wpAnyH_take (i := 6) (v := .int .i64 k) rfl (by kernel_rfl) (by kernel_rfl) (by kernel_rfl) (fun _ _ _ h => h) (Or.inl ⟨by rfl, fun w' h => by go_simp⟩) (by assumption) ?_
        try simp only [Act.put, List.getElem_toArray, List.getElem_cons_zero, List.getElem_cons_succ, List.setIfInBounds_toArray, List.set_cons_zero, List.set_cons_succ]
        refine wpAnyH_take (i := 7) (v := .pointer (some ⟨bB, oB + k * 3, none⟩)) rfl (by kernel_rfl) (by kernel_rfl) (by kernel_rfl) (fun _ _ _ h => h) (Or.inl ⟨by rfl, fun w' h => by go_simp⟩) (by assumption) ?_
        try simp only [Act.put, List.getElem_toArray, List.getElem_cons_zero, List.getElem_cons_succ, List.setIfInBounds_toArray, List.set_cons_zero, List.set_cons_succ]
        refine wpAnyH_take (i := 8) (v := .pointer (some ⟨bB, oB + k * 3, none⟩)) rfl (by kernel_rfl) (by kernel_rfl) (by kernel_rfl) (fun _ _ _ h => h) (Or.inl ⟨by rfl, fun w' h => by go_simp⟩) (by assumption) ?_
        try simp only [Act.put, List.getElem_toArray, List.getElem_cons_zero, List.getElem_cons_succ, List.setIfInBounds_toArray, List.set_cons_zero, List.set_cons_succ]
        refine wpAnyH_take (i := 9) (v := .agg #[.int .u8 k2, .int .i16 y2]) rfl (by kernel_rfl) (by kernel_rfl) (by kernel_rfl) (fun _ _ _ h => h) (Or.inl ⟨by rfl, fun w' h => by obtain ⟨f1, f2, f3⟩ := rowW (rangeAt_below HRowB.out (h) HBlB.out); go_simp⟩) (by assumption) ?_
        try simp only [Act.put, List.getElem_toArray, List.getElem_cons_zero, List.getElem_cons_succ, List.setIfInBounds_toArray, List.set_cons_zero, List.set_cons_succ]
        obtain ⟨D0, hD0⟩ : ∃ D0, wa.drew = D0 := ⟨_, rfl⟩
        rw [hD0] at hHeld ⊢
        clear hD0
        refine wpAnyH_ready (rs := [10]) (by kernel_rfl) (by simp) ?_
        refine AllReadyH.cons rfl (fun K hK => ?_) AllReadyH.nil
        refine if_wanted rfl ?_
        go_simp
        refine (specCmp_any k1 y1 k2 y2 _).mono ?_
        rintro e w5 ⟨rfl, hb⟩
        have hH2 : Below wa.heap.size wa w5 := hHeld.trans (hb.mono hHeld.size)
        clear hb hHeld
        dsimp only
        refine hK.out _ _ hH2 (fun hHeld => ?_)
        clear hK K hH2
        try simp only [Act.put, List.getElem_toArray, List.getElem_cons_zero, List.getElem_cons_succ, List.setIfInBounds_toArray, List.set_cons_zero, List.set_cons_succ]
        refine wpAnyH_ready (rs := [11]) (by kernel_rfl) (by simp) ?_
        refine AllReadyH.cons rfl (fun K hK => ?_) AllReadyH.nil
        refine if_wanted rfl ?_
        refine wp_assign0 (v := .int .i64 (cmpB (k1, y1) (k2, y2))) rfl rfl ?_
        refine hK.out _ _ hHeld (fun hHeld => ?_)
        clear hK K
        try simp only [Act.put, List.getElem_toArray, List.getElem_cons_zero, List.getElem_cons_succ, List.setIfInBounds_toArray, List.set_cons_zero, List.set_cons_succ]
        refine wpAnyH_done (by kernel_rfl) ?_ _
        try simp only [Act.put, List.getElem_toArray, List.getElem_cons_zero, List.getElem_cons_succ, List.setIfInBounds_toArray, List.set_cons_zero, List.set_cons_succ]
        have hb := hHeld
        clear hHeld
        have HO5 := Lib.hid (own_keep' HO.out hb)
        have HB5 := Lib.hid (HB.out.trans (hb.mono HB.out.size))
        have HRa5 : Hid (w5.rangeAt bA (oA + i * 3) (wcells ((k1, y1), n1))) := rangeAt_below HRowA.out hb HBlA.out
        have HRb5 : Hid (w5.rangeAt bB (oB + k * 3) (wcells ((k2, y2), n2))) := rangeAt_below HRowB.out hb HBlB.out
        clear hb HO HB HRowA HRowB HBlA HBlB
        obtain ⟨cc, hcc⟩ : ∃ q, cmpB (k1, y1) (k2, y2) = q := ⟨_, rfl⟩
        have HCc := Lib.hid hcc
        rw [hcc]
        clear hcc
        by_cases hlt : cc < 0
        · have HF2 := Lib.hid (mg_lt HXa.out HYb.out (by rw [show cmpB ((k1, y1), n1).1 ((k2, y2), n2).1 = cc from HCc.out]; exact hlt) HF.out)
          obtain ⟨p1, p2, p3⟩ := rowW HRa5.out
          have hol := HOl.out
          go_wp2_with (at_builtin; refine wpList_append_own _ rfl (.tmp 78) (.tmp 83) 46 rfl w.heap.size 91 i0 (.agg #[.int .u8 0, .int .i16 0, .int .i16 0]) 3 6 Tryd.underlying46 HI.out HZ0.out HZ1.out HZ2.out rfl (by decide) _ _ _ rfl (HO5.out.alloc _) ⟨w5.heap.size, 0, none⟩ 1 1 [.int .u8 k1, .int .i16 y1, .int .i16 n1] rfl rfl ?f11 ?f12 ?f13 ?f14 ?f15 ?_)
          try (case f11 => exact cells3J w5 _ _ _ _)
          try (case f12 => first | exact one3J _ _ _ | exact ⟨rfl, rfl, rfl⟩)
          case f13 => unfold maxLen; omega
          case f14 => omega
          case f15 => have := HB5.out.size; simp; omega
          intro v8 w8 hown8 hg8 _
          have hown9 : w8.ownsRow w.heap.size 91 3 v8 (out ++ [((k1, y1), n1)]).length ((out ++ [((k1, y1), n1)]).flatMap wcells) := by rw [List.length_append, List.flatMap_append]; simpa [wcells] using hown8
          obtain ⟨A8, c8, rfl, -, -⟩ := own_rd wcells_length hown9
          have HB8 : Hid (Below w.heap.size w w8) := (HB5.out.alloc HB5.out.size _).grown hg8 (HB5.out.alloc HB5.out.size _).size (fun q e => by have := own_blockJ HO5.out e; omega)
          obtain ⟨t2, ht2⟩ : ∃ t2, out ++ [((k1, y1), n1)] = t2 := ⟨_, rfl⟩
          have hF2 := HF2.out
          rw [ht2] at hown9 hF2 ⊢
          have HLt : Hid (t2.length ≤ i + k + 1) := by have h := congrArg List.length ht2; rw [List.length_append] at h; have := HOl2.out; show _ ≤ _; simp at h; omega
          have HF3 := Lib.hid hF2
          have HT := Lib.hid hown9
          clear hown8 hown9 hg8 ht2 hF2 hol
          have ui := UI.out
          have ui2 := UI2.out
          go_wp2
          go_roundw
          case rel => exact ⟨i + 1, k, A8, c8, t2, by omega, by omega, rfl, by go_num, rfl, by have := HLt.out; omega, HF3.out, HT.out, HB8.out⟩
          case measure => simp [intOf]; omega
        · by_cases hgt : 0 < cc
          · have HF2 := Lib.hid (mg_gt HXa.out HYb.out (by rw [show cmpB ((k1, y1), n1).1 ((k2, y2), n2).1 = cc from HCc.out]; exact hgt) HF.out)
            obtain ⟨p1, p2, p3⟩ := rowW HRb5.out
            have hol := HOl.out
            go_wp2_with (at_builtin; refine wpList_append_own _ rfl (.tmp 90) (.tmp 95) 46 rfl w.heap.size 91 i0 (.agg #[.int .u8 0, .int .i16 0, .int .i16 0]) 3 6 Tryd.underlying46 HI.out HZ0.out HZ1.out HZ2.out rfl (by decide) _ _ _ rfl (HO5.out.alloc _) ⟨w5.heap.size, 0, none⟩ 1 1 [.int .u8 k2, .int .i16 y2, .int .i16 n2] rfl rfl ?f221 ?f22 ?f23 ?f24 ?f25 ?_)
            try (case f221 => exact cells3J w5 _ _ _ _)
            try (case f22 => first | exact one3J _ _ _ | exact ⟨rfl, rfl, rfl⟩)
            case f23 => unfold maxLen; omega
            case f24 => omega
            case f25 => have := HB5.out.size; simp; omega
            intro v8 w8 hown8 hg8 _
            have hown9 : w8.ownsRow w.heap.size 91 3 v8 (out ++ [((k2, y2), n2)]).length ((out ++ [((k2, y2), n2)]).flatMap wcells) := by rw [List.length_append, List.flatMap_append]; simpa [wcells] using hown8
            obtain ⟨A8, c8, rfl, -, -⟩ := own_rd wcells_length hown9
            have HB8 : Hid (Below w.heap.size w w8) := (HB5.out.alloc HB5.out.size _).grown hg8 (HB5.out.alloc HB5.out.size _).size (fun q e => by have := own_blockJ HO5.out e; omega)
            obtain ⟨t2, ht2⟩ : ∃ t2, out ++ [((k2, y2), n2)] = t2 := ⟨_, rfl⟩
            have hF2 := HF2.out
            rw [ht2] at hown9 hF2 ⊢
            have HLt : Hid (t2.length ≤ i + k + 1) := by have h := congrArg List.length ht2; rw [List.length_append] at h; have := HOl2.out; show _ ≤ _; simp at h; omega
            have HF3 := Lib.hid hF2
            have HT := Lib.hid hown9
            clear hown8 hown9 hg8 ht2 hF2 hol
            have uk := UK.out
            have uk2 := UK2.out
            go_wp2
            go_roundw
            case rel => exact ⟨i, k + 1, A8, c8, t2, by omega, by omega, rfl, rfl, by go_num, by have := HLt.out; omega, HF3.out, HT.out, HB8.out⟩
            case measure => simp [intOf]; omega
          · obtain rfl : cc = 0 := by omega
            have HF2 := Lib.hid (mg_eq HXa.out HYb.out HCc.out HF.out)
            obtain ⟨wd, hwd⟩ : ∃ wd, w5.drew = wd := ⟨_, rfl⟩
            have HOd : Hid (wd.ownsRow w.heap.size 91 3 (.slice O out.length oc) out.length (out.flatMap wcells)) := by show World.ownsRow _ _ _ _ _ _ _; rw [← hwd]; exact HO5.out.drew
            have HBd : Hid (Below w.heap.size w wd) := by show Below _ _ _; rw [← hwd]; exact HB5.out.drew
            have WD := Lib.hid hwd
            have hol := HOl.out
            have hw16 : IntKind.i16.wrap (n1 + n2) = n1 + n2 := IntWalk.i16_in _ ⟨by omega, by omega⟩
            clear hwd
            go_wp2_with fail
            refine wp_region_held_drew (S := fun w' => Below w.heap.size w w') (by kernel_rfl) (by rw [WD.out]; exact HBd.out) (fun hHeld => ?_)
            refine wpAnyH_take (i := 0) (v := .slice O out.length oc) rfl (by kernel_rfl) (by kernel_rfl) (by kernel_rfl) (fun _ _ _ h => h) (Or.inl ⟨by rfl, fun w' h => by go_simp⟩) (by assumption) ?_
            try simp only [Act.put, List.getElem_toArray, List.getElem_cons_zero, List.getElem_cons_succ, List.setIfInBounds_toArray, List.set_cons_zero, List.set_cons_succ]
            refine wpAnyH_take (i := 1) (v := .slice (some ⟨bA, oA, none⟩) a.length c) rfl (by kernel_rfl) (by kernel_rfl) (by kernel_rfl) (fun _ _ _ h => h) (Or.inl ⟨by rfl, fun w' h => by go_simp⟩) (by assumption) ?_
            try simp only [Act.put, List.getElem_toArray, List.getElem_cons_zero, List.getElem_cons_succ, List.setIfInBounds_toArray, List.set_cons_zero, List.set_cons_succ]
            refine wpAnyH_take (i := 2) (v := .int .i64 i) rfl (by kernel_rfl) (by kernel_rfl) (by kernel_rfl) (fun _ _ _ h => h) (Or.inl ⟨by rfl, fun w' h => by go_simp⟩) (by assumption) ?_
            try simp only [Act.put, List.getElem_toArray, List.getElem_cons_zero, List.getElem_cons_succ, List.setIfInBounds_toArray, List.set_cons_zero, List.set_cons_succ]
            refine wpAnyH_take (i := 3) (v := .pointer (some ⟨bA, oA + i * 3, none⟩)) rfl (by kernel_rfl) (by kernel_rfl) (by kernel_rfl) (fun _ _ _ h => h) (Or.inl ⟨by rfl, fun w' h => by go_simp⟩) (by assumption) ?_
            try simp only [Act.put, List.getElem_toArray, List.getElem_cons_zero, List.getElem_cons_succ, List.setIfInBounds_toArray, List.set_cons_zero, List.set_cons_succ]
            refine wpAnyH_take (i := 4) (v := .pointer (some ⟨bA, oA + i * 3, none⟩)) rfl (by kernel_rfl) (by kernel_rfl) (by kernel_rfl) (fun _ _ _ h => h) (Or.inl ⟨by rfl, fun w' h => by go_simp⟩) (by assumption) ?_
            try simp only [Act.put, List.getElem_toArray, List.getElem_cons_zero, List.getElem_cons_succ, List.setIfInBounds_toArray, List.set_cons_zero, List.set_cons_succ]
            refine wpAnyH_take (i := 5) (v := .agg #[.int .u8 k1, .int .i16 y1]) rfl (by kernel_rfl) (by kernel_rfl) (by kernel_rfl) (fun _ _ _ h => h) (Or.inl ⟨by rfl, fun w' h => by obtain ⟨f1, f2, f3⟩ := rowW (rangeAt_below HRa0.out h HLa0.out); go_simp⟩) (by assumption) ?_
            try simp only [Act.put, List.getElem_toArray, List.getElem_cons_zero, List.getElem_cons_succ, List.setIfInBounds_toArray, List.set_cons_zero, List.set_cons_succ]
            refine wpAnyH_take (i := 6) (v := .slice (some ⟨bA, oA, none⟩) a.length c) rfl (by kernel_rfl) (by kernel_rfl) (by kernel_rfl) (fun _ _ _ h => h) (Or.inl ⟨by rfl, fun w' h => by go_simp⟩) (by assumption) ?_
            try simp only [Act.put, List.getElem_toArray, List.getElem_cons_zero, List.getElem_cons_succ, List.setIfInBounds_toArray, List.set_cons_zero, List.set_cons_succ]
            refine wpAnyH_take (i := 7) (v := .int .i64 i) rfl (by kernel_rfl) (by kernel_rfl) (by kernel_rfl) (fun _ _ _ h => h) (Or.inl ⟨by rfl, fun w' h => by go_simp⟩) (by assumption) ?_
            try simp only [Act.put, List.getElem_toArray, List.getElem_cons_zero, List.getElem_cons_succ, List.setIfInBounds_toArray, List.set_cons_zero, List.set_cons_succ]
            refine wpAnyH_take (i := 8) (v := .pointer (some ⟨bA, oA + i * 3, none⟩)) rfl (by kernel_rfl) (by kernel_rfl) (by kernel_rfl) (fun _ _ _ h => h) (Or.inl ⟨by rfl, fun w' h => by go_simp⟩) (by assumption) ?_
            try simp only [Act.put, List.getElem_toArray, List.getElem_cons_zero, List.getElem_cons_succ, List.setIfInBounds_toArray, List.set_cons_zero, List.set_cons_succ]
            refine wpAnyH_take (i := 9) (v := .pointer (some ⟨bA, oA + i * 3 + 2, none⟩)) rfl (by kernel_rfl) (by kernel_rfl) (by kernel_rfl) (fun _ _ _ h => h) (Or.inl ⟨by rfl, fun w' h => by go_simp⟩) (by assumption) ?_
            try simp only [Act.put, List.getElem_toArray, List.getElem_cons_zero, List.getElem_cons_succ, List.setIfInBounds_toArray, List.set_cons_zero, List.set_cons_succ]
            refine wpAnyH_take (i := 10) (v := .int .i16 n1) rfl (by kernel_rfl) (by kernel_rfl) (by kernel_rfl) (fun _ _ _ h => h) (Or.inl ⟨by rfl, fun w' h => by obtain ⟨f1, f2, f3⟩ := rowW (rangeAt_below HRa0.out h HLa0.out); go_simp⟩) (by assumption) ?_
            try simp only [Act.put, List.getElem_toArray, List.getElem_cons_zero, List.getElem_cons_succ, List.setIfInBounds_toArray, List.set_cons_zero, List.set_cons_succ]
            refine wpAnyH_take (i := 11) (v := .slice (some ⟨bB, oB, none⟩) b.length d) rfl (by kernel_rfl) (by kernel_rfl) (by kernel_rfl) (fun _ _ _ h => h) (Or.inl ⟨by rfl, fun w' h => by go_simp⟩) (by assumption) ?_
            try simp only [Act.put, List.getElem_toArray, List.getElem_cons_zero, List.getElem_cons_succ, List.setIfInBounds_toArray, List.set_cons_zero, List.set_cons_succ]
            refine wpAnyH_take (i := 12) (v := .int .i64 k) rfl (by kernel_rfl) (by kernel_rfl) (by kernel_rfl) (fun _ _ _ h => h) (Or.inl ⟨by rfl, fun w' h => by go_simp⟩) (by assumption) ?_
            try simp only [Act.put, List.getElem_toArray, List.getElem_cons_zero, List.getElem_cons_succ, List.setIfInBounds_toArray, List.set_cons_zero, List.set_cons_succ]
            refine wpAnyH_take (i := 13) (v := .pointer (some ⟨bB, oB + k * 3, none⟩)) rfl (by kernel_rfl) (by kernel_rfl) (by kernel_rfl) (fun _ _ _ h => h) (Or.inl ⟨by rfl, fun w' h => by go_simp⟩) (by assumption) ?_
            try simp only [Act.put, List.getElem_toArray, List.getElem_cons_zero, List.getElem_cons_succ, List.setIfInBounds_toArray, List.set_cons_zero, List.set_cons_succ]
            refine wpAnyH_take (i := 14) (v := .pointer (some ⟨bB, oB + k * 3 + 2, none⟩)) rfl (by kernel_rfl) (by kernel_rfl) (by kernel_rfl) (fun _ _ _ h => h) (Or.inl ⟨by rfl, fun w' h => by go_simp⟩) (by assumption) ?_
            try simp only [Act.put, List.getElem_toArray, List.getElem_cons_zero, List.getElem_cons_succ, List.setIfInBounds_toArray, List.set_cons_zero, List.set_cons_succ]
            refine wpAnyH_take (i := 15) (v := .int .i16 n2) rfl (by kernel_rfl) (by kernel_rfl) (by kernel_rfl) (fun _ _ _ h => h) (Or.inl ⟨by rfl, fun w' h => by obtain ⟨f1, f2, f3⟩ := rowW (rangeAt_below HRb0.out h HLb0.out); go_simp⟩) (by assumption) ?_
            try simp only [Act.put, List.getElem_toArray, List.getElem_cons_zero, List.getElem_cons_succ, List.setIfInBounds_toArray, List.set_cons_zero, List.set_cons_succ]
            refine wpAnyH_take (i := 16) (v := .int .i16 (n1 + n2)) rfl (by kernel_rfl) (by kernel_rfl) (by kernel_rfl) (fun _ _ _ h => h) (Or.inl ⟨by rfl, fun w' h => by go_simp⟩) (by assumption) ?_
            try simp only [Act.put, List.getElem_toArray, List.getElem_cons_zero, List.getElem_cons_succ, List.setIfInBounds_toArray, List.set_cons_zero, List.set_cons_succ]
            refine wpAnyH_take (i := 17) (v := .agg #[.int .u8 k1, .int .i16 y1, .int .i16 (n1 + n2)]) rfl (by kernel_rfl) (by kernel_rfl) (by kernel_rfl) (fun _ _ _ h => h) (Or.inl ⟨by rfl, fun w' h => by go_simp⟩) (by assumption) ?_
            try simp only [Act.put, List.getElem_toArray, List.getElem_cons_zero, List.getElem_cons_succ, List.setIfInBounds_toArray, List.set_cons_zero, List.set_cons_succ]
            rw [WD.out] at hHeld ⊢
            refine wpAnyH_ready (rs := [18]) (by kernel_rfl) (by simp) ?_
            refine AllReadyH.cons rfl (fun K hK => ?_) AllReadyH.nil
            refine if_wanted rfl ?_
            go_simp
            refine hK.out _ _ (HBd.out.alloc HBd.out.size _) (fun hHeld => ?_)
            clear hK K hHeld
            try simp only [Act.put, List.getElem_toArray, List.getElem_cons_zero, List.getElem_cons_succ, List.setIfInBounds_toArray, List.set_cons_zero, List.set_cons_succ]
            refine wpAnyH_ready (rs := [19]) (by kernel_rfl) (by simp) ?_
            refine AllReadyH.cons rfl (fun K hK => ?_) AllReadyH.nil
            refine if_wanted rfl (wp_append_any _ (.tmp 51) (.tmp 69) 46 46 rfl w.heap.size 91 i0 (.agg #[.int .u8 0, .int .i16 0, .int .i16 0]) 3 6 Tryd.underlying46 HI.out HZ0.out HZ1.out HZ2.out rfl (by decide) _ out.length _ rfl (HOd.out.alloc _) _ 1 (wcells ((k1, y1), n1 + n2)) rfl ?c2 ?c3 ?c4 ?c5 ?_)
            case c2 => exact src_wt wd ((k1, y1), n1 + n2)
            case c3 => unfold maxLen; omega
            case c4 => omega
            case c5 => have := HBd.out.size; simp; omega
            intro v' w8 hown' hgrow _
            have hown9 : w8.ownsRow w.heap.size 91 3 v' (out ++ [((k1, y1), n1 + n2)]).length ((out ++ [((k1, y1), n1 + n2)]).flatMap wcells) := by rw [List.length_append, List.flatMap_append]; simpa [wcells] using hown'
            have hB4 : Below w.heap.size w w8 := (HBd.out.alloc HBd.out.size _).grown hgrow (by have := HBd.out.size; simp; omega) (fun r e => (own_blockJ HOd.out e).1)
            obtain ⟨A8, c8, rfl, -, -⟩ := own_rd wcells_length hown9
            refine hK.out _ _ hB4 (fun hHeld => ?_)
            clear hK K
            try simp only [Act.put, List.getElem_toArray, List.getElem_cons_zero, List.getElem_cons_succ, List.setIfInBounds_toArray, List.set_cons_zero, List.set_cons_succ]
            refine wpAnyH_ready (rs := [20]) (by kernel_rfl) (by simp) ?_
            refine AllReadyH.cons rfl (fun K hK => ?_) AllReadyH.nil
            refine if_wanted rfl ?_
            refine wp_assign0 (v := .slice A8 (out ++ [((k1, y1), n1 + n2)]).length c8) rfl rfl ?_
            refine hK.out _ _ hHeld (fun hHeld => ?_)
            clear hK K
            try simp only [Act.put, List.getElem_toArray, List.getElem_cons_zero, List.getElem_cons_succ, List.setIfInBounds_toArray, List.set_cons_zero, List.set_cons_succ]
            refine wpAnyH_done (by kernel_rfl) ?_ _
            try simp only [Act.put, List.getElem_toArray, List.getElem_cons_zero, List.getElem_cons_succ, List.setIfInBounds_toArray, List.set_cons_zero, List.set_cons_succ]
            clear hHeld
            obtain ⟨t2, ht2⟩ : ∃ t2, out ++ [((k1, y1), n1 + n2)] = t2 := ⟨_, rfl⟩
            have hF2 := HF2.out
            have hol2 := HOl2.out
            have HLt : Hid (t2.length ≤ i + k + 1) := by have h := congrArg List.length ht2; rw [List.length_append] at h; show _ ≤ _; simp at h; omega
            rw [ht2] at hown9 ⊢
            rw [show (((k1, y1), n1).1, ((k1, y1), n1).2 + ((k2, y2), n2).2) = ((k1, y1), n1 + n2) from rfl, ht2] at hF2
            have HF3 := Lib.hid hF2
            have HT := Lib.hid hown9
            have HB8 := Lib.hid hB4
            have ui := UI.out
            have ui2 := UI2.out
            have uk := UK.out
            have uk2 := UK2.out
            clear hown' hown9 hgrow hB4 ht2 hF2 hol hol2 hw16
            go_wp2
            go_roundw
            case rel => exact ⟨i + 1, k + 1, A8, c8, t2, by omega, by omega, rfl, by go_num, by go_num, by have := HLt.out; omega, HF3.out, HT.out, HB8.out⟩
            case measure => simp [intOf]; omega
      · obtain rfl : k = b.length := by omega
        have HF2 := Lib.hid (mg_a HXa.out (Nat.le_refl _) HF.out)
        have hkn : ¬ (b.length : Int) < b.length := by omega
        obtain ⟨p1, p2, p3⟩ := rowW HRowA.out
        have hol := HOl.out
        go_wp2_with (at_builtin; refine wpList_append_own _ rfl (.tmp 78) (.tmp 83) 46 rfl w.heap.size 91 i0 (.agg #[.int .u8 0, .int .i16 0, .int .i16 0]) 3 6 Tryd.underlying46 HI.out HZ0.out HZ1.out HZ2.out rfl (by decide) _ _ _ rfl (HO.out.alloc _) ⟨wa.heap.size, 0, none⟩ 1 1 [.int .u8 k1, .int .i16 y1, .int .i16 n1] rfl rfl ?f331 ?f332 ?f33 ?f34 ?f35 ?_)
        try (case f331 => exact cells3J wa _ _ _ _)
        try (case f332 => first | exact one3J _ _ _ | exact ⟨rfl, rfl, rfl⟩)
        case f33 => unfold maxLen; omega
        case f34 => omega
        case f35 => have := HB.out.size; simp; omega
        intro v8 w8 hown8 hg8 _
        have hown9 : w8.ownsRow w.heap.size 91 3 v8 (out ++ [((k1, y1), n1)]).length ((out ++ [((k1, y1), n1)]).flatMap wcells) := by rw [List.length_append, List.flatMap_append]; simpa [wcells] using hown8
        obtain ⟨A8, c8, rfl, -, -⟩ := own_rd wcells_length hown9
        have HB8 : Hid (Below w.heap.size w w8) := (HB.out.alloc HB.out.size _).grown hg8 (HB.out.alloc HB.out.size _).size (fun q e => by have := own_blockJ HO.out e; omega)
        obtain ⟨t2, ht2⟩ : ∃ t2, out ++ [((k1, y1), n1)] = t2 := ⟨_, rfl⟩
        have hF2 := HF2.out
        rw [ht2] at hown9 hF2 ⊢
        have HLt : Hid (t2.length ≤ i + b.length + 1) := by have h := congrArg List.length ht2; rw [List.length_append] at h; have := HOl2.out; show _ ≤ _; simp at h; omega
        have HF3 := Lib.hid hF2
        have HT := Lib.hid hown9
        clear hown8 hown9 hg8 ht2 hF2 hol
        have ui := UI.out
        have ui2 := UI2.out
        go_wp2
        go_roundw
        case rel => exact ⟨i + 1, b.length, A8, c8, t2, by omega, by omega, rfl, by go_num, rfl, by have := HLt.out; omega, HF3.out, HT.out, HB8.out⟩
        case measure => simp [intOf]; omega
    · obtain rfl : i = a.length := by omega
      by_cases hkb : k < b.length
      · have hk8 : (k : Int) < b.length := by omega
        obtain ⟨⟨⟨k2, y2⟩, n2⟩, hy⟩ : ∃ x, b[k]? = some x := ⟨_, List.getElem?_eq_getElem hkb⟩
        obtain ⟨bB, oB, rfl, hbB, hrowB⟩ := (HRb.out.keep HB.out).at_ wcells_length hy
        have HF2 := Lib.hid (mg_b hy (Nat.le_refl _) HF.out)
        obtain ⟨p1, p2, p3⟩ := rowW hrowB
        clear hrowB hbB hy
        have hol := HOl.out
        go_wp2_with (at_builtin; refine wpList_append_own _ rfl (.tmp 90) (.tmp 95) 46 rfl w.heap.size 91 i0 (.agg #[.int .u8 0, .int .i16 0, .int .i16 0]) 3 6 Tryd.underlying46 HI.out HZ0.out HZ1.out HZ2.out rfl (by decide) _ _ _ rfl (HO.out.alloc _) ⟨wa.heap.size, 0, none⟩ 1 1 [.int .u8 k2, .int .i16 y2, .int .i16 n2] rfl rfl ?f441 ?f442 ?f443 ?f44 ?f45 ?_)
        try (case f441 => exact cells3J wa _ _ _ _)
        try (case f442 => first | exact one3J _ _ _ | exact ⟨rfl, rfl, rfl⟩)
        case f443 => unfold maxLen; omega
        case f44 => omega
        case f45 => have := HB.out.size; simp; omega
        intro v8 w8 hown8 hg8 _
        have hown9 : w8.ownsRow w.heap.size 91 3 v8 (out ++ [((k2, y2), n2)]).length ((out ++ [((k2, y2), n2)]).flatMap wcells) := by rw [List.length_append, List.flatMap_append]; simpa [wcells] using hown8
        obtain ⟨A8, c8, rfl, -, -⟩ := own_rd wcells_length hown9
        have HB8 : Hid (Below w.heap.size w w8) := (HB.out.alloc HB.out.size _).grown hg8 (HB.out.alloc HB.out.size _).size (fun q e => by have := own_blockJ HO.out e; omega)
        obtain ⟨t2, ht2⟩ : ∃ t2, out ++ [((k2, y2), n2)] = t2 := ⟨_, rfl⟩
        have hF2 := HF2.out
        rw [ht2] at hown9 hF2 ⊢
        have HLt : Hid (t2.length ≤ a.length + k + 1) := by have h := congrArg List.length ht2; rw [List.length_append] at h; have := HOl2.out; show _ ≤ _; simp at h; omega
        have HF3 := Lib.hid hF2
        have HT := Lib.hid hown9
        clear hown8 hown9 hg8 ht2 hF2 hol
        have uk := UK.out
        have uk2 := UK2.out
        go_wp2
        go_roundw
        case rel => exact ⟨a.length, k + 1, A8, c8, t2, by omega, by omega, rfl, rfl, by go_num, by have := HLt.out; omega, HF3.out, HT.out, HB8.out⟩
        case measure => simp [intOf]; omega
      · obtain rfl : k = b.length := by omega
        have hM : out = mgL a b := by have := HF.out; rwa [List.drop_length, List.drop_length, mgL_nil, List.append_nil] at this
        have hrd := own_rd2 wcells_length HO.out
        have hwf := mgL_wf a b HWa.out HWb.out HNa.out HNb.out
        rw [← hM] at hwf
        have HLo := Lib.hid (l02Ok_any out hwf O oc wa (by have := HOl.out; omega) hrd)
        have HM := Lib.hid hM
        clear hrd hwf hM
        go_wp2_with fail
        refine HLo.out.mono ?_
        rintro e w5 ⟨rfl, hb⟩
        have HO5 := Lib.hid (own_keep' HO.out hb)
        have HB5 := Lib.hid (HB.out.trans (hb.mono HB.out.size))
        clear hb HO HB HLo
        cases hoo : ordOk out
        · have E := Lib.hid (jo_much HK.out (by rw [← HM.out]; exact hoo))
          clear hoo
          go_wp2
          go_ret2
          exact ⟨_, by (rw [E.out.2]; first | done | rfl), by rw [E.out.1]; exact own_base (empty_ownJ w5 91 3) HB5.out.size, HB5.out.alloc HB5.out.size _⟩
        · have E := Lib.hid (jo_ok HK.out (by rw [← HM.out]; exact hoo))
          clear hoo
          go_wp2
          go_ret2
          exact ⟨_, by (rw [E.out.2]; first | done | rfl), by rw [E.out.1, ← HM.out]; exact HO5.out, HB5.out⟩
end Go.Proofs.YtkehmelcecifdaaDoor
