/-
  StoreAll: the program's contract. Condition: the rack reads as lists with room, the list reads, their numbers fit their kinds, not more than 1048576; the sentinel errors lie as the row lists them.
-/
import Derived.Test.YtdgcgkeclcpafaaDoorSaA
import Derived.Test.YtdgcgkeclcpafaaDoorCy
import Derived.Test.YtdgcgkeclcpafaaDoorGk
import Derived.Test.YtdgcgkeclcpafaaDoorSt1
import Derived.Test.YtdgcgkeclcpafaaDoorAh
import Derived.Test.YtdgcgkeclcpafaaDoorSt2
import Derived.Test.YtdgcgkeclcpafaaDoorLi
import Derived.Test.YtdgcgkeclcpafaaDoorI6
import Derived.Maps.AppendAt
import Derived.Deep.CutRange
import Derived.Deep.DeepCutAuto
namespace Go.Proofs.YtdgcgkeclcpafaaDoor
open Go.ChangeShapes Go.WideShapes Go.ChangeAt Go.RowKit Go.Deep

/-- A block that lies apart from the rack stays, and stays apart. -/
def PutO (A : Option Addr) (hs hs' : List Hd) (w w' : World) : Prop := ∀ q, q < w.heap.size → A.map (·.block) ≠ some q → (∀ (i : Nat) (h : Hd), hs[i]? = some h → h.1.map (·.block) ≠ some q) → w'.heap[q]? = w.heap[q]? ∧ ∀ (i : Nat) (h : Hd), hs'[i]? = some h → h.1.map (·.block) ≠ some q
theorem putO_of {A : Option Addr} {hs : List Hd} {k : Nat} {a A' : Option Addr} {m c0 n c' : Nat} {w w2 w5 : World} (hk : hs[k]? = some (a, m, c0)) (h2 : Below w.heap.size w w2) (hg : w2.grownBy w5 (a.map (·.block))) (hblk : A'.map (·.block) = a.map (·.block) ∨ A'.map (·.block) = some w2.heap.size) : PutO A hs (hs.set k (A', n, c')) w w5 := fun q hq hA hh =>
  ⟨(hg.block q (Nat.lt_of_lt_of_le hq h2.size) (fun e => hh k _ hk e.symm)).trans (h2.block q hq), fun i h hi e => by
    have hkl := (List.getElem?_eq_some_iff.1 hk).1
    by_cases ei : i = k
    · subst ei
      rw [List.getElem?_set_self hkl] at hi
      obtain rfl := Option.some.inj hi
      rcases hblk with e2 | e2
      · exact hh _ _ hk (e2.symm.trans e)
      · have e3 := Option.some.inj (e2.symm.trans e)
        have := h2.size; omega
    · rw [List.getElem?_set_ne (fun h => ei h.symm)] at hi
      exact hh i h hi e⟩
theorem PutO.set_ {g0 : Nat} {hs hs' : List Hd} {w w5 : World} (h : PutO (some ⟨g0, 0, none⟩) hs hs' w w5) (hz : w.heap.size ≤ w5.heap.size) (k : Nat) (v : Value) : PutO (some ⟨g0, 0, none⟩) hs hs' w (w5.setCell ⟨g0, k, none⟩ v) := fun q hq hA hh => by
  obtain ⟨h1, h2⟩ := h q hq hA hh
  exact ⟨((gk_set (gk_refl w5 (some g0)) v).block q (Nat.lt_of_lt_of_le hq hz) (fun e => hA e.symm)).trans h1, h2⟩
/-- A list lies apart from a rack. -/
def SepL (A : Option Addr) (hs : List Hd) (L : Option Addr) : Prop := ∀ q, L.map (·.block) = some q → A.map (·.block) ≠ some q ∧ ∀ (i : Nat) (h : Hd), hs[i]? = some h → h.1.map (·.block) ≠ some q
theorem SepL.none (A : Option Addr) (hs : List Hd) : SepL A hs none := fun q e => by cases e
theorem own_same {w w' : World} {b size n : Nat} {e : TypeId} {v : Value} {xs : List Value} (h : w.ownsRow b e size v n xs) (hs : ∀ k, v.ownBlock = some k → w'.heap[k]? = w.heap[k]?) : w'.ownsRow b e size v n xs := by
  rcases h with ⟨h0, h1 | ⟨g, cap, cur, hv, hb, hg, hr⟩⟩
  · exact ⟨h0, .inl h1⟩
  · exact ⟨h0, .inr ⟨g, cap, cur, hv, hb, (hs g (by subst hv; rfl)).trans hg, hr⟩⟩
theorem sep_put {A L : Option Addr} {hs hs' : List Hd} {w w' : World} {b n c size : Nat} {e : TypeId} {xs : List Value} (hS : SepL A hs L) (hP : PutO A hs hs' w w') (hL : w.ownsRow b e size (.slice L n c) n xs) : SepL A hs' L ∧ w'.ownsRow b e size (.slice L n c) n xs := by
  have lt : ∀ q, L.map (·.block) = some q → q < w.heap.size := fun q e => (own_block hL (by rw [ownBlock_slice]; exact e)).2
  refine ⟨fun q e => ⟨(hS q e).1, (hP q (lt q e) (hS q e).1 (hS q e).2).2⟩, own_same hL (fun q e => ?_)⟩
  rw [ownBlock_slice] at e
  exact (hP q (lt q e) (hS q e).1 (hS q e).2).1
theorem sep_lt {T : Type} {w : World} {b : Nat} {te t : TypeId} {size : Nat} {cells : T → List Value} {A : Option Addr} {c : Nat} {hs : List Hd} {xss : List (List T)} (h : OwnN w b te t size cells A c hs xss) : (∀ q, A.map (·.block) = some q → q < w.heap.size) ∧ ∀ (i : Nat) (h : Hd), hs[i]? = some h → ∀ q, h.1.map (·.block) = some q → q < w.heap.size := by
  refine ⟨fun q e => (own_block h.1 (by rw [ownBlock_slice]; exact e)).2, fun i hd hi q e => ?_⟩
  have hil := (List.getElem?_eq_some_iff.1 hi).1
  obtain ⟨-, ho⟩ := h.2.2.1 i hd _ hi (List.getElem?_eq_getElem (by rw [← h.2.1]; exact hil))
  exact (own_block ho (by rw [ownBlock_slice]; exact e)).2
theorem SepL.new {T : Type} {w : World} {b : Nat} {te t : TypeId} {size : Nat} {cells : T → List Value} {A : Option Addr} {c : Nat} {hs : List Hd} {xss : List (List T)} (h : OwnN w b te t size cells A c hs xss) {L : Option Addr} (hL : L.map (·.block) = some w.heap.size) : SepL A hs L := fun q e => by
  obtain ⟨h1, h2⟩ := sep_lt h
  have e3 := Option.some.inj (hL.symm.trans e)
  exact ⟨fun e2 => by have := h1 q e2; omega, fun i hd hi e2 => by have := h2 i hd hi q e2; omega⟩
theorem sep_grow {T : Type} {w w' : World} {b : Nat} {te t : TypeId} {size : Nat} {cells : T → List Value} {A L L' : Option Addr} {c : Nat} {hs : List Hd} {xss : List (List T)} (h : OwnN w b te t size cells A c hs xss) (hg : w.grownBy w' (L.map (·.block))) (hS : SepL A hs L) (hL : L'.map (·.block) = L.map (·.block) ∨ L'.map (·.block) = some w.heap.size) : OwnN w' b te t size cells A c hs xss ∧ SepL A hs L' := by
  refine ⟨⟨own_same h.1 (fun q e => ?_), h.2.1, fun i hd xs hi hx => ⟨(h.2.2.1 i hd xs hi hx).1, own_same (h.2.2.1 i hd xs hi hx).2 (fun q e => ?_)⟩, h.2.2.2.1, h.2.2.2.2⟩, ?_⟩
  · rw [ownBlock_slice] at e
    exact hg.block q ((sep_lt h).1 q e) (fun e2 => (hS q e2.symm).1 e)
  · rw [ownBlock_slice] at e
    exact hg.block q ((sep_lt h).2 i hd hi q e) (fun e2 => (hS q e2.symm).2 i hd hi e)
  · rcases hL with e | e
    · exact fun q e2 => hS q (e.symm.trans e2)
    · exact SepL.new h e

set_option maxRecDepth 100000 in
set_option maxHeartbeats 4000000 in
theorem putX_any (xss : List (List Wnt)) (hs : List Hd) (b : Nat) (A : Option Addr) (c : Nat) (k : Nat) (x : Wnt) (xs : List Wnt) (w : World) (hN : OwnN w b 43 52 3 wcells A c hs xss) (hbw : b ≤ w.heap.size) (hx : xss[k]? = some xs) (hl : xss.length ≤ 1048576) (hxl : xs.length ≤ 1048576) :
    Calls Tryd.prog 48 #[.slice A xss.length c, .int .i64 (k : Int), .agg (wcells x).toArray] w fun e w' => ∃ hs', e = .returned (.tuple #[]) ∧ OwnN w' b 43 52 3 wcells A c hs' (xss.set k (xs ++ [x])) ∧ Below b w w' ∧ PutO A hs hs' w w' := by
  obtain ⟨⟨k1, y1⟩, n1⟩ := x
  have hkx := (List.getElem?_eq_some_iff.1 hx).1
  have hlen : hs.length = xss.length := hN.2.1
  obtain ⟨⟨a, m, c0⟩, hk⟩ : ∃ h, hs[k]? = some h := ⟨_, List.getElem?_eq_getElem (by omega)⟩
  obtain ⟨em, how⟩ := hN.2.2.1 k _ xs hk hx
  dsimp only at em how
  subst em
  obtain ⟨b0, o0, e0, hb0, hrow⟩ := (own_rd2 hcells_length hN.1).at_ hcells_length hk
  obtain ⟨g0, rfl⟩ : ∃ g, A = some ⟨g, 0, none⟩ := by
    rcases hN.1.2 with ⟨e, -⟩ | ⟨g, cap, cur, hv, -⟩
    · subst e0; cases e
    · exact ⟨g, (by simpa using hv : A = some ⟨g, 0, none⟩ ∧ c = cap).1⟩
  obtain ⟨rfl, rfl⟩ : g0 = b0 ∧ 0 = o0 := by simpa using e0
  have hc := rowH hrow
  rw [Nat.zero_add] at hc
  dsimp only at hc
  obtain ⟨i0, hi, hz0, hz1, hz2⟩ := info_parts Tryd.infoTI
  have HI := Lib.hid hi
  have HZ0 := Lib.hid hz0
  have HZ1 := Lib.hid hz1
  have HZ2 := Lib.hid hz2
  clear hi hz0 hz1 hz2
  have hk0 : (0 : Int) ≤ (k : Int) := Int.natCast_nonneg _
  have hk8 : (k : Int) < hs.length := by omega
  rw [← hlen]
  show Calls Tryd.prog 48 #[.slice (some ⟨g0, 0, none⟩) hs.length c, .int .i64 (k : Int), .agg #[.int .u8 k1, .int .i16 y1, .int .i16 n1]] w _
  have HN := Lib.hid hN
  have HK := Lib.hid hk
  have HX := Lib.hid hx
  have h1 := Blk.new w 52 #[.int .u8 k1, .int .i16 y1, .int .i16 n1]
  have h2 : Below w.heap.size w (w.alloc (.cells #[.int .u8 k1, .int .i16 y1, .int .i16 n1] 52)) := (Below.refl _ w).alloc (Nat.le_refl _) _
  have h3 : (w.alloc (.cells #[.int .u8 k1, .int .i16 y1, .int .i16 n1] 52)).ownsRow b 52 3 (.slice a xs.length c0) xs.length (xs.flatMap wcells) := how.alloc _
  have h4 : Below b w (w.alloc (.cells #[.int .u8 k1, .int .i16 y1, .int .i16 n1] 52)) := (Below.refl _ w).alloc hbw _
  have h5 : b ≤ (w.alloc (.cells #[.int .u8 k1, .int .i16 y1, .int .i16 n1] 52)).heap.size := by simp; omega
  have hc1 : w.cell? ⟨g0, k, none⟩ = some (.slice a xs.length c0) := hc
  go_enter Tryd.func48, Tryd.ntmps48
  obtain ⟨W0, hW0⟩ : ∃ W0, w.alloc (.cells #[.int .u8 k1, .int .i16 y1, .int .i16 n1] 52) = W0 := ⟨_, rfl⟩
  rw [hW0] at h1 h2 h3 h4 h5
  go_wp2_with fail
  have hcW : W0.cell? ⟨g0, k, none⟩ = some (.slice a xs.length c0) := (h2.cell (p := ⟨g0, k, none⟩) hb0).trans hc
  have hcW2 : (W0.alloc (.cells #[.int .u8 k1, .int .i16 y1, .int .i16 n1] 52)).cell? ⟨g0, k, none⟩ = some (.slice a xs.length c0) := (((Below.refl W0.heap.size W0).alloc (Nat.le_refl _) _).cell (p := ⟨g0, k, none⟩) (by have := h2.size; show g0 < _; omega)).trans hcW
  have d0 : W0.cell? ⟨w.heap.size, 0, none⟩ = some (.int .u8 k1) := h1.cell 0
  have d1 : W0.cell? ⟨w.heap.size, 1, none⟩ = some (.int .i16 y1) := h1.cell 1
  have d2 : W0.cell? ⟨w.heap.size, 2, none⟩ = some (.int .i16 n1) := h1.cell 2
  have HBW : Hid (Below w.heap.size w (W0.alloc (.cells #[.int .u8 k1, .int .i16 y1, .int .i16 n1] 52)).drew) := (h2.alloc h2.size _).drew
  have HOW : Hid (W0.ownsRow b 52 3 (.slice a xs.length c0) xs.length (xs.flatMap wcells)) := h3
  have HBb := Lib.hid h4
  have HSz := Lib.hid h5
  clear hW0 h1 h2 h3 h4 h5 hN hk hx how hrow hc e0
  refine wp_region_any (by kernel_rfl) ?_
  try (change wpAny _ _ _ _ _ _ _ (World.drew _))
  refine wpAny_take (i := 0) (v := .slice (some ⟨g0, 0, none⟩) hs.length c) rfl (by kernel_rfl) (by kernel_rfl) (by kernel_rfl) (fun _ _ _ h => h) (Or.inl ⟨by rfl, fun w' => by go_simp⟩) ?_
  try simp only [Act.put, List.getElem_toArray, List.getElem_cons_zero, List.getElem_cons_succ, List.setIfInBounds_toArray, List.set_cons_zero, List.set_cons_succ]
  refine wpAny_take (i := 1) (v := .int .i64 k) rfl (by kernel_rfl) (by kernel_rfl) (by kernel_rfl) (fun _ _ _ h => h) (Or.inl ⟨by rfl, fun w' => by go_simp⟩) ?_
  try simp only [Act.put, List.getElem_toArray, List.getElem_cons_zero, List.getElem_cons_succ, List.setIfInBounds_toArray, List.set_cons_zero, List.set_cons_succ]
  refine wpAny_take (i := 2) (v := .slice (some ⟨g0, 0, none⟩) hs.length c) rfl (by kernel_rfl) (by kernel_rfl) (by kernel_rfl) (fun _ _ _ h => h) (Or.inl ⟨by rfl, fun w' => by go_simp⟩) ?_
  try simp only [Act.put, List.getElem_toArray, List.getElem_cons_zero, List.getElem_cons_succ, List.setIfInBounds_toArray, List.set_cons_zero, List.set_cons_succ]
  refine wpAny_take (i := 3) (v := .int .i64 k) rfl (by kernel_rfl) (by kernel_rfl) (by kernel_rfl) (fun _ _ _ h => h) (Or.inl ⟨by rfl, fun w' => by go_simp⟩) ?_
  try simp only [Act.put, List.getElem_toArray, List.getElem_cons_zero, List.getElem_cons_succ, List.setIfInBounds_toArray, List.set_cons_zero, List.set_cons_succ]
  refine wpAny_take (i := 4) (v := .pointer (some ⟨g0, k, none⟩)) rfl (by kernel_rfl) (by kernel_rfl) (by kernel_rfl) (fun _ _ _ h => h) (Or.inl ⟨by rfl, fun w' => by go_simp⟩) ?_
  try simp only [Act.put, List.getElem_toArray, List.getElem_cons_zero, List.getElem_cons_succ, List.setIfInBounds_toArray, List.set_cons_zero, List.set_cons_succ]
  refine wpAny_ready (rs := [5, 6]) (by kernel_rfl) (by simp) ?_
  refine AllReady.cons rfl (fun K hK => ?_) (AllReady.cons rfl (fun K hK => ?_) AllReady.nil)
  · skip
    refine if_wanted rfl ?_
    go_simp
    refine hK _ _ ?_
    clear hK K
    try simp only [Act.put, List.getElem_toArray, List.getElem_cons_zero, List.getElem_cons_succ, List.setIfInBounds_toArray, List.set_cons_zero, List.set_cons_succ]
    refine wpAny_ready (rs := [6]) (by kernel_rfl) (by simp) ?_
    refine AllReady.cons rfl (fun K hK => ?_) AllReady.nil
    refine if_wanted rfl ?_
    go_simp
    refine hK _ _ ?_
    clear hK K
    try simp only [Act.put, List.getElem_toArray, List.getElem_cons_zero, List.getElem_cons_succ, List.setIfInBounds_toArray, List.set_cons_zero, List.set_cons_succ]
    refine wpAny_ready (rs := [7]) (by kernel_rfl) (by simp) ?_
    refine AllReady.cons rfl (fun K hK => ?_) AllReady.nil
    refine if_wanted rfl ?_
    go_simp
    refine hK _ _ ?_
    clear hK K
    try simp only [Act.put, List.getElem_toArray, List.getElem_cons_zero, List.getElem_cons_succ, List.setIfInBounds_toArray, List.set_cons_zero, List.set_cons_succ]
    refine wpAny_ready (rs := [8]) (by kernel_rfl) (by simp) ?_
    refine AllReady.cons rfl (fun K hK => ?_) AllReady.nil
    refine if_wanted rfl ?_
    refine wp_append_any _ (.tmp 11) (.tmp 13) 43 43 rfl b 52 i0 (.agg #[.int .u8 0, .int .i16 0, .int .i16 0]) 3 6 Tryd.underlying43 HI.out HZ0.out HZ1.out HZ2.out rfl (by decide) (.slice a xs.length c0) xs.length (xs.flatMap wcells) rfl ((HOW.out.alloc _).drew) _ 1 [.int .u8 k1, .int .i16 y1, .int .i16 n1] rfl (Src.ofSlice _ Tryd.underlying43 ⟨W0.heap.size, 0, none⟩ 1 1 _ rfl (three_cells W0 _ k1 y1 n1) (by intro u hu; simp only [List.mem_cons, List.not_mem_nil, or_false] at hu; rcases hu with rfl | rfl | rfl <;> rfl)) (by unfold maxLen; omega) (by omega) (by have := HSz.out; simp; omega) ?_
    intro v' w5 hown5 hg5 hblk5
    rw [ownBlock_slice] at hg5 hblk5
    have hown6 : w5.ownsRow b 52 3 v' (xs ++ [((k1, y1), n1)]).length ((xs ++ [((k1, y1), n1)]).flatMap wcells) := by rw [List.length_append, List.flatMap_append]; simpa [wcells] using hown5
    obtain ⟨A5, c5, rfl, -, -⟩ := own_rd wcells_length hown6
    rw [ownBlock_slice] at hblk5
    have hN5 := OwnN.put HN.out HK.out HX.out HBW.out hown6 hg5 hblk5
    rw [show (xs ++ [((k1, y1), n1)]).length = xs.length + 1 from by simp] at hN5
    have HN5 := Lib.hid hN5
    have e5 : w5.cell? ⟨g0, k, none⟩ = some (.slice a xs.length c0) := put_cell HN.out HK.out HBW.out hg5 hc1
    have f5 : w5.frozen? ⟨g0, k, none⟩ = false := put_frozen HN.out HK.out HBW.out hg5
    have HB5 : Hid (Below b w w5) := put_below HBb.out HOW.out hg5 (by have := HSz.out; omega)
    have HX5 : Hid (PutO (some ⟨g0, 0, none⟩) hs (hs.set k (A5, xs.length + 1, c5)) w w5) := putO_of HK.out HBW.out hg5 hblk5
    clear hown5 hown6 hg5 hblk5 hN5
    refine hK _ _ ?_
    clear hK K
    try simp only [Act.put, List.getElem_toArray, List.getElem_cons_zero, List.getElem_cons_succ, List.setIfInBounds_toArray, List.set_cons_zero, List.set_cons_succ]
    refine wpAny_take (i := 9) (v := .pointer (some ⟨g0, k, none⟩)) rfl (by kernel_rfl) (by kernel_rfl) (by kernel_rfl) (fun _ _ _ h => h) (Or.inl ⟨by rfl, fun w' => by go_simp⟩) ?_
    try simp only [Act.put, List.getElem_toArray, List.getElem_cons_zero, List.getElem_cons_succ, List.setIfInBounds_toArray, List.set_cons_zero, List.set_cons_succ]
    refine wpAny_ready (rs := [10]) (by kernel_rfl) (by simp) ?_
    refine AllReady.cons rfl (fun K hK => ?_) AllReady.nil
    refine if_wanted rfl ?_
    go_simp
    refine hK _ _ ?_
    clear hK K
    try simp only [Act.put, List.getElem_toArray, List.getElem_cons_zero, List.getElem_cons_succ, List.setIfInBounds_toArray, List.set_cons_zero, List.set_cons_succ]
    refine wpAny_done (by kernel_rfl) ?_ _
    try simp only [Act.put, List.getElem_toArray, List.getElem_cons_zero, List.getElem_cons_succ, List.setIfInBounds_toArray, List.set_cons_zero, List.set_cons_succ]
    go_wp2
    first | go_end0 | (refine bodyPost_ret (results_none rfl _ _ _) rfl ?_)
    exact ⟨_, rfl, HN5.out, HB5.out.setCell (p := ⟨g0, k, none⟩) (by have := own_block HN.out.1 rfl; exact this.1) _, HX5.out.set_ HB5.out.size _ _⟩
  · skip
    refine if_wanted rfl ?_
    go_simp
    refine hK _ _ ?_
    clear hK K
    try simp only [Act.put, List.getElem_toArray, List.getElem_cons_zero, List.getElem_cons_succ, List.setIfInBounds_toArray, List.set_cons_zero, List.set_cons_succ]
    refine wpAny_ready (rs := [5, 7]) (by kernel_rfl) (by simp) ?_
    refine AllReady.cons rfl (fun K hK => ?_) (AllReady.cons rfl (fun K hK => ?_) AllReady.nil)
    · skip
      refine if_wanted rfl ?_
      go_simp
      refine hK _ _ ?_
      clear hK K
      try simp only [Act.put, List.getElem_toArray, List.getElem_cons_zero, List.getElem_cons_succ, List.setIfInBounds_toArray, List.set_cons_zero, List.set_cons_succ]
      refine wpAny_ready (rs := [7]) (by kernel_rfl) (by simp) ?_
      refine AllReady.cons rfl (fun K hK => ?_) AllReady.nil
      refine if_wanted rfl ?_
      go_simp
      refine hK _ _ ?_
      clear hK K
      try simp only [Act.put, List.getElem_toArray, List.getElem_cons_zero, List.getElem_cons_succ, List.setIfInBounds_toArray, List.set_cons_zero, List.set_cons_succ]
      refine wpAny_ready (rs := [8]) (by kernel_rfl) (by simp) ?_
      refine AllReady.cons rfl (fun K hK => ?_) AllReady.nil
      refine if_wanted rfl ?_
      refine wp_append_any _ (.tmp 11) (.tmp 13) 43 43 rfl b 52 i0 (.agg #[.int .u8 0, .int .i16 0, .int .i16 0]) 3 6 Tryd.underlying43 HI.out HZ0.out HZ1.out HZ2.out rfl (by decide) (.slice a xs.length c0) xs.length (xs.flatMap wcells) rfl ((HOW.out.alloc _).drew) _ 1 [.int .u8 k1, .int .i16 y1, .int .i16 n1] rfl (Src.ofSlice _ Tryd.underlying43 ⟨W0.heap.size, 0, none⟩ 1 1 _ rfl (three_cells W0 _ k1 y1 n1) (by intro u hu; simp only [List.mem_cons, List.not_mem_nil, or_false] at hu; rcases hu with rfl | rfl | rfl <;> rfl)) (by unfold maxLen; omega) (by omega) (by have := HSz.out; simp; omega) ?_
      intro v' w5 hown5 hg5 hblk5
      rw [ownBlock_slice] at hg5 hblk5
      have hown6 : w5.ownsRow b 52 3 v' (xs ++ [((k1, y1), n1)]).length ((xs ++ [((k1, y1), n1)]).flatMap wcells) := by rw [List.length_append, List.flatMap_append]; simpa [wcells] using hown5
      obtain ⟨A5, c5, rfl, -, -⟩ := own_rd wcells_length hown6
      rw [ownBlock_slice] at hblk5
      have hN5 := OwnN.put HN.out HK.out HX.out HBW.out hown6 hg5 hblk5
      rw [show (xs ++ [((k1, y1), n1)]).length = xs.length + 1 from by simp] at hN5
      have HN5 := Lib.hid hN5
      have e5 : w5.cell? ⟨g0, k, none⟩ = some (.slice a xs.length c0) := put_cell HN.out HK.out HBW.out hg5 hc1
      have f5 : w5.frozen? ⟨g0, k, none⟩ = false := put_frozen HN.out HK.out HBW.out hg5
      have HB5 : Hid (Below b w w5) := put_below HBb.out HOW.out hg5 (by have := HSz.out; omega)
      have HX5 : Hid (PutO (some ⟨g0, 0, none⟩) hs (hs.set k (A5, xs.length + 1, c5)) w w5) := putO_of HK.out HBW.out hg5 hblk5
      clear hown5 hown6 hg5 hblk5 hN5
      refine hK _ _ ?_
      clear hK K
      try simp only [Act.put, List.getElem_toArray, List.getElem_cons_zero, List.getElem_cons_succ, List.setIfInBounds_toArray, List.set_cons_zero, List.set_cons_succ]
      refine wpAny_take (i := 9) (v := .pointer (some ⟨g0, k, none⟩)) rfl (by kernel_rfl) (by kernel_rfl) (by kernel_rfl) (fun _ _ _ h => h) (Or.inl ⟨by rfl, fun w' => by go_simp⟩) ?_
      try simp only [Act.put, List.getElem_toArray, List.getElem_cons_zero, List.getElem_cons_succ, List.setIfInBounds_toArray, List.set_cons_zero, List.set_cons_succ]
      refine wpAny_ready (rs := [10]) (by kernel_rfl) (by simp) ?_
      refine AllReady.cons rfl (fun K hK => ?_) AllReady.nil
      refine if_wanted rfl ?_
      go_simp
      refine hK _ _ ?_
      clear hK K
      try simp only [Act.put, List.getElem_toArray, List.getElem_cons_zero, List.getElem_cons_succ, List.setIfInBounds_toArray, List.set_cons_zero, List.set_cons_succ]
      refine wpAny_done (by kernel_rfl) ?_ _
      try simp only [Act.put, List.getElem_toArray, List.getElem_cons_zero, List.getElem_cons_succ, List.setIfInBounds_toArray, List.set_cons_zero, List.set_cons_succ]
      go_wp2
      first | go_end0 | (refine bodyPost_ret (results_none rfl _ _ _) rfl ?_)
      exact ⟨_, rfl, HN5.out, HB5.out.setCell (p := ⟨g0, k, none⟩) (by have := own_block HN.out.1 rfl; exact this.1) _, HX5.out.set_ HB5.out.size _ _⟩
    · skip
      refine if_wanted rfl ?_
      go_simp
      refine hK _ _ ?_
      clear hK K
      try simp only [Act.put, List.getElem_toArray, List.getElem_cons_zero, List.getElem_cons_succ, List.setIfInBounds_toArray, List.set_cons_zero, List.set_cons_succ]
      refine wpAny_ready (rs := [5]) (by kernel_rfl) (by simp) ?_
      refine AllReady.cons rfl (fun K hK => ?_) AllReady.nil
      refine if_wanted rfl ?_
      go_simp
      refine hK _ _ ?_
      clear hK K
      try simp only [Act.put, List.getElem_toArray, List.getElem_cons_zero, List.getElem_cons_succ, List.setIfInBounds_toArray, List.set_cons_zero, List.set_cons_succ]
      refine wpAny_ready (rs := [8]) (by kernel_rfl) (by simp) ?_
      refine AllReady.cons rfl (fun K hK => ?_) AllReady.nil
      refine if_wanted rfl ?_
      refine wp_append_any _ (.tmp 11) (.tmp 13) 43 43 rfl b 52 i0 (.agg #[.int .u8 0, .int .i16 0, .int .i16 0]) 3 6 Tryd.underlying43 HI.out HZ0.out HZ1.out HZ2.out rfl (by decide) (.slice a xs.length c0) xs.length (xs.flatMap wcells) rfl ((HOW.out.alloc _).drew) _ 1 [.int .u8 k1, .int .i16 y1, .int .i16 n1] rfl (Src.ofSlice _ Tryd.underlying43 ⟨W0.heap.size, 0, none⟩ 1 1 _ rfl (three_cells W0 _ k1 y1 n1) (by intro u hu; simp only [List.mem_cons, List.not_mem_nil, or_false] at hu; rcases hu with rfl | rfl | rfl <;> rfl)) (by unfold maxLen; omega) (by omega) (by have := HSz.out; simp; omega) ?_
      intro v' w5 hown5 hg5 hblk5
      rw [ownBlock_slice] at hg5 hblk5
      have hown6 : w5.ownsRow b 52 3 v' (xs ++ [((k1, y1), n1)]).length ((xs ++ [((k1, y1), n1)]).flatMap wcells) := by rw [List.length_append, List.flatMap_append]; simpa [wcells] using hown5
      obtain ⟨A5, c5, rfl, -, -⟩ := own_rd wcells_length hown6
      rw [ownBlock_slice] at hblk5
      have hN5 := OwnN.put HN.out HK.out HX.out HBW.out hown6 hg5 hblk5
      rw [show (xs ++ [((k1, y1), n1)]).length = xs.length + 1 from by simp] at hN5
      have HN5 := Lib.hid hN5
      have e5 : w5.cell? ⟨g0, k, none⟩ = some (.slice a xs.length c0) := put_cell HN.out HK.out HBW.out hg5 hc1
      have f5 : w5.frozen? ⟨g0, k, none⟩ = false := put_frozen HN.out HK.out HBW.out hg5
      have HB5 : Hid (Below b w w5) := put_below HBb.out HOW.out hg5 (by have := HSz.out; omega)
      have HX5 : Hid (PutO (some ⟨g0, 0, none⟩) hs (hs.set k (A5, xs.length + 1, c5)) w w5) := putO_of HK.out HBW.out hg5 hblk5
      clear hown5 hown6 hg5 hblk5 hN5
      refine hK _ _ ?_
      clear hK K
      try simp only [Act.put, List.getElem_toArray, List.getElem_cons_zero, List.getElem_cons_succ, List.setIfInBounds_toArray, List.set_cons_zero, List.set_cons_succ]
      refine wpAny_take (i := 9) (v := .pointer (some ⟨g0, k, none⟩)) rfl (by kernel_rfl) (by kernel_rfl) (by kernel_rfl) (fun _ _ _ h => h) (Or.inl ⟨by rfl, fun w' => by go_simp⟩) ?_
      try simp only [Act.put, List.getElem_toArray, List.getElem_cons_zero, List.getElem_cons_succ, List.setIfInBounds_toArray, List.set_cons_zero, List.set_cons_succ]
      refine wpAny_ready (rs := [10]) (by kernel_rfl) (by simp) ?_
      refine AllReady.cons rfl (fun K hK => ?_) AllReady.nil
      refine if_wanted rfl ?_
      go_simp
      refine hK _ _ ?_
      clear hK K
      try simp only [Act.put, List.getElem_toArray, List.getElem_cons_zero, List.getElem_cons_succ, List.setIfInBounds_toArray, List.set_cons_zero, List.set_cons_succ]
      refine wpAny_done (by kernel_rfl) ?_ _
      try simp only [Act.put, List.getElem_toArray, List.getElem_cons_zero, List.getElem_cons_succ, List.setIfInBounds_toArray, List.set_cons_zero, List.set_cons_succ]
      go_wp2
      first | go_end0 | (refine bodyPost_ret (results_none rfl _ _ _) rfl ?_)
      exact ⟨_, rfl, HN5.out, HB5.out.setCell (p := ⟨g0, k, none⟩) (by have := own_block HN.out.1 rfl; exact this.1) _, HX5.out.set_ HB5.out.size _ _⟩


end Go.Proofs.YtdgcgkeclcpafaaDoor

namespace Go.Proofs.YtdgcgkeclcpafaaDoor
open Go.ChangeShapes Go.WideShapes Go.ChangeAt Go.RowKit Go.Deep

theorem bst_lt6 {xss : List (List Wnt)} {d : Int} (h6 : ∀ xs ∈ xss, xs.length ≤ 6) : ∀ (k : Nat), k ≤ xss.length → ∀ b o n, bst xss d k = some (b, o, n) → n < 6
  | 0, _, b, o, n, h => by cases h
  | k + 1, hk, b, o, n, h => by
    obtain ⟨xs, hx⟩ : ∃ x, xss[k]? = some x := ⟨_, List.getElem?_eq_getElem (by omega)⟩
    have hl := h6 xs (List.mem_of_getElem? hx)
    have ih := bst_lt6 (d := d) h6 k (by omega)
    by_cases e6 : xs.length = 6
    · rw [bst_full hx e6] at h
      exact ih b o n h
    · rw [bst_room hx e6] at h
      unfold bstN at h
      split at h
      · simp only [Option.some.injEq, Prod.mk.injEq] at h
        obtain ⟨-, -, rfl⟩ := h; omega
      · rename_i b' o' n' e
        split at h
        · simp only [Option.some.injEq, Prod.mk.injEq] at h
          obtain ⟨-, -, rfl⟩ := h; omega
        · rw [← e] at h; exact ih b o n h
def saN (T : Option (List (List Wnt) × List Int)) (x : Wnt) : Option (List (List Wnt) × List Int) :=
  match T with
  | none => none
  | some (r, ls) => match bst r x.2 r.length with
    | none => none
    | some (l, _, _) => some (r.set l (r.getD l [] ++ [x]), ls ++ [(l : Int)])
/-- The rack and the lanes when so many are stored. -/
def saS (xss : List (List Wnt)) (ys : List Wnt) : Nat → Option (List (List Wnt) × List Int)
  | 0 => some (xss, [])
  | k + 1 => saN (saS xss ys k) (ys.getD k ((0, 0), 0))
theorem saS_no {xss : List (List Wnt)} {ys : List Wnt} {k : Nat} (h : saS xss ys k = none) : ∀ m, saS xss ys (k + m) = none
  | 0 => h
  | m + 1 => by show saN (saS xss ys (k + m)) _ = none; rw [saS_no h m]; rfl
theorem saS_stop {xss : List (List Wnt)} {ys : List Wnt} {k : Nat} {x : Wnt} {r : List (List Wnt)} {ls : List Int} (hy : ys[k]? = some x) (h : saS xss ys k = some (r, ls)) (hb : bst r x.2 r.length = none) : saS xss ys ys.length = none := by
  have hk := (List.getElem?_eq_some_iff.1 hy).1
  have e : saS xss ys (k + 1) = none := by
    have hg : ys.getD k ((0, 0), 0) = x := by simp [hy]
    show saN (saS xss ys k) _ = none
    rw [h, hg]; simp [saN, hb]
  have := saS_no e (ys.length - (k + 1))
  rwa [show k + 1 + (ys.length - (k + 1)) = ys.length from by omega] at this
theorem saS_step {xss : List (List Wnt)} {ys : List Wnt} {k : Nat} {x : Wnt} {r : List (List Wnt)} {ls : List Int} {l o n : Nat} {zs : List Wnt} (hy : ys[k]? = some x) (h : saS xss ys k = some (r, ls)) (hb : bst r x.2 r.length = some (l, o, n)) (hl : r[l]? = some zs) : saS xss ys (k + 1) = some (r.set l (zs ++ [x]), ls ++ [(l : Int)]) := by
  have hg : ys.getD k ((0, 0), 0) = x := by simp [hy]
  have hz : r.getD l [] = zs := by simp [hl]
  show saN (saS xss ys k) _ = _
  rw [h, hg]; simp only [saN, hb, hz]
theorem bst_at {r : List (List Wnt)} {d : Int} (h6 : ∀ xs ∈ r, xs.length ≤ 6) {l o n : Nat} (hb : bst r d r.length = some (l, o, n)) : ∃ zs, r[l]? = some zs ∧ zs.length < 6 := by
  obtain ⟨-, -, zs, hz, rfl⟩ := bst_ok _ (Nat.le_refl _) _ _ _ hb
  exact ⟨zs, hz, bst_lt6 h6 _ (Nat.le_refl _) _ _ _ hb⟩
theorem saS_ok {xss : List (List Wnt)} {ys : List Wnt} (h6 : ∀ xs ∈ xss, xs.length ≤ 6) (hwf : ∀ xs ∈ xss, ∀ x ∈ xs, wfW x) (hwy : ∀ x ∈ ys, wfW x) : ∀ (k : Nat), k ≤ ys.length → ∀ r ls, saS xss ys k = some (r, ls) → r.length = xss.length ∧ ls.length = k ∧ (∀ zs ∈ r, zs.length ≤ 6) ∧ ∀ zs ∈ r, ∀ z ∈ zs, wfW z
  | 0, _, r, ls, h => by
    simp only [saS, Option.some.injEq, Prod.mk.injEq] at h
    obtain ⟨rfl, rfl⟩ := h
    exact ⟨rfl, rfl, h6, hwf⟩
  | k + 1, hk, r, ls, h => by
    obtain ⟨x, hy⟩ : ∃ x, ys[k]? = some x := ⟨_, List.getElem?_eq_getElem (by omega)⟩
    cases hS : saS xss ys k with
    | none => have := saS_no hS 1; rw [h] at this; cases this
    | some p =>
      obtain ⟨r0, l0⟩ := p
      obtain ⟨i1, i2, i3, i4⟩ := saS_ok h6 hwf hwy k (by omega) r0 l0 hS
      cases hb : bst r0 x.2 r0.length with
      | none =>
        have hg : ys.getD k ((0, 0), 0) = x := by simp [hy]
        rw [saS, hS, hg] at h
        simp [saN, hb] at h
      | some t =>
        obtain ⟨l, o, n⟩ := t
        obtain ⟨zs, hz, hz6⟩ := bst_at i3 hb
        rw [saS_step hy hS hb hz] at h
        simp only [Option.some.injEq, Prod.mk.injEq] at h
        obtain ⟨rfl, rfl⟩ := h
        refine ⟨by simp [i1], by simp [i2], fun u hu => ?_, fun u hu => ?_⟩
        · rcases List.mem_or_eq_of_mem_set hu with h | rfl
          · exact i3 u h
          · simp; omega
        · rcases List.mem_or_eq_of_mem_set hu with h | rfl
          · exact i4 u h
          · intro z hz2
            rcases List.mem_append.1 hz2 with h | h
            · exact i4 zs (List.mem_of_getElem? hz) z h
            · obtain rfl : z = x := by simpa using h
              exact hwy z (List.mem_of_getElem? hy)
def saG (xss : List (List Wnt)) (ys : List Wnt) : Option (List (List Wnt) × List Int) := if (rkOk xss && ys.all sV) = true then saS xss ys ys.length else none
/-- The rack, the lanes and the code of StoreAll. -/
def saR (xss : List (List Wnt)) (ys : List Wnt) : List (List Wnt) := match saG xss ys with
  | none => []
  | some p => p.1
def saL (xss : List (List Wnt)) (ys : List Wnt) : List Int := match saG xss ys with
  | none => []
  | some p => p.2
def saC (xss : List (List Wnt)) (ys : List Wnt) : Int := if (rkOk xss && ys.all sV) = true then (if (saS xss ys ys.length).isSome = true then 0 else 6) else 1
theorem sa_no {xss : List (List Wnt)} {ys : List Wnt} (h : (rkOk xss && ys.all sV) = false) : saR xss ys = [] ∧ saL xss ys = [] ∧ saC xss ys = 1 := by
  have e : saG xss ys = none := by rw [saG, h]; rfl
  exact ⟨by rw [saR, e], by rw [saL, e], by rw [saC, h]; rfl⟩
theorem sa_six {xss : List (List Wnt)} {ys : List Wnt} (h : (rkOk xss && ys.all sV) = true) (hs : saS xss ys ys.length = none) : saR xss ys = [] ∧ saL xss ys = [] ∧ saC xss ys = 6 := by
  have e : saG xss ys = none := by rw [saG, if_pos h, hs]
  exact ⟨by rw [saR, e], by rw [saL, e], by rw [saC, if_pos h, hs]; rfl⟩
theorem sa_yes {xss : List (List Wnt)} {ys : List Wnt} {r : List (List Wnt)} {ls : List Int} (h : (rkOk xss && ys.all sV) = true) (hs : saS xss ys ys.length = some (r, ls)) : saR xss ys = r ∧ saL xss ys = ls ∧ saC xss ys = 0 := by
  have e : saG xss ys = some (r, ls) := by rw [saG, if_pos h, hs]
  exact ⟨by rw [saR, e], by rw [saL, e], by rw [saC, if_pos h, hs]; rfl⟩
theorem rd_nilK {T : Type} (w : World) (B : Nat) (cells : T → List Value) (A : Option Addr) : Rd w B cells A ([] : List T) := fun h => absurd h (by simp)
theorem cell1A (W : World) (v : Value) (t : TypeId) : ∀ (j : Nat) (u : Value), [v][j]? = some u → (W.alloc (.cells #[v] t)).cell? ((⟨W.heap.size, 0, none⟩ : Addr).add j) = some u := fun j u hu => by
  have e : (⟨W.heap.size, 0, none⟩ : Addr).add j = ⟨W.heap.size, j, none⟩ := by cases j <;> simp [Addr.add]
  rw [e, Blk.cell (Blk.new W t #[v])]
  simpa using hu

set_option maxRecDepth 100000 in
set_option maxHeartbeats 8000000 in
theorem specStoreAll_any (xss : List (List Wnt)) (hwf : ∀ xs ∈ xss, ∀ x ∈ xs, wfW x) (ys : List Wnt) (hwy : ∀ x ∈ ys, wfW x) (A B : Option Addr) (c d : Nat) (w : World) (hl : xss.length ≤ 1048576) (hx : ∀ xs ∈ xss, xs.length ≤ 1048576) (hly : ys.length ≤ 1048576) (hr : RdN w w.heap.size wcells A xss) (hb : Rd w w.heap.size wcells B ys) :
    Calls Tryd.prog 16 #[.slice A xss.length c, .slice B ys.length d] w fun e w' => ∃ A' c' L lc, e = .returned (.tuple #[.slice A' (saR xss ys).length c', .slice L (saL xss ys).length lc, .int .i64 (saC xss ys)]) ∧ RdN w' w'.heap.size wcells A' (saR xss ys) ∧ Rd w' w'.heap.size icells L (saL xss ys) ∧ Below w.heap.size w w' := by
  obtain ⟨i0, hi, hz0, hz1, hz2⟩ := info_parts Tryd.infoTI
  have HI := Lib.hid hi
  have HZ0 := Lib.hid hz0
  have HZ1 := Lib.hid hz1
  have HZ2 := Lib.hid hz2
  clear hi hz0 hz1 hz2
  obtain ⟨j0, hj, hy0, hy1, hy2⟩ := info_parts Tryd.info64
  have HJ := Lib.hid hj
  have HY0 := Lib.hid hy0
  have HY1 := Lib.hid hy1
  have HY2 := Lib.hid hy2
  clear hj hy0 hy1 hy2
  have HR := Lib.hid hr
  have HRb := Lib.hid hb
  have HW := Lib.hid hwf
  have HWy := Lib.hid hwy
  have HX := Lib.hid hx
  clear hr hwf hx hwy hb
  go_enter Tryd.func16, Tryd.ntmps16
  go_wp2_with fail
  refine (l04Ok_any xss HW.out A c _ hl HX.out HR.out).mono ?_
  rintro e w1 ⟨rfl, hb⟩
  have J2 := Lib.hid hb
  clear hb
  cases hv : rkOk xss
  · have hc : (rkOk xss && ys.all sV) = false := by rw [hv]; rfl
    have E1 := Lib.hid (sa_no hc).1
    have E2 := Lib.hid (sa_no hc).2.1
    have E3 := Lib.hid (sa_no hc).2.2
    clear hv hc
    go_wp2
    go_ret3
    exact ⟨_, _, _, _, by (rw [E3.out, E1.out, E2.out]; first | done | rfl), by rw [E1.out]; exact rdN_nil _ _ _ _, by rw [E2.out]; exact rd_nilK _ _ _ _, (J2.out.alloc J2.out.size _).alloc (J2.out.alloc J2.out.size _).size _⟩
  have HV := Lib.hid hv
  clear hv
  go_wp2_with fail
  refine (l04All_any ys HWy.out B d _ hly (HRb.out.keep J2.out)).mono ?_
  rintro e w2 ⟨rfl, hb⟩
  have K2 : Hid (Below w.heap.size w w2) := J2.out.trans (hb.mono J2.out.size)
  clear hb J2
  cases hs : ys.all sV
  · have hc : (rkOk xss && ys.all sV) = false := by rw [hs]; simp
    have E1 := Lib.hid (sa_no hc).1
    have E2 := Lib.hid (sa_no hc).2.1
    have E3 := Lib.hid (sa_no hc).2.2
    clear hs hc
    go_wp2
    go_ret3
    exact ⟨_, _, _, _, by (rw [E3.out, E1.out, E2.out]; first | done | rfl), by rw [E1.out]; exact rdN_nil _ _ _ _, by rw [E2.out]; exact rd_nilK _ _ _ _, (K2.out.alloc K2.out.size _).alloc (K2.out.alloc K2.out.size _).size _⟩
  have HOK : Hid ((rkOk xss && ys.all sV) = true) := by show _ = _; rw [HV.out, hs]; rfl
  have HX8 := Lib.hid (rkOk_len HV.out)
  have HX6 : Hid (∀ xs ∈ xss, xs.length ≤ 6) := fun xs h => (rkOk_lane HV.out h).1
  clear hs
  go_wp2_with fail
  refine (l04Own_any xss _ c _ hl HX.out (HR.out.keep K2.out)).mono ?_
  rintro e w4 ⟨Am, cm, hs, rfl, hN, hb4⟩
  have HB4 : Hid (Below w.heap.size w w4) := K2.out.trans (hb4.mono K2.out.size)
  have hE0 : (w4.alloc (.cells #[] 2)).ownsRow w4.heap.size 2 1 (.slice (some ⟨w4.heap.size, 0, none⟩) 0 0) 0 [] := empty_own w4 _ 1
  have HE0 : Hid ((w4.alloc (.cells #[] 2)).ownsRow w2.heap.size 2 1 (.slice (some ⟨w4.heap.size, 0, none⟩) 0 0) 0 []) := own_base hE0 hb4.size
  have HN0 : Hid (OwnN (w4.alloc (.cells #[] 2)) w2.heap.size 43 52 3 wcells Am cm hs xss) := hN.keep ((Below.refl _ w4).alloc (Nat.le_refl _) _)
  have HS0 : Hid (SepL Am hs (some ⟨w4.heap.size, 0, none⟩)) := SepL.new hN rfl
  have HB0 : Hid (Below w.heap.size w (w4.alloc (.cells #[] 2))) := HB4.out.alloc HB4.out.size _
  have HSy : Hid (w.heap.size ≤ w2.heap.size) := K2.out.size
  clear hN hb4 hE0 HB4 K2
  go_wp2_with fail
  go_loopw [8, 9] (fun lv i wr => ∃ (j : Nat) (r : List (List Wnt)) (ls : List Int) (hs : List Hd) (L : Option Addr) (lc : Nat), j ≤ ys.length ∧ i = .int .i64 j ∧ lv = .slice L ls.length lc ∧ saS xss ys j = some (r, ls) ∧ OwnN wr w2.heap.size 43 52 3 wcells Am cm hs r ∧ wr.ownsRow w2.heap.size 2 1 (.slice L ls.length lc) ls.length (ls.flatMap icells) ∧ SepL Am hs L ∧ w2.heap.size ≤ wr.heap.size ∧ Below w.heap.size w wr)
    (fun _ i _ => ys.length - (intOf i).toNat)
  case atStart => exact ⟨0, xss, [], hs, _, 0, by omega, rfl, rfl, rfl, HN0.out, HE0.out, HS0.out, Nat.le_trans (own_block HE0.out rfl).1 (Nat.le_of_lt (own_block HE0.out rfl).2), HB0.out⟩
  case round =>
    clear HE0 HN0 HS0 HB0
    clear hs
    obtain ⟨j, r, ls, hs, L, lc, hj, rfl, rfl, hS, hN, hO, hP, hz, hB⟩ := hrel
    obtain ⟨wa, rfl⟩ : ∃ u, u = wr := ⟨_, rfl⟩
    obtain ⟨ok1, ok2, ok3, ok4⟩ := saS_ok HX6.out HW.out HWy.out j hj r ls hS
    have HS := Lib.hid hS
    have HN := Lib.hid hN
    have HO := Lib.hid hO
    have HP := Lib.hid hP
    have HB := Lib.hid hB
    have HK1 := Lib.hid ok1
    have HK2 := Lib.hid ok2
    have HK3 := Lib.hid ok3
    have HK4 := Lib.hid ok4
    have HZ := Lib.hid hz
    clear hS hN hO hP hB ok1 ok2 ok3 ok4 hz
    have hj0 : (0 : Int) ≤ (j : Int) := Int.natCast_nonneg _
    by_cases hlt : j < ys.length
    · have hj8 : (j : Int) < ys.length := by omega
      obtain ⟨⟨⟨k1, y1⟩, n1⟩, hy⟩ : ∃ x, ys[j]? = some x := ⟨_, List.getElem?_eq_getElem hlt⟩
      obtain ⟨b2, o2, rfl, hb2, hrow⟩ := HRb.out.at_ wcells_length hy
      obtain ⟨f0, f1, f2⟩ := rowW hrow
      have HBb := Lib.hid hb2
      have HF0 := Lib.hid f0
      have HF1 := Lib.hid f1
      have HF2 := Lib.hid f2
      have HYj := Lib.hid hy
      have hsl : ls.length ≤ 1048576 := by have := HK2.out; omega
      have hBst := l04BestO_any r Am cm b2 (o2 + j * 3) n1 wa (by have := HK1.out; have := HX8.out; omega) HK3.out (HN.out.rd wcells_length) (Nat.lt_of_lt_of_le HBb.out HB.out.size) ((HB.out.cell (p := ⟨b2, o2 + j * 3 + 2, none⟩) HBb.out).trans HF2.out)
      obtain ⟨T, hT⟩ : ∃ T, bst r n1 r.length = T := ⟨_, rfl⟩
      rw [hT, HK1.out] at hBst
      have HBst := Lib.hid hBst
      have HT := Lib.hid hT
      clear hy hrow hb2 hBst hT f0 f1 f2
      go_wp2_with fail
      refine HBst.out.mono ?_
      rintro e w5 ⟨rfl, hb⟩
      have HN5 : Hid (OwnN w5 w2.heap.size 43 52 3 wcells Am cm hs r) := HN.out.keep hb
      have HO5 : Hid (w5.ownsRow w2.heap.size 2 1 (.slice L ls.length lc) ls.length (ls.flatMap icells)) := own_keep' HO.out hb
      have HB5 : Hid (Below w.heap.size w w5) := HB.out.trans (hb.mono HB.out.size)
      have HZ5 : Hid (w2.heap.size ≤ w5.heap.size) := Nat.le_trans HZ.out hb.size
      clear hb HN HO HB HZ HBst
      obtain ⟨wb, hwb⟩ : ∃ u, u = w5 := ⟨_, rfl⟩
      subst hwb
      cases T with
      | none =>
        have hst := saS_stop HYj.out HS.out HT.out
        have E1 := Lib.hid (sa_six HOK.out hst).1
        have E2 := Lib.hid (sa_six HOK.out hst).2.1
        have E3 := Lib.hid (sa_six HOK.out hst).2.2
        clear hst
        rw [show bestI none = -1 from rfl]
        go_wp2
        go_ret3
        exact ⟨_, _, _, _, by (rw [E3.out, E1.out, E2.out]; first | done | rfl), by rw [E1.out]; exact rdN_nil _ _ _ _, by rw [E2.out]; exact rd_nilK _ _ _ _, (HB5.out.alloc HB5.out.size _).alloc (HB5.out.alloc HB5.out.size _).size _⟩
      | some t =>
        obtain ⟨k, o, n⟩ := t
        obtain ⟨xs, hxk, hx6⟩ := bst_at HK3.out HT.out
        have hst := saS_step HYj.out HS.out HT.out hxk
        have HSt := Lib.hid hst
        have HXk := Lib.hid hxk
        rw [show bestI (some (k, o, n)) = (k : Int) from rfl]
        have hk0 : (0 : Int) ≤ (k : Int) := Int.natCast_nonneg _
        have hk9 : ¬ (k : Int) < 0 := by omega
        have hkr := (List.getElem?_eq_some_iff.1 hxk).1
        have hk8 : (k : Int) < xss.length := by have := HK1.out; omega
        obtain ⟨⟨a, m, c0⟩, hhk⟩ : ∃ h, hs[k]? = some h := ⟨_, List.getElem?_eq_getElem (by rw [HN5.out.2.1]; exact hkr)⟩
        obtain ⟨em, how⟩ := HN5.out.2.2.1 k _ xs hhk HXk.out
        dsimp only at em how
        subst em
        obtain ⟨b0, o0, e0, hb0, hrow⟩ := (own_rd2 hcells_length HN5.out.1).at_ hcells_length hhk
        obtain ⟨g0, rfl⟩ : ∃ g, Am = some ⟨g, 0, none⟩ := by
          rcases HN5.out.1.2 with ⟨e, -⟩ | ⟨g, cap, cur, hv, -⟩
          · rw [e0] at e; cases e
          · exact ⟨g, (Value.slice.inj hv).1⟩
        obtain ⟨rfl, rfl⟩ : g0 = b0 ∧ 0 = o0 := by simpa using e0
        have hc1 := rowH hrow
        rw [Nat.zero_add] at hc1
        dsimp only at hc1
        have HK := Lib.hid hhk
        have HOW := Lib.hid how
        have HBW : Hid (Below wb.heap.size wb (wb.alloc (.cells #[.int .u8 k1, .int .i16 y1, .int .i16 n1] 52)).drew) := ((Below.refl _ wb).alloc (Nat.le_refl _) _).drew
        have hcW2 : (wb.alloc (.cells #[.int .u8 k1, .int .i16 y1, .int .i16 n1] 52)).cell? ⟨g0, k, none⟩ = some (.slice a xs.length c0) := (((Below.refl wb.heap.size wb).alloc (Nat.le_refl _) _).cell (p := ⟨g0, k, none⟩) hb0).trans hc1
        have d0 : wb.cell? ⟨b2, o2 + j * 3, none⟩ = some (.int .u8 k1) := (HB5.out.cell (p := ⟨b2, o2 + j * 3, none⟩) HBb.out).trans HF0.out
        have d1 : wb.cell? ⟨b2, o2 + j * 3 + 1, none⟩ = some (.int .i16 y1) := (HB5.out.cell (p := ⟨b2, o2 + j * 3 + 1, none⟩) HBb.out).trans HF1.out
        have d2 : wb.cell? ⟨b2, o2 + j * 3 + 2, none⟩ = some (.int .i16 n1) := (HB5.out.cell (p := ⟨b2, o2 + j * 3 + 2, none⟩) HBb.out).trans HF2.out
        clear hst hxk hhk how hrow e0 hkr
        go_wp2_with fail
        refine wp_region_any (by kernel_rfl) ?_
        try (change wpAny _ _ _ _ _ _ _ (World.drew _))
        refine wpAny_take (i := 0) (v := .slice (some ⟨g0, 0, none⟩) xss.length cm) rfl (by kernel_rfl) (by kernel_rfl) (by kernel_rfl) (fun _ _ _ h => h) (Or.inl ⟨by rfl, fun w' => by go_simp⟩) ?_
        try simp only [Act.put, List.getElem_toArray, List.getElem_cons_zero, List.getElem_cons_succ, List.setIfInBounds_toArray, List.set_cons_zero, List.set_cons_succ]
        refine wpAny_take (i := 1) (v := .int .i64 k) rfl (by kernel_rfl) (by kernel_rfl) (by kernel_rfl) (fun _ _ _ h => h) (Or.inl ⟨by rfl, fun w' => by go_simp⟩) ?_
        try simp only [Act.put, List.getElem_toArray, List.getElem_cons_zero, List.getElem_cons_succ, List.setIfInBounds_toArray, List.set_cons_zero, List.set_cons_succ]
        refine wpAny_take (i := 2) (v := .slice (some ⟨g0, 0, none⟩) xss.length cm) rfl (by kernel_rfl) (by kernel_rfl) (by kernel_rfl) (fun _ _ _ h => h) (Or.inl ⟨by rfl, fun w' => by go_simp⟩) ?_
        try simp only [Act.put, List.getElem_toArray, List.getElem_cons_zero, List.getElem_cons_succ, List.setIfInBounds_toArray, List.set_cons_zero, List.set_cons_succ]
        refine wpAny_take (i := 3) (v := .int .i64 k) rfl (by kernel_rfl) (by kernel_rfl) (by kernel_rfl) (fun _ _ _ h => h) (Or.inl ⟨by rfl, fun w' => by go_simp⟩) ?_
        try simp only [Act.put, List.getElem_toArray, List.getElem_cons_zero, List.getElem_cons_succ, List.setIfInBounds_toArray, List.set_cons_zero, List.set_cons_succ]
        refine wpAny_take (i := 4) (v := .pointer (some ⟨g0, k, none⟩)) rfl (by kernel_rfl) (by kernel_rfl) (by kernel_rfl) (fun _ _ _ h => h) (Or.inl ⟨by rfl, fun w' => by go_simp⟩) ?_
        try simp only [Act.put, List.getElem_toArray, List.getElem_cons_zero, List.getElem_cons_succ, List.setIfInBounds_toArray, List.set_cons_zero, List.set_cons_succ]
        refine wpAny_take (i := 6) (v := .slice (some ⟨b2, o2, none⟩) ys.length d) rfl (by kernel_rfl) (by kernel_rfl) (by kernel_rfl) (fun _ _ _ h => h) (Or.inl ⟨by rfl, fun w' => by go_simp⟩) ?_
        try simp only [Act.put, List.getElem_toArray, List.getElem_cons_zero, List.getElem_cons_succ, List.setIfInBounds_toArray, List.set_cons_zero, List.set_cons_succ]
        refine wpAny_take (i := 7) (v := .int .i64 j) rfl (by kernel_rfl) (by kernel_rfl) (by kernel_rfl) (fun _ _ _ h => h) (Or.inl ⟨by rfl, fun w' => by go_simp⟩) ?_
        try simp only [Act.put, List.getElem_toArray, List.getElem_cons_zero, List.getElem_cons_succ, List.setIfInBounds_toArray, List.set_cons_zero, List.set_cons_succ]
        refine wpAny_take (i := 8) (v := .pointer (some ⟨b2, o2 + j * 3, none⟩)) rfl (by kernel_rfl) (by kernel_rfl) (by kernel_rfl) (fun _ _ _ h => h) (Or.inl ⟨by rfl, fun w' => by go_simp⟩) ?_
        try simp only [Act.put, List.getElem_toArray, List.getElem_cons_zero, List.getElem_cons_succ, List.setIfInBounds_toArray, List.set_cons_zero, List.set_cons_succ]
        refine wpAny_ready (rs := [5, 9]) (by kernel_rfl) (by simp) ?_
        refine AllReady.cons rfl (fun K hK => ?_) (AllReady.cons rfl (fun K hK => ?_) AllReady.nil)
        · skip
          refine if_wanted rfl ?_
          go_simp
          refine hK _ _ ?_
          clear hK K
          try simp only [Act.put, List.getElem_toArray, List.getElem_cons_zero, List.getElem_cons_succ, List.setIfInBounds_toArray, List.set_cons_zero, List.set_cons_succ]
          refine wpAny_ready (rs := [9]) (by kernel_rfl) (by simp) ?_
          refine AllReady.cons rfl (fun K hK => ?_) AllReady.nil
          refine if_wanted rfl ?_
          go_simp
          refine hK _ _ ?_
          clear hK K
          try simp only [Act.put, List.getElem_toArray, List.getElem_cons_zero, List.getElem_cons_succ, List.setIfInBounds_toArray, List.set_cons_zero, List.set_cons_succ]
          refine wpAny_ready (rs := [10]) (by kernel_rfl) (by simp) ?_
          refine AllReady.cons rfl (fun K hK => ?_) AllReady.nil
          refine if_wanted rfl ?_
          go_simp
          refine hK _ _ ?_
          clear hK K
          try simp only [Act.put, List.getElem_toArray, List.getElem_cons_zero, List.getElem_cons_succ, List.setIfInBounds_toArray, List.set_cons_zero, List.set_cons_succ]
          refine wpAny_ready (rs := [11]) (by kernel_rfl) (by simp) ?_
          refine AllReady.cons rfl (fun K hK => ?_) AllReady.nil
          refine if_wanted rfl ?_
          refine wp_append_any _ (.tmp 44) (.tmp 49) 43 43 rfl w2.heap.size 52 i0 (.agg #[.int .u8 0, .int .i16 0, .int .i16 0]) 3 6 Tryd.underlying43 HI.out HZ0.out HZ1.out HZ2.out rfl (by decide) (.slice a xs.length c0) xs.length (xs.flatMap wcells) rfl ((HOW.out.alloc _).drew) _ 1 [.int .u8 k1, .int .i16 y1, .int .i16 n1] rfl (Src.ofSlice _ Tryd.underlying43 ⟨wb.heap.size, 0, none⟩ 1 1 _ rfl (three_cells wb _ k1 y1 n1) (by intro u hu; simp only [List.mem_cons, List.not_mem_nil, or_false] at hu; rcases hu with rfl | rfl | rfl <;> rfl)) (by unfold maxLen; omega) (by omega) (by have := HZ5.out; simp; omega) ?_
          intro v' w5 hown5 hg5 hblk5
          rw [ownBlock_slice] at hg5 hblk5
          have hown6 : w5.ownsRow w2.heap.size 52 3 v' (xs ++ [((k1, y1), n1)]).length ((xs ++ [((k1, y1), n1)]).flatMap wcells) := by rw [List.length_append, List.flatMap_append]; simpa [wcells] using hown5
          obtain ⟨A5, c5, rfl, -, -⟩ := own_rd wcells_length hown6
          rw [ownBlock_slice] at hblk5
          have hN6 := OwnN.put HN5.out HK.out HXk.out HBW.out hown6 hg5 hblk5
          rw [show (xs ++ [((k1, y1), n1)]).length = xs.length + 1 from by simp] at hN6
          have HN6 := Lib.hid hN6
          have e5 : w5.cell? ⟨g0, k, none⟩ = some (.slice a xs.length c0) := put_cell HN5.out HK.out HBW.out hg5 hc1
          have f5 : w5.frozen? ⟨g0, k, none⟩ = false := put_frozen HN5.out HK.out HBW.out hg5
          have HB6 : Hid (Below w.heap.size w w5) := put_below HB5.out (own_base HOW.out HSy.out) hg5 (by have := HB5.out.size; omega)
          have HZ6 : Hid (wb.heap.size ≤ w5.heap.size) := Nat.le_trans HBW.out.size hg5.size
          have HX6b : Hid (PutO (some ⟨g0, 0, none⟩) hs (hs.set k (A5, xs.length + 1, c5)) wb w5) := putO_of HK.out HBW.out hg5 hblk5
          clear hown5 hown6 hg5 hblk5 hN6
          refine hK _ _ ?_
          clear hK K
          try simp only [Act.put, List.getElem_toArray, List.getElem_cons_zero, List.getElem_cons_succ, List.setIfInBounds_toArray, List.set_cons_zero, List.set_cons_succ]
          refine wpAny_take (i := 12) (v := .pointer (some ⟨g0, k, none⟩)) rfl (by kernel_rfl) (by kernel_rfl) (by kernel_rfl) (fun _ _ _ h => h) (Or.inl ⟨by rfl, fun w' => by go_simp⟩) ?_
          try simp only [Act.put, List.getElem_toArray, List.getElem_cons_zero, List.getElem_cons_succ, List.setIfInBounds_toArray, List.set_cons_zero, List.set_cons_succ]
          refine wpAny_ready (rs := [13]) (by kernel_rfl) (by simp) ?_
          refine AllReady.cons rfl (fun K hK => ?_) AllReady.nil
          refine if_wanted rfl ?_
          go_simp
          refine hK _ _ ?_
          clear hK K
          try simp only [Act.put, List.getElem_toArray, List.getElem_cons_zero, List.getElem_cons_succ, List.setIfInBounds_toArray, List.set_cons_zero, List.set_cons_succ]
          refine wpAny_done (by kernel_rfl) ?_ _
          try simp only [Act.put, List.getElem_toArray, List.getElem_cons_zero, List.getElem_cons_succ, List.setIfInBounds_toArray, List.set_cons_zero, List.set_cons_succ]
          have hv6 := HX6b.out.set_ HZ6.out k (.slice A5 (xs.length + 1) c5)
          obtain ⟨hsp, hol⟩ := sep_put HP.out hv6 HO5.out
          have hb6 : Below w.heap.size w (w5.setCell ⟨g0, k, none⟩ (.slice A5 (xs.length + 1) c5)) := HB6.out.setCell (p := ⟨g0, k, none⟩) (by have hq : w2.heap.size ≤ g0 := (own_block HN5.out.1 rfl).1; have := HSy.out; show w.heap.size ≤ g0; omega) _
          have hz6 : w2.heap.size ≤ (w5.setCell ⟨g0, k, none⟩ (.slice A5 (xs.length + 1) c5)).heap.size := by have := HZ5.out; have := HZ6.out; simp; omega
          obtain ⟨w6, hw6⟩ : ∃ u, w5.setCell ⟨g0, k, none⟩ (.slice A5 (xs.length + 1) c5) = u := ⟨_, rfl⟩
          have hn6 := HN6.out
          rw [hw6] at hol hb6 hn6 hz6 ⊢
          have HN7 := Lib.hid hn6
          have HSp := Lib.hid hsp
          have HOl := Lib.hid hol
          have HB7 := Lib.hid hb6
          have HZ7 := Lib.hid hz6
          clear hw6 hv6 hsp hol hb6 hn6 hz6 e5 f5 HN6 HX6b HB6 HZ6 hc1 hcW2 d0 d1 d2
          go_wp2_with (at_builtin; refine wpList_append_own_at _ rfl (.tmp 52) (.tmp 54) 40 rfl w2.heap.size 2 j0 (.int .i64 0) 1 8 Tryd.underlying40 HJ.out HY0.out HY1.out HY2.out rfl (by decide) _ _ _ rfl (HOl.out.alloc _) ⟨w6.heap.size, 0, none⟩ 1 1 [.int .i64 k] rfl rfl ?f1 ?f2 ?f3 ?f4 ?f5 ?_)
          case f1 => exact cell1A w6 _ _
          case f2 => simp [Value.oneCell']
          case f3 => unfold maxLen; omega
          case f4 => omega
          case f5 => have := HZ7.out; simp; omega
          intro v8 w8 hown8 hg8 _ hblk8
          rw [ownBlock_slice] at hg8 hblk8
          have hown9 : w8.ownsRow w2.heap.size 2 1 v8 (ls ++ [(k : Int)]).length ((ls ++ [(k : Int)]).flatMap icells) := by rw [List.length_append, List.flatMap_append]; exact hown8
          obtain ⟨A8, c8, rfl, -, -⟩ := own_rd icells_length hown9
          rw [ownBlock_slice] at hblk8
          have hAC : Below w6.heap.size w6 (w6.alloc (.cells #[.int .i64 k] 2)) := (Below.refl _ _).alloc (Nat.le_refl _) _
          obtain ⟨g1, g2⟩ := sep_grow (HN7.out.keep hAC) hg8 HSp.out (by rw [show (w6.alloc (.cells #[.int .i64 k] 2)).heap.size = w6.heap.size + 1 from by simp]; exact hblk8)
          have HB9 : Hid (Below w.heap.size w w8) := (HB7.out.alloc HB7.out.size _).grown hg8 (HB7.out.alloc HB7.out.size _).size (fun q e => by have := gk_ge HOl.out q e; have := HSy.out; omega)
          have HZ9 : Hid (w2.heap.size ≤ w8.heap.size) := by have := HZ7.out; have := hg8.size; have h2 := hAC.size; show _ ≤ _; omega
          have HG1 := Lib.hid g1
          have HG2 := Lib.hid g2
          have HO9 := Lib.hid hown9
          clear hown8 hown9 hg8 hblk8 g1 g2 hAC
          obtain ⟨l2, hl2⟩ : ∃ l2, ls ++ [(k : Int)] = l2 := ⟨_, rfl⟩
          have hs2 := HSt.out
          rw [hl2] at HO9 hs2 ⊢
          have HS2 := Lib.hid hs2
          clear hl2 hs2
          go_wp2
          go_roundw
          case rel => exact ⟨j + 1, _, l2, _, A8, c8, by omega, by go_num, rfl, HS2.out, HG1.out, HO9.out, HG2.out, HZ9.out, HB9.out⟩
          case measure => simp [intOf]; omega
        · skip
          refine if_wanted rfl ?_
          go_simp
          refine hK _ _ ?_
          clear hK K
          try simp only [Act.put, List.getElem_toArray, List.getElem_cons_zero, List.getElem_cons_succ, List.setIfInBounds_toArray, List.set_cons_zero, List.set_cons_succ]
          refine wpAny_ready (rs := [5, 10]) (by kernel_rfl) (by simp) ?_
          refine AllReady.cons rfl (fun K hK => ?_) (AllReady.cons rfl (fun K hK => ?_) AllReady.nil)
          · skip
            refine if_wanted rfl ?_
            go_simp
            refine hK _ _ ?_
            clear hK K
            try simp only [Act.put, List.getElem_toArray, List.getElem_cons_zero, List.getElem_cons_succ, List.setIfInBounds_toArray, List.set_cons_zero, List.set_cons_succ]
            refine wpAny_ready (rs := [10]) (by kernel_rfl) (by simp) ?_
            refine AllReady.cons rfl (fun K hK => ?_) AllReady.nil
            refine if_wanted rfl ?_
            go_simp
            refine hK _ _ ?_
            clear hK K
            try simp only [Act.put, List.getElem_toArray, List.getElem_cons_zero, List.getElem_cons_succ, List.setIfInBounds_toArray, List.set_cons_zero, List.set_cons_succ]
            refine wpAny_ready (rs := [11]) (by kernel_rfl) (by simp) ?_
            refine AllReady.cons rfl (fun K hK => ?_) AllReady.nil
            refine if_wanted rfl ?_
            refine wp_append_any _ (.tmp 44) (.tmp 49) 43 43 rfl w2.heap.size 52 i0 (.agg #[.int .u8 0, .int .i16 0, .int .i16 0]) 3 6 Tryd.underlying43 HI.out HZ0.out HZ1.out HZ2.out rfl (by decide) (.slice a xs.length c0) xs.length (xs.flatMap wcells) rfl ((HOW.out.alloc _).drew) _ 1 [.int .u8 k1, .int .i16 y1, .int .i16 n1] rfl (Src.ofSlice _ Tryd.underlying43 ⟨wb.heap.size, 0, none⟩ 1 1 _ rfl (three_cells wb _ k1 y1 n1) (by intro u hu; simp only [List.mem_cons, List.not_mem_nil, or_false] at hu; rcases hu with rfl | rfl | rfl <;> rfl)) (by unfold maxLen; omega) (by omega) (by have := HZ5.out; simp; omega) ?_
            intro v' w5 hown5 hg5 hblk5
            rw [ownBlock_slice] at hg5 hblk5
            have hown6 : w5.ownsRow w2.heap.size 52 3 v' (xs ++ [((k1, y1), n1)]).length ((xs ++ [((k1, y1), n1)]).flatMap wcells) := by rw [List.length_append, List.flatMap_append]; simpa [wcells] using hown5
            obtain ⟨A5, c5, rfl, -, -⟩ := own_rd wcells_length hown6
            rw [ownBlock_slice] at hblk5
            have hN6 := OwnN.put HN5.out HK.out HXk.out HBW.out hown6 hg5 hblk5
            rw [show (xs ++ [((k1, y1), n1)]).length = xs.length + 1 from by simp] at hN6
            have HN6 := Lib.hid hN6
            have e5 : w5.cell? ⟨g0, k, none⟩ = some (.slice a xs.length c0) := put_cell HN5.out HK.out HBW.out hg5 hc1
            have f5 : w5.frozen? ⟨g0, k, none⟩ = false := put_frozen HN5.out HK.out HBW.out hg5
            have HB6 : Hid (Below w.heap.size w w5) := put_below HB5.out (own_base HOW.out HSy.out) hg5 (by have := HB5.out.size; omega)
            have HZ6 : Hid (wb.heap.size ≤ w5.heap.size) := Nat.le_trans HBW.out.size hg5.size
            have HX6b : Hid (PutO (some ⟨g0, 0, none⟩) hs (hs.set k (A5, xs.length + 1, c5)) wb w5) := putO_of HK.out HBW.out hg5 hblk5
            clear hown5 hown6 hg5 hblk5 hN6
            refine hK _ _ ?_
            clear hK K
            try simp only [Act.put, List.getElem_toArray, List.getElem_cons_zero, List.getElem_cons_succ, List.setIfInBounds_toArray, List.set_cons_zero, List.set_cons_succ]
            refine wpAny_take (i := 12) (v := .pointer (some ⟨g0, k, none⟩)) rfl (by kernel_rfl) (by kernel_rfl) (by kernel_rfl) (fun _ _ _ h => h) (Or.inl ⟨by rfl, fun w' => by go_simp⟩) ?_
            try simp only [Act.put, List.getElem_toArray, List.getElem_cons_zero, List.getElem_cons_succ, List.setIfInBounds_toArray, List.set_cons_zero, List.set_cons_succ]
            refine wpAny_ready (rs := [13]) (by kernel_rfl) (by simp) ?_
            refine AllReady.cons rfl (fun K hK => ?_) AllReady.nil
            refine if_wanted rfl ?_
            go_simp
            refine hK _ _ ?_
            clear hK K
            try simp only [Act.put, List.getElem_toArray, List.getElem_cons_zero, List.getElem_cons_succ, List.setIfInBounds_toArray, List.set_cons_zero, List.set_cons_succ]
            refine wpAny_done (by kernel_rfl) ?_ _
            try simp only [Act.put, List.getElem_toArray, List.getElem_cons_zero, List.getElem_cons_succ, List.setIfInBounds_toArray, List.set_cons_zero, List.set_cons_succ]
            have hv6 := HX6b.out.set_ HZ6.out k (.slice A5 (xs.length + 1) c5)
            obtain ⟨hsp, hol⟩ := sep_put HP.out hv6 HO5.out
            have hb6 : Below w.heap.size w (w5.setCell ⟨g0, k, none⟩ (.slice A5 (xs.length + 1) c5)) := HB6.out.setCell (p := ⟨g0, k, none⟩) (by have hq : w2.heap.size ≤ g0 := (own_block HN5.out.1 rfl).1; have := HSy.out; show w.heap.size ≤ g0; omega) _
            have hz6 : w2.heap.size ≤ (w5.setCell ⟨g0, k, none⟩ (.slice A5 (xs.length + 1) c5)).heap.size := by have := HZ5.out; have := HZ6.out; simp; omega
            obtain ⟨w6, hw6⟩ : ∃ u, w5.setCell ⟨g0, k, none⟩ (.slice A5 (xs.length + 1) c5) = u := ⟨_, rfl⟩
            have hn6 := HN6.out
            rw [hw6] at hol hb6 hn6 hz6 ⊢
            have HN7 := Lib.hid hn6
            have HSp := Lib.hid hsp
            have HOl := Lib.hid hol
            have HB7 := Lib.hid hb6
            have HZ7 := Lib.hid hz6
            clear hw6 hv6 hsp hol hb6 hn6 hz6 e5 f5 HN6 HX6b HB6 HZ6 hc1 hcW2 d0 d1 d2
            go_wp2_with (at_builtin; refine wpList_append_own_at _ rfl (.tmp 52) (.tmp 54) 40 rfl w2.heap.size 2 j0 (.int .i64 0) 1 8 Tryd.underlying40 HJ.out HY0.out HY1.out HY2.out rfl (by decide) _ _ _ rfl (HOl.out.alloc _) ⟨w6.heap.size, 0, none⟩ 1 1 [.int .i64 k] rfl rfl ?f1 ?f2 ?f3 ?f4 ?f5 ?_)
            case f1 => exact cell1A w6 _ _
            case f2 => simp [Value.oneCell']
            case f3 => unfold maxLen; omega
            case f4 => omega
            case f5 => have := HZ7.out; simp; omega
            intro v8 w8 hown8 hg8 _ hblk8
            rw [ownBlock_slice] at hg8 hblk8
            have hown9 : w8.ownsRow w2.heap.size 2 1 v8 (ls ++ [(k : Int)]).length ((ls ++ [(k : Int)]).flatMap icells) := by rw [List.length_append, List.flatMap_append]; exact hown8
            obtain ⟨A8, c8, rfl, -, -⟩ := own_rd icells_length hown9
            rw [ownBlock_slice] at hblk8
            have hAC : Below w6.heap.size w6 (w6.alloc (.cells #[.int .i64 k] 2)) := (Below.refl _ _).alloc (Nat.le_refl _) _
            obtain ⟨g1, g2⟩ := sep_grow (HN7.out.keep hAC) hg8 HSp.out (by rw [show (w6.alloc (.cells #[.int .i64 k] 2)).heap.size = w6.heap.size + 1 from by simp]; exact hblk8)
            have HB9 : Hid (Below w.heap.size w w8) := (HB7.out.alloc HB7.out.size _).grown hg8 (HB7.out.alloc HB7.out.size _).size (fun q e => by have := gk_ge HOl.out q e; have := HSy.out; omega)
            have HZ9 : Hid (w2.heap.size ≤ w8.heap.size) := by have := HZ7.out; have := hg8.size; have h2 := hAC.size; show _ ≤ _; omega
            have HG1 := Lib.hid g1
            have HG2 := Lib.hid g2
            have HO9 := Lib.hid hown9
            clear hown8 hown9 hg8 hblk8 g1 g2 hAC
            obtain ⟨l2, hl2⟩ : ∃ l2, ls ++ [(k : Int)] = l2 := ⟨_, rfl⟩
            have hs2 := HSt.out
            rw [hl2] at HO9 hs2 ⊢
            have HS2 := Lib.hid hs2
            clear hl2 hs2
            go_wp2
            go_roundw
            case rel => exact ⟨j + 1, _, l2, _, A8, c8, by omega, by go_num, rfl, HS2.out, HG1.out, HO9.out, HG2.out, HZ9.out, HB9.out⟩
            case measure => simp [intOf]; omega
          · skip
            refine if_wanted rfl ?_
            go_simp
            refine hK _ _ ?_
            clear hK K
            try simp only [Act.put, List.getElem_toArray, List.getElem_cons_zero, List.getElem_cons_succ, List.setIfInBounds_toArray, List.set_cons_zero, List.set_cons_succ]
            refine wpAny_ready (rs := [5]) (by kernel_rfl) (by simp) ?_
            refine AllReady.cons rfl (fun K hK => ?_) AllReady.nil
            refine if_wanted rfl ?_
            go_simp
            refine hK _ _ ?_
            clear hK K
            try simp only [Act.put, List.getElem_toArray, List.getElem_cons_zero, List.getElem_cons_succ, List.setIfInBounds_toArray, List.set_cons_zero, List.set_cons_succ]
            refine wpAny_ready (rs := [11]) (by kernel_rfl) (by simp) ?_
            refine AllReady.cons rfl (fun K hK => ?_) AllReady.nil
            refine if_wanted rfl ?_
            refine wp_append_any _ (.tmp 44) (.tmp 49) 43 43 rfl w2.heap.size 52 i0 (.agg #[.int .u8 0, .int .i16 0, .int .i16 0]) 3 6 Tryd.underlying43 HI.out HZ0.out HZ1.out HZ2.out rfl (by decide) (.slice a xs.length c0) xs.length (xs.flatMap wcells) rfl ((HOW.out.alloc _).drew) _ 1 [.int .u8 k1, .int .i16 y1, .int .i16 n1] rfl (Src.ofSlice _ Tryd.underlying43 ⟨wb.heap.size, 0, none⟩ 1 1 _ rfl (three_cells wb _ k1 y1 n1) (by intro u hu; simp only [List.mem_cons, List.not_mem_nil, or_false] at hu; rcases hu with rfl | rfl | rfl <;> rfl)) (by unfold maxLen; omega) (by omega) (by have := HZ5.out; simp; omega) ?_
            intro v' w5 hown5 hg5 hblk5
            rw [ownBlock_slice] at hg5 hblk5
            have hown6 : w5.ownsRow w2.heap.size 52 3 v' (xs ++ [((k1, y1), n1)]).length ((xs ++ [((k1, y1), n1)]).flatMap wcells) := by rw [List.length_append, List.flatMap_append]; simpa [wcells] using hown5
            obtain ⟨A5, c5, rfl, -, -⟩ := own_rd wcells_length hown6
            rw [ownBlock_slice] at hblk5
            have hN6 := OwnN.put HN5.out HK.out HXk.out HBW.out hown6 hg5 hblk5
            rw [show (xs ++ [((k1, y1), n1)]).length = xs.length + 1 from by simp] at hN6
            have HN6 := Lib.hid hN6
            have e5 : w5.cell? ⟨g0, k, none⟩ = some (.slice a xs.length c0) := put_cell HN5.out HK.out HBW.out hg5 hc1
            have f5 : w5.frozen? ⟨g0, k, none⟩ = false := put_frozen HN5.out HK.out HBW.out hg5
            have HB6 : Hid (Below w.heap.size w w5) := put_below HB5.out (own_base HOW.out HSy.out) hg5 (by have := HB5.out.size; omega)
            have HZ6 : Hid (wb.heap.size ≤ w5.heap.size) := Nat.le_trans HBW.out.size hg5.size
            have HX6b : Hid (PutO (some ⟨g0, 0, none⟩) hs (hs.set k (A5, xs.length + 1, c5)) wb w5) := putO_of HK.out HBW.out hg5 hblk5
            clear hown5 hown6 hg5 hblk5 hN6
            refine hK _ _ ?_
            clear hK K
            try simp only [Act.put, List.getElem_toArray, List.getElem_cons_zero, List.getElem_cons_succ, List.setIfInBounds_toArray, List.set_cons_zero, List.set_cons_succ]
            refine wpAny_take (i := 12) (v := .pointer (some ⟨g0, k, none⟩)) rfl (by kernel_rfl) (by kernel_rfl) (by kernel_rfl) (fun _ _ _ h => h) (Or.inl ⟨by rfl, fun w' => by go_simp⟩) ?_
            try simp only [Act.put, List.getElem_toArray, List.getElem_cons_zero, List.getElem_cons_succ, List.setIfInBounds_toArray, List.set_cons_zero, List.set_cons_succ]
            refine wpAny_ready (rs := [13]) (by kernel_rfl) (by simp) ?_
            refine AllReady.cons rfl (fun K hK => ?_) AllReady.nil
            refine if_wanted rfl ?_
            go_simp
            refine hK _ _ ?_
            clear hK K
            try simp only [Act.put, List.getElem_toArray, List.getElem_cons_zero, List.getElem_cons_succ, List.setIfInBounds_toArray, List.set_cons_zero, List.set_cons_succ]
            refine wpAny_done (by kernel_rfl) ?_ _
            try simp only [Act.put, List.getElem_toArray, List.getElem_cons_zero, List.getElem_cons_succ, List.setIfInBounds_toArray, List.set_cons_zero, List.set_cons_succ]
            have hv6 := HX6b.out.set_ HZ6.out k (.slice A5 (xs.length + 1) c5)
            obtain ⟨hsp, hol⟩ := sep_put HP.out hv6 HO5.out
            have hb6 : Below w.heap.size w (w5.setCell ⟨g0, k, none⟩ (.slice A5 (xs.length + 1) c5)) := HB6.out.setCell (p := ⟨g0, k, none⟩) (by have hq : w2.heap.size ≤ g0 := (own_block HN5.out.1 rfl).1; have := HSy.out; show w.heap.size ≤ g0; omega) _
            have hz6 : w2.heap.size ≤ (w5.setCell ⟨g0, k, none⟩ (.slice A5 (xs.length + 1) c5)).heap.size := by have := HZ5.out; have := HZ6.out; simp; omega
            obtain ⟨w6, hw6⟩ : ∃ u, w5.setCell ⟨g0, k, none⟩ (.slice A5 (xs.length + 1) c5) = u := ⟨_, rfl⟩
            have hn6 := HN6.out
            rw [hw6] at hol hb6 hn6 hz6 ⊢
            have HN7 := Lib.hid hn6
            have HSp := Lib.hid hsp
            have HOl := Lib.hid hol
            have HB7 := Lib.hid hb6
            have HZ7 := Lib.hid hz6
            clear hw6 hv6 hsp hol hb6 hn6 hz6 e5 f5 HN6 HX6b HB6 HZ6 hc1 hcW2 d0 d1 d2
            go_wp2_with (at_builtin; refine wpList_append_own_at _ rfl (.tmp 52) (.tmp 54) 40 rfl w2.heap.size 2 j0 (.int .i64 0) 1 8 Tryd.underlying40 HJ.out HY0.out HY1.out HY2.out rfl (by decide) _ _ _ rfl (HOl.out.alloc _) ⟨w6.heap.size, 0, none⟩ 1 1 [.int .i64 k] rfl rfl ?f1 ?f2 ?f3 ?f4 ?f5 ?_)
            case f1 => exact cell1A w6 _ _
            case f2 => simp [Value.oneCell']
            case f3 => unfold maxLen; omega
            case f4 => omega
            case f5 => have := HZ7.out; simp; omega
            intro v8 w8 hown8 hg8 _ hblk8
            rw [ownBlock_slice] at hg8 hblk8
            have hown9 : w8.ownsRow w2.heap.size 2 1 v8 (ls ++ [(k : Int)]).length ((ls ++ [(k : Int)]).flatMap icells) := by rw [List.length_append, List.flatMap_append]; exact hown8
            obtain ⟨A8, c8, rfl, -, -⟩ := own_rd icells_length hown9
            rw [ownBlock_slice] at hblk8
            have hAC : Below w6.heap.size w6 (w6.alloc (.cells #[.int .i64 k] 2)) := (Below.refl _ _).alloc (Nat.le_refl _) _
            obtain ⟨g1, g2⟩ := sep_grow (HN7.out.keep hAC) hg8 HSp.out (by rw [show (w6.alloc (.cells #[.int .i64 k] 2)).heap.size = w6.heap.size + 1 from by simp]; exact hblk8)
            have HB9 : Hid (Below w.heap.size w w8) := (HB7.out.alloc HB7.out.size _).grown hg8 (HB7.out.alloc HB7.out.size _).size (fun q e => by have := gk_ge HOl.out q e; have := HSy.out; omega)
            have HZ9 : Hid (w2.heap.size ≤ w8.heap.size) := by have := HZ7.out; have := hg8.size; have h2 := hAC.size; show _ ≤ _; omega
            have HG1 := Lib.hid g1
            have HG2 := Lib.hid g2
            have HO9 := Lib.hid hown9
            clear hown8 hown9 hg8 hblk8 g1 g2 hAC
            obtain ⟨l2, hl2⟩ : ∃ l2, ls ++ [(k : Int)] = l2 := ⟨_, rfl⟩
            have hs2 := HSt.out
            rw [hl2] at HO9 hs2 ⊢
            have HS2 := Lib.hid hs2
            clear hl2 hs2
            go_wp2
            go_roundw
            case rel => exact ⟨j + 1, _, l2, _, A8, c8, by omega, by go_num, rfl, HS2.out, HG1.out, HO9.out, HG2.out, HZ9.out, HB9.out⟩
            case measure => simp [intOf]; omega
    · obtain rfl : j = ys.length := by omega
      have E1 := Lib.hid (sa_yes HOK.out HS.out).1
      have E2 := Lib.hid (sa_yes HOK.out HS.out).2.1
      have E3 := Lib.hid (sa_yes HOK.out HS.out).2.2
      have HRr : Hid (RdN wa wa.heap.size wcells Am r) := HN.out.rd wcells_length
      have HRl : Hid (Rd wa wa.heap.size icells L ls) := own_rd2 icells_length HO.out
      have HRn : Hid (xss.length = r.length) := HK1.out.symm
      go_wp2
      go_ret3
      exact ⟨_, _, _, _, by (rw [E3.out, E1.out, E2.out, HRn.out]; first | done | rfl), by rw [E1.out]; exact HRr.out, by rw [E2.out]; exact HRl.out, HB.out⟩

end Go.Proofs.YtdgcgkeclcpafaaDoor

namespace Go.Proofs.YtdgcgkeclcpafaaDoor
open Go.ChangeShapes Go.WideShapes Go.ChangeAt Go.RowKit Go.Deep

theorem checkStoredL_any (ys : List Wnt) (B : Option Addr) (c : Nat) (ad : Nat → Addr) (w : World) (hl : ys.length ≤ 1048576) (hr : Rd w w.heap.size wcells B ys) (hE : I5 w ad) :
    Calls Tryd.prog 45 #[.slice B ys.length c] w fun e w' => e = .returned (erV ad 5 (ys.all sV)) ∧ Below w.heap.size w w' := by
  have HR := Lib.hid hr
  have HE := Lib.hid hE
  clear hr hE
  go_enter Tryd.func45, Tryd.ntmps45
  go_wp2_with fail
  refine (checkEachS_any ys _ c ad w hl HR.out HE.out).mono ?_
  rintro e w1 ⟨rfl, hb⟩
  have HB1 := Lib.hid hb
  clear hb
  obtain ⟨v, hv⟩ : ∃ v, erV ad 5 (ys.all sV) = v := ⟨_, rfl⟩
  have HV := Lib.hid hv
  rw [hv]
  clear hv
  go_wp2
  go_ret
  exact ⟨by first | rfl | (rw [HV.out]; rfl), HB1.out⟩

set_option maxRecDepth 100000 in
set_option maxHeartbeats 8000000 in
theorem implStoreAll_any (xss : List (List Wnt)) (hwf : ∀ xs ∈ xss, ∀ x ∈ xs, wfW x) (ys : List Wnt) (hwy : ∀ x ∈ ys, wfW x) (A B : Option Addr) (c d : Nat) (ad : Nat → Addr) (w : World) (hl : xss.length ≤ 1048576) (hx : ∀ xs ∈ xss, xs.length ≤ 1048576) (hly : ys.length ≤ 1048576) (hr : RdK w w.heap.size wcells A xss) (hb : Rd w w.heap.size wcells B ys) (hE : EW 7 w ad) :
    Calls Tryd.prog 18 #[.slice A xss.length c, .slice B ys.length d] w fun e w' => ∃ A' c' hs L lc, e = .returned (.tuple #[.slice A' (saR xss ys).length c', .slice L (saL xss ys).length lc, .int .i64 (saC xss ys)]) ∧ OwnN w' w.heap.size 43 52 3 wcells A' c' hs (saR xss ys) ∧ w'.ownsRow w.heap.size 2 1 (.slice L (saL xss ys).length lc) (saL xss ys).length ((saL xss ys).flatMap icells) ∧ SepL A' hs L ∧ Below w.heap.size w w' := by
  obtain ⟨j0, hj, hy0, hy1, hy2⟩ := info_parts Tryd.info64
  have HJ := Lib.hid hj
  have HY0 := Lib.hid hy0
  have HY1 := Lib.hid hy1
  have HY2 := Lib.hid hy2
  clear hj hy0 hy1 hy2
  have HR := Lib.hid hr
  have HRb := Lib.hid hb
  have HW := Lib.hid hwf
  have HWy := Lib.hid hwy
  have HX := Lib.hid hx
  have HE := Lib.hid hE
  clear hr hwf hx hwy hb hE
  go_enter Tryd.func18, Tryd.ntmps18
  go_wp2_with fail
  refine (checkRack_any xss A c ad w hl HX.out HR.out.rd HE.out).mono ?_
  rintro e w1 ⟨rfl, hb⟩
  have HB := Lib.hid hb
  clear hb
  obtain ⟨v0, hv0⟩ : ∃ v, erV ad 5 (rkOk xss) = v := ⟨_, rfl⟩
  have hp0 := erV_isE ad 5 (rkOk xss)
  rw [hv0] at hp0 ⊢
  have V0 := Lib.hid hv0
  have P0 := Lib.hid hp0
  clear hv0 hp0
  go_wp2_with fail
  refine (checkStoredL_any ys B d ad w1 hly (HRb.out.keep HB.out) (HE.out.below HB.out (Nat.le_refl _)).i5).mono ?_
  rintro e w2 ⟨rfl, hb⟩
  have HB2 : Hid (Below w.heap.size w w2) := HB.out.trans (hb.mono HB.out.size)
  clear hb HB
  obtain ⟨v1, hv1⟩ : ∃ v, erV ad 5 (ys.all sV) = v := ⟨_, rfl⟩
  have hp1 := erV_isE ad 5 (ys.all sV)
  rw [hv1] at hp1 ⊢
  have V1 := Lib.hid hv1
  have P1 := Lib.hid hp1
  clear hv1 hp1
  go_wp2_with (refine wpList_twoErrs rfl (.tmp 15) (.tmp 17) rfl P0.out P1.out rfl rfl ?_)
  have q0 := new_cell2 w2 v0 v1 62
  refine (first2_any P0.out P1.out _ _ _ q0.1 q0.2).mono ?_
  rintro e w9 ⟨rfl, rfl⟩
  have L2 : Below w.heap.size w (w2.alloc (.cells #[v0, v1] 62)) := HB2.out.alloc HB2.out.size _
  obtain ⟨w3, hw3⟩ : ∃ w3, w2.alloc (.cells #[v0, v1] 62) = w3 := ⟨_, rfl⟩
  rw [hw3] at L2 ⊢
  have M2 := Lib.hid L2
  clear q0 hw3 L2 HB2
  cases hok : (rkOk xss && ys.all sV)
  · have hv : firstV v0 v1 = .iface 139 (.pointer (some (ad 5))) := by
      rw [← V0.out, ← V1.out]
      cases h1 : rkOk xss <;> cases h2 : ys.all sV <;> first | rfl | (rw [h1, h2] at hok; cases hok)
    rw [hv]
    have E1 := Lib.hid (sa_no hok).1
    have E2 := Lib.hid (sa_no hok).2.1
    have E3 := Lib.hid (sa_no hok).2.2
    clear hv hok
    go_wp2_with fail
    refine (codeOf_5 (HE.out.below M2.out (Nat.le_refl _))).mono ?_
    rintro e w4 ⟨rfl, rfl⟩
    go_wp2
    go_ret3
    exact ⟨none, 0, [], none, 0, by (rw [E3.out, E1.out, E2.out]; first | done | rfl), by rw [E1.out]; exact OwnN.nil _ _ _ _ _ _, by rw [E2.out]; exact ⟨rfl, .inl ⟨rfl, rfl⟩⟩, SepL.none _ _, M2.out⟩
  have hrk : rkOk xss = true ∧ ys.all sV = true := by
    cases h1 : rkOk xss <;> cases h2 : ys.all sV <;> first | exact ⟨rfl, rfl⟩ | (rw [h1, h2] at hok; cases hok)
  have hv : firstV v0 v1 = .nilIface := by rw [← V0.out, ← V1.out, hrk.1, hrk.2]; rfl
  rw [hv]
  have HOK := Lib.hid hok
  have HX8 := Lib.hid (rkOk_len hrk.1)
  have HX6 : Hid (∀ xs ∈ xss, xs.length ≤ 6) := fun xs h => (rkOk_lane hrk.1 h).1
  clear hv hok hrk V0 V1 P0 P1
  go_wp2_with fail
  refine (copied_any xss A c w3 hl HX.out (HR.out.keep M2.out).rd).mono ?_
  rintro e w4 ⟨Am, cm, hs, rfl, hN, hb4⟩
  have HN0 := Lib.hid hN
  have HSy : Hid (w.heap.size ≤ w3.heap.size) := M2.out.size
  have HZ0 : Hid (w3.heap.size ≤ w4.heap.size) := hb4.size
  have HB0 : Hid (Below w.heap.size w w4) := M2.out.trans (hb4.mono M2.out.size)
  obtain ⟨bb, hbb⟩ : ∃ b, b = w3.heap.size := ⟨_, rfl⟩
  rw [← hbb] at HN0 HSy HZ0
  clear hN hb4 hbb M2
  go_wp2_with fail
  go_loopw [9, 28] (fun lv i wr => ∃ (j : Nat) (r : List (List Wnt)) (ls : List Int) (hs : List Hd) (L : Option Addr) (lc : Nat), j ≤ ys.length ∧ i = .int .i64 j ∧ lv = .slice L ls.length lc ∧ saS xss ys j = some (r, ls) ∧ OwnN wr bb 43 52 3 wcells Am cm hs r ∧ wr.ownsRow bb 2 1 (.slice L ls.length lc) ls.length (ls.flatMap icells) ∧ SepL Am hs L ∧ bb ≤ wr.heap.size ∧ Below w.heap.size w wr)
    (fun _ i _ => ys.length - (intOf i).toNat)
  case atStart => exact ⟨0, xss, [], hs, none, 0, by omega, rfl, rfl, rfl, HN0.out, ⟨rfl, .inl ⟨rfl, rfl⟩⟩, SepL.none _ _, HZ0.out, HB0.out⟩
  case round =>
    clear HN0 HB0 HZ0
    clear hs
    obtain ⟨j, r, ls, hs, L, lc, hj, rfl, rfl, hS, hN, hO, hP, hz, hB⟩ := hrel
    obtain ⟨wa, rfl⟩ : ∃ u, u = wr := ⟨_, rfl⟩
    obtain ⟨ok1, ok2, ok3, ok4⟩ := saS_ok HX6.out HW.out HWy.out j hj r ls hS
    have HS := Lib.hid hS
    have HN := Lib.hid hN
    have HO := Lib.hid hO
    have HP := Lib.hid hP
    have HB := Lib.hid hB
    have HK1 := Lib.hid ok1
    have HK2 := Lib.hid ok2
    have HK3 := Lib.hid ok3
    have HK4 := Lib.hid ok4
    have HZ := Lib.hid hz
    clear hS hN hO hP hB ok1 ok2 ok3 ok4 hz
    have hj0 : (0 : Int) ≤ (j : Int) := Int.natCast_nonneg _
    by_cases hlt : j < ys.length
    · have hj8 : (j : Int) < ys.length := by omega
      obtain ⟨⟨⟨k1, y1⟩, n1⟩, hy⟩ : ∃ x, ys[j]? = some x := ⟨_, List.getElem?_eq_getElem hlt⟩
      obtain ⟨b2, o2, rfl, hb2, hrow⟩ := (HRb.out.keep HB.out).at_ wcells_length hy
      obtain ⟨f0, f1, f2⟩ := rowW hrow
      have HYj := Lib.hid hy
      have HWx : Hid (wfW ((k1, y1), n1)) := HWy.out _ (List.mem_of_getElem? hy)
      have hsl : ls.length ≤ 1048576 := by have := HK2.out; omega
      clear hy hrow hb2
      go_wp2_with fail
      have hB1 : Below wa.heap.size wa (wa.alloc (.cells #[.int .u8 k1, .int .i16 y1, .int .i16 n1] 52)) := (Below.refl _ wa).alloc (Nat.le_refl _) _
      have hA1 : Blk (wa.alloc (.cells #[.int .u8 k1, .int .i16 y1, .int .i16 n1] 52)) wa.heap.size 52 #[.int .u8 k1, .int .i16 y1, .int .i16 n1] := Blk.new wa _ _
      obtain ⟨W1, hW1⟩ : ∃ u, wa.alloc (.cells #[.int .u8 k1, .int .i16 y1, .int .i16 n1] 52) = u := ⟨_, rfl⟩
      rw [hW1] at hB1 hA1 ⊢
      have hN1 := HN.out.keep hB1
      have HO1 : Hid (W1.ownsRow bb 2 1 (.slice L ls.length lc) ls.length (ls.flatMap icells)) := own_keep' HO.out hB1
      have HB1 : Hid (Below w.heap.size w W1) := HB.out.trans (hB1.mono HB.out.size)
      have HZ1 : Hid (bb ≤ W1.heap.size) := Nat.le_trans HZ.out hB1.size
      have HA1 := Lib.hid hA1
      have hBst := bestLaneK_any r HK4.out ((k1, y1), n1) HWx.out Am cm ad W1 (by have := HK1.out; have := HX8.out; omega) HK3.out (hN1.rdK wcells_length) (HE.out.below HB1.out (Nat.le_refl _))
      obtain ⟨T, hT⟩ : ∃ T, bst r n1 r.length = T := ⟨_, rfl⟩
      have eT : bstO r n1 = T.map (·.1) := by rw [bstO, hT]
      rw [show (((k1, y1), n1) : Wnt).2 = n1 from rfl, eT, HK1.out] at hBst
      have HBst := Lib.hid hBst
      have HT := Lib.hid hT
      have HN1 := Lib.hid hN1
      have b0 : W1.cell? ⟨wa.heap.size, 0, none⟩ = some (.int .u8 k1) := hA1.cell 0
      have b1 : W1.cell? ⟨wa.heap.size, 1, none⟩ = some (.int .i16 y1) := hA1.cell 1
      have b2' : W1.cell? ⟨wa.heap.size, 2, none⟩ = some (.int .i16 n1) := hA1.cell 2
      clear hBst hT eT hN1 hB1 hA1 hW1 f0 f1 f2 HN HO HB HZ
      go_wp2_with fail
      refine HBst.out.mono ?_
      rintro e w5 ⟨k2, y2, d2, l2, i2, a2, n2, c2, rfl, hl2, hb⟩
      have HN5 : Hid (OwnN w5 bb 43 52 3 wcells Am cm hs r) := HN1.out.keep hb
      have HO5 : Hid (w5.ownsRow bb 2 1 (.slice L ls.length lc) ls.length (ls.flatMap icells)) := own_keep' HO1.out hb
      have HB5 : Hid (Below w.heap.size w w5) := HB1.out.trans (hb.mono HB1.out.size)
      have HZ5 : Hid (bb ≤ w5.heap.size) := Nat.le_trans HZ1.out hb.size
      have HA5 : Hid (Blk w5 wa.heap.size 52 #[.int .u8 k1, .int .i16 y1, .int .i16 n1]) := HA1.out.keep hb
      have HL2 := Lib.hid hl2
      clear hb HN1 HO1 HB1 HZ1 HBst HA1 b0 b1 b2' hl2
      obtain ⟨v, hv⟩ : ∃ v, olEN ad (T.map (·.1)) = v := ⟨_, rfl⟩
      rw [hv]
      have HVv := Lib.hid hv
      clear hv
      go_upto_region 10 with fail
      rw [← HVv.out]
      clear HVv
      have hB6 : Below w5.heap.size w5 (w5.alloc (.cells #[.int .u8 k2, .int .i16 y2, .int .i64 d2, .int .i64 l2, .int .i64 i2, .slice a2 n2 c2] 68)) := (Below.refl _ w5).alloc (Nat.le_refl _) _
      have hA6 : Blk (w5.alloc (.cells #[.int .u8 k2, .int .i16 y2, .int .i64 d2, .int .i64 l2, .int .i64 i2, .slice a2 n2 c2] 68)) w5.heap.size 68 #[.int .u8 k2, .int .i16 y2, .int .i64 d2, .int .i64 l2, .int .i64 i2, .slice a2 n2 c2] := Blk.new w5 _ _
      obtain ⟨w6, hw6⟩ : ∃ u, w5.alloc (.cells #[.int .u8 k2, .int .i16 y2, .int .i64 d2, .int .i64 l2, .int .i64 i2, .slice a2 n2 c2] 68) = u := ⟨_, rfl⟩
      rw [hw6] at hB6 hA6 ⊢
      have HQ6 : Hid (SepL Am hs (some ⟨w5.heap.size, 0, none⟩)) := SepL.new HN5.out rfl
      have HN6 : Hid (OwnN w6 bb 43 52 3 wcells Am cm hs r) := HN5.out.keep hB6
      have HO6 : Hid (w6.ownsRow bb 2 1 (.slice L ls.length lc) ls.length (ls.flatMap icells)) := own_keep' HO5.out hB6
      have HB6 : Hid (Below w.heap.size w w6) := HB5.out.trans (hB6.mono HB5.out.size)
      have HZ6 : Hid (bb ≤ w6.heap.size) := Nat.le_trans HZ5.out hB6.size
      have HA6 := Lib.hid hA6
      have a0 : w6.cell? ⟨wa.heap.size, 0, none⟩ = some (.int .u8 k1) := (HA5.out.keep hB6).cell 0
      have a1 : w6.cell? ⟨wa.heap.size, 1, none⟩ = some (.int .i16 y1) := (HA5.out.keep hB6).cell 1
      have a2' : w6.cell? ⟨wa.heap.size, 2, none⟩ = some (.int .i16 n1) := (HA5.out.keep hB6).cell 2
      have a3 : w6.cell? ⟨w5.heap.size, 3, none⟩ = some (.int .i64 l2) := hA6.cell 3
      clear hB6 hA6 hw6 HN5 HO5 HB5 HZ5 HA5
      cases T with
      | none =>
        have hst := saS_stop HYj.out HS.out HT.out
        have E1 := Lib.hid (sa_six HOK.out hst).1
        have E2 := Lib.hid (sa_six HOK.out hst).2.1
        have E3 := Lib.hid (sa_six HOK.out hst).2.2
        clear hst
        rw [show olEN ad (Option.map (·.1) (none : Option (Nat × Nat × Nat))) = .iface 139 (.pointer (some (ad 4))) from rfl]
        go_wp2_with fail
        refine (codeOf_4 (EW.less (HE.out.below HB6.out (Nat.le_refl _)) (by omega))).mono ?_
        rintro e w7 ⟨rfl, rfl⟩
        go_wp2
        go_ret3
        exact ⟨none, 0, [], none, 0, by (rw [E3.out, E1.out, E2.out]; first | done | rfl), by rw [E1.out]; exact OwnN.nil _ _ _ _ _ _, by rw [E2.out]; exact ⟨rfl, .inl ⟨rfl, rfl⟩⟩, SepL.none _ _, HB6.out⟩
      | some t =>
        obtain ⟨k, o, n⟩ := t
        obtain ⟨xs, hxk, hx6⟩ := bst_at HK3.out HT.out
        have hst := saS_step HYj.out HS.out HT.out hxk
        have HSt := Lib.hid hst
        rw [show olEN ad (Option.map (·.1) (some (k, o, n))) = .nilIface from rfl]
        obtain rfl : l2 = k := HL2.out
        have hput := putX_any r hs bb Am cm l2 ((k1, y1), n1) xs w6 HN6.out HZ6.out hxk (by have := HK1.out; omega) (by omega)
        rw [HK1.out] at hput
        have HPut := Lib.hid hput
        clear hput hst hxk hx6
        go_wp2_with fail
        refine HPut.out.mono ?_
        rintro e w7 ⟨hs7, rfl, hn7, hb7, hp7⟩
        obtain ⟨hsp, hol⟩ := sep_put HP.out hp7 HO6.out
        have hA7 : Blk w7 w5.heap.size 68 #[.int .u8 k2, .int .i16 y2, .int .i64 d2, .int .i64 l2, .int .i64 i2, .slice a2 n2 c2] := (hp7 w5.heap.size HA6.out.lt (HQ6.out _ rfl).1 (HQ6.out _ rfl).2).1.trans HA6.out
        have hb7' : Below w.heap.size w w7 := HB6.out.trans (hb7.mono HSy.out)
        have hz7 : bb ≤ w7.heap.size := Nat.le_trans HZ6.out hb7.size
        have HN7 := Lib.hid hn7
        have HSp := Lib.hid hsp
        have HOl := Lib.hid hol
        have HB7 := Lib.hid hb7'
        have HZ7 := Lib.hid hz7
        have a4 : w7.cell? ⟨w5.heap.size, 3, none⟩ = some (.int .i64 l2) := hA7.cell 3
        clear hsp hol hb7 hb7' hn7 hz7 hp7 HN6 HB6 HZ6 HPut a0 a1 a2' a3 hA7 HO6
        go_wp2_with (at_builtin; refine wpList_append_own_at _ rfl (.tmp 47) (.tmp 50) 40 rfl bb 2 j0 (.int .i64 0) 1 8 Tryd.underlying40 HJ.out HY0.out HY1.out HY2.out rfl (by decide) _ _ _ rfl (HOl.out.alloc _) ⟨w7.heap.size, 0, none⟩ 1 1 [.int .i64 l2] rfl rfl ?f1 ?f2 ?f3 ?f4 ?f5 ?_)
        case f1 => exact cell1A w7 _ _
        case f2 => simp [Value.oneCell']
        case f3 => unfold maxLen; omega
        case f4 => omega
        case f5 => have := HZ7.out; simp; omega
        intro v8 w8 hown8 hg8 _ hblk8
        rw [ownBlock_slice] at hg8 hblk8
        have hown9 : w8.ownsRow bb 2 1 v8 (ls ++ [(l2 : Int)]).length ((ls ++ [(l2 : Int)]).flatMap icells) := by rw [List.length_append, List.flatMap_append]; exact hown8
        obtain ⟨A8, c8, rfl, -, -⟩ := own_rd icells_length hown9
        rw [ownBlock_slice] at hblk8
        have hAC : Below w7.heap.size w7 (w7.alloc (.cells #[.int .i64 l2] 2)) := (Below.refl _ _).alloc (Nat.le_refl _) _
        obtain ⟨g1, g2⟩ := sep_grow (HN7.out.keep hAC) hg8 HSp.out (by rw [show (w7.alloc (.cells #[.int .i64 l2] 2)).heap.size = w7.heap.size + 1 from by simp]; exact hblk8)
        have HB9 : Hid (Below w.heap.size w w8) := (HB7.out.alloc HB7.out.size _).grown hg8 (HB7.out.alloc HB7.out.size _).size (fun q e => by have := gk_ge HOl.out q e; have := HSy.out; omega)
        have HZ9 : Hid (bb ≤ w8.heap.size) := by have := HZ7.out; have := hg8.size; have h2 := hAC.size; show _ ≤ _; omega
        have HG1 := Lib.hid g1
        have HG2 := Lib.hid g2
        have HO9 := Lib.hid hown9
        clear hown8 hown9 hg8 hblk8 g1 g2 hAC
        obtain ⟨l3, hl3⟩ : ∃ l3, ls ++ [(l2 : Int)] = l3 := ⟨_, rfl⟩
        have hs2 := HSt.out
        rw [hl3] at HO9 hs2 ⊢
        have HS2 := Lib.hid hs2
        clear hl3 hs2
        go_wp2
        go_roundw
        case rel => exact ⟨j + 1, _, l3, _, A8, c8, by omega, by go_num, rfl, HS2.out, HG1.out, HO9.out, HG2.out, HZ9.out, HB9.out⟩
        case measure => simp [intOf]; omega
    · obtain rfl : j = ys.length := by omega
      have E1 := Lib.hid (sa_yes HOK.out HS.out).1
      have E2 := Lib.hid (sa_yes HOK.out HS.out).2.1
      have E3 := Lib.hid (sa_yes HOK.out HS.out).2.2
      have HRn : Hid (xss.length = r.length) := HK1.out.symm
      go_wp2
      go_ret3
      exact ⟨Am, cm, hs, L, lc, by (rw [E3.out, E1.out, E2.out, HRn.out]; first | done | rfl), by rw [E1.out]; exact HN.out.base HSy.out, by rw [E2.out]; exact own_base HO.out HSy.out, HP.out, HB.out⟩

end Go.Proofs.YtdgcgkeclcpafaaDoor
