/-
  put of the program's rack with its footprint: what lies apart from the rack stays apart, and stays. Condition: as put_any.
-/
import Derived.Test.YtmfdgpinohbckaaDoorMg14
import Derived.Test.YtmfdgpinohbckaaDoorCy
import Derived.Test.YtmfdgpinohbckaaDoorMg5
namespace Go.Proofs.YtmfdgpinohbckaaDoor
open Go.ChangeShapes Go.WideShapes Go.ChangeAt Go.RowKit Go.Deep

/-- A block that lies apart from the rack stays, and stays apart. -/
def PutO (A : Option Addr) (hs hs' : List Hd) (w w' : World) : Prop := ∀ q, q < w.heap.size → A.map (·.block) ≠ some q → (∀ (i : Nat) (h : Hd), hs[i]? = some h → h.1.map (·.block) ≠ some q) → w'.heap[q]? = w.heap[q]? ∧ ∀ (i : Nat) (h : Hd), hs'[i]? = some h → h.1.map (·.block) ≠ some q
theorem putO_of {A : Option Addr} {hs : List Hd} {k : Nat} {a A' : Option Addr} {m c0 n c' : Nat} {w w2 w5 : World} (hk : hs[k]? = some (a, m, c0)) (h2 : Below w.heap.size w w2) (hg : w2.grownBy w5 (a.map (·.block))) (hblk : A'.map (·.block) = a.map (·.block) ∨ A'.map (·.block) = some w2.heap.size) : PutO A hs (hs.set k (A', n, c')) w w5 := fun q hq hA hh =>
  ⟨(hg.block q (Nat.lt_of_lt_of_le hq h2.size) (fun e => hh k _ hk e.symm)).trans (h2.block q hq), fun i h hi e => by
    have hkl := (List.getElem?_eq_some_iff.1 hk).1
    by_cases ei : i = k
    · subst ei
      rw [List.getElem?_set_self hkl] at hi
      obtain rfl := Option.some.inj hi
      rcases hblk with e2 | e2
      · exact hh _ _ hk (e2.symm.trans e)
      · have e3 := Option.some.inj (e2.symm.trans e)
        have := h2.size; omega
    · rw [List.getElem?_set_ne (fun h => ei h.symm)] at hi
      exact hh i h hi e⟩
theorem PutO.set_ {g0 : Nat} {hs hs' : List Hd} {w w5 : World} (h : PutO (some ⟨g0, 0, none⟩) hs hs' w w5) (hz : w.heap.size ≤ w5.heap.size) (k : Nat) (v : Value) : PutO (some ⟨g0, 0, none⟩) hs hs' w (w5.setCell ⟨g0, k, none⟩ v) := fun q hq hA hh => by
  obtain ⟨h1, h2⟩ := h q hq hA hh
  exact ⟨((gk_set (gk_refl w5 (some g0)) v).block q (Nat.lt_of_lt_of_le hq hz) (fun e => hA e.symm)).trans h1, h2⟩
/-- A list lies apart from a rack. -/
def SepL (A : Option Addr) (hs : List Hd) (L : Option Addr) : Prop := ∀ q, L.map (·.block) = some q → A.map (·.block) ≠ some q ∧ ∀ (i : Nat) (h : Hd), hs[i]? = some h → h.1.map (·.block) ≠ some q
theorem SepL.none (A : Option Addr) (hs : List Hd) : SepL A hs none := fun q e => by cases e
theorem own_same {w w' : World} {b size n : Nat} {e : TypeId} {v : Value} {xs : List Value} (h : w.ownsRow b e size v n xs) (hs : ∀ k, v.ownBlock = some k → w'.heap[k]? = w.heap[k]?) : w'.ownsRow b e size v n xs := by
  rcases h with ⟨h0, h1 | ⟨g, cap, cur, hv, hb, hg, hr⟩⟩
  · exact ⟨h0, .inl h1⟩
  · exact ⟨h0, .inr ⟨g, cap, cur, hv, hb, (hs g (by subst hv; rfl)).trans hg, hr⟩⟩
theorem sep_put {A L : Option Addr} {hs hs' : List Hd} {w w' : World} {b n c size : Nat} {e : TypeId} {xs : List Value} (hS : SepL A hs L) (hP : PutO A hs hs' w w') (hL : w.ownsRow b e size (.slice L n c) n xs) : SepL A hs' L ∧ w'.ownsRow b e size (.slice L n c) n xs := by
  have lt : ∀ q, L.map (·.block) = some q → q < w.heap.size := fun q e => (own_block hL (by rw [ownBlock_slice]; exact e)).2
  refine ⟨fun q e => ⟨(hS q e).1, (hP q (lt q e) (hS q e).1 (hS q e).2).2⟩, own_same hL (fun q e => ?_)⟩
  rw [ownBlock_slice] at e
  exact (hP q (lt q e) (hS q e).1 (hS q e).2).1
theorem sep_lt {T : Type} {w : World} {b : Nat} {te t : TypeId} {size : Nat} {cells : T → List Value} {A : Option Addr} {c : Nat} {hs : List Hd} {xss : List (List T)} (h : OwnN w b te t size cells A c hs xss) : (∀ q, A.map (·.block) = some q → q < w.heap.size) ∧ ∀ (i : Nat) (h : Hd), hs[i]? = some h → ∀ q, h.1.map (·.block) = some q → q < w.heap.size := by
  refine ⟨fun q e => (own_block h.1 (by rw [ownBlock_slice]; exact e)).2, fun i hd hi q e => ?_⟩
  have hil := (List.getElem?_eq_some_iff.1 hi).1
  obtain ⟨-, ho⟩ := h.2.2.1 i hd _ hi (List.getElem?_eq_getElem (by rw [← h.2.1]; exact hil))
  exact (own_block ho (by rw [ownBlock_slice]; exact e)).2
theorem SepL.new {T : Type} {w : World} {b : Nat} {te t : TypeId} {size : Nat} {cells : T → List Value} {A : Option Addr} {c : Nat} {hs : List Hd} {xss : List (List T)} (h : OwnN w b te t size cells A c hs xss) {L : Option Addr} (hL : L.map (·.block) = some w.heap.size) : SepL A hs L := fun q e => by
  obtain ⟨h1, h2⟩ := sep_lt h
  have e3 := Option.some.inj (hL.symm.trans e)
  exact ⟨fun e2 => by have := h1 q e2; omega, fun i hd hi e2 => by have := h2 i hd hi q e2; omega⟩
theorem sep_grow {T : Type} {w w' : World} {b : Nat} {te t : TypeId} {size : Nat} {cells : T → List Value} {A L L' : Option Addr} {c : Nat} {hs : List Hd} {xss : List (List T)} (h : OwnN w b te t size cells A c hs xss) (hg : w.grownBy w' (L.map (·.block))) (hS : SepL A hs L) (hL : L'.map (·.block) = L.map (·.block) ∨ L'.map (·.block) = some w.heap.size) : OwnN w' b te t size cells A c hs xss ∧ SepL A hs L' := by
  refine ⟨⟨own_same h.1 (fun q e => ?_), h.2.1, fun i hd xs hi hx => ⟨(h.2.2.1 i hd xs hi hx).1, own_same (h.2.2.1 i hd xs hi hx).2 (fun q e => ?_)⟩, h.2.2.2.1, h.2.2.2.2⟩, ?_⟩
  · rw [ownBlock_slice] at e
    exact hg.block q ((sep_lt h).1 q e) (fun e2 => (hS q e2.symm).1 e)
  · rw [ownBlock_slice] at e
    exact hg.block q ((sep_lt h).2 i hd hi q e) (fun e2 => (hS q e2.symm).2 i hd hi e)
  · rcases hL with e | e
    · exact fun q e2 => hS q (e.symm.trans e2)
    · exact SepL.new h e

set_option maxRecDepth 100000 in
set_option maxHeartbeats 4000000 in
theorem putX_any (xss : List (List Wnt)) (hs : List Hd) (b : Nat) (A : Option Addr) (c : Nat) (k : Nat) (x : Wnt) (xs : List Wnt) (w : World) (hN : OwnN w b 44 30 3 wcells A c hs xss) (hbw : b ≤ w.heap.size) (hx : xss[k]? = some xs) (hl : xss.length ≤ 1048576) (hxl : xs.length ≤ 1048576) :
    Calls Tryd.prog 72 #[.slice A xss.length c, .int .i64 (k : Int), .agg (wcells x).toArray] w fun e w' => ∃ hs', e = .returned (.tuple #[]) ∧ OwnN w' b 44 30 3 wcells A c hs' (xss.set k (xs ++ [x])) ∧ Below b w w' ∧ PutO A hs hs' w w' := by
  obtain ⟨⟨k1, y1⟩, n1⟩ := x
  have hkx := (List.getElem?_eq_some_iff.1 hx).1
  have hlen : hs.length = xss.length := hN.2.1
  obtain ⟨⟨a, m, c0⟩, hk⟩ : ∃ h, hs[k]? = some h := ⟨_, List.getElem?_eq_getElem (by omega)⟩
  obtain ⟨em, how⟩ := hN.2.2.1 k _ xs hk hx
  dsimp only at em how
  subst em
  obtain ⟨b0, o0, e0, hb0, hrow⟩ := (own_rd2 hcells_length hN.1).at_ hcells_length hk
  obtain ⟨g0, rfl⟩ : ∃ g, A = some ⟨g, 0, none⟩ := by
    rcases hN.1.2 with ⟨e, -⟩ | ⟨g, cap, cur, hv, -⟩
    · subst e0; cases e
    · exact ⟨g, (by simpa using hv : A = some ⟨g, 0, none⟩ ∧ c = cap).1⟩
  obtain ⟨rfl, rfl⟩ : g0 = b0 ∧ 0 = o0 := by simpa using e0
  have hc := rowH hrow
  rw [Nat.zero_add] at hc
  dsimp only at hc
  obtain ⟨i0, hi, hz0, hz1, hz2⟩ := info_parts Tryd.infoTI
  have HI := Lib.hid hi
  have HZ0 := Lib.hid hz0
  have HZ1 := Lib.hid hz1
  have HZ2 := Lib.hid hz2
  clear hi hz0 hz1 hz2
  have hk0 : (0 : Int) ≤ (k : Int) := Int.natCast_nonneg _
  have hk8 : (k : Int) < hs.length := by omega
  rw [← hlen]
  show Calls Tryd.prog 72 #[.slice (some ⟨g0, 0, none⟩) hs.length c, .int .i64 (k : Int), .agg #[.int .u8 k1, .int .i16 y1, .int .i16 n1]] w _
  have HN := Lib.hid hN
  have HK := Lib.hid hk
  have HX := Lib.hid hx
  have h1 := Blk.new w 30 #[.int .u8 k1, .int .i16 y1, .int .i16 n1]
  have h2 : Below w.heap.size w (w.alloc (.cells #[.int .u8 k1, .int .i16 y1, .int .i16 n1] 30)) := (Below.refl _ w).alloc (Nat.le_refl _) _
  have h3 : (w.alloc (.cells #[.int .u8 k1, .int .i16 y1, .int .i16 n1] 30)).ownsRow b 30 3 (.slice a xs.length c0) xs.length (xs.flatMap wcells) := how.alloc _
  have h4 : Below b w (w.alloc (.cells #[.int .u8 k1, .int .i16 y1, .int .i16 n1] 30)) := (Below.refl _ w).alloc hbw _
  have h5 : b ≤ (w.alloc (.cells #[.int .u8 k1, .int .i16 y1, .int .i16 n1] 30)).heap.size := by simp; omega
  have hc1 : w.cell? ⟨g0, k, none⟩ = some (.slice a xs.length c0) := hc
  go_enter Tryd.func72, Tryd.ntmps72
  obtain ⟨W0, hW0⟩ : ∃ W0, w.alloc (.cells #[.int .u8 k1, .int .i16 y1, .int .i16 n1] 30) = W0 := ⟨_, rfl⟩
  rw [hW0] at h1 h2 h3 h4 h5
  go_wp2_with fail
  have hcW : W0.cell? ⟨g0, k, none⟩ = some (.slice a xs.length c0) := (h2.cell (p := ⟨g0, k, none⟩) hb0).trans hc
  have hcW2 : (W0.alloc (.cells #[.int .u8 k1, .int .i16 y1, .int .i16 n1] 30)).cell? ⟨g0, k, none⟩ = some (.slice a xs.length c0) := (((Below.refl W0.heap.size W0).alloc (Nat.le_refl _) _).cell (p := ⟨g0, k, none⟩) (by have := h2.size; show g0 < _; omega)).trans hcW
  have d0 : W0.cell? ⟨w.heap.size, 0, none⟩ = some (.int .u8 k1) := h1.cell 0
  have d1 : W0.cell? ⟨w.heap.size, 1, none⟩ = some (.int .i16 y1) := h1.cell 1
  have d2 : W0.cell? ⟨w.heap.size, 2, none⟩ = some (.int .i16 n1) := h1.cell 2
  have HBW : Hid (Below w.heap.size w (W0.alloc (.cells #[.int .u8 k1, .int .i16 y1, .int .i16 n1] 30)).drew) := (h2.alloc h2.size _).drew
  have HOW : Hid (W0.ownsRow b 30 3 (.slice a xs.length c0) xs.length (xs.flatMap wcells)) := h3
  have HBb := Lib.hid h4
  have HSz := Lib.hid h5
  clear hW0 h1 h2 h3 h4 h5 hN hk hx how hrow hc e0
  refine wp_region_any (by kernel_rfl) ?_
  try (change wpAny _ _ _ _ _ _ _ (World.drew _))
  refine wpAny_take (i := 0) (v := .slice (some ⟨g0, 0, none⟩) hs.length c) rfl (by kernel_rfl) (by kernel_rfl) (by kernel_rfl) (fun _ _ _ h => h) (Or.inl ⟨by rfl, fun w' => by go_simp⟩) ?_
  try simp only [Act.put, List.getElem_toArray, List.getElem_cons_zero, List.getElem_cons_succ, List.setIfInBounds_toArray, List.set_cons_zero, List.set_cons_succ]
  refine wpAny_take (i := 1) (v := .int .i64 k) rfl (by kernel_rfl) (by kernel_rfl) (by kernel_rfl) (fun _ _ _ h => h) (Or.inl ⟨by rfl, fun w' => by go_simp⟩) ?_
  try simp only [Act.put, List.getElem_toArray, List.getElem_cons_zero, List.getElem_cons_succ, List.setIfInBounds_toArray, List.set_cons_zero, List.set_cons_succ]
  refine wpAny_take (i := 2) (v := .slice (some ⟨g0, 0, none⟩) hs.length c) rfl (by kernel_rfl) (by kernel_rfl) (by kernel_rfl) (fun _ _ _ h => h) (Or.inl ⟨by rfl, fun w' => by go_simp⟩) ?_
  try simp only [Act.put, List.getElem_toArray, List.getElem_cons_zero, List.getElem_cons_succ, List.setIfInBounds_toArray, List.set_cons_zero, List.set_cons_succ]
  refine wpAny_take (i := 3) (v := .int .i64 k) rfl (by kernel_rfl) (by kernel_rfl) (by kernel_rfl) (fun _ _ _ h => h) (Or.inl ⟨by rfl, fun w' => by go_simp⟩) ?_
  try simp only [Act.put, List.getElem_toArray, List.getElem_cons_zero, List.getElem_cons_succ, List.setIfInBounds_toArray, List.set_cons_zero, List.set_cons_succ]
  refine wpAny_take (i := 4) (v := .pointer (some ⟨g0, k, none⟩)) rfl (by kernel_rfl) (by kernel_rfl) (by kernel_rfl) (fun _ _ _ h => h) (Or.inl ⟨by rfl, fun w' => by go_simp⟩) ?_
  try simp only [Act.put, List.getElem_toArray, List.getElem_cons_zero, List.getElem_cons_succ, List.setIfInBounds_toArray, List.set_cons_zero, List.set_cons_succ]
  refine wpAny_ready (rs := [5, 6]) (by kernel_rfl) (by simp) ?_
  refine AllReady.cons rfl (fun K hK => ?_) (AllReady.cons rfl (fun K hK => ?_) AllReady.nil)
  · skip
    refine if_wanted rfl ?_
    go_simp
    refine hK _ _ ?_
    clear hK K
    try simp only [Act.put, List.getElem_toArray, List.getElem_cons_zero, List.getElem_cons_succ, List.setIfInBounds_toArray, List.set_cons_zero, List.set_cons_succ]
    refine wpAny_ready (rs := [6]) (by kernel_rfl) (by simp) ?_
    refine AllReady.cons rfl (fun K hK => ?_) AllReady.nil
    refine if_wanted rfl ?_
    go_simp
    refine hK _ _ ?_
    clear hK K
    try simp only [Act.put, List.getElem_toArray, List.getElem_cons_zero, List.getElem_cons_succ, List.setIfInBounds_toArray, List.set_cons_zero, List.set_cons_succ]
    refine wpAny_ready (rs := [7]) (by kernel_rfl) (by simp) ?_
    refine AllReady.cons rfl (fun K hK => ?_) AllReady.nil
    refine if_wanted rfl ?_
    go_simp
    refine hK _ _ ?_
    clear hK K
    try simp only [Act.put, List.getElem_toArray, List.getElem_cons_zero, List.getElem_cons_succ, List.setIfInBounds_toArray, List.set_cons_zero, List.set_cons_succ]
    refine wpAny_ready (rs := [8]) (by kernel_rfl) (by simp) ?_
    refine AllReady.cons rfl (fun K hK => ?_) AllReady.nil
    refine if_wanted rfl ?_
    refine wp_append_any _ (.tmp 11) (.tmp 13) 44 44 rfl b 30 i0 (.agg #[.int .u8 0, .int .i16 0, .int .i16 0]) 3 6 Tryd.underlying44 HI.out HZ0.out HZ1.out HZ2.out rfl (by decide) (.slice a xs.length c0) xs.length (xs.flatMap wcells) rfl ((HOW.out.alloc _).drew) _ 1 [.int .u8 k1, .int .i16 y1, .int .i16 n1] rfl (Src.ofSlice _ Tryd.underlying44 ⟨W0.heap.size, 0, none⟩ 1 1 _ rfl (three_cells W0 _ k1 y1 n1) (by intro u hu; simp only [List.mem_cons, List.not_mem_nil, or_false] at hu; rcases hu with rfl | rfl | rfl <;> rfl)) (by unfold maxLen; omega) (by omega) (by have := HSz.out; simp; omega) ?_
    intro v' w5 hown5 hg5 hblk5
    rw [ownBlock_slice] at hg5 hblk5
    have hown6 : w5.ownsRow b 30 3 v' (xs ++ [((k1, y1), n1)]).length ((xs ++ [((k1, y1), n1)]).flatMap wcells) := by rw [List.length_append, List.flatMap_append]; simpa [wcells] using hown5
    obtain ⟨A5, c5, rfl, -, -⟩ := own_rd wcells_length hown6
    rw [ownBlock_slice] at hblk5
    have hN5 := OwnN.put HN.out HK.out HX.out HBW.out hown6 hg5 hblk5
    rw [show (xs ++ [((k1, y1), n1)]).length = xs.length + 1 from by simp] at hN5
    have HN5 := Lib.hid hN5
    have e5 : w5.cell? ⟨g0, k, none⟩ = some (.slice a xs.length c0) := put_cell HN.out HK.out HBW.out hg5 hc1
    have f5 : w5.frozen? ⟨g0, k, none⟩ = false := put_frozen HN.out HK.out HBW.out hg5
    have HB5 : Hid (Below b w w5) := put_below HBb.out HOW.out hg5 (by have := HSz.out; omega)
    have HX5 : Hid (PutO (some ⟨g0, 0, none⟩) hs (hs.set k (A5, xs.length + 1, c5)) w w5) := putO_of HK.out HBW.out hg5 hblk5
    clear hown5 hown6 hg5 hblk5 hN5
    refine hK _ _ ?_
    clear hK K
    try simp only [Act.put, List.getElem_toArray, List.getElem_cons_zero, List.getElem_cons_succ, List.setIfInBounds_toArray, List.set_cons_zero, List.set_cons_succ]
    refine wpAny_take (i := 9) (v := .pointer (some ⟨g0, k, none⟩)) rfl (by kernel_rfl) (by kernel_rfl) (by kernel_rfl) (fun _ _ _ h => h) (Or.inl ⟨by rfl, fun w' => by go_simp⟩) ?_
    try simp only [Act.put, List.getElem_toArray, List.getElem_cons_zero, List.getElem_cons_succ, List.setIfInBounds_toArray, List.set_cons_zero, List.set_cons_succ]
    refine wpAny_ready (rs := [10]) (by kernel_rfl) (by simp) ?_
    refine AllReady.cons rfl (fun K hK => ?_) AllReady.nil
    refine if_wanted rfl ?_
    go_simp
    refine hK _ _ ?_
    clear hK K
    try simp only [Act.put, List.getElem_toArray, List.getElem_cons_zero, List.getElem_cons_succ, List.setIfInBounds_toArray, List.set_cons_zero, List.set_cons_succ]
    refine wpAny_done (by kernel_rfl) ?_ _
    try simp only [Act.put, List.getElem_toArray, List.getElem_cons_zero, List.getElem_cons_succ, List.setIfInBounds_toArray, List.set_cons_zero, List.set_cons_succ]
    go_wp2
    first | go_end0 | (refine bodyPost_ret (results_none rfl _ _ _) rfl ?_)
    exact ⟨_, rfl, HN5.out, HB5.out.setCell (p := ⟨g0, k, none⟩) (by have := own_block HN.out.1 rfl; exact this.1) _, HX5.out.set_ HB5.out.size _ _⟩
  · skip
    refine if_wanted rfl ?_
    go_simp
    refine hK _ _ ?_
    clear hK K
    try simp only [Act.put, List.getElem_toArray, List.getElem_cons_zero, List.getElem_cons_succ, List.setIfInBounds_toArray, List.set_cons_zero, List.set_cons_succ]
    refine wpAny_ready (rs := [5, 7]) (by kernel_rfl) (by simp) ?_
    refine AllReady.cons rfl (fun K hK => ?_) (AllReady.cons rfl (fun K hK => ?_) AllReady.nil)
    · skip
      refine if_wanted rfl ?_
      go_simp
      refine hK _ _ ?_
      clear hK K
      try simp only [Act.put, List.getElem_toArray, List.getElem_cons_zero, List.getElem_cons_succ, List.setIfInBounds_toArray, List.set_cons_zero, List.set_cons_succ]
      refine wpAny_ready (rs := [7]) (by kernel_rfl) (by simp) ?_
      refine AllReady.cons rfl (fun K hK => ?_) AllReady.nil
      refine if_wanted rfl ?_
      go_simp
      refine hK _ _ ?_
      clear hK K
      try simp only [Act.put, List.getElem_toArray, List.getElem_cons_zero, List.getElem_cons_succ, List.setIfInBounds_toArray, List.set_cons_zero, List.set_cons_succ]
      refine wpAny_ready (rs := [8]) (by kernel_rfl) (by simp) ?_
      refine AllReady.cons rfl (fun K hK => ?_) AllReady.nil
      refine if_wanted rfl ?_
      refine wp_append_any _ (.tmp 11) (.tmp 13) 44 44 rfl b 30 i0 (.agg #[.int .u8 0, .int .i16 0, .int .i16 0]) 3 6 Tryd.underlying44 HI.out HZ0.out HZ1.out HZ2.out rfl (by decide) (.slice a xs.length c0) xs.length (xs.flatMap wcells) rfl ((HOW.out.alloc _).drew) _ 1 [.int .u8 k1, .int .i16 y1, .int .i16 n1] rfl (Src.ofSlice _ Tryd.underlying44 ⟨W0.heap.size, 0, none⟩ 1 1 _ rfl (three_cells W0 _ k1 y1 n1) (by intro u hu; simp only [List.mem_cons, List.not_mem_nil, or_false] at hu; rcases hu with rfl | rfl | rfl <;> rfl)) (by unfold maxLen; omega) (by omega) (by have := HSz.out; simp; omega) ?_
      intro v' w5 hown5 hg5 hblk5
      rw [ownBlock_slice] at hg5 hblk5
      have hown6 : w5.ownsRow b 30 3 v' (xs ++ [((k1, y1), n1)]).length ((xs ++ [((k1, y1), n1)]).flatMap wcells) := by rw [List.length_append, List.flatMap_append]; simpa [wcells] using hown5
      obtain ⟨A5, c5, rfl, -, -⟩ := own_rd wcells_length hown6
      rw [ownBlock_slice] at hblk5
      have hN5 := OwnN.put HN.out HK.out HX.out HBW.out hown6 hg5 hblk5
      rw [show (xs ++ [((k1, y1), n1)]).length = xs.length + 1 from by simp] at hN5
      have HN5 := Lib.hid hN5
      have e5 : w5.cell? ⟨g0, k, none⟩ = some (.slice a xs.length c0) := put_cell HN.out HK.out HBW.out hg5 hc1
      have f5 : w5.frozen? ⟨g0, k, none⟩ = false := put_frozen HN.out HK.out HBW.out hg5
      have HB5 : Hid (Below b w w5) := put_below HBb.out HOW.out hg5 (by have := HSz.out; omega)
      have HX5 : Hid (PutO (some ⟨g0, 0, none⟩) hs (hs.set k (A5, xs.length + 1, c5)) w w5) := putO_of HK.out HBW.out hg5 hblk5
      clear hown5 hown6 hg5 hblk5 hN5
      refine hK _ _ ?_
      clear hK K
      try simp only [Act.put, List.getElem_toArray, List.getElem_cons_zero, List.getElem_cons_succ, List.setIfInBounds_toArray, List.set_cons_zero, List.set_cons_succ]
      refine wpAny_take (i := 9) (v := .pointer (some ⟨g0, k, none⟩)) rfl (by kernel_rfl) (by kernel_rfl) (by kernel_rfl) (fun _ _ _ h => h) (Or.inl ⟨by rfl, fun w' => by go_simp⟩) ?_
      try simp only [Act.put, List.getElem_toArray, List.getElem_cons_zero, List.getElem_cons_succ, List.setIfInBounds_toArray, List.set_cons_zero, List.set_cons_succ]
      refine wpAny_ready (rs := [10]) (by kernel_rfl) (by simp) ?_
      refine AllReady.cons rfl (fun K hK => ?_) AllReady.nil
      refine if_wanted rfl ?_
      go_simp
      refine hK _ _ ?_
      clear hK K
      try simp only [Act.put, List.getElem_toArray, List.getElem_cons_zero, List.getElem_cons_succ, List.setIfInBounds_toArray, List.set_cons_zero, List.set_cons_succ]
      refine wpAny_done (by kernel_rfl) ?_ _
      try simp only [Act.put, List.getElem_toArray, List.getElem_cons_zero, List.getElem_cons_succ, List.setIfInBounds_toArray, List.set_cons_zero, List.set_cons_succ]
      go_wp2
      first | go_end0 | (refine bodyPost_ret (results_none rfl _ _ _) rfl ?_)
      exact ⟨_, rfl, HN5.out, HB5.out.setCell (p := ⟨g0, k, none⟩) (by have := own_block HN.out.1 rfl; exact this.1) _, HX5.out.set_ HB5.out.size _ _⟩
    · skip
      refine if_wanted rfl ?_
      go_simp
      refine hK _ _ ?_
      clear hK K
      try simp only [Act.put, List.getElem_toArray, List.getElem_cons_zero, List.getElem_cons_succ, List.setIfInBounds_toArray, List.set_cons_zero, List.set_cons_succ]
      refine wpAny_ready (rs := [5]) (by kernel_rfl) (by simp) ?_
      refine AllReady.cons rfl (fun K hK => ?_) AllReady.nil
      refine if_wanted rfl ?_
      go_simp
      refine hK _ _ ?_
      clear hK K
      try simp only [Act.put, List.getElem_toArray, List.getElem_cons_zero, List.getElem_cons_succ, List.setIfInBounds_toArray, List.set_cons_zero, List.set_cons_succ]
      refine wpAny_ready (rs := [8]) (by kernel_rfl) (by simp) ?_
      refine AllReady.cons rfl (fun K hK => ?_) AllReady.nil
      refine if_wanted rfl ?_
      refine wp_append_any _ (.tmp 11) (.tmp 13) 44 44 rfl b 30 i0 (.agg #[.int .u8 0, .int .i16 0, .int .i16 0]) 3 6 Tryd.underlying44 HI.out HZ0.out HZ1.out HZ2.out rfl (by decide) (.slice a xs.length c0) xs.length (xs.flatMap wcells) rfl ((HOW.out.alloc _).drew) _ 1 [.int .u8 k1, .int .i16 y1, .int .i16 n1] rfl (Src.ofSlice _ Tryd.underlying44 ⟨W0.heap.size, 0, none⟩ 1 1 _ rfl (three_cells W0 _ k1 y1 n1) (by intro u hu; simp only [List.mem_cons, List.not_mem_nil, or_false] at hu; rcases hu with rfl | rfl | rfl <;> rfl)) (by unfold maxLen; omega) (by omega) (by have := HSz.out; simp; omega) ?_
      intro v' w5 hown5 hg5 hblk5
      rw [ownBlock_slice] at hg5 hblk5
      have hown6 : w5.ownsRow b 30 3 v' (xs ++ [((k1, y1), n1)]).length ((xs ++ [((k1, y1), n1)]).flatMap wcells) := by rw [List.length_append, List.flatMap_append]; simpa [wcells] using hown5
      obtain ⟨A5, c5, rfl, -, -⟩ := own_rd wcells_length hown6
      rw [ownBlock_slice] at hblk5
      have hN5 := OwnN.put HN.out HK.out HX.out HBW.out hown6 hg5 hblk5
      rw [show (xs ++ [((k1, y1), n1)]).length = xs.length + 1 from by simp] at hN5
      have HN5 := Lib.hid hN5
      have e5 : w5.cell? ⟨g0, k, none⟩ = some (.slice a xs.length c0) := put_cell HN.out HK.out HBW.out hg5 hc1
      have f5 : w5.frozen? ⟨g0, k, none⟩ = false := put_frozen HN.out HK.out HBW.out hg5
      have HB5 : Hid (Below b w w5) := put_below HBb.out HOW.out hg5 (by have := HSz.out; omega)
      have HX5 : Hid (PutO (some ⟨g0, 0, none⟩) hs (hs.set k (A5, xs.length + 1, c5)) w w5) := putO_of HK.out HBW.out hg5 hblk5
      clear hown5 hown6 hg5 hblk5 hN5
      refine hK _ _ ?_
      clear hK K
      try simp only [Act.put, List.getElem_toArray, List.getElem_cons_zero, List.getElem_cons_succ, List.setIfInBounds_toArray, List.set_cons_zero, List.set_cons_succ]
      refine wpAny_take (i := 9) (v := .pointer (some ⟨g0, k, none⟩)) rfl (by kernel_rfl) (by kernel_rfl) (by kernel_rfl) (fun _ _ _ h => h) (Or.inl ⟨by rfl, fun w' => by go_simp⟩) ?_
      try simp only [Act.put, List.getElem_toArray, List.getElem_cons_zero, List.getElem_cons_succ, List.setIfInBounds_toArray, List.set_cons_zero, List.set_cons_succ]
      refine wpAny_ready (rs := [10]) (by kernel_rfl) (by simp) ?_
      refine AllReady.cons rfl (fun K hK => ?_) AllReady.nil
      refine if_wanted rfl ?_
      go_simp
      refine hK _ _ ?_
      clear hK K
      try simp only [Act.put, List.getElem_toArray, List.getElem_cons_zero, List.getElem_cons_succ, List.setIfInBounds_toArray, List.set_cons_zero, List.set_cons_succ]
      refine wpAny_done (by kernel_rfl) ?_ _
      try simp only [Act.put, List.getElem_toArray, List.getElem_cons_zero, List.getElem_cons_succ, List.setIfInBounds_toArray, List.set_cons_zero, List.set_cons_succ]
      go_wp2
      first | go_end0 | (refine bodyPost_ret (results_none rfl _ _ _) rfl ?_)
      exact ⟨_, rfl, HN5.out, HB5.out.setCell (p := ⟨g0, k, none⟩) (by have := own_block HN.out.1 rfl; exact this.1) _, HX5.out.set_ HB5.out.size _ _⟩


end Go.Proofs.YtmfdgpinohbckaaDoor
