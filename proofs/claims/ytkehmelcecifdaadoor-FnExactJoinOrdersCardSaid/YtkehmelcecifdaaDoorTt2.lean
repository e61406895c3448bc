/-
  SplitOrder: the program's contracts. Condition: the order reads, its numbers fit their kinds, not more than 1048576, nor more than its capacity; the sentinel errors lie as the row lists them.
-/
import Derived.Test.YtkehmelcecifdaaDoorTt1
import Derived.Test.YtkehmelcecifdaaDoorMg6
import Derived.Test.YtkehmelcecifdaaDoorIs0
import Derived.Test.YtkehmelcecifdaaDoorMg5
import Derived.Test.YtkehmelcecifdaaDoorEo
import Derived.ArgAppend
import Derived.Deep.RegionHeld3
namespace Go.Proofs.YtkehmelcecifdaaDoor
open Go.ChangeShapes Go.WideShapes Go.ChangeAt Go.RowKit Go.Deep

theorem own_neT {w : World} {b size n c B : Nat} {t t' : TypeId} {A : Option Addr} {xs : List Value} {cs : Array Value} (h : w.ownsRow b t size (.slice A n c) n xs) (hk : Blk w B t' cs) (ht : t ≠ t') : A.map (·.block) ≠ some B := by
  intro e
  rcases h.2 with ⟨e1, -⟩ | ⟨g, cap, cur, e1, -, hg, -⟩
  · cases e1; cases e
  · cases e1
    obtain rfl : g = B := by simpa using e
    unfold Blk at hk
    rw [hk] at hg
    simp only [Option.some.injEq, Obj.cells.injEq] at hg
    exact ht hg.2.1.symm
def lnT : Value → Nat
  | .slice _ n _ => n
  | _ => 0
def KOt (w0 : Nat) (W : World) (K : Option Addr) (n : Nat) : Prop := 0 < n → ∀ q, K.map (·.block) = some q → q < w0 ∨ ∃ cs, Blk W q 91 cs
theorem KOt.ne {w0 : Nat} {W : World} {K : Option Addr} {n : Nat} (h : KOt w0 W K n) (h0 : 0 < n) {t : TypeId} {size k c : Nat} {L : Option Addr} {xs : List Value} (ho : W.ownsRow w0 t size (.slice L k c) k xs) (ht : t ≠ 91) : ∀ q, K.map (·.block) = some q → L.map (·.block) ≠ some q := fun q e e2 => by
  rcases h h0 q e with h1 | ⟨cs, h1⟩
  · have := (own_block ho (by rw [ownBlock_slice]; exact e2)).1; omega
  · exact own_neT ho h1 ht e2
theorem KOt.keep {w0 : Nat} {W W' : World} {K : Option Addr} {n : Nat} (h : KOt w0 W K n) (hb : Below W.heap.size W W') : KOt w0 W' K n := fun h0 q e => by
  rcases h h0 q e with h1 | ⟨cs, h1⟩
  · exact .inl h1
  · exact .inr ⟨cs, h1.keep hb⟩
theorem KOt.of {w0 b : Nat} {W : World} {K : Option Addr} {n c : Nat} {xs : List Value} (ho : W.ownsRow b 91 3 (.slice K n c) n xs) : KOt w0 W K n := fun h0 q e => by
  rcases ho.2 with ⟨h1, -⟩ | ⟨g, cap, cur, h1, -, h3, -⟩
  · cases h1; cases e
  · cases h1
    obtain rfl : g = q := by simpa using e
    exact .inr ⟨cur, h3⟩
theorem KOt.start {K : Option Addr} {w : World} {W : World} {xs : List Wnt} (hr : Rd w w.heap.size wcells K xs) : KOt w.heap.size W K xs.length := fun h0 q e => by
  obtain ⟨b, o, e3, hlt, -⟩ := hr h0
  rw [e3] at e
  have : b = q := by simpa using e
  exact .inl (by omega)


set_option maxRecDepth 100000 in
set_option maxHeartbeats 2000000 in
theorem cloneW_any (xs : List Wnt) (A : Option Addr) (c : Nat) (w : World) (hl : xs.length ≤ 1048576) (hr : Rd w w.heap.size wcells A xs) :
    Calls Tryd.prog 58 #[.slice A xs.length c] w fun e w' => ∃ A' c', e = .returned (.slice A' xs.length c') ∧ w'.ownsRow w.heap.size 91 3 (.slice A' xs.length c') xs.length (xs.flatMap wcells) ∧ Below w.heap.size w w' := by
  obtain ⟨i0, hi, hz0, hz1, hz2⟩ := info_parts Tryd.infoWI
  have HI := Lib.hid hi
  have HZ0 := Lib.hid hz0
  have HZ1 := Lib.hid hz1
  have HZ2 := Lib.hid hz2
  clear hi hz0 hz1 hz2
  have HR := Lib.hid hr
  cases A with
  | none =>
    have hx : xs = [] := by
      rcases Nat.eq_zero_or_pos xs.length with h | h
      · exact List.eq_nil_of_length_eq_zero h
      · obtain ⟨b, o, e, -⟩ := hr h; cases e
    subst hx
    clear hr
    have hnil : ∀ w : World, (binOp .eql 46 (.slice none 0 c) (.slice none 0 0)).run Tryd.prog w = .ok (.bool true) w := fun w => Lib.run_eql_slice_nil (P := Tryd.prog) w 46 91 none 0 c 0 0 Tryd.underlying46
    show Calls Tryd.prog 58 #[.slice none 0 c] w _
    go_enter Tryd.func58, Tryd.ntmps58
    go_wp2
    go_ret
    exact ⟨none, 0, rfl, ⟨rfl, .inl ⟨rfl, rfl⟩⟩, Below.refl _ _⟩
  | some a =>
    clear hr
    have hnil : ∀ w : World, (binOp .eql 46 (.slice (some a) xs.length c) (.slice none 0 0)).run Tryd.prog w = .ok (.bool false) w := fun w => Lib.run_eql_slice_nil (P := Tryd.prog) w 46 91 (some a) xs.length c 0 0 Tryd.underlying46
    go_enter Tryd.func58, Tryd.ntmps58
    go_wp2_with (at_builtin; refine wpList_append_any _ rfl (.tmp 5) (.tmp 6) 46 46 rfl w.heap.size 91 i0 _ 3 6 Tryd.underlying46 HI.out HZ0.out HZ1.out HZ2.out rfl (by decide) _ 0 [] rfl ?own _ xs.length (xs.flatMap wcells) rfl ?src ?c3 ?c4 ?c5 ?_)
    case own => exact empty_ownT w _ 3
    case src => exact src_of_rd _ Tryd.underlying46 wcells_length wcells_one (HR.out.keep ((Below.refl _ w).alloc (Nat.le_refl _) _))
    case c3 => unfold maxLen; omega
    case c4 => omega
    case c5 => simp
    intro v' w2 hown hg _
    have hB : Below w.heap.size w w2 := ((Below.refl _ w).alloc (Nat.le_refl _) _).grown hg (by simp) (fun k e => by
      have e2 : w.heap.size = k := by simpa [Value.ownBlock] using e
      omega)
    have hown2 : w2.ownsRow w.heap.size 91 3 v' xs.length (xs.flatMap wcells) := by simpa using hown
    obtain ⟨A', c', rfl, -, -⟩ := own_rd wcells_length hown2
    have HO := Lib.hid hown2
    have HB := Lib.hid hB
    clear hown hown2 hg hB hnil
    go_wp2
    go_ret
    exact ⟨A', c', rfl, HO.out, HB.out⟩


theorem OX.num {w : World} {g cap : Nat} {k y n : Int} {rs : List Wnt} (h : OX w g 91 3 wcells (((k, y), n) :: rs) cap) (n' : Int) : OX (w.setCell ⟨g, 2, none⟩ (.int .i16 n')) g 91 3 wcells (((k, y), n') :: rs) cap := by
  obtain ⟨cur, hg, h1, h2, h3, h4⟩ := h
  have hK : Blk w g 91 cur := hg
  refine ⟨_, hK.set_ 2 _, h1, h2, by simpa using h3, ?_⟩
  rw [Array.toList_setIfInBounds, List.take_set]
  simp only [List.length_cons] at h4 ⊢
  rw [h4]
  rfl
theorem OX.le_cap {T : Type} {w : World} {g m cap : Nat} {t : TypeId} {cells : T → List Value} {Z : List T} (h : OX w g t m cells Z cap) : Z.length ≤ cap := by
  obtain ⟨cur, -, h1, -⟩ := h; exact h1
theorem cut_go {r : List Wnt} {m mk : Int} {k : Nat} {w : Wnt} (hk : r[k]? = some w) (hw : w.2 ≤ mk) (h : cutW m r = (r.take k ++ (cutW mk (r.drop k)).1, (cutW mk (r.drop k)).2)) : cutW m r = (r.take (k + 1) ++ (cutW (mk - w.2) (r.drop (k + 1))).1, (cutW (mk - w.2) (r.drop (k + 1))).2) := by
  obtain ⟨h1, h2⟩ := List.getElem?_eq_some_iff.1 hk
  rw [h, List.drop_eq_getElem_cons h1, h2, cutW_fit hw, List.take_succ_eq_append_getElem h1, h2]
  simp
theorem cut_stop {r : List Wnt} {m mk : Int} {k : Nat} {w : Wnt} (hk : r[k]? = some w) (hw : ¬ w.2 ≤ mk) (h : cutW m r = (r.take k ++ (cutW mk (r.drop k)).1, (cutW mk (r.drop k)).2)) : cutW m r = (r.take k ++ (if 0 < mk then [(w.1, mk)] else []), (w.1, w.2 - mk) :: r.drop (k + 1)) := by
  obtain ⟨h1, h2⟩ := List.getElem?_eq_some_iff.1 hk
  rw [h, List.drop_eq_getElem_cons h1, h2, cutW_over hw]

set_option maxRecDepth 100000 in
set_option maxHeartbeats 8000000 in
theorem cutOrder_any (r : List Wnt) (hN : okN r) (hl : r.length ≤ 8) (m : Int) (hm : 1 ≤ m ∧ m ≤ 144) (A : Option Addr) (c : Nat) (hc : r.length ≤ c) (w : World) (hr : Rd w w.heap.size wcells A r) :
    Calls Tryd.prog 57 #[.slice A r.length c, .int .i16 m] w fun e w' => ∃ A1 c1 A2 c2, e = .returned (.tuple #[.slice A1 (cutW m r).1.length c1, .slice A2 (cutW m r).2.length c2]) ∧ Rd w' w'.heap.size wcells A1 (cutW m r).1 ∧ Rd w' w'.heap.size wcells A2 (cutW m r).2 ∧ (cutW m r).2.length ≤ c2 ∧ (∀ w0, KOt w0 w' A2 (cutW m r).2.length) ∧ Below w.heap.size w w' := by
  obtain ⟨i0, hi0, hz0, hz1, hz2⟩ := info_parts Tryd.infoWI
  have HI := Lib.hid hi0
  have HZ0 := Lib.hid hz0
  have HZ1 := Lib.hid hz1
  have HZ2 := Lib.hid hz2
  clear hi0 hz0 hz1 hz2
  have HR := Lib.hid hr
  have HN := Lib.hid hN
  clear hr hN
  obtain ⟨hm1, hm2⟩ := hm
  have HCa : Hid (r.length ≤ c) := hc
  clear hc
  go_enter Tryd.func57, Tryd.ntmps57
  go_wp2_with fail
  go_loopw [1, 10] (fun mv iv wr => ∃ (k : Nat) (mk : Int), k ≤ r.length ∧ mv = .int .i16 mk ∧ iv = .int .i64 k ∧ 0 ≤ mk ∧ mk ≤ 144 ∧ cutW m r = (r.take k ++ (cutW mk (r.drop k)).1, (cutW mk (r.drop k)).2) ∧ Below w.heap.size w wr) (fun _ i _ => r.length - (intOf i).toNat)
  case atStart => exact ⟨0, m, Nat.zero_le _, rfl, rfl, by omega, hm2, by simp, Below.refl _ _⟩
  case round =>
    obtain ⟨k, mk, hk, rfl, rfl, hk0, hk1, hF, hB⟩ := hrel
    obtain ⟨wv, rfl⟩ : ∃ u, u = wr := ⟨_, rfl⟩
    have HF := Lib.hid hF
    have HB := Lib.hid hB
    clear hF hB
    have hkn0 : (0 : Int) ≤ (k : Int) := Int.natCast_nonneg _
    by_cases hlt : k < r.length
    · have hk8 : (k : Int) < r.length := by omega
      obtain ⟨⟨⟨k1, y1⟩, n1⟩, hx⟩ : ∃ x, r[k]? = some x := ⟨_, List.getElem?_eq_getElem hlt⟩
      obtain ⟨b, o, rfl, hbl, hrow⟩ := (HR.out.keep HB.out).at_ wcells_length hx
      obtain ⟨p1, p2, p3⟩ := rowW hrow
      have HX := Lib.hid hx
      have hn := HN.out _ (List.mem_of_getElem? hx)
      have hn1 : 1 ≤ n1 := hn.1
      have hn2 : n1 ≤ 144 := hn.2
      have HB2 : Hid (Below w.heap.size w (wv.alloc (.cells #[.int .u8 k1, .int .i16 y1, .int .i16 n1] 91))) := HB.out.alloc HB.out.size _
      have HK2 : Hid (Blk (wv.alloc (.cells #[.int .u8 k1, .int .i16 y1, .int .i16 n1] 91)) wv.heap.size 91 #[.int .u8 k1, .int .i16 y1, .int .i16 n1]) := Blk.new wv _ _
      clear hx hrow hbl hn
      obtain ⟨wa, hwa⟩ : ∃ u, wv.alloc (.cells #[.int .u8 k1, .int .i16 y1, .int .i16 n1] 91) = u := ⟨_, rfl⟩
      rw [hwa] at HB2 HK2
      have q0 : wa.cell? ⟨wv.heap.size, 0, none⟩ = some (.int .u8 k1) := HK2.out.cell 0
      have q1 : wa.cell? ⟨wv.heap.size, 1, none⟩ = some (.int .i16 y1) := HK2.out.cell 1
      have q2 : wa.cell? ⟨wv.heap.size, 2, none⟩ = some (.int .i16 n1) := HK2.out.cell 2
      by_cases hnm : n1 ≤ mk
      · have hw16 : IntKind.i16.wrap (mk - n1) = mk - n1 := IntWalk.i16_in _ ⟨by omega, by omega⟩
        have HF2 : Hid (cutW m r = (r.take (k + 1) ++ (cutW (mk - n1) (r.drop (k + 1))).1, (cutW (mk - n1) (r.drop (k + 1))).2)) := cut_go HX.out hnm HF.out
        clear HF HK2
        go_wp2
        clear hwa
        go_roundw
        case rel => exact ⟨k + 1, mk - n1, by omega, by first | rfl | go_num, by go_num, by omega, by omega, HF2.out, by first | exact HB2.out | exact HB2.out.drew⟩
        case measure => simp [intOf]; omega
      · have HE := Lib.hid (cut_stop HX.out hnm HF.out)
        have hnm2 : ¬ n1 ≤ mk := hnm
        clear HF
        go_wp2_with fail
        clear hwa p1 p2 p3
        have HRd : Hid (Rd wa wa.heap.size wcells (some ⟨b, o + k * 3, none⟩) (r.drop k)) := by
          have h1 := (HR.out.keep HB2.out)
          intro h0
          obtain ⟨b2, o2, e2, hb2, hrow2⟩ := h1 (by omega)
          obtain ⟨rfl, rfl⟩ : b = b2 ∧ o = o2 := by simpa using e2
          refine ⟨b, o + k * 3, rfl, hb2, fun j v hv => ?_⟩
          have h3 := hrow2 (k * 3 + j) v (by
            have e : r.flatMap wcells = (r.take k).flatMap wcells ++ (r.drop k).flatMap wcells := by rw [← List.flatMap_append, List.take_append_drop]
            have l : ((r.take k).flatMap wcells).length = k * 3 := by rw [rows_length wcells_length, List.length_take, Nat.min_eq_left hk]
            rw [e, List.getElem?_append_right (by omega), l, Nat.add_sub_cancel_left]
            exact hv)
          rw [← Nat.add_assoc] at h3
          exact h3
        have HCl : Hid (∀ W, Below wa.heap.size wa W → Calls Tryd.prog 58 #[.slice (some ⟨b, o + k * 3, none⟩) (r.length - k) (c - k)] W fun e w' => ∃ A' c', e = .returned (.slice A' (r.length - k) c') ∧ w'.ownsRow W.heap.size 91 3 (.slice A' (r.length - k) c') (r.length - k) ((r.drop k).flatMap wcells) ∧ Below W.heap.size W w') := fun W hW => by
          have := cloneW_any (r.drop k) (some ⟨b, o + k * 3, none⟩) (c - k) W (by rw [List.length_drop]; omega) (HRd.out.keep hW)
          rw [List.length_drop] at this
          exact this
        have hcc := HCa.out
        have hc1 : (k : Int) ≤ c := by omega
        have hc2 : (r.length : Int) ≤ c := by omega
        have hc3 : ¬ c = k := by omega
        have hc4 : (k : Int) ≤ r.length := by omega
        refine wp_region_held_drew (S := fun w' => Below wa.heap.size wa w') (by kernel_rfl) (Below.refl _ _).drew (fun hHeld => ?_)
        refine wpAnyH_take (i := 0) (v := .slice (some ⟨b, o, none⟩) r.length c) rfl (by kernel_rfl) (by kernel_rfl) (by kernel_rfl) (fun _ _ _ h => h) (Or.inl ⟨by rfl, fun w' h => by go_simp⟩) (by assumption) ?_
        try simp only [Act.put, List.getElem_toArray, List.getElem_cons_zero, List.getElem_cons_succ, List.setIfInBounds_toArray, List.set_cons_zero, List.set_cons_succ]
        refine wpAnyH_take (i := 1) (v := .int .i64 k) rfl (by kernel_rfl) (by kernel_rfl) (by kernel_rfl) (fun _ _ _ h => h) (Or.inl ⟨by rfl, fun w' h => by go_simp⟩) (by assumption) ?_
        try simp only [Act.put, List.getElem_toArray, List.getElem_cons_zero, List.getElem_cons_succ, List.setIfInBounds_toArray, List.set_cons_zero, List.set_cons_succ]
        refine wpAnyH_take (i := 2) (v := .int .i64 k) rfl (by kernel_rfl) (by kernel_rfl) (by kernel_rfl) (fun _ _ _ h => h) (Or.inl ⟨by rfl, fun w' h => by go_simp⟩) (by assumption) ?_
        try simp only [Act.put, List.getElem_toArray, List.getElem_cons_zero, List.getElem_cons_succ, List.setIfInBounds_toArray, List.set_cons_zero, List.set_cons_succ]
        refine wpAnyH_take (i := 3) (v := .slice (some ⟨b, o, none⟩) k k) rfl (by kernel_rfl) (by kernel_rfl) (by kernel_rfl) (fun _ _ _ h => h) (Or.inl ⟨by rfl, fun w' h => by go_simp⟩) (by assumption) ?_
        try simp only [Act.put, List.getElem_toArray, List.getElem_cons_zero, List.getElem_cons_succ, List.setIfInBounds_toArray, List.set_cons_zero, List.set_cons_succ]
        refine wpAnyH_take (i := 4) (v := .slice (some ⟨b, o, none⟩) r.length c) rfl (by kernel_rfl) (by kernel_rfl) (by kernel_rfl) (fun _ _ _ h => h) (Or.inl ⟨by rfl, fun w' h => by go_simp⟩) (by assumption) ?_
        try simp only [Act.put, List.getElem_toArray, List.getElem_cons_zero, List.getElem_cons_succ, List.setIfInBounds_toArray, List.set_cons_zero, List.set_cons_succ]
        refine wpAnyH_take (i := 5) (v := .int .i64 k) rfl (by kernel_rfl) (by kernel_rfl) (by kernel_rfl) (fun _ _ _ h => h) (Or.inl ⟨by rfl, fun w' h => by go_simp⟩) (by assumption) ?_
        try simp only [Act.put, List.getElem_toArray, List.getElem_cons_zero, List.getElem_cons_succ, List.setIfInBounds_toArray, List.set_cons_zero, List.set_cons_succ]
        refine wpAnyH_take (i := 6) (v := .slice (some ⟨b, o + k * 3, none⟩) (r.length - k) (c - k)) rfl (by kernel_rfl) (by kernel_rfl) (by kernel_rfl) (fun _ _ _ h => h) (Or.inl ⟨by rfl, fun w' h => by go_simp⟩) (by assumption) ?_
        try simp only [Act.put, List.getElem_toArray, List.getElem_cons_zero, List.getElem_cons_succ, List.setIfInBounds_toArray, List.set_cons_zero, List.set_cons_succ]
        obtain ⟨D0, hD0⟩ : ∃ D0, wa.drew = D0 := ⟨_, rfl⟩
        rw [hD0] at hHeld ⊢
        clear hD0
        refine wpAnyH_ready (rs := [7]) (by kernel_rfl) (by simp) ?_
        refine AllReadyH.cons rfl (fun K hK => ?_) AllReadyH.nil
        refine if_wanted rfl ?_
        go_simp
        refine (HCl.out _ hHeld).mono ?_
        rintro e w5 ⟨A5, c5, rfl, ho5, hb⟩
        have hH2 : Below wa.heap.size wa w5 := hHeld.trans (hb.mono hHeld.size)
        have HO5 := Lib.hid ho5
        clear ho5
        have HSzD : Hid (wa.heap.size ≤ D0.heap.size) := hHeld.size
        clear hb hHeld
        dsimp only
        refine hK.out _ _ hH2 (fun hHeld => ?_)
        clear hK K hH2
        try simp only [Act.put, List.getElem_toArray, List.getElem_cons_zero, List.getElem_cons_succ, List.setIfInBounds_toArray, List.set_cons_zero, List.set_cons_succ]
        refine wpAnyH_ready (rs := [8]) (by kernel_rfl) (by simp) ?_
        refine AllReadyH.cons rfl (fun K hK => ?_) AllReadyH.nil
        refine if_wanted rfl ?_
        refine wp_assign0 (v := .slice (some ⟨b, o, none⟩) k k) rfl rfl ?_
        refine hK.out _ _ hHeld (fun hHeld => ?_)
        clear hK K
        try simp only [Act.put, List.getElem_toArray, List.getElem_cons_zero, List.getElem_cons_succ, List.setIfInBounds_toArray, List.set_cons_zero, List.set_cons_succ]
        refine wpAnyH_ready (rs := [9]) (by kernel_rfl) (by simp) ?_
        refine AllReadyH.cons rfl (fun K hK => ?_) AllReadyH.nil
        refine if_wanted rfl ?_
        refine wp_assign0 (v := .slice A5 (r.length - k) c5) rfl rfl ?_
        refine hK.out _ _ hHeld (fun hHeld => ?_)
        clear hK K
        try simp only [Act.put, List.getElem_toArray, List.getElem_cons_zero, List.getElem_cons_succ, List.setIfInBounds_toArray, List.set_cons_zero, List.set_cons_succ]
        refine wpAnyH_done (by kernel_rfl) ?_ _
        try simp only [Act.put, List.getElem_toArray, List.getElem_cons_zero, List.getElem_cons_succ, List.setIfInBounds_toArray, List.set_cons_zero, List.set_cons_succ]
        have hb := hHeld
        clear hHeld
        have hdl : (r.drop k).length = r.length - k := List.length_drop
        have hdr : r.drop k = ((k1, y1), n1) :: r.drop (k + 1) := by obtain ⟨h1, h2⟩ := List.getElem?_eq_some_iff.1 HX.out; rw [List.drop_eq_getElem_cons h1, h2]
        obtain ⟨g5, rfl, hg5, hOX⟩ : ∃ g, A5 = some ⟨g, 0, none⟩ ∧ wa.heap.size ≤ g ∧ OX w5 g 91 3 wcells (((k1, y1), n1) :: r.drop (k + 1)) c5 := by
          have h1 := HO5.out
          rw [← hdl] at h1
          rcases OX.of h1 with ⟨-, h2⟩ | ⟨g, cap, h2, h3, h4⟩
          · have := congrArg List.length h2; rw [hdl] at this; simp at this; omega
          · cases h2; exact ⟨g, rfl, by first | exact h3 | (have := HSzD.out; omega), by rw [← hdr]; exact h4⟩
        have hdl2 : (((k1, y1), n1 - mk) :: r.drop (k + 1)).length = r.length - k := by simp [List.length_drop]; omega
        have HDl := Lib.hid hdl2
        have HOX := Lib.hid hOX
        have Hg5 : Hid (w.heap.size ≤ g5) := Nat.le_trans HB2.out.size hg5
        have hB5 : Below w.heap.size w w5 := HB2.out.trans (hb.mono HB2.out.size)
        have HB5 := Lib.hid hB5
        have HK5 := Lib.hid (HK2.out.keep hb)
        have HRk : Hid (Rd w5 w5.heap.size wcells (some ⟨b, o, none⟩) (r.take k)) := (HR.out.keep hB5).take k
        have hnw : IntKind.i16.wrap (n1 - mk) = n1 - mk := IntWalk.i16_in _ ⟨by omega, by omega⟩
        clear hb hdl hdr hg5 hOX hB5 HO5 HCl HRd HB2 HK2 q0 q1 q2 hcc hc1 hc2 hc3 hc4 hdl2
        by_cases hmk : 0 < mk
        · have E : Hid (cutW m r = (r.take k ++ [((k1, y1), mk)], ((k1, y1), n1 - mk) :: r.drop (k + 1))) := by show _ = _; rw [HE.out, if_pos hmk]
          have q0 : w5.cell? ⟨wv.heap.size, 0, none⟩ = some (.int .u8 k1) := HK5.out.cell 0
          have q1 : w5.cell? ⟨wv.heap.size, 1, none⟩ = some (.int .i16 y1) := HK5.out.cell 1
          have HTk : Hid ((r.take k).length = k) := by show _ = _; rw [List.length_take, Nat.min_eq_left hk]
          have hA5 : Below w5.heap.size w5 (w5.alloc (.cells #[.int .u8 k1, .int .i16 y1, .int .i16 mk] 91)) := (Below.refl _ w5).alloc (Nat.le_refl _) _
          have HRk2 := Lib.hid (HRk.out.keep hA5)
          have HA5 := Lib.hid hA5
          clear hA5
          go_wp2_with (at_builtin; refine wpList_append_grows _ rfl (.tmp 33) (.tmp 38) 46 rfl 91 i0 (.agg #[.int .u8 0, .int .i16 0, .int .i16 0]) 3 6 Tryd.underlying46 HI.out HZ0.out HZ1.out HZ2.out rfl (by decide) (some ⟨b, o, none⟩) k k ((r.take k).flatMap wcells) rfl (fun h => by cases h) ?hlo ?hol ⟨w5.heap.size, 0, none⟩ 1 1 [.int .u8 k1, .int .i16 y1, .int .i16 mk] rfl rfl ?f1 ?f2 (by omega) ?f3 ?f4 ?_)
          case hlo => rw [rows_length wcells_length, HTk.out]
          case hol =>
            intro b' hb' j u hu
            obtain rfl : (⟨b, o, none⟩ : Addr) = b' := Option.some.inj hb'
            have hj := (List.getElem?_eq_some_iff.1 hu).1
            rw [rows_length wcells_length] at hj
            obtain ⟨b2, o2, e2, hb2, hrow2⟩ := HRk2.out (by omega)
            obtain ⟨rfl, rfl⟩ : b = b2 ∧ o = o2 := by simpa using e2
            rw [Addr.add_lit]
            exact hrow2 j u hu
          try (case f1 => exact cells3T w5 _ _ _ _)
          try (case f2 => exact one3T _ _ _)
          case f3 => unfold maxLen; omega
          case f4 => omega
          intro v8 w8 hown8 hg8
          have hown9 : w8.ownsRow (w5.alloc (.cells #[.int .u8 k1, .int .i16 y1, .int .i16 mk] 91)).heap.size 91 3 v8 (r.take k ++ [((k1, y1), mk)]).length ((r.take k ++ [((k1, y1), mk)]).flatMap wcells) := by rw [List.length_append, List.flatMap_append, HTk.out]; simpa [wcells] using hown8
          obtain ⟨A8, c8, rfl, -, -⟩ := own_rd wcells_length hown9
          have hB8 : Below w5.heap.size w5 w8 := HA5.out.grown hg8 HA5.out.size (fun q e => by cases e)
          have HOX8 := Lib.hid (HOX.out.keep hB8)
          have HB8 := Lib.hid (HB5.out.trans (hB8.mono HB5.out.size))
          have HLt : Hid (g5 < w5.heap.size) := HOX.out.lt
          have HO9 := Lib.hid hown9
          obtain ⟨t2, ht2⟩ : ∃ t2, r.take k ++ [((k1, y1), mk)] = t2 := ⟨_, rfl⟩
          rw [ht2] at HO9 E ⊢
          clear hown8 hown9 hg8 hB8 ht2 q0 q1 HK5 HRk HRk2 HOX HB5
          have q2 : w8.cell? ⟨g5, 2, none⟩ = some (.int .i16 n1) := by have := HOX8.out.cell wcells_length (k := 0) (f := 2) (x := ((k1, y1), n1)) (v := .int .i16 n1) rfl rfl; simpa using this
          have f2 : w8.frozen? ⟨g5, 2, none⟩ = false := HOX8.out.frozen 2
          have hkk : (0 : Int) < ((r.length - k : Nat) : Int) := by omega
          go_wp2
          go_ret2
          have hset := only_set w8 g5 2 (.int .i16 (n1 - mk))
          have ho1 := hset.own HO9.out (fun q e e2 => by subst e2; have h1 := (own_block HO9.out e).1; have h2 := HLt.out; rw [World.size_alloc] at h1; omega)
          have ho2 := (HOX8.out.num (n1 - mk)).own wcells_length Hg5.out
          rw [HDl.out] at ho2
          have ho3 := ho2
          rw [← HDl.out] at ho3
          exact ⟨A8, c8, some ⟨g5, 0, none⟩, c5, by (rw [E.out, HDl.out]; first | done | rfl), by rw [E.out]; exact own_rd2 wcells_length ho1, by rw [E.out]; exact own_rd2 wcells_length ho3, by rw [E.out]; exact (HOX8.out.num (n1 - mk)).le_cap, by rw [E.out]; exact fun w0 => KOt.of ho3, HB8.out.setCell (p := ⟨g5, 2, none⟩) Hg5.out _⟩
        · have E : Hid (cutW m r = (r.take k, ((k1, y1), n1 - mk) :: r.drop (k + 1))) := by show _ = _; rw [HE.out, if_neg hmk, List.append_nil]
          have HTk : Hid ((r.take k).length = k) := by show _ = _; rw [List.length_take, Nat.min_eq_left hk]
          have q2 : w5.cell? ⟨g5, 2, none⟩ = some (.int .i16 n1) := by have := HOX.out.cell wcells_length (k := 0) (f := 2) (x := ((k1, y1), n1)) (v := .int .i16 n1) rfl rfl; simpa using this
          have f2 : w5.frozen? ⟨g5, 2, none⟩ = false := HOX.out.frozen 2
          have hkk : (0 : Int) < ((r.length - k : Nat) : Int) := by omega
          clear HK5
          go_wp2
          go_ret2
          have ho2 := (HOX.out.num (n1 - mk)).own wcells_length Hg5.out
          have hbs : Below w5.heap.size w5 w5 := Below.refl _ _
          have hset := only_set w5 g5 2 (.int .i16 (n1 - mk))
          have hr2 : Rd (w5.setCell ⟨g5, 2, none⟩ (.int .i16 (n1 - mk))) (w5.setCell ⟨g5, 2, none⟩ (.int .i16 (n1 - mk))).heap.size wcells (some ⟨b, o, none⟩) (r.take k) := by
            have h1 : Below w.heap.size w (w5.setCell ⟨g5, 2, none⟩ (.int .i16 (n1 - mk))) := HB5.out.setCell (p := ⟨g5, 2, none⟩) Hg5.out _
            exact (HR.out.keep h1).take k
          exact ⟨some ⟨b, o, none⟩, k, some ⟨g5, 0, none⟩, c5, by (rw [E.out, HDl.out, HTk.out]; first | done | rfl), by rw [E.out]; exact hr2, by rw [E.out]; exact own_rd2 wcells_length ho2, by rw [E.out]; exact (HOX.out.num (n1 - mk)).le_cap, by rw [E.out]; exact fun w0 => KOt.of ho2, HB5.out.setCell (p := ⟨g5, 2, none⟩) Hg5.out _⟩
    · obtain rfl : k = r.length := by omega
      have E : Hid (cutW m r = (r, [])) := by show _ = _; have := HF.out; simpa [cutW] using this
      have HRr := Lib.hid (HR.out.keep HB.out)
      clear HF
      go_wp2
      go_ret2
      exact ⟨A, c, none, 0, by (rw [E.out]; first | done | rfl), by rw [E.out]; exact HRr.out, by rw [E.out]; intro h; simp at h, by rw [E.out]; simp, by rw [E.out]; intro w0 h; simp at h, HB.out⟩
end Go.Proofs.YtkehmelcecifdaaDoor
