/-
  CheckPayments: the program's contract. Condition: the lists read, their numbers fit their kinds, not more than 1048576; the sentinel errors lie as the row lists them.
-/
import Derived.Test.YtcdoablhnlkkmaaDoorCp4
namespace Go.Proofs.YtcdoablhnlkkmaaDoor
open Go.ChangeShapes Go.WideShapes Go.ChangeAt Go.RowKit Go.Deep

def pdL (xs : List Int) (ps : List Pay) : List Int := if ps.all (pyOk xs.length) = true then lfL xs ps ps.length else []
def pdO (xs : List Int) (ps : List Pay) : Option Nat := if ps.all (pyOk xs.length) = true then none else some 0
theorem pd_bad {xs : List Int} {ps : List Pay} {p : Pay} {k : Nat} (hk : ps[k]? = some p) (hp : pyOk xs.length p = false) : pdL xs ps = [] ∧ pdO xs ps = some 0 := by
  have : ps.all (pyOk xs.length) = false := by
    rw [List.all_eq_false]
    exact ⟨p, List.mem_of_getElem? hk, by simp [hp]⟩
  exact ⟨by rw [pdL, this]; rfl, by rw [pdO, this]; rfl⟩
theorem pd_yes {xs : List Int} {ps : List Pay} (ha : ∀ j p, j < ps.length → ps[j]? = some p → pyOk xs.length p = true) : pdL xs ps = lfL xs ps ps.length ∧ pdO xs ps = none := by
  have : ps.all (pyOk xs.length) = true := by
    rw [List.all_eq_true]
    intro p hp
    obtain ⟨j, hj, rfl⟩ := List.mem_iff_getElem.1 hp
    exact ha j _ hj (List.getElem?_eq_getElem hj)
  exact ⟨by rw [pdL, if_pos this], by rw [pdO, if_pos this]⟩
theorem own_farC {w : World} {b size n : Nat} {e : TypeId} {v : Value} {xs : List Value} (h : w.ownsRow b e size v n xs) {p : Addr} (hp : p.block < b) (u : Value) : (w.setCell p u).ownsRow b e size v n xs := by
  refine ⟨h.1, ?_⟩
  rcases h.2 with h2 | ⟨g, cap, cur, hv, hb, hg, rest⟩
  · exact .inl h2
  · exact .inr ⟨g, cap, cur, hv, hb, (Blk.far (show Blk w g e cur from hg) (p := p) (by omega) u), rest⟩
theorem rd_nilP {T : Type} (w : World) (B : Nat) (cells : T → List Value) (A : Option Addr) : Rd w B cells A ([] : List T) := fun h => absurd h (by simp)

set_option maxRecDepth 100000 in
set_option maxHeartbeats 8000000 in
theorem paid_any (xs : List Int) (ps : List Pay) (hwq : ∀ p ∈ ps, wfQ p) (A B : Option Addr) (c d : Nat) (ad : Nat → Addr) (w : World) (hn6 : 1 ≤ xs.length ∧ xs.length ≤ 6) (hnx : ∀ x ∈ xs, -bil ≤ x ∧ x ≤ bil) (h80 : ps.length ≤ 80) (hr : Rd w w.heap.size icells A xs) (hb : Rd w w.heap.size qcells B ps) (hE : EW 7 w ad) :
    Calls Tryd.prog 39 #[.slice A xs.length c, .slice B ps.length d] w fun e w' => ∃ L lc, e = .returned (.tuple #[.slice L (pdL xs ps).length lc, erO ad (pdO xs ps)]) ∧ Rd w' w'.heap.size icells L (pdL xs ps) ∧ Below w.heap.size w w' := by
  have hmf : ∀ (fn : Fn) (first cap : Array Value) (w : World), (Instr.makeFunc fn first cap).run Tryd.prog w = .ok (.func fn first cap) w := fun _ _ _ _ => rfl
  have HR := Lib.hid hr
  have HRb := Lib.hid hb
  have HWq := Lib.hid hwq
  have HNx := Lib.hid hnx
  have HN6 := Lib.hid hn6
  have H80 := Lib.hid h80
  have HE := Lib.hid hE
  clear hr hb hwq hnx hE
  have h1 : Blk (w.alloc (.cells #[.nilIface] 69)) w.heap.size 69 #[.nilIface] := Blk.new w _ _
  have h2 : Below w.heap.size w (w.alloc (.cells #[.nilIface] 69)) := (Below.refl _ w).alloc (Nat.le_refl _) _
  obtain ⟨W0, hW0⟩ : ∃ W0, w.alloc (.cells #[.nilIface] 69) = W0 := ⟨_, rfl⟩
  rw [hW0] at h1 h2
  have H1 := Lib.hid h1
  have H2 := Lib.hid h2
  clear h1 h2
  go_enter_defers Tryd.func39, Tryd.ntmps39
  go_wp2_with fail
  clear hW0
  refine (cloneI_any xs A c W0 (by omega) (HR.out.keep H2.out)).mono ?_
  rintro e w2 ⟨A7, c7, rfl, hO, hB⟩
  obtain ⟨g, rfl⟩ : ∃ g, A7 = some ⟨g, 0, none⟩ := by
    rcases hO.2 with ⟨e, h0⟩ | ⟨g, cap, cur, hv, -⟩
    · omega
    · exact ⟨g, (Value.slice.inj hv).1⟩
  obtain ⟨bb, hbb⟩ : ∃ b, b = W0.heap.size := ⟨_, rfl⟩
  rw [← hbb] at hO
  have HO := Lib.hid hO
  have HX2 := Lib.hid (H1.out.keep hB)
  have HB2 := Lib.hid (H2.out.trans (hB.mono H2.out.size))
  have HWb : Hid (w.heap.size < bb) := by have := H1.out.lt; show _ < _; omega
  clear hO hB hbb H1 H2 hn6 h80
  go_wp2_with fail
  go_loopw [4, 14] (fun v4 iv wr => ∃ (k : Nat) (l : List Int), k ≤ ps.length ∧ iv = .int .i64 k ∧ v4 = .slice none 0 0 ∧ l = lfL xs ps k ∧ (∀ j p, j < k → ps[j]? = some p → pyOk xs.length p = true) ∧ wr.ownsRow bb 2 1 (.slice (some ⟨g, 0, none⟩) l.length c7) l.length (l.flatMap icells) ∧ Blk wr w.heap.size 69 #[.nilIface] ∧ Below w.heap.size w wr) (fun _ i _ => ps.length - (intOf i).toNat)
  case atStart => exact ⟨0, xs, by omega, rfl, rfl, rfl, fun j p h => absurd h (Nat.not_lt_zero _), HO.out, HX2.out, HB2.out⟩
  case round =>
    clear HO HX2 HB2
    obtain ⟨k, l, hk, rfl, rfl, hL, hA, hO, hX, hB⟩ := hrel
    obtain ⟨wa, rfl⟩ : ∃ u, u = wr := ⟨_, rfl⟩
    have HL := Lib.hid hL
    have HA := Lib.hid hA
    have HO := Lib.hid hO
    have HX := Lib.hid hX
    have HB := Lib.hid hB
    have HLl : Hid (l.length = xs.length) := by show _ = _; rw [hL, lfL_len]
    have HLi : Hid (∀ x ∈ l, -100000000000 ≤ x ∧ x ≤ 100000000000) := fun x h => lfL_at HNx.out hk H80.out hA (by rw [← hL]; exact h)
    clear hL hA hO hX hB
    have hk0 : (0 : Int) ≤ (k : Int) := Int.natCast_nonneg _
    by_cases hlt : k < ps.length
    · have hk8 : (k : Int) < ps.length := by omega
      obtain ⟨⟨f, t, a⟩, hp⟩ : ∃ x, ps[k]? = some x := ⟨_, List.getElem?_eq_getElem hlt⟩
      have hwp := HWq.out _ (List.mem_of_getElem? hp)
      obtain ⟨b, o, rfl, hbl, hrow⟩ := (HRb.out.keep HB.out).at_ qcells_length hp
      obtain ⟨g0, g1, g2⟩ := rowQ hrow
      have HP := Lib.hid hp
      have HF8 : Hid (-128 ≤ f ∧ f ≤ 127) := hwp.1
      have HT8 : Hid (-128 ≤ t ∧ t ≤ 127) := hwp.2.1
      clear hp hwp hrow hk
      have hA1 : Below wa.heap.size wa (wa.alloc (.cells #[.int .i8 f, .int .i8 t, .int .i64 a] 64)) := (Below.refl _ wa).alloc (Nat.le_refl _) _
      have hK1 : Blk (wa.alloc (.cells #[.int .i8 f, .int .i8 t, .int .i64 a] 64)) wa.heap.size 64 #[.int .i8 f, .int .i8 t, .int .i64 a] := Blk.new wa _ _
      obtain ⟨W1, hW1⟩ : ∃ u, wa.alloc (.cells #[.int .i8 f, .int .i8 t, .int .i64 a] 64) = u := ⟨_, rfl⟩
      rw [hW1] at hA1 hK1
      have HO1 := Lib.hid (own_keep' HO.out hA1)
      have HX1 := Lib.hid (HX.out.keep hA1)
      have HB1 : Hid (Below w.heap.size w W1) := HB.out.trans (hA1.mono HB.out.size)
      have HG : Hid (bb ≤ g) := (own_blockC HO.out rfl).1
      have b0 : W1.cell? ⟨wa.heap.size, 0, none⟩ = some (.int .i8 f) := hK1.cell 0
      have b1 : W1.cell? ⟨wa.heap.size, 1, none⟩ = some (.int .i8 t) := hK1.cell 1
      have b2 : W1.cell? ⟨wa.heap.size, 2, none⟩ = some (.int .i64 a) := hK1.cell 2
      have c0 : W1.cell? ⟨3, 0, none⟩ = some (.iface 172 (.pointer (some (ad 0)))) := (HE.out.below HB1.out (Nat.le_refl _)).cell 0 (by omega)
      have x0 : W1.cell? ⟨w.heap.size, 0, none⟩ = some .nilIface := HX1.out.cell 0
      have fx : W1.frozen? ⟨w.heap.size, 0, none⟩ = false := HX1.out.frozen 0
      have hge : 3 < w.heap.size := block_lt_of_cell (HE.out.cell 0 (by omega))
      have hge1 : ¬ w.heap.size = 3 := by omega
      have hge2 : ¬ 3 = w.heap.size := by omega
      clear hA1 hK1 HO HX HB hge
      by_cases q3 : f = t
      · have E := Lib.hid (pd_bad (xs := xs) HP.out (by rw [pyOk_is, decide_eq_false (by simpa using q3)]; simp))
        have hft : (f == t) = true := by simp [q3]
        subst q3
        go_wp2_with fail
        go_region
        go_wp2
        refine leaves_cons (f := 56) (args := #[.pointer (some ⟨w.heap.size, 0, none⟩)]) (by simp) (by simp [go_sem]) ?_
        refine (paid_idle ⟨w.heap.size, 0, none⟩ _).mono ?_
        rintro e u' w7 ⟨rfl, rfl, rfl⟩
        have z6 : Blk ((W1.setCell ⟨w.heap.size, 0, none⟩ (.iface 172 (.pointer (some (ad 0))))).drew) w.heap.size 69 #[(.iface 172 (.pointer (some (ad 0))))] := (HX1.out.set_ 0 _).drew
        have z7 := z6.cell 0
        have hB9 : Below w.heap.size w ((W1.setCell ⟨w.heap.size, 0, none⟩ (.iface 172 (.pointer (some (ad 0))))).drew) := (HB1.out.setCell (p := ⟨w.heap.size, 0, none⟩) (Nat.le_refl _) _).drew
        refine ⟨.tuple #[.slice none 0 0, (.iface 172 (.pointer (some (ad 0))))], by simp [results, Tryd.results39, go_sem, z7], none, 0, by (rw [E.out.1, E.out.2]; rfl), by rw [E.out.1]; exact rd_nilP _ _ _ _, hB9⟩
      have Q3 := Lib.hid q3
      have hft : (f == t) = false := by simpa using q3
      clear q3
      go_wp2_with fail
      refine (isWithin_any a 1 1000000000 W1).mono ?_
      rintro e w9 ⟨rfl, rfl⟩
      rw [show (decide ((1 : Int) ≤ a) && decide (a ≤ 1000000000)) = wi 1 1000000000 a from rfl]
      cases q4 : wi 1 1000000000 a
      · have E := Lib.hid (pd_bad (xs := xs) HP.out (by rw [pyOk_is, q4]; simp))
        clear q4
        go_wp2_with fail
        go_region
        go_wp2
        refine leaves_cons (f := 56) (args := #[.pointer (some ⟨w.heap.size, 0, none⟩)]) (by simp) (by simp [go_sem]) ?_
        refine (paid_idle ⟨w.heap.size, 0, none⟩ _).mono ?_
        rintro e u' w7 ⟨rfl, rfl, rfl⟩
        have z6 : Blk ((W1.setCell ⟨w.heap.size, 0, none⟩ (.iface 172 (.pointer (some (ad 0))))).drew) w.heap.size 69 #[(.iface 172 (.pointer (some (ad 0))))] := (HX1.out.set_ 0 _).drew
        have z7 := z6.cell 0
        have hB9 : Below w.heap.size w ((W1.setCell ⟨w.heap.size, 0, none⟩ (.iface 172 (.pointer (some (ad 0))))).drew) := (HB1.out.setCell (p := ⟨w.heap.size, 0, none⟩) (Nat.le_refl _) _).drew
        refine ⟨.tuple #[.slice none 0 0, (.iface 172 (.pointer (some (ad 0))))], by simp [results, Tryd.results39, go_sem, z7], none, 0, by (rw [E.out.1, E.out.2]; rfl), by rw [E.out.1]; exact rd_nilP _ _ _ _, hB9⟩
      have Q4 := Lib.hid q4
      clear q4
      have HC6 := Lib.hid c0
      cases q1 : wi 0 ((l.length : Int) - 1) f
      · have E := Lib.hid (pd_bad (xs := xs) HP.out (by rw [pyOk_is, ← HLl.out, q1]; rfl))
        have hpay := pay_bad l g c7 bb f t a W1 (by have := HLl.out; have := HN6.out; omega) HF8.out q1
        rw [HLl.out] at hpay
        have HPay := Lib.hid hpay
        clear hpay q1
        go_wp2_with fail
        refine HPay.out.mono ?_
        rintro e w6 ⟨rfl, hb6⟩
        have HX6 : Hid (Blk w6 w.heap.size 69 #[.nilIface]) := HX1.out.keep hb6
        have HB6 : Hid (Below w.heap.size w w6) := HB1.out.trans (hb6.mono HB1.out.size)
        have HC6 : Hid (w6.cell? ⟨3, 0, none⟩ = some (.iface 172 (.pointer (some (ad 0))))) := (HE.out.below HB6.out (Nat.le_refl _)).cell 0 (by omega)
        clear hb6
        refine leaves_cons (f := 56) (args := #[.pointer (some ⟨w.heap.size, 0, none⟩)]) (by simp) (by simp [go_sem]) ?_
        refine (paid_panic ⟨w.heap.size, 0, none⟩ f ad [] _ HX6.out.lt (HX6.out.cell 0) HC6.out (HX6.out.frozen 0)).mono ?_
        rintro e u' w7 ⟨rfl, rfl, w8, hb8, rfl⟩
        have z6 : Blk (w8.setCell ⟨w.heap.size, 0, none⟩ (.iface 172 (.pointer (some (ad 0))))) w.heap.size 69 #[(.iface 172 (.pointer (some (ad 0))))] := (HX6.out.below hb8 HX6.out.lt).set_ 0 _
        have z7 := z6.cell 0
        have hB9 : Below w.heap.size w (w8.setCell ⟨w.heap.size, 0, none⟩ (.iface 172 (.pointer (some (ad 0))))) := (HB6.out.trans (hb8.mono HB6.out.size)).setCell (p := ⟨w.heap.size, 0, none⟩) (Nat.le_refl _) _
        refine ⟨.tuple #[.slice none 0 0, (.iface 172 (.pointer (some (ad 0))))], by simp [results, Tryd.results39, go_sem, z7], none, 0, by (rw [E.out.1, E.out.2]; rfl), by rw [E.out.1]; exact rd_nilP _ _ _ _, hB9⟩
      have Q1 := Lib.hid q1
      clear q1
      have hF9 := wi_iff.1 Q1.out
      obtain ⟨F, rfl⟩ : ∃ F : Nat, f = F := ⟨f.toNat, by omega⟩
      have hFl : F < l.length := by omega
      obtain ⟨u, hu⟩ : ∃ x, l[F]? = some x := ⟨_, List.getElem?_eq_getElem hFl⟩
      have HU := Lib.hid hu
      have HUb := Lib.hid (HLi.out u (List.mem_of_getElem? hu))
      have HA9 : Hid (0 ≤ a ∧ a ≤ 1000000000) := by have := wi_iff.1 Q4.out; show _ ∧ _; omega
      have HL6 : Hid (l.length ≤ 6) := by have := HLl.out; have := HN6.out; show _ ≤ _; omega
      have HBb : Hid (bb ≤ W1.heap.size) := Nat.le_trans HG.out (Nat.le_of_lt (own_blockC HO1.out rfl).2)
      clear hF9 hFl hu
      cases q2 : wi 0 ((l.length : Int) - 1) t
      · have E := Lib.hid (pd_bad (xs := xs) HP.out (by rw [pyOk_is, ← HLl.out, Q1.out, q2]; rfl))
        have hpay := pay_half l g c7 bb F t a u W1 HL6.out HU.out HT8.out q2 HA9.out HUb.out HO1.out HBb.out
        rw [HLl.out] at hpay
        have HPay := Lib.hid hpay
        clear hpay q2
        go_wp2_with fail
        refine HPay.out.mono ?_
        rintro e w6 ⟨rfl, hb6⟩
        have HX6 : Hid (Blk w6 w.heap.size 69 #[.nilIface]) := HX1.out.below hb6 HWb.out
        have HB6 : Hid (Below w.heap.size w w6) := HB1.out.trans (hb6.mono (Nat.le_of_lt HWb.out))
        have HC6 : Hid (w6.cell? ⟨3, 0, none⟩ = some (.iface 172 (.pointer (some (ad 0))))) := (HE.out.below HB6.out (Nat.le_refl _)).cell 0 (by omega)
        clear hb6
        refine leaves_cons (f := 56) (args := #[.pointer (some ⟨w.heap.size, 0, none⟩)]) (by simp) (by simp [go_sem]) ?_
        refine (paid_panic ⟨w.heap.size, 0, none⟩ t ad [] _ HX6.out.lt (HX6.out.cell 0) HC6.out (HX6.out.frozen 0)).mono ?_
        rintro e u' w7 ⟨rfl, rfl, w8, hb8, rfl⟩
        have z6 : Blk (w8.setCell ⟨w.heap.size, 0, none⟩ (.iface 172 (.pointer (some (ad 0))))) w.heap.size 69 #[(.iface 172 (.pointer (some (ad 0))))] := (HX6.out.below hb8 HX6.out.lt).set_ 0 _
        have z7 := z6.cell 0
        have hB9 : Below w.heap.size w (w8.setCell ⟨w.heap.size, 0, none⟩ (.iface 172 (.pointer (some (ad 0))))) := (HB6.out.trans (hb8.mono HB6.out.size)).setCell (p := ⟨w.heap.size, 0, none⟩) (Nat.le_refl _) _
        refine ⟨.tuple #[.slice none 0 0, (.iface 172 (.pointer (some (ad 0))))], by simp [results, Tryd.results39, go_sem, z7], none, 0, by (rw [E.out.1, E.out.2]; rfl), by rw [E.out.1]; exact rd_nilP _ _ _ _, hB9⟩
      have Q2 := Lib.hid q2
      clear q2
      have hT9 := wi_iff.1 Q2.out
      obtain ⟨T, rfl⟩ : ∃ T : Nat, t = T := ⟨t.toNat, by omega⟩
      have hTl : T < l.length := by omega
      obtain ⟨v, hv⟩ : ∃ x, l[T]? = some x := ⟨_, List.getElem?_eq_getElem hTl⟩
      have hFT : F ≠ T := fun e => Q3.out (by rw [e])
      have hpay := pay_ok l g c7 bb F T a u v W1 HL6.out HU.out hFT hv HA9.out HUb.out (HLi.out v (List.mem_of_getElem? hv)) HO1.out HBb.out
      rw [HLl.out] at hpay
      have HPay := Lib.hid hpay
      have HOk : Hid (pyOk xs.length ⟨F, T, a⟩ = true) := by show _ = _; rw [pyOk_is, ← HLl.out, Q1.out, Q2.out, decide_eq_true Q3.out, Q4.out]; rfl
      have HSt : Hid ((l.set F (u + a)).set T (v - a) = lfL xs ps (k + 1)) := by
        show _ = _
        rw [lfL_succ HP.out, ← HL.out, pyA]
        simp [HU.out, hv]
      have HSl : Hid (((l.set F (u + a)).set T (v - a)).length = xs.length) := by show _ = _; rw [List.length_set, List.length_set]; exact HLl.out
      clear hT9 hTl hv hFT hpay
      go_wp2_with fail
      refine HPay.out.mono ?_
      rintro e w6 ⟨rfl, hO6, hb6⟩
      have HX6 : Hid (Blk w6 w.heap.size 69 #[.nilIface]) := HX1.out.below hb6 HWb.out
      have HB6 : Hid (Below w.heap.size w w6) := HB1.out.trans (hb6.mono (Nat.le_of_lt HWb.out))
      have HO6 : Hid (w6.ownsRow bb 2 1 (.slice (some ⟨g, 0, none⟩) ((l.set F (u + a)).set T (v - a)).length c7) ((l.set F (u + a)).set T (v - a)).length (((l.set F (u + a)).set T (v - a)).flatMap icells)) := by show World.ownsRow _ _ _ _ _ _ _; rw [HSl.out]; exact hO6
      have h80' := H80.out
      clear hb6 hO6 b0 b1 b2 c0 x0 fx
      go_wp2
      go_roundw
      case rel => exact ⟨k + 1, _, by omega, by go_num, rfl, HSt.out, fun j p h1 h2 => by
        by_cases e : j = k
        · subst e; rw [HP.out] at h2; obtain rfl := Option.some.inj h2; exact HOk.out
        · exact HA.out j p (by omega) h2, HO6.out, HX6.out, HB6.out⟩
      case measure => simp [intOf]; omega
    · obtain rfl : k = ps.length := by omega
      have E := Lib.hid (pd_yes HA.out)
      have x0 : wa.cell? ⟨w.heap.size, 0, none⟩ = some .nilIface := HX.out.cell 0
      have fx : wa.frozen? ⟨w.heap.size, 0, none⟩ = false := HX.out.frozen 0
      clear hk hlt
      go_wp2
      refine leaves_cons (f := 56) (args := #[.pointer (some ⟨w.heap.size, 0, none⟩)]) (by simp) (by simp [go_sem]) ?_
      refine (paid_idle ⟨w.heap.size, 0, none⟩ _).mono ?_
      rintro e u' w7 ⟨rfl, rfl, rfl⟩
      have z6 : Blk (wa.setCell ⟨w.heap.size, 0, none⟩ .nilIface) w.heap.size 69 #[.nilIface] := HX.out.set_ 0 _
      have z7 := z6.cell 0
      have hB9 : Below w.heap.size w (wa.setCell ⟨w.heap.size, 0, none⟩ .nilIface) := HB.out.setCell (p := ⟨w.heap.size, 0, none⟩) (Nat.le_refl _) _
      have hO9 := own_farC HO.out (p := ⟨w.heap.size, 0, none⟩) HWb.out .nilIface
      refine ⟨.tuple #[.slice (some ⟨g, 0, none⟩) xs.length c7, .nilIface], by simp [results, Tryd.results39, go_sem, z7], some ⟨g, 0, none⟩, c7, by (rw [E.out.1, E.out.2, ← HL.out, HLl.out]; rfl), by rw [E.out.1, ← HL.out]; exact own_rd2 icells_length hO9, hB9⟩

set_option maxRecDepth 100000 in
set_option maxHeartbeats 4000000 in
theorem implPayments_any (xs : List Int) (ps : List Pay) (hwq : ∀ p ∈ ps, wfQ p) (A B : Option Addr) (c d : Nat) (ad : Nat → Addr) (w : World) (hl : xs.length ≤ 1048576) (hl2 : ps.length ≤ 1048576) (hr : Rd w w.heap.size icells A xs) (hb : Rd w w.heap.size qcells B ps) (hE : EW 7 w ad) :
    Calls Tryd.prog 11 #[.slice A xs.length c, .slice B ps.length d] w fun e w' => e = .returned (.tuple #[.bool (cpB xs ps), .int .i64 (cdO (cpO xs ps))]) ∧ Below w.heap.size w w' := by
  have HR := Lib.hid hr
  have HRb := Lib.hid hb
  have HWq := Lib.hid hwq
  have HE := Lib.hid hE
  clear hr hb hwq hE
  go_enter Tryd.func11, Tryd.ntmps11
  go_wp2_with fail
  refine (checkNets_any xs A c ad w hl HR.out HE.out).mono ?_
  rintro e w1 ⟨rfl, rfl⟩
  obtain ⟨v0, hv0⟩ : ∃ v, erO ad (ntO xs) = v := ⟨_, rfl⟩
  have hp0 := erO_isE ad (ntO xs)
  rw [hv0] at hp0 ⊢
  have V0 := Lib.hid hv0
  have P0 := Lib.hid hp0
  clear hv0 hp0
  go_wp2_with fail
  refine (checkManyP_any ps.length d B ad w hl2 HE.out).mono ?_
  rintro e w1 ⟨rfl, rfl⟩
  obtain ⟨v1, hv1⟩ : ∃ v, erO ad (if ps.length ≤ 80 then none else some 1) = v := ⟨_, rfl⟩
  have hp1 := erO_isE ad (if ps.length ≤ 80 then none else some 1)
  rw [hv1] at hp1 ⊢
  have V1 := Lib.hid hv1
  have P1 := Lib.hid hp1
  clear hv1 hp1
  go_wp2_with (refine wpList_twoErrs rfl (.tmp 10) (.tmp 12) rfl P0.out P1.out rfl rfl ?_)
  have q0 := new_cell2 w v0 v1 69
  refine (first2_any P0.out P1.out _ _ _ q0.1 q0.2).mono ?_
  rintro e w9 ⟨rfl, rfl⟩
  have L2 : Below w.heap.size w (w.alloc (.cells #[v0, v1] 69)) := (Below.refl _ w).alloc (Nat.le_refl _) _
  obtain ⟨w3, hw3⟩ : ∃ w3, w.alloc (.cells #[v0, v1] 69) = w3 := ⟨_, rfl⟩
  rw [hw3] at L2 ⊢
  have M2 := Lib.hid L2
  clear q0 hw3 L2
  have hfv : firstV v0 v1 = erO ad (cpO xs ps) := by
    rw [← V0.out, ← V1.out, cpO]
    cases ntO xs <;> rfl
  rw [hfv]
  clear hfv
  cases hc : cpO xs ps with
  | some i =>
    have E := Lib.hid (cpB_no hc)
    have E2 := Lib.hid hc
    have hi7 := cpO_lt i hc
    rw [show erO ad (some i) = .iface 172 (.pointer (some (ad i))) from rfl]
    clear hc
    go_wp2_with fail
    refine (codeOf_O (HE.out.below M2.out (Nat.le_refl _)) i hi7).mono ?_
    rintro e w4 ⟨rfl, rfl⟩
    go_wp2
    go_ret2
    exact ⟨by (rw [E.out, E2.out]; rfl), M2.out⟩
  | none =>
    obtain ⟨hn, h80⟩ := cpO_none hc
    obtain ⟨hn6, hnx⟩ := ntO_none hn
    have E2 := Lib.hid hc
    have HPd := Lib.hid (paid_any xs ps HWq.out A B c d ad w3 hn6 hnx h80 (HR.out.keep M2.out) (HRb.out.keep M2.out) (HE.out.below M2.out (Nat.le_refl _)))
    rw [show erO ad none = .nilIface from rfl]
    clear hc hn h80 hnx
    go_wp2_with fail
    refine HPd.out.mono ?_
    rintro e w5 ⟨L, lc, he, hRL, hb5⟩
    have HB5 : Hid (Below w.heap.size w w5) := M2.out.trans (hb5.mono M2.out.size)
    cases ha : ps.all (pyOk xs.length)
    · have hpd : pdL xs ps = [] ∧ pdO xs ps = some 0 := ⟨by rw [pdL, ha]; rfl, by rw [pdO, ha]; rfl⟩
      have E : Hid (cpB xs ps = false) := by show _ = _; rw [cpB, E2.out]; simp only [ha]; rfl
      rw [hpd.1, hpd.2] at he
      have he2 : e = .returned (.tuple #[.slice L 0 lc, .iface 172 (.pointer (some (ad 0)))]) := he
      subst he2
      clear ha hpd he hRL hb5
      go_wp2
      go_ret2
      exact ⟨by (rw [E.out, E2.out]; rfl), HB5.out⟩
    · have hpd : pdL xs ps = lfL xs ps ps.length ∧ pdO xs ps = none := ⟨by rw [pdL, if_pos ha], by rw [pdO, if_pos ha]⟩
      have E : Hid (cpB xs ps = (lfL xs ps ps.length).all (fun x => decide (x = 0))) := by show _ = _; rw [cpB, E2.out]; simp only [ha]; rfl
      rw [hpd.1, hpd.2] at he
      rw [hpd.1] at hRL
      have hll : (lfL xs ps ps.length).length ≤ 1048576 := by rw [lfL_len]; exact hl
      obtain ⟨l, hl9⟩ : ∃ l, lfL xs ps ps.length = l := ⟨_, rfl⟩
      rw [hl9] at he hRL hll
      have he2 : e = .returned (.tuple #[.slice L l.length lc, .nilIface]) := he
      subst he2
      have HRL := Lib.hid hRL
      have HL9 := Lib.hid hl9
      clear ha hpd he hRL hb5 hl9
      go_wp2_with fail
      refine (containsOpen_any l L lc w5 hll HRL.out).mono ?_
      rintro e w6 ⟨rfl, rfl⟩
      cases hz : l.all (fun x => decide (x = 0))
      · have HZ := Lib.hid hz
        clear hz
        go_wp2
        go_ret2
        exact ⟨by (rw [E.out, E2.out, HL9.out, HZ.out]; rfl), HB5.out⟩
      · have HZ := Lib.hid hz
        clear hz
        go_wp2
        go_ret2
        exact ⟨by (rw [E.out, E2.out, HL9.out, HZ.out]; rfl), HB5.out⟩

end Go.Proofs.YtcdoablhnlkkmaaDoor
