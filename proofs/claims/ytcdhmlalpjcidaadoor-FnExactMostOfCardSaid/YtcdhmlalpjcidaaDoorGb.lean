/-
  The contract of the model's l01Sorted. Condition: the bottles' numbers fit their kinds.
-/
import Derived.Test.YtcdhmlalpjcidaaDoorGa
import Derived.Test.YtcdhmlalpjcidaaDoorCm
import Derived.Test.YtcdhmlalpjcidaaDoorAo
import Derived.Test.YtcdhmlalpjcidaaDoorFlat
import Derived.OwnWalk
namespace Go.Proofs.YtcdhmlalpjcidaaDoor
open Go.ChangeShapes Go.WideShapes Go.ChangeAt Go.RowKit Go.Deep

/-- A block that holds bottles, and may hold more cells behind them. -/
def OB (w : World) (g : Nat) (Z : List Bot) (cap : Nat) : Prop := ∃ cur : Array Value, w.heap[g]? = some (.cells cur 26 (0, 0)) ∧ Z.length ≤ cap ∧ cap ≤ maxLen ∧ cur.size = cap * 2 ∧ cur.toList.take (Z.length * 2) = ccells Z
theorem OB.lt {w : World} {g cap : Nat} {Z : List Bot} (h : OB w g Z cap) : g < w.heap.size := by
  obtain ⟨cur, hg, -⟩ := h
  exact (Array.getElem?_eq_some_iff.1 hg).1
theorem OB.below {w w' : World} {g cap B : Nat} {Z : List Bot} (h : OB w g Z cap) (hb : Below B w w') (hg : g < B) : OB w' g Z cap := by
  obtain ⟨cur, h1, h2⟩ := h
  exact ⟨cur, (hb.block g hg).trans h1, h2⟩
theorem OB.keep {w w' : World} {g cap : Nat} {Z : List Bot} (h : OB w g Z cap) (hb : Below w.heap.size w w') : OB w' g Z cap := h.below hb h.lt
theorem OB.cell {w : World} {g cap : Nat} {Z : List Bot} (h : OB w g Z cap) {j : Nat} {u : Value} (hu : (ccells Z)[j]? = some u) : w.cell? ⟨g, j, none⟩ = some u := by
  obtain ⟨cur, hg, -, -, -, ht⟩ := h
  rw [cell_of_row w g j cur _ (0, 0) hg]
  rw [← ht, List.getElem?_take] at hu
  split at hu
  · simpa using hu
  · cases hu
theorem OB.kind {w : World} {g cap : Nat} {Z : List Bot} (h : OB w g Z cap) {k : Nat} {a b : Int} (hk : Z[k]? = some (a, b)) : w.cell? ⟨g, k * 2, none⟩ = some (.int .u8 a) := by
  obtain ⟨hl, he⟩ := List.getElem?_eq_some_iff.1 hk
  exact h.cell (by rw [Nat.mul_comm, ccells_even Z k hl, he])
theorem OB.year {w : World} {g cap : Nat} {Z : List Bot} (h : OB w g Z cap) {k : Nat} {a b : Int} (hk : Z[k]? = some (a, b)) : w.cell? ⟨g, k * 2 + 1, none⟩ = some (.int .i16 b) := by
  obtain ⟨hl, he⟩ := List.getElem?_eq_some_iff.1 hk
  exact h.cell (by rw [Nat.mul_comm, ccells_odd Z k hl, he])
theorem OB.frozen {w : World} {g cap : Nat} {Z : List Bot} (h : OB w g Z cap) (j : Nat) : w.frozen? ⟨g, j, none⟩ = false := by
  obtain ⟨cur, hg, -⟩ := h
  simp [World.frozen?, hg]
theorem OB.set {w : World} {g cap : Nat} {Z : List Bot} (h : OB w g Z cap) {k : Nat} (hk : k < Z.length) (b : Bot) : OB ((w.setCell ⟨g, k * 2, none⟩ (.int .u8 b.1)).setCell ⟨g, k * 2 + 1, none⟩ (.int .i16 b.2)) g (Z.set k b) cap := by
  obtain ⟨cur, hg, h2, h3, h4, h5⟩ := h
  refine ⟨(cur.setIfInBounds (k * 2) (.int .u8 b.1)).setIfInBounds (k * 2 + 1) (.int .i16 b.2), ?_, by rw [List.length_set]; exact h2, h3, by simp [h4], ?_⟩
  · have hlt := (Array.getElem?_eq_some_iff.1 hg).1
    simp only [World.setCell, Array.getElem?_modify, if_true]
    rw [hg]
    simp
  · rw [← ccells_set Z k b hk, ← h5, Nat.mul_comm 2 k]
    simp [List.take_set]
theorem OB.own {w : World} {g cap base : Nat} {Z : List Bot} (h : OB w g Z cap) (hb : base ≤ g) : w.ownsRow base 26 2 (.slice (some ⟨g, 0, none⟩) Z.length cap) Z.length (ccells Z) := by
  obtain ⟨cur, hg, h2, h3, h4, h5⟩ := h
  exact ⟨by rw [ccells_length]; omega, .inr ⟨g, cap, cur, rfl, hb, hg, h2, h3, h4, h5⟩⟩
theorem OB.of {w : World} {base : Nat} {v : Value} {Z : List Bot} (h : w.ownsRow base 26 2 v Z.length (ccells Z)) : (v = .slice none 0 0 ∧ Z = []) ∨ ∃ g cap, v = .slice (some ⟨g, 0, none⟩) Z.length cap ∧ base ≤ g ∧ OB w g Z cap := by
  obtain ⟨-, ⟨rfl, h0⟩ | ⟨g, cap, cur, rfl, hb, hg, h2, h3, h4, h5⟩⟩ := h
  · exact .inl ⟨rfl, List.eq_nil_of_length_eq_zero h0⟩
  · exact .inr ⟨g, cap, rfl, hb, cur, hg, h2, h3, h4, h5⟩

theorem keptIns {wr W W' : World} {n g o o' : Nat} {v1 v2 v3 v4 : Value} (hn : n < wr.heap.size) (hg : g < wr.heap.size) (h0 : Below wr.heap.size wr W) (hb : Below W.heap.size W W') (h1 : W.cell? ⟨n, 0, none⟩ = some v1) (h2 : W.cell? ⟨n, 1, none⟩ = some v2) (h3 : W.cell? ⟨g, o, none⟩ = some v3) (h4 : W.cell? ⟨g, o', none⟩ = some v4) :
    W'.cell? ⟨n, 0, none⟩ = some v1 ∧ W'.cell? ⟨n, 1, none⟩ = some v2 ∧ W'.cell? ⟨g, o, none⟩ = some v3 ∧ W'.cell? ⟨g, o', none⟩ = some v4 ∧ Below wr.heap.size wr W' :=
  have ln := Nat.lt_of_lt_of_le hn h0.size
  have lg := Nat.lt_of_lt_of_le hg h0.size
  ⟨(hb.cell ln).trans h1, (hb.cell ln).trans h2, (hb.cell lg).trans h3, (hb.cell lg).trans h4, h0.trans (hb.mono h0.size)⟩
theorem cmp_lt (a b : Bot) : decide (cmpB a b < 0) = ltB a b := by
  unfold cmpB ltB
  by_cases h1 : a.1 < b.1
  · simp [h1]
  · by_cases h2 : b.1 < a.1
    · have h3 : ¬ a.1 = b.1 := by omega
      simp [h1, h2, h3]
    · have h3 : a.1 = b.1 := by omega
      by_cases h4 : a.2 < b.2
      · simp [h3, h4]
      · by_cases h5 : b.2 < a.2 <;> simp [h3, h4, h5]

set_option maxRecDepth 100000 in
set_option maxHeartbeats 4000000 in
theorem l01Sorted_any (X : List Bot) (hwf : ∀ b ∈ X, wfB b) (hl : X.length ≤ 144) (ao : Option Addr) (c : Nat) (w : World) (hnone : ao = none → X.length = 0 ∧ c = 0)
    (hc : ∀ ad, ao = some ad → ∀ j u, (ccells X)[j]? = some u → w.cell? (ad.add j) = some u) (hlt : ∀ ad, ao = some ad → ad.block < w.heap.size) :
    Calls Tryd.prog 35 #[.slice ao X.length c] w fun e w' => ∃ g cap Y, e = .returned (.slice (some ⟨g, 0, none⟩) Y.length cap) ∧ Y.Perm X ∧ SrtTo Y Y.length ∧ w.heap.size ≤ g ∧ OB w' g Y cap ∧ Below w.heap.size w w' := by
  have HW := Lib.hid hwf
  clear hwf
  obtain ⟨i0, hi, hz0, hz1, hz2⟩ := info_parts Tryd.infoBt
  have HI := Lib.hid hi
  have HZ0 := Lib.hid hz0
  have HZ1 := Lib.hid hz1
  have HZ2 := Lib.hid hz2
  clear hi hz0 hz1 hz2
  have ho : (w.alloc (.cells #[] 26)).ownsRow w.heap.size 26 2 (.slice (some ⟨w.heap.size, 0, none⟩) 0 0) 0 [] := ⟨rfl, .inr ⟨w.heap.size, 0, #[], rfl, Nat.le_refl _, heap_alloc_new w _, Nat.le_refl _, by unfold maxLen; omega, rfl, rfl⟩⟩
  have hb : Below w.heap.size w (w.alloc (.cells #[] 26)) := (by repeat (first | exact Below.refl _ _ | refine Below.drew ?_ | refine Below.alloc ?_ (by simp <;> omega) _ | refine Below.setCell ?_ (by simp <;> omega) _))
  have HO := Lib.hid ho
  have HB := Lib.hid hb
  clear ho hb
  cases ao with
  | none =>
    obtain ⟨h0, rfl⟩ := hnone rfl
    obtain rfl := List.eq_nil_of_length_eq_zero h0
    clear hc hnone h0 hl hlt
    go_enter Tryd.func35, Tryd.ntmps35
    go_wp2_with (refine wpList_append_own_none rfl (.tmp 7) (.tmp 8) 40 rfl w.heap.size 26 i0 2 Tryd.underlying40 HI.out _ 0 [] rfl HO.out rfl ?_)
    go_loopw [4] (fun i wr => i = .int .i64 1 ∧ wr = w.alloc (.cells #[] 26)) (fun _ _ => 0)
    case atStart => exact ⟨rfl, rfl⟩
    case round =>
      obtain ⟨rfl, rfl⟩ := hrel
      go_wp2_with fail
      go_ret
      exact ⟨w.heap.size, 0, [], rfl, List.Perm.refl _, fun p q a b h1 h2 => by simp at h2, Nat.le_refl _, ⟨#[], heap_alloc_new w _, by simp, by simp, rfl, rfl⟩, HB.out⟩
  | some ad =>
    have HC := Lib.hid (hc ad rfl)
    have HC2 : Hid (∀ j, (ad.add j).block < w.heap.size) := fun j => by rw [show (ad.add j).block = ad.block by unfold Addr.add; split <;> rfl]; exact hlt ad rfl
    clear hc hnone hlt
    go_enter Tryd.func35, Tryd.ntmps35
    go_wp2_with (at_builtin; refine wpList_append_own _ rfl (.tmp 7) (.tmp 8) 40 rfl w.heap.size 26 i0 (.agg #[.int .u8 0, .int .i16 0]) 2 4 Tryd.underlying40 HI.out HZ0.out HZ1.out HZ2.out rfl (by decide) _ _ _ rfl HO.out ad X.length c (ccells X) rfl ?c1 ?c2 ?c3 ?c4 ?c5 ?c6 ?_)
    case c1 => rw [ccells_length]; omega
    case c2 => exact fun j u hu => (HB.out.cell (HC2.out _)).trans (HC.out j u hu)
    case c3 => intro u hu; exact Array.all_eq_true_iff_forall_mem.1 (ccells_one X) u (by simpa using hu)
    case c4 => unfold maxLen; omega
    case c5 => omega
    case c6 => exact HB.out.size
    intro v' w1 hv' hg1 hne
    have hv2 : w1.ownsRow w.heap.size 26 2 v' X.length (ccells X) := by simpa using hv'
    obtain ⟨rfl, -⟩ | ⟨g, cap, rfl, hg, hob⟩ := OB.of hv2
    · exact absurd rfl hne
    have HB1 : Hid (Below w.heap.size w w1) := HB.out.grown hg1 (by simp) (fun j hj => by simp [Value.ownBlock] at hj; omega)
    have HOB := Lib.hid hob
    have HG := Lib.hid hg
    clear hv' hg1 hne hv2 hob hg HO HB HC HC2
    go_wp2_with fail
    go_loopw [4] (fun i wr => ∃ (k : Nat) (Z : List Bot), 1 ≤ k ∧ k ≤ X.length + 1 ∧ i = .int .i64 k ∧ Z.Perm X ∧ SrtTo Z k ∧ OB wr g Z cap ∧ Below w.heap.size w wr) (fun i _ => X.length - (intOf i).toNat)
    case atStart => exact ⟨1, X, by omega, by omega, rfl, List.Perm.refl _, fun p q a b h1 h2 => by omega, HOB.out, HB1.out⟩
    case round =>
      clear HOB HB1
      obtain ⟨k, Z, hk1, hk2, rfl, q1, q2, q3, q4⟩ := hrel
      have Q1 := Lib.hid q1
      have Q2 := Lib.hid q2
      have Q3 := Lib.hid q3
      have Q4 := Lib.hid q4
      have QL := Lib.hid q1.length_eq
      clear q1 q2 q3 q4
      by_cases hlt : k < X.length
      · obtain ⟨⟨x, y⟩, hx⟩ : ∃ x, Z[k]? = some x := ⟨_, List.getElem?_eq_getElem (by rw [QL.out]; exact hlt)⟩
        have e1 := Q3.out.kind hx
        have e2 := Q3.out.year hx
        have hk0 : (0 : Int) ≤ (k : Int) := Int.natCast_nonneg _
        have hk8 : (k : Int) < X.length := by omega
        have HI0 := Lib.hid (InsAt.start Q1.out Q2.out hx)
        have g1 : OB (wr.alloc (.cells #[.int .u8 x, .int .i16 y] 26)) g Z cap := Q3.out.keep ((Below.refl _ _).alloc (Nat.le_refl _) _)
        have g2 : Blk (wr.alloc (.cells #[.int .u8 x, .int .i16 y] 26)) wr.heap.size 26 #[.int .u8 x, .int .i16 y] := Blk.new _ _ _
        have g3 : Below w.heap.size w (wr.alloc (.cells #[.int .u8 x, .int .i16 y] 26)) := Q4.out.alloc Q4.out.size _
        have hgN : g < wr.heap.size := Q3.out.lt
        have hwN := Q4.out.size
        have G1 := Lib.hid g1
        have G2 := Lib.hid g2
        have G3 := Lib.hid g3
        clear g1 g2 g3 hx Q1 Q2 Q3 Q4
        go_wp2_with fail
        obtain ⟨wo, hwo⟩ : ∃ wo, wo = wr := ⟨_, rfl⟩
        subst hwo
        go_loopw [6] (fun i w2 => ∃ (kk : Nat) (Z2 : List Bot), i = .int .i64 kk ∧ InsAt X Z2 (x, y) k kk ∧ Z2.length = X.length ∧ OB w2 g Z2 cap ∧ Blk w2 wo.heap.size 26 #[.int .u8 x, .int .i16 y] ∧ Below w.heap.size w w2) (fun i _ => (intOf i).toNat)
        case atStart => exact ⟨k, Z, rfl, HI0.out, QL.out, G1.out, G2.out, G3.out⟩
        case round =>
          clear HI0 G1 G2 G3 e1 e2
          obtain ⟨kk, Z2, rfl, q1, q5, q2, q3, q4⟩ := hrel
          have Q1 := Lib.hid q1
          have Q2 := Lib.hid q2
          have Q3 := Lib.hid q3
          have Q4 := Lib.hid q4
          have hkk := q1.1
          have hkl : kk < Z2.length := by have := q1.2.1; omega
          have hK0 : (0 : Int) ≤ (kk : Int) := Int.natCast_nonneg _
          have hK8 : (kk : Int) < X.length := by omega
          clear q1 q2 q3 q4
          by_cases hz : kk = 0
          · subst hz
            go_wp2_with fail
            go_region
            have D1 := Q2.out.keep ((Below.refl _ _).drew)
            have D2 := Blk.keep Q3.out ((Below.refl _ _).drew)
            have D3 := Q4.out.drew
            obtain ⟨W2, hW2⟩ : ∃ W, wr.drew = W := ⟨_, rfl⟩
            have d1 : OB W2 g Z2 cap := by rw [← hW2]; exact D1
            have d2 : Blk W2 wo.heap.size 26 #[.int .u8 x, .int .i16 y] := by rw [← hW2]; exact D2
            have d3 : Below w.heap.size w W2 := by rw [← hW2]; exact D3
            rw [hW2]
            clear hW2
            obtain ⟨⟨a0, b0⟩, hab⟩ : ∃ q, Z2[0]? = some q := ⟨_, List.getElem?_eq_getElem (by omega)⟩
            have p1 := d1.kind hab
            have p2 := d1.year hab
            have f1 := d1.frozen (0 * 2)
            have f2 := d1.frozen (0 * 2 + 1)
            have x1 : W2.cell? ⟨wo.heap.size, 0, none⟩ = some (.int .u8 x) := d2.cell 0
            have x2 : W2.cell? ⟨wo.heap.size, 1, none⟩ = some (.int .i16 y) := d2.cell 1
            have m1 : OB ((W2.setCell ⟨g, 0 * 2, none⟩ (.int .u8 x)).setCell ⟨g, 0 * 2 + 1, none⟩ (.int .i16 y)) g (Z2.set 0 (x, y)) cap := d1.set (by omega) (x, y)
            have mb : Below w.heap.size w ((W2.setCell ⟨g, 0 * 2, none⟩ (.int .u8 x)).setCell ⟨g, 0 * 2 + 1, none⟩ (.int .i16 y)) := (d3.setCell (p := ⟨g, 0 * 2, none⟩) HG.out _).setCell (p := ⟨g, 0 * 2 + 1, none⟩) HG.out _
            simp only [Nat.zero_mul, Nat.zero_add] at p1 p2 f1 f2 m1 mb
            have M1 := Lib.hid m1
            have MB := Lib.hid mb
            have HAB := Lib.hid hab
            clear d1 d2 d3 m1 mb hab
            go_wp2_with fail
            go_roundw
            case rel => exact ⟨k + 1, Z2.set 0 (x, y), by omega, by omega, by go_num, (Q1.out.done (fun j y hj => by omega)).1, (Q1.out.done (fun j y hj => by omega)).2, M1.out, MB.out⟩
            case measure => simp [intOf]; omega
          · obtain ⟨m, hm⟩ : ∃ m, m + 1 = kk := ⟨kk - 1, by omega⟩
            obtain ⟨⟨a, b⟩, hab⟩ : ∃ q, Z2[m]? = some q := ⟨_, List.getElem?_eq_getElem (by omega)⟩
            have c1 := Q2.out.kind hab
            have c2 := Q2.out.year hab
            have x1 : wr.cell? ⟨wo.heap.size, 0, none⟩ = some (.int .u8 x) := Q3.out.cell 0
            have x2 : wr.cell? ⟨wo.heap.size, 1, none⟩ = some (.int .i16 y) := Q3.out.cell 1
            have hM0 : (0 : Int) ≤ (m : Int) := Int.natCast_nonneg _
            have hM8 : (m : Int) < X.length := by omega
            have hKp : (0 : Int) < (kk : Int) := by omega
            have hKn : 0 < kk := by omega
            have hKs : (kk : Int) - 1 = m := by omega
            have hKw : IntKind.i64.wrap (m : Int) = m := IntWalk.i64_in _ ⟨by omega, by omega⟩
            have hnN := Q3.out.lt
            have hgN2 := Q2.out.lt
            have hs0 : Below wr.heap.size wr wr := Below.refl _ _
            have HAB := Lib.hid hab
            have HM := Lib.hid hm
            clear hab hz hm
            have hcl : decide (cmpB (x, y) (a, b) < 0) = ltB (x, y) (a, b) := cmp_lt _ _
            obtain ⟨cv, hcv⟩ : ∃ cv, cmpB (x, y) (a, b) = cv := ⟨_, rfl⟩
            have hcall := fun W => specCmp_any x y a b W
            simp only [hcv] at hcall hcl
            have HCA := Lib.hid hcall
            have HCL := Lib.hid hcl
            clear hcall hcl hcv
            by_cases hneg : cv < 0
            · go_wp2_with fail
              go_region_held3 (fun w' => w'.cell? ⟨wo.heap.size, 0, none⟩ = some (.int .u8 x) ∧ w'.cell? ⟨wo.heap.size, 1, none⟩ = some (.int .i16 y) ∧ w'.cell? ⟨g, m * 2, none⟩ = some (.int .u8 a) ∧ w'.cell? ⟨g, m * 2 + 1, none⟩ = some (.int .i16 b) ∧ Below wr.heap.size wr w') ((refine ⟨?_, ?_, ?_, ?_, ?_⟩ <;> (first | assumption | exact Below.drew ‹_› | (simp [*]; done))))
                (first
                  | (go_at_call 59; refine (HCA.out _).mono ?_; rintro e w3 ⟨rfl, hb⟩; obtain ⟨r0, r1, r2, r3, r4⟩ := keptIns (n := wo.heap.size) (g := g) (o := m * 2) (o' := m * 2 + 1) (v1 := .int .u8 x) (v2 := .int .i16 y) (v3 := .int .u8 a) (v4 := .int .i16 b) hnN hgN2 (by first | assumption | exact Below.drew (by assumption)) hb (by assumption) (by assumption) (by assumption) (by assumption)))
              have HR : Hid (Below wr.heap.size wr w3) := (by assumption : Below wr.heap.size wr w3)
              have D1 := Q2.out.keep HR.out
              have D2 := Blk.keep Q3.out HR.out
              have D3 := Q4.out.trans (HR.out.mono Q4.out.size)
              clear r0 r1 r2 r3 r4 hb hs0
              obtain ⟨⟨a0, b0⟩, hab0⟩ : ∃ q, Z2[kk]? = some q := ⟨_, List.getElem?_eq_getElem (by omega)⟩
              have p1 := D1.kind hab0
              have p2 := D1.year hab0
              have f1 := D1.frozen (kk * 2)
              have f2 := D1.frozen (kk * 2 + 1)
              have c1 := D1.kind HAB.out
              have c2 := D1.year HAB.out
              have m1 : OB ((w3.setCell ⟨g, kk * 2, none⟩ (.int .u8 a)).setCell ⟨g, kk * 2 + 1, none⟩ (.int .i16 b)) g (Z2.set kk (a, b)) cap := D1.set (by omega) (a, b)
              have m2 : Blk ((w3.setCell ⟨g, kk * 2, none⟩ (.int .u8 a)).setCell ⟨g, kk * 2 + 1, none⟩ (.int .i16 b)) wo.heap.size 26 #[.int .u8 x, .int .i16 y] := (D2.far (by show _ ≠ g; omega) _).far (by show _ ≠ g; omega) _
              have mb : Below w.heap.size w ((w3.setCell ⟨g, kk * 2, none⟩ (.int .u8 a)).setCell ⟨g, kk * 2 + 1, none⟩ (.int .i16 b)) := (D3.setCell (p := ⟨g, kk * 2, none⟩) HG.out _).setCell (p := ⟨g, kk * 2 + 1, none⟩) HG.out _
              have hst : InsAt X (Z2.set kk (a, b)) (x, y) k m := by
                have hq := Q1.out
                have he := HM.out
                subst he
                exact hq.step HAB.out (by rw [← HCL.out]; exact decide_eq_true hneg)
              have M1 := Lib.hid m1
              have M2 := Lib.hid m2
              have MB := Lib.hid mb
              have HST := Lib.hid hst
              clear D1 D2 D3 m1 m2 mb hab0 hst hneg Q1 Q2 Q3 Q4
              go_wp2_with fail
              go_roundw
              case rel => exact ⟨m, Z2.set kk (a, b), by go_num, HST.out, by rw [List.length_set]; omega, M1.out, M2.out, MB.out⟩
              case measure => simp [intOf]; omega
            · go_wp2_with fail
              go_region_held3 (fun w' => w'.cell? ⟨wo.heap.size, 0, none⟩ = some (.int .u8 x) ∧ w'.cell? ⟨wo.heap.size, 1, none⟩ = some (.int .i16 y) ∧ w'.cell? ⟨g, m * 2, none⟩ = some (.int .u8 a) ∧ w'.cell? ⟨g, m * 2 + 1, none⟩ = some (.int .i16 b) ∧ Below wr.heap.size wr w') ((refine ⟨?_, ?_, ?_, ?_, ?_⟩ <;> (first | assumption | exact Below.drew ‹_› | (simp [*]; done))))
                (first
                  | (go_at_call 59; refine (HCA.out _).mono ?_; rintro e w3 ⟨rfl, hb⟩; obtain ⟨r0, r1, r2, r3, r4⟩ := keptIns (n := wo.heap.size) (g := g) (o := m * 2) (o' := m * 2 + 1) (v1 := .int .u8 x) (v2 := .int .i16 y) (v3 := .int .u8 a) (v4 := .int .i16 b) hnN hgN2 (by first | assumption | exact Below.drew (by assumption)) hb (by assumption) (by assumption) (by assumption) (by assumption)))
              have HR : Hid (Below wr.heap.size wr w3) := (by assumption : Below wr.heap.size wr w3)
              have D1 := Q2.out.keep HR.out
              have D2 := Blk.keep Q3.out HR.out
              have D3 := Q4.out.trans (HR.out.mono Q4.out.size)
              clear r0 r1 r2 r3 r4 hb hs0
              obtain ⟨W2, hW2⟩ : ∃ W, w3 = W := ⟨_, rfl⟩
              have d1 : OB W2 g Z2 cap := by rw [← hW2]; exact D1
              have d2 : Blk W2 wo.heap.size 26 #[.int .u8 x, .int .i16 y] := by rw [← hW2]; exact D2
              have d3 : Below w.heap.size w W2 := by rw [← hW2]; exact D3
              rw [hW2]
              clear hW2
              obtain ⟨⟨a0, b0⟩, hab⟩ : ∃ q, Z2[kk]? = some q := ⟨_, List.getElem?_eq_getElem (by omega)⟩
              have p1 := d1.kind hab
              have p2 := d1.year hab
              have f1 := d1.frozen (kk * 2)
              have f2 := d1.frozen (kk * 2 + 1)
              have x1 : W2.cell? ⟨wo.heap.size, 0, none⟩ = some (.int .u8 x) := d2.cell 0
              have x2 : W2.cell? ⟨wo.heap.size, 1, none⟩ = some (.int .i16 y) := d2.cell 1
              have m1 : OB ((W2.setCell ⟨g, kk * 2, none⟩ (.int .u8 x)).setCell ⟨g, kk * 2 + 1, none⟩ (.int .i16 y)) g (Z2.set kk (x, y)) cap := d1.set (by omega) (x, y)
              have mb : Below w.heap.size w ((W2.setCell ⟨g, kk * 2, none⟩ (.int .u8 x)).setCell ⟨g, kk * 2 + 1, none⟩ (.int .i16 y)) := (d3.setCell (p := ⟨g, kk * 2, none⟩) HG.out _).setCell (p := ⟨g, kk * 2 + 1, none⟩) HG.out _
              have M1 := Lib.hid m1
              have MB := Lib.hid mb
              have HAB := Lib.hid hab
              clear d1 d2 d3 m1 mb hab
              go_wp2_with fail
              go_roundw
              case rel => exact ⟨k + 1, Z2.set kk (x, y), by omega, by omega, by go_num, (Q1.out.done (fun j y hj hy => by have he := HM.out; obtain rfl : j = m := (by omega); rw [HAB.out] at hy; cases hy; rw [← HCL.out]; exact decide_eq_false (by omega))).1, (Q1.out.done (fun j y hj hy => by have he := HM.out; obtain rfl : j = m := (by omega); rw [HAB.out] at hy; cases hy; rw [← HCL.out]; exact decide_eq_false (by omega))).2, M1.out, MB.out⟩
              case measure => simp [intOf]; omega
      · have hge : ¬ (k : Int) < X.length := by omega
        go_wp2_with fail
        go_ret
        exact ⟨g, cap, Z, by rw [QL.out]; rfl, Q1.out, fun p q a b h1 h2 => Q2.out p q a b h1 (by have := QL.out; omega), HG.out, Q3.out, Q4.out⟩
end Go.Proofs.YtcdhmlalpjcidaaDoor
