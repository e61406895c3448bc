/-
  Rows that are turned: the model's l05Turned and l05Whole. Condition: a valid row, valid walkers.
-/
import Derived.Test.YtcalooahafgfbaaDoorYq
namespace Go.Proofs.YtcalooahafgfbaaDoor
open Go.ChangeShapes Go.WideShapes Go.ChangeAt Go.RowKit Go.Deep

theorem by_mod (v m tu : Int) : ((m % 8) * v * tu) % 8 = (v * m * tu) % 8 := by
  have h : v * m * tu = (m % 8) * v * tu + 8 * (v * (m / 8) * tu) := by
    have e : m = m % 8 + 8 * (m / 8) := (Int.emod_add_mul_ediv m 8).symm
    calc v * m * tu = v * (m % 8 + 8 * (m / 8)) * tu := by rw [← e]
      _ = (m % 8) * v * tu + 8 * (v * (m / 8) * tu) := by
        rw [Int.mul_add, Int.add_mul, Int.mul_comm v (m % 8)]
        congr 1
        rw [Int.mul_left_comm v 8, Int.mul_assoc 8]
  rw [h, Int.add_mul_emod_self_left]
theorem mod8 (s : Int) : Int.tmod (Int.tmod s 8 + 8) 8 = s % 8 := by
  have h : Int.tmod s 8 = if 0 ≤ s then s % 8 else -((-s) % 8) := by
    split
    · rw [Int.tmod_eq_emod_of_nonneg (by assumption)]
    · have := Int.neg_tmod (-s) 8
      rw [Int.neg_neg] at this
      rw [this, Int.tmod_eq_emod_of_nonneg (by omega)]
  have h2 : 0 ≤ Int.tmod s 8 + 8 := by rw [h]; split <;> omega
  rw [Int.tmod_eq_emod_of_nonneg h2, h]
  split <;> omega

def W64 (a : Int) : Prop := IntKind.i64.wrap a = a ∧ wrap64 a = a
theorem w64 {a : Int} (h : -1000000000000 ≤ a ∧ a ≤ 1000000000000) : W64 a := ⟨IntWalk.i64_in _ ⟨by omega, by omega⟩, IntWalk.wrap64_in _ ⟨by omega, by omega⟩⟩
theorem mul_tu {p tu : Int} (hp : 0 ≤ p ∧ p ≤ 420) (ht : -7 ≤ tu ∧ tu ≤ 7) : -10000 ≤ p * tu ∧ p * tu ≤ 10000 := by
  have : tu = -7 ∨ tu = -6 ∨ tu = -5 ∨ tu = -4 ∨ tu = -3 ∨ tu = -2 ∨ tu = -1 ∨ tu = 0 ∨ tu = 1 ∨ tu = 2 ∨ tu = 3 ∨ tu = 4 ∨ tu = 5 ∨ tu = 6 ∨ tu = 7 := by omega
  rcases this with h | h | h | h | h | h | h | h | h | h | h | h | h | h | h <;> rw [h] <;> omega
theorem mul_7 {m v : Int} (hm : 0 ≤ m ∧ m ≤ 7) (hv : 0 ≤ v ∧ v ≤ 60) : 0 ≤ m * v ∧ m * v ≤ 420 := by
  refine ⟨Int.mul_nonneg hm.1 hv.1, ?_⟩
  have h1 : m * v ≤ 7 * v := Int.mul_le_mul_of_nonneg_right hm.2 hv.1
  omega
theorem tmod_in (s : Int) : -8 < Int.tmod s 8 ∧ Int.tmod s 8 < 8 :=
  ⟨by have := Int.lt_tmod_of_pos s (by decide : (0 : Int) < 8); omega, Int.tmod_lt_of_pos s (by decide)⟩
theorem turn_facts (a v m tu : Int) (ha : 0 ≤ a ∧ a ≤ 7) (hv : 0 ≤ v ∧ v ≤ 60) (hm : 0 ≤ m) (ht : -7 ≤ tu ∧ tu ≤ 7) : ∃ m8 p q s s8 y : Int, Int.tmod m 8 = m8 ∧ m % 8 = m8 ∧ m8 * v = p ∧ p * tu = q ∧ a + q = s ∧ Int.tmod s 8 = s8 ∧ Int.tmod (s8 + 8) 8 = y ∧ (s8 + 8) % 8 = y ∧ (a + v * m * tu) % 8 = y ∧ 0 ≤ s8 + 8 ∧ 0 ≤ y ∧ y ≤ 7 ∧ W64 a ∧ W64 m8 ∧ W64 p ∧ W64 q ∧ W64 s ∧ W64 s8 ∧ W64 (s8 + 8) ∧ W64 y ∧ W64 tu ∧ IntKind.u8.wrap y = y := by
  have h8 : Int.tmod m 8 = m % 8 := Int.tmod_eq_emod_of_nonneg hm
  have hmb : 0 ≤ m % 8 ∧ m % 8 ≤ 7 := by omega
  have hpb := mul_7 hmb hv
  have hqb := mul_tu hpb ht
  have hsb := tmod_in (a + m % 8 * v * tu)
  have hmd := mod8 (a + m % 8 * v * tu)
  have hs8 : 0 ≤ Int.tmod (a + m % 8 * v * tu) 8 + 8 := by omega
  have hyy : (a + v * m * tu) % 8 = (a + m % 8 * v * tu) % 8 := by rw [Int.add_emod a, ← by_mod v m tu, ← Int.add_emod]
  obtain ⟨y, hy⟩ : ∃ y, (a + m % 8 * v * tu) % 8 = y := ⟨_, rfl⟩
  have hyb : 0 ≤ y ∧ y ≤ 7 := by omega
  rw [hy] at hmd hyy
  obtain ⟨s8, hs8e⟩ : ∃ s8, Int.tmod (a + m % 8 * v * tu) 8 = s8 := ⟨_, rfl⟩
  rw [hs8e] at hmd hs8 hsb
  have hme : (s8 + 8) % 8 = y := by rw [← Int.tmod_eq_emod_of_nonneg hs8, hmd]
  obtain ⟨q, hq⟩ : ∃ q, m % 8 * v * tu = q := ⟨_, rfl⟩
  obtain ⟨p, hp⟩ : ∃ p, m % 8 * v = p := ⟨_, rfl⟩
  rw [hp] at hpb
  rw [hq] at hqb hs8e
  obtain ⟨m8, hm8⟩ : ∃ m8, m % 8 = m8 := ⟨_, rfl⟩
  rw [hm8] at hmb
  refine ⟨m8, p, q, a + q, s8, y, by rw [h8, hm8], hm8, by rw [← hm8, hp], by rw [← hq, hp], rfl, hs8e, hmd, hme, hyy, hs8, hyb.1, hyb.2, w64 ⟨?_, ?_⟩, w64 ⟨?_, ?_⟩, w64 ⟨?_, ?_⟩, w64 ⟨?_, ?_⟩, w64 ⟨?_, ?_⟩, w64 ⟨?_, ?_⟩, w64 ⟨?_, ?_⟩, w64 ⟨?_, ?_⟩, w64 ⟨?_, ?_⟩, IntWalk.u8_in _ ⟨?_, ?_⟩⟩
  all_goals (clear hyy hmd hme hq hp hy hs8e h8 hm8; omega)

set_option maxRecDepth 100000 in
set_option maxHeartbeats 4000000 in
theorem l05Turned_any (n : Nat) (h1 : 1 ≤ n) (h60 : n ≤ 60) (x : Wal) (hx : vOk n x = true) (m : Int) (hm : 0 ≤ m ∧ m ≤ 20000000) (r : List Int) (hrn : r.length = n) (hr7 : ∀ a ∈ r, 0 ≤ a ∧ a ≤ 7) (A : Option Addr) (c : Nat) (w : World) (hr : Rd w w.heap.size ycells A r) :
    Calls Tryd.prog 10 #[.slice A r.length c, .agg (vcells x).toArray, .int .i64 m] w fun e w' => ∃ A' c', e = .returned (.slice A' n c') ∧ w'.ownsRow w.heap.size 5 1 (.slice A' n c') n ((tnR r (byW n x m)).flatMap ycells) ∧ Below w.heap.size w w' := by
  obtain ⟨i0, hi, hz0, hz1, hz2⟩ := info_parts Tryd.infoY
  have HI := Lib.hid hi
  have HZ0 := Lib.hid hz0
  have HZ1 := Lib.hid hz1
  have HZ2 := Lib.hid hz2
  clear hi hz0 hz1 hz2
  have hK0 : Blk (w.alloc (.cells (vcells x).toArray 36)) w.heap.size 36 (vcells x).toArray := Blk.new w _ _
  have hB0 : Below w.heap.size w (w.alloc (.cells (vcells x).toArray 36)) := (Below.refl _ w).alloc (Nat.le_refl _) _
  obtain ⟨W1, hW1⟩ : ∃ W1, w.alloc (.cells (vcells x).toArray 36) = W1 := ⟨_, rfl⟩
  rw [hW1] at hK0 hB0
  have HR := Lib.hid (hr.keep hB0)
  have HK0 := Lib.hid hK0
  have HB0 := Lib.hid hB0
  have HRN := Lib.hid hrn
  have HR7 := Lib.hid hr7
  have HXO := Lib.hid (vOk_out hx)
  have HX := Lib.hid hx
  have HM := Lib.hid hm
  have hrl : r.length ≤ 60 := by omega
  clear hK0 hB0 hr hrn hr7 hx hm
  go_enter Tryd.func10, Tryd.ntmps10
  go_wp2_with (at_builtin; refine wpList_append_any _ rfl (.tmp 11) (.tmp 12) 31 31 rfl W1.heap.size 5 i0 (.int .u8 0) 1 1 Tryd.underlying31 HI.out HZ0.out HZ1.out HZ2.out rfl (by decide) _ 0 [] rfl ?own _ r.length (r.flatMap ycells) rfl ?src ?c3 ?c4 ?c5 ?_)
  case own => exact empty_own W1 _ 1
  case src => exact src_of_rd _ Tryd.underlying31 ycells_length ycells_one (HR.out.keep ((Below.refl _ W1).alloc (Nat.le_refl _) _))
  case c3 => unfold maxLen; omega
  case c4 => omega
  case c5 => simp
  intro v' w2 hown hg _
  have hB : Below W1.heap.size W1 w2 := ((Below.refl _ W1).alloc (Nat.le_refl _) _).grown hg (by simp) (fun k e => by
    have e2 : W1.heap.size = k := by simpa [Value.ownBlock] using e
    omega)
  have hown2 : w2.ownsRow W1.heap.size 5 1 v' r.length (r.flatMap ycells) := by simpa using hown
  obtain ⟨A', c', rfl, -, -⟩ := own_rd ycells_length hown2
  clear hown hg
  have HO2 := Lib.hid hown2
  have HB2 : Hid (Below w.heap.size w w2) := HB0.out.trans (hB.mono HB0.out.size)
  have HK2 : Hid (Blk w2 w.heap.size 36 (vcells x).toArray) := HK0.out.keep hB
  have HW1 : Hid (w.heap.size < W1.heap.size) := HK0.out.lt
  clear hB hown2 hW1
  go_wp2_with (refine wpList_load_row rfl 36 (.tmp 4) rfl w.heap.size rfl 36 (vcells x).toArray (0, 0) _ HK2.out Tryd.underlying36 rfl (Tryd.sizeVIx x) ?_)
  refine (l05Visits_any r.length (by rw [HRN.out]; exact h1) hrl x (by rw [HRN.out]; exact HX.out) _).mono ?_
  rintro e w3 ⟨gv, hgv, rfl, hRv, hb⟩
  have HO3 := Lib.hid (own_keep' HO2.out hb)
  have HB3 : Hid (Below w.heap.size w w3) := HB2.out.trans (hb.mono HB2.out.size)
  have HK3 : Hid (Blk w3 w.heap.size 36 (vcells x).toArray) := HK2.out.keep hb
  have HRv := Lib.hid hRv
  have HGV : Hid (w2.heap.size ≤ gv) := hgv
  have HQ : Hid (∀ q, A'.map (·.block) = some q → W1.heap.size ≤ q ∧ q < w2.heap.size) := fun q e => own_block HO2.out (by rw [ownBlock_slice']; exact e)
  obtain ⟨N, hN⟩ : ∃ N, r.length = N := ⟨_, rfl⟩
  have HN := Lib.hid hN
  have hNn : N = n := by rw [← hN, HRN.out]
  subst hNn
  rw [hN] at HO3 HRv hrl ⊢
  clear hb hgv hRv hN HO2 HB2 HK2
  go_wp2_with fail
  go_loopw [9] (fun i wr => ∃ (k : Nat) (X : List Int), k ≤ N ∧ i = .int .i64 k ∧ PartT r (tnR r (byW N x m)) X k ∧ wr.ownsRow W1.heap.size 5 1 (.slice A' X.length c') X.length (X.flatMap ycells) ∧ Rs wr gv 2 icells (vis N x) ∧ Blk wr w.heap.size 36 (vcells x).toArray ∧ Below w.heap.size w wr)
    (fun i _ => N - (intOf i).toNat)
  case atStart => exact ⟨0, r, by omega, rfl, PartT.zero _ _, by rw [HN.out]; exact HO3.out, HRv.out, HK3.out, HB3.out⟩
  case round =>
    clear HO3 HRv HK3 HB3
    obtain ⟨k, X, hk, rfl, hP, hO, hs, hK, hB⟩ := hrel
    have HP := Lib.hid hP
    have HO := Lib.hid hO
    have HS := Lib.hid hs
    have HK := Lib.hid hK
    have HB := Lib.hid hB
    have hk0 : (0 : Int) ≤ (k : Int) := Int.natCast_nonneg _
    by_cases hltk : k < N
    · have hXl : X.length = N := by rw [hP.1, HN.out]
      obtain ⟨a, ha⟩ : ∃ a, r[k]? = some a := ⟨_, List.getElem?_eq_getElem (by rw [HN.out]; exact hltk)⟩
      have hXa : X[k]? = some a := by rw [hP.2.2 k (Nat.le_refl _), ha]
      have ha7 := HR7.out a (List.mem_of_getElem? ha)
      have hva : (vis N x)[k]? = some ((vis N x).getD k 0) := by rw [List.getD_eq_getElem?_getD, List.getElem?_eq_getElem (by rw [vis_len]; exact hltk)]; rfl
      have d1 : wr.cell? ⟨gv, k, none⟩ = some (.int .i64 ((vis N x).getD k 0)) := icells_cell hs hva
      have hvin := visTo_in N x.st.toNat x.sp.toNat x.co.toNat k
      have d5 : wr.cell? ⟨w.heap.size, 5, none⟩ = some (.int .i8 x.tu) := Blk.cell hK 5
      obtain ⟨g, rfl, hgb, hgl, hcell, hfr, hset⟩ := own_cellY hO hXa
      have hgw := HQ.out g rfl
      have hT := tnR_get (byW N x m) ha
      have htu := HXO.out.2.2.2.2.2
      have hcob := HXO.out.2.2.2.2.1
      obtain ⟨v, hv⟩ : ∃ v, (vis N x).getD k 0 = v := ⟨_, rfl⟩
      have hv0 : 0 ≤ v := by rw [← hv]; exact hvin.1
      have hv60 : v ≤ 60 := by rw [← hv]; show (visTo N x.st.toNat x.sp.toNat x.co.toNat).getD k 0 ≤ 60; omega
      rw [show byW N x m k = v * m * x.tu from by rw [← hv]; rfl] at hT
      obtain ⟨tu, htue⟩ : ∃ tu, x.tu = tu := ⟨_, rfl⟩
      rw [htue] at hT htu d5
      rw [hv] at d1
      obtain ⟨m8, p, q, s, s8, y, hm8t, hm8e, hp, hq, hsq, hs8, hm8y, hm8z, hyy, hs9, hy0, hy7, ⟨u1, u2⟩, ⟨x1, x2⟩, ⟨u3, u4⟩, ⟨u5, u6⟩, ⟨u9, u0⟩, ⟨x3, x4⟩, ⟨x5, x6⟩, ⟨x7, x8⟩, ⟨u7, u8⟩, x9⟩ := turn_facts a v m tu ha7 ⟨hv0, hv60⟩ HM.out.1 htu
      rw [hyy] at hT
      have HT := Lib.hid hT
      have HSet := Lib.hid (hset y)
      have hk8 : (k : Int) < N := Int.ofNat_lt.2 hltk
      have hm0 := HM.out.1
      have hgne : g ≠ gv := by have := HGV.out; omega
      have hgne2 : g ≠ w.heap.size := by have := HW1.out; omega
      have HNe : Hid (g ≠ gv ∧ g ≠ w.heap.size ∧ w.heap.size ≤ g) := ⟨hgne, hgne2, by have := HW1.out; omega⟩
      clear hT hyy hset hP hO hs hK hB ha hXa hva hv hvin htue hgw hgne hgne2 hXl
      go_wp2_with fail
      go_region
      go_wp2
      go_roundw
      case rel =>
        refine ⟨k + 1, X.set k y, by omega, by go_num, HP.out.step (by rw [HN.out]; exact hltk) HT.out, ?_, ?_, ?_, ?_⟩
        · exact HSet.out
        · exact Blk.far (p := ⟨g, k, none⟩) HS.out (Ne.symm HNe.out.1) _
        · exact Blk.far (p := ⟨g, k, none⟩) HK.out (Ne.symm HNe.out.2.1) _
        · first | exact HB.out.drew.setCell (p := ⟨g, k, none⟩) HNe.out.2.2 _ | exact (HB.out.setCell (p := ⟨g, k, none⟩) HNe.out.2.2 _).drew
      case measure => simp [intOf]; omega
    · obtain rfl : k = N := by omega
      have e : X = tnR r (byW k x m) := PartT.all (by rw [HN.out]; exact hP) (tnR_len _ _)
      subst e
      have hXl : (tnR r (byW k x m)).length = k := by rw [tnR_len, HN.out]
      rw [hXl] at hO
      have HOf := Lib.hid hO
      clear hO hP hs hK hB hXl
      go_wp2
      go_ret
      exact ⟨_, _, rfl, own_base HOf.out (Nat.le_of_lt HW1.out), HB.out⟩
end Go.Proofs.YtcalooahafgfbaaDoor
