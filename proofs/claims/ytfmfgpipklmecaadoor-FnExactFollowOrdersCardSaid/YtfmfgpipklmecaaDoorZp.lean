/-
  Pairs: the program's contracts, of preferences, table, PairsFor. Condition: valid marks for the inner ones; the sentinel errors lie as the row lists them for the outer one.
-/
import Derived.Test.YtfmfgpipklmecaaDoorZa
import Derived.Test.YtfmfgpipklmecaaDoorTr1
import Derived.Test.YtfmfgpipklmecaaDoorZn
import Derived.Test.YtfmfgpipklmecaaDoorTc
namespace Go.Proofs.YtfmfgpipklmecaaDoor
open Go.ChangeShapes Go.WideShapes Go.ChangeAt Go.RowKit Go.Deep
open Go.Maps (Keyed)

set_option maxRecDepth 100000 in
set_option maxHeartbeats 4000000 in
theorem preferences_any (N : Nat) (hN8 : N ≤ 8) (m : List (List Int)) (hm : ∀ xs ∈ m, xs.length = N) (h12 : m.length ≤ 12) (A : Option Addr) (c : Nat) (w : World) (hr : RdN w w.heap.size icells A m) :
    Calls Tryd.prog 37 #[.slice A m.length c, .int .i64 N] w fun e w' => ∃ B n D, e = .returned (.map (some B)) ∧ w.heap.size ≤ B ∧ n ≤ 6500 ∧ OwnsP w' B n D ∧ Holds D ok2 kP (cntP (prPs N m m.length)) ∧ Below w.heap.size w w' := by
  obtain ⟨i0, hi, hz0, hz1, hz2⟩ := info_parts Tryd.infoPq
  have HI := Lib.hid hi
  have HZ0 := Lib.hid hz0
  have HZ1 := Lib.hid hz1
  have HZ2 := Lib.hid hz2
  clear hi hz0 hz1 hz2
  have HR := Lib.hid hr
  have HM := Lib.hid hm
  clear hr hm
  have HO0 : Hid (w.ownsRow w.heap.size 68 2 (.slice none 0 0) 0 ((prPs N m 0).flatMap pqc)) := ⟨rfl, .inl ⟨rfl, rfl⟩⟩
  have HB0 : Hid (Below w.heap.size w w) := Below.refl _ _
  go_enter Tryd.func37, Tryd.ntmps37
  go_wp2_with fail
  go_loopw [5, 10] (fun v j wr => ∃ (t : Nat) (A1 : Option Addr) (n1 c1 : Nat), t ≤ m.length ∧ j = .int .i64 t ∧ v = .slice A1 n1 c1 ∧ n1 = (prPs N m t).length ∧ wr.ownsRow w.heap.size 68 2 (.slice A1 n1 c1) n1 ((prPs N m t).flatMap pqc) ∧ Below w.heap.size w wr)
    (fun _ j _ => m.length - (intOf j).toNat)
  case atStart => exact ⟨0, none, 0, 0, by omega, rfl, rfl, rfl, HO0.out, HB0.out⟩
  case round =>
    clear HO0 HB0
    obtain ⟨t, A1, n1, c1, ht, rfl, rfl, hn1, hO, hB⟩ := hrel
    obtain ⟨wa, rfl⟩ : ∃ u, u = wr := ⟨_, rfl⟩
    have HO := Lib.hid hO
    have HB := Lib.hid hB
    have HN1 := Lib.hid hn1
    have hnb : n1 ≤ 64 * t := by rw [hn1]; exact prPs_len hN8 m t
    clear hO hB hn1
    have ht0 : (0 : Int) ≤ (t : Int) := Int.natCast_nonneg _
    by_cases hlt : t < m.length
    · obtain ⟨xs, hxs⟩ : ∃ x, m[t]? = some x := ⟨_, List.getElem?_eq_getElem hlt⟩
      have ht8 : (t : Int) < m.length := by omega
      obtain ⟨b, o, a, c', rfl, hb, hc, hrd⟩ := (HR.out.keep HB.out).at_ hxs
      have hxn := HM.out xs (List.mem_of_getElem? hxs)
      have HC := Lib.hid (pairsPref_any N hN8 xs a c' wa (fun i k hi hk W hW => prefers_any xs i k (by omega) (by omega) (by omega) a c' W (hrd.keep hW)))
      rw [hxn] at HC
      have HSt : Hid (prPs N m (t + 1) = prPs N m t ++ thI (prB xs) N N) := prPs_succ hxs
      have hl64 := thI_len64 (prB xs) hN8 (Nat.le_refl N)
      clear hxs hrd
      go_wp2_with fail
      refine HC.out.mono ?_
      rintro e w3 ⟨A3, c3, rfl, hO3, hB3⟩
      obtain ⟨qs, hqs⟩ : ∃ qs, thI (prB xs) N N = qs := ⟨_, rfl⟩
      rw [hqs] at hO3 HSt hl64
      rw [hqs]
      have HSr := Lib.hid (src_of_rd (P := Tryd.prog) w3 Tryd.underlying63 pqc_length pqc_one (own_rd2 pqc_length hO3) (c := c3))
      have HO3 := Lib.hid (own_keep' HO.out hB3)
      have HB3 := Lib.hid (HB.out.trans (hB3.mono HB.out.size))
      clear hO3 hB3 HC HO HB hc hqs
      go_wp2_with (at_builtin; refine wpList_append_any _ rfl (.tmp 14) (.tmp 18) 63 63 rfl w.heap.size 68 i0 (.agg #[.int .i64 0, .int .i64 0]) 2 16 Tryd.underlying63 HI.out HZ0.out HZ1.out HZ2.out rfl (by decide) _ n1 _ rfl HO3.out _ qs.length (qs.flatMap pqc) rfl HSr.out ?c3 ?c4 ?c5 ?_)
      case c3 => unfold maxLen; omega
      case c4 => omega
      case c5 => exact HB3.out.size
      intro v' w4 hown' hgrow _
      have hown4 : w4.ownsRow w.heap.size 68 2 v' (n1 + qs.length) ((prPs N m (t + 1)).flatMap pqc) := by
        rw [HSt.out, List.flatMap_append]; exact hown'
      have HB4 : Hid (Below w.heap.size w w4) := HB3.out.grown hgrow HB3.out.size (fun r e => (HO3.out.lt r e).1)
      have HN4 : Hid (n1 + qs.length = (prPs N m (t + 1)).length) := by
        show _ = _
        rw [HSt.out, List.length_append, ← HN1.out]
      obtain ⟨A8, c8, rfl⟩ : ∃ A8 c8, v' = .slice A8 (n1 + qs.length) c8 := by
        rcases hown4.2 with ⟨h1, h2⟩ | ⟨g, cap, cur, h1, -⟩
        · exact ⟨_, _, by rw [h1, h2]⟩
        · exact ⟨_, _, h1⟩
      have HO4 := Lib.hid hown4
      clear hown' hown4 hgrow
      go_wp2
      go_roundw
      case rel => exact ⟨t + 1, A8, _, c8, by omega, by go_num, rfl, HN4.out, HO4.out, HB4.out⟩
      case measure => simp [intOf]; omega
    · obtain rfl : t = m.length := by omega
      have HRd : Hid (Rd wa wa.heap.size pqc A1 (prPs N m m.length)) := by
        have := HO.out
        rw [HN1.out] at this
        exact own_rd2 pqc_length this
      have HC := Lib.hid (tallyOf_any (prPs N m m.length) (prPs_ok hN8 m _) (by rw [← HN1.out]; omega) A1 c1 wa HRd.out)
      rw [← HN1.out] at HC
      go_wp2_with fail
      refine HC.out.mono ?_
      rintro e w5 ⟨B, n, D, rfl, q1, q2, q3, q4, q5⟩
      have Q1 := Lib.hid (Nat.le_trans HB.out.size q1)
      have Q3 := Lib.hid q3
      have Q4 := Lib.hid q4
      have Q5 := Lib.hid (HB.out.trans (q5.mono HB.out.size))
      clear q1 q3 q4 q5
      go_wp2
      go_ret
      exact ⟨_, _, _, rfl, Q1.out, q2, Q3.out, Q4.out, Q5.out⟩

/-- What a tally holds of a pair. -/
theorem tally_look {w : World} {B n : Nat} {D : DataW Unit} {ps : List Pq} (h : OwnsP w B n D) (hh : Holds D ok2 kP (cntP ps)) {p : Pq} (hp : ok2 p) :
    (Instr.lookup 56 (.map (some B)) (.agg #[.int .i64 p.1, .int .i64 p.2]) false).run Tryd.prog w = .ok (.int .i64 (cntP ps p)) w := by
  obtain ⟨c, hlook, hat, hwc⟩ := h.lookup_int (Keyed.of_law Tryd.lawP) Tryd.underlying56 Tryd.underlying2 (Tryd.zeroI64P w) (keyP p hp)
  have := hh.look hp hat
  rw [hlook, this]
theorem wpList_lookupR {P : Program} {ops : Array Oper} {rest : List Oper} {o : Oper} {a : Act} {w : World} {Q : Exit → Act → World → Prop} (hgd : o.guard = none) (t : TypeId) (m x : Operand) (ho : o.op = .lookup t m x false) {mv key v : Value} (hm : a.eval m = mv) (hx : a.eval x = key)
    (hrun : (Instr.lookup t mv key false).run P w = .ok v w) (h : wpList P ops Q rest (a.put o.dst v) w) : wpList P ops Q (o :: rest) a w :=
  wpList_plain hgd fun _ hK => wp_lookupR t m x ho hm hx hrun (hK _ _ h)

/-- A row of the table, up to k. -/
def tbR (ps : List Pq) (i k : Nat) : List Int := (List.range k).map fun b : Nat => ((cntP ps ((i : Int), (b : Int)) : Nat) : Int)
theorem tbR_succ (ps : List Pq) (i k : Nat) : tbR ps i (k + 1) = tbR ps i k ++ [((cntP ps ((i : Int), (k : Int)) : Nat) : Int)] := by
  simp [tbR, List.range_succ]
theorem tbR_len (ps : List Pq) (i k : Nat) : (tbR ps i k).length = k := by simp [tbR]
def tbL (ps : List Pq) (n i : Nat) : List (List Int) := (List.range i).map fun a => tbR ps a n
theorem tbL_succ (ps : List Pq) (n i : Nat) : tbL ps n (i + 1) = tbL ps n i ++ [tbR ps i n] := by
  simp [tbL, List.range_succ]
theorem tbL_len (ps : List Pq) (n i : Nat) : (tbL ps n i).length = i := by simp [tbL]
theorem tbL_mat (ps : List Pq) (n : Nat) (f : Nat → Nat → Nat) (h : ∀ a b, a < n → b < n → cntP ps ((a : Int), (b : Int)) = f a b) : tbL ps n n = mat n f := by
  unfold tbL mat
  refine List.map_congr_left fun a ha => ?_
  unfold tbR mRow
  refine List.map_congr_left fun b hb => ?_
  rw [h a b (by simpa using ha) (by simpa using hb)]

end Go.Proofs.YtfmfgpipklmecaaDoor
