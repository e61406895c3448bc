/-
  The model's l04Best at a pointer into a list. Condition: the rack reads as lists, at most eight of at most six; the pointer's day reads.
-/
import Derived.Test.YtdgcgkeclcpafaaDoorBk2
import Derived.Test.YtdgcgkeclcpafaaDoorBl1
import Derived.Test.YtdgcgkeclcpafaaDoorSt2
import Derived.Test.YtdgcgkeclcpafaaDoorBk3
import Derived.Test.YtdgcgkeclcpafaaDoorMf
import Derived.Test.YtdgcgkeclcpafaaDoorKc5
namespace Go.Proofs.YtdgcgkeclcpafaaDoor
open Go.ChangeShapes Go.WideShapes Go.ChangeAt Go.RowKit Go.Deep

/-- The spots for x, in front of each lane with room. -/
def frT (xss : List (List Wnt)) (x : Wnt) : Nat → List Core
  | 0 => []
  | i + 1 => frT xss x i ++ if (xss.getD i []).length < 6 then [(x, i, (xss.getD i []).length)] else []
theorem frT_yes {xss : List (List Wnt)} {x : Wnt} {i : Nat} {xs : List Wnt} (h : xss[i]? = some xs) (hl : xs.length < 6) : frT xss x (i + 1) = frT xss x i ++ [(x, i, xs.length)] := by
  rw [frT]; simp [h, hl]
theorem frT_no {xss : List (List Wnt)} {x : Wnt} {i : Nat} {xs : List Wnt} (h : xss[i]? = some xs) (hl : ¬ xs.length < 6) : frT xss x (i + 1) = frT xss x i := by
  rw [frT]; simp [h, hl]
theorem frT_le (xss : List (List Wnt)) (x : Wnt) : ∀ i, (frT xss x i).length ≤ i
  | 0 => by simp [frT]
  | i + 1 => by
    have := frT_le xss x i
    rw [frT, List.length_append]
    split <;> simp <;> omega
def okF (xss : List (List Wnt)) (x : Wnt) (w : World) (s : Sp) : Prop := ∃ xs g, xss[s.1.2.1]? = some xs ∧ s.1.1 = x ∧ s.1.2.2 = xs.length ∧ xs.length < 6 ∧ s.2 = (some ⟨g, 0, none⟩, xs.length, xs.length) ∧ Rd w w.heap.size wcells (some ⟨g, 0, none⟩) xs
theorem okF.keep {xss : List (List Wnt)} {x : Wnt} {w w' : World} {s : Sp} (h : okF xss x w s) (hb : Below w.heap.size w w') : okF xss x w' s := by
  obtain ⟨xs, g, h1, h2, h3, h4, h5, h6⟩ := h
  exact ⟨xs, g, h1, h2, h3, h4, h5, h6.keep hb⟩

set_option maxRecDepth 100000 in
set_option maxHeartbeats 4000000 in
theorem frontsIn_any (xss : List (List Wnt)) (x : Wnt) (hwx : wfW x) (g c : Nat) (gs : List Nat) (w : World) (hl : xss.length ≤ 8) (h6 : ∀ xs ∈ xss, xs.length ≤ 6) (hr : RsN w g 43 52 wcells xss gs) :
    Calls Tryd.prog 70 #[.slice (some ⟨g, 0, none⟩) xss.length c, .agg (wcells x).toArray] w fun e w' => ∃ (A' : Option Addr) (c' : Nat) (ss : List Sp), e = .returned (.slice A' ss.length c') ∧ Rd w' w'.heap.size spcells A' ss ∧ ss.map (·.1) = frT xss x xss.length ∧ (∀ s ∈ ss, okF xss x w s) ∧ Below w.heap.size w w' := by
  obtain ⟨i0, hi, hz0, hz1, hz2⟩ := info_parts Tryd.infoSP
  have HI := Lib.hid hi
  have HZ0 := Lib.hid hz0
  have HZ1 := Lib.hid hz1
  have HZ2 := Lib.hid hz2
  clear hi hz0 hz1 hz2
  obtain ⟨⟨k1, y1⟩, d⟩ := x
  obtain ⟨-, q2, q3⟩ := hwx
  have q2' : -32768 ≤ d := q2
  have q3' : d ≤ 32767 := q3
  clear q2 q3
  show Calls Tryd.prog 70 #[.slice (some ⟨g, 0, none⟩) xss.length c, .agg #[.int .u8 k1, .int .i16 y1, .int .i16 d]] w _
  have HR := Lib.hid hr
  have H6 := Lib.hid h6
  clear hr h6
  have h1 : Blk (w.alloc (.cells #[.int .u8 k1, .int .i16 y1, .int .i16 d] 52)) w.heap.size 52 #[.int .u8 k1, .int .i16 y1, .int .i16 d] := Blk.new w _ _
  have h2 : Below w.heap.size w (w.alloc (.cells #[.int .u8 k1, .int .i16 y1, .int .i16 d] 52)) := (Below.refl _ w).alloc (Nat.le_refl _) _
  have H1 := Lib.hid h1
  have H2 := Lib.hid h2
  clear h1 h2
  go_enter Tryd.func70, Tryd.ntmps70
  go_wp2_with fail
  go_loopw [5, 10] (fun v i wr => ∃ (k : Nat) (ss : List Sp) (A1 : Option Addr) (c1 : Nat), k ≤ xss.length ∧ i = .int .i64 k ∧ v = .slice A1 ss.length c1 ∧ wr.ownsRow (w.heap.size + 1) 68 6 (.slice A1 ss.length c1) ss.length (ss.flatMap spcells) ∧ ss.map (·.1) = frT xss ((k1, y1), d) k ∧ (∀ s ∈ ss, okF xss ((k1, y1), d) w s) ∧ Blk wr w.heap.size 52 #[.int .u8 k1, .int .i16 y1, .int .i16 d] ∧ Below w.heap.size w wr)
    (fun _ i _ => xss.length - (intOf i).toNat)
  case atStart => exact ⟨0, [], _, _, by omega, rfl, rfl, ⟨rfl, .inl ⟨rfl, rfl⟩⟩, rfl, by simp, H1.out, H2.out⟩
  case round =>
    clear H1 H2
    obtain ⟨k, ss, A1, c1, hk, rfl, rfl, hO, hC, hS, hK, hB⟩ := hrel
    have HO := Lib.hid hO
    have HC := Lib.hid hC
    have HS := Lib.hid hS
    have HK := Lib.hid hK
    have HB := Lib.hid hB
    have hblt : w.heap.size < wr.heap.size := hK.lt
    clear hO hC hS hK hB
    by_cases hlt : k < xss.length
    · obtain ⟨xs, hxs⟩ : ∃ x, xss[k]? = some x := ⟨_, List.getElem?_eq_getElem hlt⟩
      have hxl := H6.out xs (List.mem_of_getElem? hxs)
      obtain ⟨g', hg, hc, hrd⟩ := HR.out.at_ hxs
      have hlen : ss.length ≤ 8 := by have := frT_le xss ((k1, y1), d) k; rw [← HC.out] at this; simp at this; omega
      have HXs := Lib.hid hxs
      have HC0 := Lib.hid hc
      have HRd := Lib.hid hrd
      have e1 := (HB.out.cell (p := ⟨g, k, none⟩) hg).trans hc
      have hk0 : (0 : Int) ≤ (k : Int) := Int.natCast_nonneg _
      have hk8 : (k : Int) < xss.length := by omega
      have hm0 : (0 : Int) ≤ (xs.length : Int) := Int.natCast_nonneg _
      clear hxs hc hrd
      by_cases h6 : xs.length < 6
      · have h6' : (xs.length : Int) < 6 := by omega
        have HCs2 := Lib.hid (frT_yes (x := ((k1, y1), d)) HXs.out h6)
        have b0 : wr.cell? ⟨w.heap.size, 0, none⟩ = some (.int .u8 k1) := HK.out.cell 0
        have b1 : wr.cell? ⟨w.heap.size, 1, none⟩ = some (.int .i16 y1) := HK.out.cell 1
        have b2 : wr.cell? ⟨w.heap.size, 2, none⟩ = some (.int .i16 d) := HK.out.cell 2
        go_wp2_with fail
        refine (spotAt_any (some ⟨g, 0, none⟩) xss.length c k (xs.length : Int) k1 y1 d (some ⟨g', 0, none⟩) xs.length xs.length _ ⟨q2', q3'⟩ hlt (by omega) g 0 rfl (Nat.lt_of_lt_of_le hg HB.out.size) (by rw [Nat.zero_add]; exact (HB.out.cell (p := ⟨g, k, none⟩) hg).trans HC0.out)).mono ?_
        rintro e w2 ⟨rfl, hb⟩
        have HB2 : Hid (Below w.heap.size w w2) := HB.out.trans (hb.mono HB.out.size)
        have HO2 := Lib.hid (own_keep' HO.out hb)
        have HK2 := Lib.hid (HK.out.keep hb)
        clear hb b0 b1 b2 e1 HO HK
        unfold spC
        go_wp2_with (at_builtin; refine wpList_append_any _ rfl (.tmp 18) (.tmp 25) 96 96 rfl (w.heap.size + 1) 68 i0 (.agg #[.int .u8 0, .int .i16 0, .int .i64 0, .int .i64 0, .int .i64 0, .slice none 0 0]) 6 56 Tryd.underlying96 HI.out HZ0.out HZ1.out HZ2.out rfl (by decide) (.slice A1 ss.length c1) ss.length (ss.flatMap spcells) rfl ?own2 _ 1 [.int .u8 k1, .int .i16 y1, .int .i64 d, .int .i64 k, .int .i64 xs.length, .slice (some ⟨g', 0, none⟩) xs.length xs.length] rfl ?src2 ?d3 ?d4 ?d5 ?_)
        case own2 => exact HO2.out.alloc _
        case src2 => exact Src.ofSlice _ Tryd.underlying96 ⟨w2.heap.size, 0, none⟩ 1 1 _ rfl (six_cells w2 _ _ _ _ _ _ _) (by intro u hu; simp only [List.mem_cons, List.not_mem_nil, or_false] at hu; rcases hu with rfl | rfl | rfl | rfl | rfl | rfl <;> rfl)
        case d3 => unfold maxLen; omega
        case d4 => omega
        case d5 => have := HK2.out.lt; simp; omega
        intro v4 w4 hown4 hg4 _
        rw [ownBlock_slice] at hg4
        obtain ⟨s, hs⟩ : ∃ s : Sp, s = ((((k1, y1), d), k, xs.length), (some ⟨g', 0, none⟩, xs.length, xs.length)) := ⟨_, rfl⟩
        have hown5 : w4.ownsRow (w.heap.size + 1) 68 6 v4 (ss ++ [s]).length ((ss ++ [s]).flatMap spcells) := by rw [List.length_append, List.flatMap_append]; subst hs; simpa [spcells] using hown4
        obtain ⟨A4, c4, rfl, -, -⟩ := own_rd spcells_length hown5
        have HO5 := Lib.hid hown5
        have HB4 : Hid (Below w.heap.size w w4) := (bal2 HB2.out _).grown hg4 (by have := HB2.out.size; simp; omega) (fun q e => by have := gk_ge HO2.out q e; omega)
        have HK4 : Hid (Blk w4 w.heap.size 52 #[.int .u8 k1, .int .i16 y1, .int .i16 d]) := gk_blk (HK2.out.alloc _) hg4 (fun e => by have := gk_ge HO2.out _ e; omega)
        have HS5 : Hid (∀ t ∈ ss ++ [s], okF xss ((k1, y1), d) w t) := by
          intro t ht
          rcases List.mem_append.1 ht with h | h
          · exact HS.out t h
          · obtain rfl : t = s := by simpa using h
            subst hs
            exact ⟨xs, g', HXs.out, rfl, rfl, h6, rfl, HRd.out⟩
        have HC5 : Hid ((ss ++ [s]).map (·.1) = frT xss ((k1, y1), d) (k + 1)) := by
          show (ss ++ [s]).map (·.1) = _
          rw [List.map_append, HC.out, HCs2.out, hs]; rfl
        clear hown4 hown5 hg4 hs
        obtain ⟨S2, hS2⟩ : ∃ S2, ss ++ [s] = S2 := ⟨_, rfl⟩
        rw [hS2] at HO5 HS5 HC5 ⊢
        clear hS2
        go_wp2
        go_roundw
        case rel => exact ⟨k + 1, S2, A4, c4, by omega, by go_num, rfl, HO5.out, HC5.out, HS5.out, HK4.out, HB4.out⟩
        case measure => simp [intOf]; omega
      · have h6' : ¬ (xs.length : Int) < 6 := by omega
        have HCs2 := Lib.hid (frT_no (x := ((k1, y1), d)) HXs.out h6)
        go_wp2
        go_roundw
        case rel => exact ⟨k + 1, ss, A1, c1, by omega, by go_num, rfl, HO.out, by rw [HC.out, HCs2.out], HS.out, HK.out, HB.out⟩
        case measure => simp [intOf]; omega
    · obtain rfl : k = xss.length := by omega
      have HRd := Lib.hid (own_rd2 spcells_length HO.out)
      go_wp2
      go_ret
      exact ⟨_, _, ss, rfl, HRd.out, HC.out, HS.out, HB.out⟩
end Go.Proofs.YtdgcgkeclcpafaaDoor

namespace Go.Proofs.YtdgcgkeclcpafaaDoor
open Go.ChangeShapes Go.WideShapes Go.ChangeAt Go.RowKit Go.Deep

/-- The code of BestLane; its lane. -/
def blC (xss : List (List Wnt)) (x : Wnt) : Int := if (rkOk xss && sV x) = true then (if (bst xss x.2 xss.length).isSome = true then 0 else 6) else 1
def blN (xss : List (List Wnt)) (x : Wnt) : Int := if blC xss x = 0 then bestI (bst xss x.2 xss.length) else 0
/-- The numbers that decide. -/
def blF (xss : List (List Wnt)) : List Num := [(71, fun s => (bC xss s.1 : Int)), (72, fun s => (s.1.2.2 : Int))]
theorem cmp2 (a b a' b' : Int) : (if c64 a b = 0 then (if c64 a' b' = 0 then 0 else c64 a' b') else c64 a b) < 0 ↔ a < b ∨ (a = b ∧ a' < b') := by
  unfold c64
  repeat' split
  all_goals omega
theorem minL_snoc (fs : List Num) (s : Sp) : ∀ (t : List Sp) (m : Sp), minL fs m (t ++ [s]) = if cmpL fs s (minL fs m t) < 0 then s else minL fs m t
  | [], m => rfl
  | u :: t, m => by
    show minL fs (if cmpL fs u m < 0 then u else m) (t ++ [s]) = _
    rw [minL_snoc fs s t]; rfl
theorem bl_link {xss : List (List Wnt)} {x : Wnt} (h6 : ∀ xs ∈ xss, xs.length ≤ 6) : ∀ i, i ≤ xss.length → ∀ ss : List Sp, ss.map (·.1) = frT xss x i →
    (ss = [] ∧ bst xss x.2 i = none) ∨ ∃ m t, ss = m :: t ∧ bst xss x.2 i = some ((minL (blF xss) m t).1.2.1, bC xss (minL (blF xss) m t).1, (minL (blF xss) m t).1.2.2)
  | 0, _, ss, h => by
    left
    exact ⟨by simpa [frT] using h, rfl⟩
  | i + 1, hi, ss, h => by
    obtain ⟨xs, hx⟩ : ∃ y, xss[i]? = some y := ⟨_, List.getElem?_eq_getElem (by omega)⟩
    have hl := h6 xs (List.mem_of_getElem? hx)
    by_cases hf : xs.length = 6
    · rw [frT_no hx (by omega)] at h
      rw [bst_full hx hf]
      exact bl_link h6 i (by omega) ss h
    · rw [frT_yes hx (by omega)] at h
      rw [bst_room hx hf]
      obtain ⟨s1, s2, rfl, e1, e2⟩ := List.map_eq_append_iff.1 h
      obtain ⟨s, rfl, hs⟩ : ∃ s, s2 = [s] ∧ s.1 = (x, i, xs.length) := by
        cases s2 with
        | nil => cases e2
        | cons s r =>
          simp only [List.map_cons, List.cons.injEq, List.map_eq_nil_iff] at e2
          obtain ⟨e3, rfl⟩ := e2
          exact ⟨s, rfl, e3⟩
      have hb : bC xss s.1 = cntB xs x.2 xs.length := by rw [hs]; simp [bC, hx]
      right
      rcases bl_link h6 i (by omega) s1 e1 with ⟨rfl, hn⟩ | ⟨m, t, rfl, hm⟩
      · refine ⟨s, [], rfl, ?_⟩
        rw [hn]
        show some (i, cntB xs x.2 xs.length, xs.length) = some (s.1.2.1, bC xss s.1, s.1.2.2)
        rw [hb, hs]
      · refine ⟨m, t ++ [s], rfl, ?_⟩
        rw [hm, minL_snoc]
        obtain ⟨p, hp⟩ : ∃ p, minL (blF xss) m t = p := ⟨_, rfl⟩
        rw [hp]
        have hc : cmpL (blF xss) s p < 0 ↔ cntB xs x.2 xs.length < bC xss p.1 ∨ (cntB xs x.2 xs.length = bC xss p.1 ∧ xs.length < p.1.2.2) := by
          have := cmp2 (bC xss s.1 : Int) (bC xss p.1 : Int) (s.1.2.2 : Int) (p.1.2.2 : Int)
          have e : cmpL (blF xss) s p = (if c64 (bC xss s.1 : Int) (bC xss p.1 : Int) = 0 then (if c64 (s.1.2.2 : Int) (p.1.2.2 : Int) = 0 then 0 else c64 (s.1.2.2 : Int) (p.1.2.2 : Int)) else c64 (bC xss s.1 : Int) (bC xss p.1 : Int)) := rfl
          rw [e, this, hb, hs]
          simp only
          omega
        show (if _ then _ else _) = _
        by_cases hd : cmpL (blF xss) s p < 0
        · rw [if_pos (hc.1 hd), if_pos hd, hb, hs]
        · rw [if_neg (fun e => hd (hc.2 e)), if_neg hd]

end Go.Proofs.YtdgcgkeclcpafaaDoor

namespace Go.Proofs.YtdgcgkeclcpafaaDoor
open Go.ChangeShapes Go.WideShapes Go.ChangeAt Go.RowKit Go.Deep

def okFK (xss : List (List Wnt)) (x : Wnt) (w : World) (s : Sp) : Prop := ∃ xs a c, xss[s.1.2.1]? = some xs ∧ s.1.1 = x ∧ s.1.2.2 = xs.length ∧ xs.length < 6 ∧ s.2 = (a, xs.length, c) ∧ xs.length ≤ c ∧ Rd w w.heap.size wcells a xs
theorem okFK.keep {xss : List (List Wnt)} {x : Wnt} {w w' : World} {s : Sp} (h : okFK xss x w s) (hb : Below w.heap.size w w') : okFK xss x w' s := by
  obtain ⟨xs, a, c, h1, h2, h3, h4, h5, h6, h7⟩ := h
  exact ⟨xs, a, c, h1, h2, h3, h4, h5, h6, h7.keep hb⟩

set_option maxRecDepth 100000 in
set_option maxHeartbeats 4000000 in
theorem frontsK_any (xss : List (List Wnt)) (x : Wnt) (hwx : wfW x) (A : Option Addr) (c : Nat) (w : World) (hl : xss.length ≤ 8) (h6 : ∀ xs ∈ xss, xs.length ≤ 6) (hr : RdK w w.heap.size wcells A xss) :
    Calls Tryd.prog 70 #[.slice A xss.length c, .agg (wcells x).toArray] w fun e w' => ∃ (A' : Option Addr) (c' : Nat) (ss : List Sp), e = .returned (.slice A' ss.length c') ∧ w'.ownsRow w.heap.size 68 6 (.slice A' ss.length c') ss.length (ss.flatMap spcells) ∧ ss.map (·.1) = frT xss x xss.length ∧ (∀ s ∈ ss, okFK xss x w s) ∧ Below w.heap.size w w' := by
  obtain ⟨i0, hi, hz0, hz1, hz2⟩ := info_parts Tryd.infoSP
  have HI := Lib.hid hi
  have HZ0 := Lib.hid hz0
  have HZ1 := Lib.hid hz1
  have HZ2 := Lib.hid hz2
  clear hi hz0 hz1 hz2
  obtain ⟨⟨k1, y1⟩, d⟩ := x
  obtain ⟨-, q2, q3⟩ := hwx
  have q2' : -32768 ≤ d := q2
  have q3' : d ≤ 32767 := q3
  clear q2 q3
  show Calls Tryd.prog 70 #[.slice A xss.length c, .agg #[.int .u8 k1, .int .i16 y1, .int .i16 d]] w _
  have HR := Lib.hid hr
  have H6 := Lib.hid h6
  clear hr h6
  have h1 : Blk (w.alloc (.cells #[.int .u8 k1, .int .i16 y1, .int .i16 d] 52)) w.heap.size 52 #[.int .u8 k1, .int .i16 y1, .int .i16 d] := Blk.new w _ _
  have h2 : Below w.heap.size w (w.alloc (.cells #[.int .u8 k1, .int .i16 y1, .int .i16 d] 52)) := (Below.refl _ w).alloc (Nat.le_refl _) _
  have H1 := Lib.hid h1
  have H2 := Lib.hid h2
  clear h1 h2
  go_enter Tryd.func70, Tryd.ntmps70
  go_wp2_with fail
  go_loopw [5, 10] (fun v i wr => ∃ (k : Nat) (ss : List Sp) (A1 : Option Addr) (c1 : Nat), k ≤ xss.length ∧ i = .int .i64 k ∧ v = .slice A1 ss.length c1 ∧ wr.ownsRow (w.heap.size + 1) 68 6 (.slice A1 ss.length c1) ss.length (ss.flatMap spcells) ∧ ss.map (·.1) = frT xss ((k1, y1), d) k ∧ (∀ s ∈ ss, okFK xss ((k1, y1), d) w s) ∧ Blk wr w.heap.size 52 #[.int .u8 k1, .int .i16 y1, .int .i16 d] ∧ Below w.heap.size w wr)
    (fun _ i _ => xss.length - (intOf i).toNat)
  case atStart => exact ⟨0, [], _, _, by omega, rfl, rfl, ⟨rfl, .inl ⟨rfl, rfl⟩⟩, rfl, by simp, H1.out, H2.out⟩
  case round =>
    clear H1 H2
    obtain ⟨k, ss, A1, c1, hk, rfl, rfl, hO, hC, hS, hK, hB⟩ := hrel
    have HO := Lib.hid hO
    have HC := Lib.hid hC
    have HS := Lib.hid hS
    have HK := Lib.hid hK
    have HB := Lib.hid hB
    have hblt : w.heap.size < wr.heap.size := hK.lt
    clear hO hC hS hK hB
    by_cases hlt : k < xss.length
    · obtain ⟨xs, hxs⟩ : ∃ x, xss[k]? = some x := ⟨_, List.getElem?_eq_getElem hlt⟩
      have hxl := H6.out xs (List.mem_of_getElem? hxs)
      obtain ⟨bA, oA, a', c', hAe, hg, hc, hcap, hrd⟩ := HR.out.at_ hxs
      subst hAe
      have hlen : ss.length ≤ 8 := by have := frT_le xss ((k1, y1), d) k; rw [← HC.out] at this; simp at this; omega
      have HXs := Lib.hid hxs
      have HC0 := Lib.hid hc
      have HRd := Lib.hid hrd
      have HCap := Lib.hid hcap
      have e1 := (HB.out.cell (p := ⟨bA, oA + k, none⟩) hg).trans hc
      have hk0 : (0 : Int) ≤ (k : Int) := Int.natCast_nonneg _
      have hk8 : (k : Int) < xss.length := by omega
      have hm0 : (0 : Int) ≤ (xs.length : Int) := Int.natCast_nonneg _
      clear hxs hc hrd
      by_cases h6 : xs.length < 6
      · have h6' : (xs.length : Int) < 6 := by omega
        have HCs2 := Lib.hid (frT_yes (x := ((k1, y1), d)) HXs.out h6)
        have b0 : wr.cell? ⟨w.heap.size, 0, none⟩ = some (.int .u8 k1) := HK.out.cell 0
        have b1 : wr.cell? ⟨w.heap.size, 1, none⟩ = some (.int .i16 y1) := HK.out.cell 1
        have b2 : wr.cell? ⟨w.heap.size, 2, none⟩ = some (.int .i16 d) := HK.out.cell 2
        go_wp2_with fail
        refine (spotAt_any (some ⟨bA, oA, none⟩) xss.length c k (xs.length : Int) k1 y1 d a' xs.length c' _ ⟨q2', q3'⟩ hlt (by omega) bA oA rfl (Nat.lt_of_lt_of_le hg HB.out.size) ((HB.out.cell (p := ⟨bA, oA + k, none⟩) hg).trans HC0.out)).mono ?_
        rintro e w2 ⟨rfl, hb⟩
        have HB2 : Hid (Below w.heap.size w w2) := HB.out.trans (hb.mono HB.out.size)
        have HO2 := Lib.hid (own_keep' HO.out hb)
        have HK2 := Lib.hid (HK.out.keep hb)
        clear hb b0 b1 b2 e1 HO HK
        unfold spC
        go_wp2_with (at_builtin; refine wpList_append_any _ rfl (.tmp 18) (.tmp 25) 96 96 rfl (w.heap.size + 1) 68 i0 (.agg #[.int .u8 0, .int .i16 0, .int .i64 0, .int .i64 0, .int .i64 0, .slice none 0 0]) 6 56 Tryd.underlying96 HI.out HZ0.out HZ1.out HZ2.out rfl (by decide) (.slice A1 ss.length c1) ss.length (ss.flatMap spcells) rfl ?own2 _ 1 [.int .u8 k1, .int .i16 y1, .int .i64 d, .int .i64 k, .int .i64 xs.length, .slice a' xs.length c'] rfl ?src2 ?d3 ?d4 ?d5 ?_)
        case own2 => exact HO2.out.alloc _
        case src2 => exact Src.ofSlice _ Tryd.underlying96 ⟨w2.heap.size, 0, none⟩ 1 1 _ rfl (six_cells w2 _ _ _ _ _ _ _) (by intro u hu; simp only [List.mem_cons, List.not_mem_nil, or_false] at hu; rcases hu with rfl | rfl | rfl | rfl | rfl | rfl <;> rfl)
        case d3 => unfold maxLen; omega
        case d4 => omega
        case d5 => have := HK2.out.lt; simp; omega
        intro v4 w4 hown4 hg4 _
        rw [ownBlock_slice] at hg4
        obtain ⟨s, hs⟩ : ∃ s : Sp, s = ((((k1, y1), d), k, xs.length), (a', xs.length, c')) := ⟨_, rfl⟩
        have hown5 : w4.ownsRow (w.heap.size + 1) 68 6 v4 (ss ++ [s]).length ((ss ++ [s]).flatMap spcells) := by rw [List.length_append, List.flatMap_append]; subst hs; simpa [spcells] using hown4
        obtain ⟨A4, c4, rfl, -, -⟩ := own_rd spcells_length hown5
        have HO5 := Lib.hid hown5
        have HB4 : Hid (Below w.heap.size w w4) := (bal2 HB2.out _).grown hg4 (by have := HB2.out.size; simp; omega) (fun q e => by have := gk_ge HO2.out q e; omega)
        have HK4 : Hid (Blk w4 w.heap.size 52 #[.int .u8 k1, .int .i16 y1, .int .i16 d]) := gk_blk (HK2.out.alloc _) hg4 (fun e => by have := gk_ge HO2.out _ e; omega)
        have HS5 : Hid (∀ t ∈ ss ++ [s], okFK xss ((k1, y1), d) w t) := by
          intro t ht
          rcases List.mem_append.1 ht with h | h
          · exact HS.out t h
          · obtain rfl : t = s := by simpa using h
            subst hs
            exact ⟨xs, a', c', HXs.out, rfl, rfl, h6, rfl, HCap.out, HRd.out⟩
        have HC5 : Hid ((ss ++ [s]).map (·.1) = frT xss ((k1, y1), d) (k + 1)) := by
          show (ss ++ [s]).map (·.1) = _
          rw [List.map_append, HC.out, HCs2.out, hs]; rfl
        clear hown4 hown5 hg4 hs
        obtain ⟨S2, hS2⟩ : ∃ S2, ss ++ [s] = S2 := ⟨_, rfl⟩
        rw [hS2] at HO5 HS5 HC5 ⊢
        clear hS2
        go_wp2
        go_roundw
        case rel => exact ⟨k + 1, S2, A4, c4, by omega, by go_num, rfl, HO5.out, HC5.out, HS5.out, HK4.out, HB4.out⟩
        case measure => simp [intOf]; omega
      · have h6' : ¬ (xs.length : Int) < 6 := by omega
        have HCs2 := Lib.hid (frT_no (x := ((k1, y1), d)) HXs.out h6)
        go_wp2
        go_roundw
        case rel => exact ⟨k + 1, ss, A1, c1, by omega, by go_num, rfl, HO.out, by rw [HC.out, HCs2.out], HS.out, HK.out, HB.out⟩
        case measure => simp [intOf]; omega
    · obtain rfl : k = xss.length := by omega
      have HRd := Lib.hid (own_rd2 spcells_length HO.out)
      go_wp2
      go_ret
      exact ⟨_, _, ss, rfl, own_base HO.out (by omega), HC.out, HS.out, HB.out⟩
theorem behindK_any (k y d l i : Int) (a : Option Addr) (n c : Nat) (w : World) : Calls Tryd.prog 72 #[.agg (spC k y d l i a n c)] w fun e w' => e = .returned (.int .i64 i) ∧ Below w.heap.size w w' := by
  unfold spC
  go_enter Tryd.func72, Tryd.ntmps72
  go_wp2
  go_ret
  exact ⟨rfl, (Below.refl _ w).alloc (Nat.le_refl _) _⟩
theorem blK_enters (xss : List (List Wnt)) : Enters (blF xss) := by
  intro f hf args w
  simp only [blF, List.mem_cons, List.not_mem_nil, or_false] at hf
  rcases hf with rfl | rfl
  · kernel_rfl
  · kernel_rfl

theorem blK_tells {xss : List (List Wnt)} {x : Wnt} {w : World} {s : Sp} (hwf : ∀ xs ∈ xss, ∀ x ∈ xs, wfW x) (h : okFK xss x w s) : Tells w (blF xss) s := by
  obtain ⟨xs, a', c', h1, h2, h3, h4, h5, h6, h7⟩ := h
  obtain ⟨⟨⟨⟨k1, y1⟩, d⟩, l, i⟩, a, n, c⟩ := s
  dsimp only at h1 h2 h3 h5
  cases h5
  subst h3
  intro f hf w' hb
  simp only [blF, List.mem_cons, List.not_mem_nil, or_false] at hf
  rcases hf with rfl | rfl
  · have e : bC xss (((k1, y1), d), l, xs.length) = cntB xs d xs.length := by simp [bC, h1]
    have := blockedK_any xs k1 y1 d l xs.length a' c' w' (by omega) (Nat.le_refl _) h6 (hwf xs (List.mem_of_getElem? h1)) (h7.keep hb)
    rw [← e] at this
    exact this
  · exact behindK_any k1 y1 d l xs.length a' xs.length c' w'
def bstO (xss : List (List Wnt)) (d : Int) : Option Nat := (bst xss d xss.length).map (·.1)
def olEN (ad : Nat → Addr) : Option Nat → Value
  | none => .iface 139 (.pointer (some (ad 4)))
  | some _ => .nilIface
theorem blK_link {xss : List (List Wnt)} {x : Wnt} (h6 : ∀ xs ∈ xss, xs.length ≤ 6) {ss : List Sp} (hs : ss.map (·.1) = frT xss x xss.length) (ad : Nat → Addr) : (flS (blF xss) ss).1.2.1 = ((bstO xss x.2).getD 0) ∧ flE ad ss = olEN ad (bstO xss x.2) := by
  rcases bl_link h6 xss.length (Nat.le_refl _) ss hs with ⟨hn, hT⟩ | ⟨m, tl, hn, hT⟩
  · subst hn
    rw [bstO, hT]; exact ⟨rfl, rfl⟩
  · subst hn
    rw [bstO, hT]; exact ⟨rfl, rfl⟩

set_option maxRecDepth 100000 in
set_option maxHeartbeats 4000000 in
theorem bestLaneK_any (xss : List (List Wnt)) (hwf : ∀ xs ∈ xss, ∀ x ∈ xs, wfW x) (x : Wnt) (hwx : wfW x) (A : Option Addr) (c : Nat) (ad : Nat → Addr) (w : World) (hl : xss.length ≤ 8) (h6 : ∀ xs ∈ xss, xs.length ≤ 6) (hr : RdK w w.heap.size wcells A xss) (hE : EW 7 w ad) :
    Calls Tryd.prog 47 #[.slice A xss.length c, .agg (wcells x).toArray] w fun e w' => ∃ (k2 y2 d2 : Int) (l2 i2 : Nat) (a2 : Option Addr) (n2 c2 : Nat), e = .returned (.tuple #[.agg #[.int .u8 k2, .int .i16 y2, .int .i64 d2, .int .i64 l2, .int .i64 i2, .slice a2 n2 c2], olEN ad (bstO xss x.2)]) ∧ l2 = (bstO xss x.2).getD 0 ∧ Below w.heap.size w w' := by
  have HWX := Lib.hid hwx
  obtain ⟨⟨k1, y1⟩, d⟩ := x
  show Calls Tryd.prog 47 #[.slice A xss.length c, .agg #[.int .u8 k1, .int .i16 y1, .int .i16 d]] w _
  have HR := Lib.hid hr
  have H6 := Lib.hid h6
  have HW := Lib.hid hwf
  have HE := Lib.hid hE
  clear hr h6 hwf hwx hE
  have h2 : Below w.heap.size w ((w.alloc (.cells #[.int .u8 k1, .int .i16 y1, .int .i16 d] 52)).alloc (.cells #[.int .u8 0, .int .i16 0, .int .i64 0, .int .i64 0, .int .i64 0, .slice none 0 0] 68)) := by
    have q1 : Below w.heap.size w (w.alloc (.cells #[.int .u8 k1, .int .i16 y1, .int .i16 d] 52)) := (Below.refl _ w).alloc (Nat.le_refl _) _
    exact q1.alloc q1.size _
  have h1 : Blk ((w.alloc (.cells #[.int .u8 k1, .int .i16 y1, .int .i16 d] 52)).alloc (.cells #[.int .u8 0, .int .i16 0, .int .i64 0, .int .i64 0, .int .i64 0, .slice none 0 0] 68)) (w.heap.size + 1) 68 #[.int .u8 0, .int .i16 0, .int .i64 0, .int .i64 0, .int .i64 0, .slice none 0 0] := by
    have := Blk.new (w.alloc (.cells #[.int .u8 k1, .int .i16 y1, .int .i16 d] 52)) 68 #[.int .u8 0, .int .i16 0, .int .i64 0, .int .i64 0, .int .i64 0, .slice none 0 0]
    simpa using this
  have h3 : Blk ((w.alloc (.cells #[.int .u8 k1, .int .i16 y1, .int .i16 d] 52)).alloc (.cells #[.int .u8 0, .int .i16 0, .int .i64 0, .int .i64 0, .int .i64 0, .slice none 0 0] 68)) w.heap.size 52 #[.int .u8 k1, .int .i16 y1, .int .i16 d] := (Blk.new w _ _).alloc _
  obtain ⟨W0, hW0⟩ : ∃ W0, (w.alloc (.cells #[.int .u8 k1, .int .i16 y1, .int .i16 d] 52)).alloc (.cells #[.int .u8 0, .int .i16 0, .int .i64 0, .int .i64 0, .int .i64 0, .slice none 0 0] 68) = W0 := ⟨_, rfl⟩
  rw [hW0] at h1 h2 h3
  have H1 := Lib.hid h1
  have H2 := Lib.hid h2
  have b0 : W0.cell? ⟨w.heap.size, 0, none⟩ = some (.int .u8 k1) := h3.cell 0
  have b1 : W0.cell? ⟨w.heap.size, 1, none⟩ = some (.int .i16 y1) := h3.cell 1
  have b2 : W0.cell? ⟨w.heap.size, 2, none⟩ = some (.int .i16 d) := h3.cell 2
  clear h1 h2 h3
  go_enter Tryd.func47, Tryd.ntmps47
  go_wp2_with fail
  clear hW0
  refine (frontsK_any xss ((k1, y1), d) HWX.out A c W0 hl H6.out (HR.out.keep H2.out)).mono ?_
  rintro e w2 ⟨A', c', F, rfl, hO, hC, hS, hb⟩
  have hRd : Rd w2 w2.heap.size spcells A' F := own_rd2 spcells_length hO
  have HB2 : Hid (Below w.heap.size w w2) := H2.out.trans (hb.mono H2.out.size)
  have HBW := Lib.hid hb
  have HK2 := Lib.hid (H1.out.keep hb)
  obtain ⟨hlk1, hlk2⟩ := blK_link H6.out hC ad
  have hsl : F.length ≤ 1000 := by have := frT_le xss ((k1, y1), d) xss.length; rw [← hC] at this; simp at this; omega
  have hq1 : Below w2.heap.size w2 (w2.alloc (.cells #[.func (.func 71) #[] #[], .func (.func 72) #[] #[]] 98)) := (Below.refl _ w2).alloc (Nat.le_refl _) _
  have hq2 : Blk (w2.alloc (.cells #[.func (.func 71) #[] #[], .func (.func 72) #[] #[]] 98)) w2.heap.size 98 #[.func (.func 71) #[] #[], .func (.func 72) #[] #[]] := Blk.new w2 _ _
  obtain ⟨n, hn⟩ : ∃ n : Nat, F.length = n := ⟨_, rfl⟩
  have HFL : Hid (∀ w', Below (w2.alloc (.cells #[.func (.func 71) #[] #[], .func (.func 72) #[] #[]] 98)).heap.size (w2.alloc (.cells #[.func (.func 71) #[] #[], .func (.func 72) #[] #[]] 98)) w' → Calls Tryd.prog 59 #[.slice A' n c', .slice (some ⟨w2.heap.size, 0, none⟩) 2 2] w' fun e w'' => e = .returned (.tuple #[.agg (spcells (flS (blF xss) F)).toArray, flE ad F]) ∧ Below w'.heap.size w' w'') := fun w' hb2 => by
    have hbw : Below w2.heap.size w2 w' := hq1.trans (hb2.mono hq1.size)
    have := firstLeast_any (blF xss) w2.heap.size 2 F A' c' ad w' (by show 2 ≤ 1000; omega) hsl (Nat.lt_of_lt_of_le hq2.lt hb2.size) (fun j f hf => by
      match j, hf with
      | 0, hf => cases hf; exact (hq2.keep hb2).cell 0
      | 1, hf => cases hf; exact (hq2.keep hb2).cell 1
      | j + 2, hf => simp [blF] at hf) (fun s h => blK_tells HW.out ((hS s h).keep (HBW.out.trans (hbw.mono HBW.out.size)))) (blK_enters xss) (hRd.keep hbw) ((HE.out.below HB2.out (Nat.le_refl _)).below hbw (Nat.le_refl _))
    rw [hn] at this
    exact this
  rw [hn]
  obtain ⟨⟨⟨⟨⟨k2, y2⟩, d2⟩, l2, i2⟩, a2, n2, c2⟩, hm⟩ : ∃ p, flS (blF xss) F = p := ⟨_, rfl⟩
  rw [hm] at HFL hlk1
  obtain ⟨er, her⟩ : ∃ v, flE ad F = v := ⟨_, rfl⟩
  rw [her] at HFL hlk2
  have HL1 : Hid (l2 = (bstO xss d).getD 0) := hlk1
  have HL2 := Lib.hid hlk2
  clear hlk1 hlk2 hm her hn hsl hRd hO hC hS hb b0 b1 b2
  go_wp2_with fail
  refine (HFL.out _ (Below.refl _ _)).mono ?_
  rintro e w5 ⟨he, hb⟩
  have he2 : e = .returned (.tuple #[.agg #[.int .u8 k2, .int .i16 y2, .int .i64 d2, .int .i64 l2, .int .i64 i2, .slice a2 n2 c2], er]) := he
  subst he2
  have HB5 : Hid (Below w.heap.size w w5) := (HB2.out.trans (hq1.mono HB2.out.size)).trans (hb.mono (HB2.out.trans (hq1.mono HB2.out.size)).size)
  have hK5 := (HK2.out.keep hq1).keep hb
  have z0 : w5.cell? ⟨w.heap.size + 1, 0, none⟩ = some (.int .u8 0) := hK5.cell 0
  have f0 : w5.frozen? ⟨w.heap.size + 1, 0, none⟩ = false := hK5.frozen 0
  have z1 : w5.cell? ⟨w.heap.size + 1, 1, none⟩ = some (.int .i16 0) := hK5.cell 1
  have f1 : w5.frozen? ⟨w.heap.size + 1, 1, none⟩ = false := hK5.frozen 1
  have z2 : w5.cell? ⟨w.heap.size + 1, 2, none⟩ = some (.int .i64 0) := hK5.cell 2
  have f2 : w5.frozen? ⟨w.heap.size + 1, 2, none⟩ = false := hK5.frozen 2
  have z3 : w5.cell? ⟨w.heap.size + 1, 3, none⟩ = some (.int .i64 0) := hK5.cell 3
  have f3 : w5.frozen? ⟨w.heap.size + 1, 3, none⟩ = false := hK5.frozen 3
  have z4 : w5.cell? ⟨w.heap.size + 1, 4, none⟩ = some (.int .i64 0) := hK5.cell 4
  have f4 : w5.frozen? ⟨w.heap.size + 1, 4, none⟩ = false := hK5.frozen 4
  have z5 : w5.cell? ⟨w.heap.size + 1, 5, none⟩ = some (.slice none 0 0) := hK5.cell 5
  have f5 : w5.frozen? ⟨w.heap.size + 1, 5, none⟩ = false := hK5.frozen 5
  clear hb hK5 hq1 hq2 HFL he
  go_wp2
  refine bodyPost_ret (v := .tuple #[.agg #[.int .u8 k2, .int .i16 y2, .int .i64 d2, .int .i64 l2, .int .i64 i2, .slice a2 n2 c2], er]) (by simp [results, Tryd.results47, go_sem, *]) rfl ?_
  exact ⟨_, _, _, _, _, _, _, _, by rw [HL2.out], HL1.out, ((((((HB5.out.setCell (p := ⟨w.heap.size + 1, 0, none⟩) (by show w.heap.size ≤ w.heap.size + 1; omega) _).setCell (p := ⟨w.heap.size + 1, 1, none⟩) (by show w.heap.size ≤ w.heap.size + 1; omega) _).setCell (p := ⟨w.heap.size + 1, 2, none⟩) (by show w.heap.size ≤ w.heap.size + 1; omega) _).setCell (p := ⟨w.heap.size + 1, 3, none⟩) (by show w.heap.size ≤ w.heap.size + 1; omega) _).setCell (p := ⟨w.heap.size + 1, 4, none⟩) (by show w.heap.size ≤ w.heap.size + 1; omega) _).setCell (p := ⟨w.heap.size + 1, 5, none⟩) (by show w.heap.size ≤ w.heap.size + 1; omega) _)⟩
end Go.Proofs.YtdgcgkeclcpafaaDoor

namespace Go.Proofs.YtdgcgkeclcpafaaDoor
open Go.ChangeShapes Go.WideShapes Go.ChangeAt Go.RowKit Go.Deep

set_option maxRecDepth 100000 in
set_option maxHeartbeats 4000000 in
theorem l04BestO_any (xss : List (List Wnt)) (A : Option Addr) (c : Nat) (Bs Bo : Nat) (d : Int) (w : World) (hl : xss.length ≤ 8) (h6 : ∀ xs ∈ xss, xs.length ≤ 6) (hr : RdN w w.heap.size wcells A xss) (hBs : Bs < w.heap.size) (hd : w.cell? ⟨Bs, Bo + 2, none⟩ = some (.int .i16 d)) :
    Calls Tryd.prog 43 #[.slice A xss.length c, .pointer (some ⟨Bs, Bo, none⟩)] w fun e w' => e = .returned (.int .i64 (bestI (bst xss d xss.length))) ∧ Below w.heap.size w w' := by
  have HR := Lib.hid hr
  have H6 := Lib.hid h6
  have HDy := Lib.hid hd
  clear hr h6 hd
  go_enter Tryd.func43, Tryd.ntmps43
  go_wp2_with fail
  go_loopw [5, 6, 7] (fun bv lv i wr => ∃ (k : Nat), k ≤ xss.length ∧ i = .int .i64 k ∧ bv = .int .i64 (bestI (bst xss d k)) ∧ lv = .int .i64 (leastI (bst xss d k)) ∧ Below w.heap.size w wr)
    (fun _ _ i _ => xss.length - (intOf i).toNat)
  case atStart => exact ⟨0, by omega, rfl, rfl, rfl, Below.refl _ _⟩
  case round =>
    obtain ⟨k, hk, rfl, rfl, rfl, hB⟩ := hrel
    have HB := Lib.hid hB
    clear hB
    by_cases hlt : k < xss.length
    · obtain ⟨xs, hxs⟩ : ∃ x, xss[k]? = some x := ⟨_, List.getElem?_eq_getElem hlt⟩
      have hxl := H6.out xs (List.mem_of_getElem? hxs)
      obtain ⟨b, o, a, c1, rfl, hbl, e0, r1⟩ := HR.out.at_ hxs
      have E0 := Lib.hid e0
      have R1 := Lib.hid r1
      have HXs := Lib.hid hxs
      have e1 := (HB.out.cell (p := ⟨b, o + k, none⟩) hbl).trans E0.out
      have hk0 : (0 : Int) ≤ (k : Int) := Int.natCast_nonneg _
      have hk8 : (k : Int) < xss.length := by omega
      have HOk := Lib.hid (bst_ok (d := d) k hk)
      obtain ⟨T, hT⟩ : ∃ T, bst xss d k = T := ⟨_, rfl⟩
      have HTT := Lib.hid hT
      rw [hT] at HOk
      rw [hT]
      clear hxs r1 e0 hT
      by_cases hf : xs.length = 6
      · have hf' : (xs.length : Int) = 6 := by omega
        have HN : Hid (bst xss d (k + 1) = T) := by show bst xss d (k + 1) = T; rw [bst_full HXs.out hf, HTT.out]
        clear hf
        go_wp2
        go_roundw
        case rel => exact ⟨k + 1, by omega, by go_num, by rw [HN.out], by rw [HN.out], HB.out⟩
        case measure => simp [intOf]; omega
      have hf' : ((xs.length : Int) == 6) = false := by simp only [beq_eq_false_iff_ne, ne_eq]; omega
      have HN : Hid (bst xss d (k + 1) = bstN T k (cntB xs d xs.length) xs.length) := by show bst xss d (k + 1) = _; rw [bst_room HXs.out hf, HTT.out]
      clear hf
      go_wp2_with fail
      clear e1
      go_loopw [8, 9] (fun n j wr => ∃ (q : Nat), q ≤ xs.length ∧ j = .int .i64 q ∧ n = .int .i64 (cntB xs d q : Nat) ∧ Below w.heap.size w wr)
        (fun _ j _ => xs.length - (intOf j).toNat)
      case atStart => exact ⟨0, by omega, rfl, by simp [cntB], HB.out⟩
      case round =>
        clear HB
        obtain ⟨q, hq, rfl, rfl, hB⟩ := hrel
        have HB := Lib.hid hB
        have e1 := (hB.cell (p := ⟨b, o + k, none⟩) hbl).trans E0.out
        have e2 := (hB.cell (p := ⟨Bs, Bo + 2, none⟩) hBs).trans HDy.out
        clear hB
        have hq0 : (0 : Int) ≤ (q : Int) := Int.natCast_nonneg _
        have hcl := cntB_le xs d q
        by_cases hlt3 : q < xs.length
        · obtain ⟨⟨⟨k2, y2⟩, d2⟩, hy⟩ : ∃ x, xs[q]? = some x := ⟨_, List.getElem?_eq_getElem (by omega)⟩
          have hcs := cntB_succ (d := d) hy
          obtain ⟨g', p', rfl, hg', hrow'⟩ := (R1.out.keep HB.out).at_ wcells_length hy
          obtain ⟨F1, F2, F3⟩ := rowW hrow'
          clear hy hrow' F1 F2
          have hq8 : (q : Int) < xs.length := by omega
          obtain ⟨C, hC⟩ : ∃ C, cntB xs d q = C := ⟨_, rfl⟩
          rw [hC] at hcs hcl ⊢
          clear hC
          have hw1 : IntKind.i64.wrap ((C : Int) + 1) = ((C + 1 : Nat) : Int) := by rw [show ((C : Int) + 1) = ((C + 1 : Nat) : Int) from by omega]; exact IntWalk.i64_in _ ⟨by omega, by omega⟩
          have hw2 : wrap64 ((C : Int) + 1) = ((C + 1 : Nat) : Int) := by rw [show ((C : Int) + 1) = ((C + 1 : Nat) : Int) from by omega]; exact IntWalk.wrap64_in _ ⟨by omega, by omega⟩
          obtain ⟨n, hn⟩ : ∃ n : Int, (C : Int) = n := ⟨_, rfl⟩
          obtain ⟨n', hn'⟩ : ∃ n : Int, ((C + 1 : Nat) : Int) = n := ⟨_, rfl⟩
          have HN1 := Lib.hid hn
          have HN' := Lib.hid hn'
          have HCs := Lib.hid hcs
          rw [hn, hn'] at hw1 hw2
          rw [hn]
          clear hn hn' hcs hcl
          by_cases hd : d2 < d
          · have HE : Hid (((cntB xs d (q + 1) : Nat) : Int) = n') := by show ((cntB xs d (q + 1) : Nat) : Int) = n'; rw [HCs.out, ← HN'.out]; simp [hd]
            clear HN1 HN' HCs
            go_wp2_with fail
            go_region_held3 (fun w' => w'.cell? ⟨b, o + k, none⟩ = some (.slice (some ⟨g', p', none⟩) xs.length c1) ∧ w'.cell? ⟨g', p' + q * 3 + 2, none⟩ = some (.int .i16 d2) ∧ w'.cell? ⟨Bs, Bo + 2, none⟩ = some (.int .i16 d)) (go_keep) (fail)
            go_wp2
            go_roundw
            case rel => exact ⟨q + 1, by omega, by go_num, by rw [HE.out], HB.out.drew⟩
            case measure => simp [intOf]; omega
          · have HE : Hid (((cntB xs d (q + 1) : Nat) : Int) = n) := by show ((cntB xs d (q + 1) : Nat) : Int) = n; rw [HCs.out, ← HN1.out]; simp [hd]
            clear HN1 HN' HCs
            go_wp2_with fail
            go_region_held3 (fun w' => w'.cell? ⟨b, o + k, none⟩ = some (.slice (some ⟨g', p', none⟩) xs.length c1) ∧ w'.cell? ⟨g', p' + q * 3 + 2, none⟩ = some (.int .i16 d2) ∧ w'.cell? ⟨Bs, Bo + 2, none⟩ = some (.int .i16 d)) (go_keep) (fail)
            go_wp2
            go_roundw
            case rel => exact ⟨q + 1, by omega, by go_num, by rw [HE.out], HB.out.drew⟩
            case measure => simp [intOf]; omega
        · obtain rfl : q = xs.length := by omega
          clear e2
          have hlq : ¬ ((xs.length : Int) < xs.length) := by omega
          obtain ⟨C, hC⟩ : ∃ C, cntB xs d xs.length = C := ⟨_, rfl⟩
          rw [hC] at HN hcl ⊢
          clear hC
          have hc0 : (0 : Int) ≤ (C : Int) := Int.natCast_nonneg _
          rcases T with _ | ⟨bb, oo, nn⟩
          · rw [show bestI none = -1 from rfl, show leastI none = 0 from rfl]
            have HN2 : Hid (bst xss d (k + 1) = some (k, C, xs.length)) := HN.out
            clear HN hcl
            go_wp2_with fail
            refine wp_region_held_drew (S := fun w' => Below wr.heap.size wr w') (by kernel_rfl) (Below.refl _ _).drew (fun hHeld => ?_)
            refine wpAnyH_take (i := 0) (v := .int .i64 (-1)) rfl (by kernel_rfl) (by kernel_rfl) (by kernel_rfl) (fun _ _ _ h => h) (Or.inl ⟨by rfl, fun w' h => by (go_simp <;> omega)⟩) (by assumption) ?_
            try simp only [Act.put, List.getElem_toArray, List.getElem_cons_zero, List.getElem_cons_succ, List.setIfInBounds_toArray, List.set_cons_zero, List.set_cons_succ]
            refine wpAnyH_take (i := 1) (v := .bool true) rfl (by kernel_rfl) (by kernel_rfl) (by kernel_rfl) (fun _ _ _ h => h) (Or.inl ⟨by rfl, fun w' h => by (go_simp <;> omega)⟩) (by assumption) ?_
            try simp only [Act.put, List.getElem_toArray, List.getElem_cons_zero, List.getElem_cons_succ, List.setIfInBounds_toArray, List.set_cons_zero, List.set_cons_succ]
            refine wpAnyH_take (i := 2) (v := .bool true) rfl (by kernel_rfl) (by kernel_rfl) (by kernel_rfl) (fun _ _ _ h => h) (Or.inl ⟨by rfl, fun w' h => by (go_simp <;> omega)⟩) (by assumption) ?_
            try simp only [Act.put, List.getElem_toArray, List.getElem_cons_zero, List.getElem_cons_succ, List.setIfInBounds_toArray, List.set_cons_zero, List.set_cons_succ]
            refine wpAnyH_take (i := 3) (v := undef) rfl (by kernel_rfl) (by kernel_rfl) (by kernel_rfl) (fun _ _ _ h => h) (Or.inr ⟨by rfl, rfl⟩) (by assumption) ?_
            try simp only [Act.put, List.getElem_toArray, List.getElem_cons_zero, List.getElem_cons_succ, List.setIfInBounds_toArray, List.set_cons_zero, List.set_cons_succ]
            refine wpAnyH_take (i := 4) (v := undef) rfl (by kernel_rfl) (by kernel_rfl) (by kernel_rfl) (fun _ _ _ h => h) (Or.inr ⟨by rfl, rfl⟩) (by assumption) ?_
            try simp only [Act.put, List.getElem_toArray, List.getElem_cons_zero, List.getElem_cons_succ, List.setIfInBounds_toArray, List.set_cons_zero, List.set_cons_succ]
            refine wpAnyH_take (i := 5) (v := undef) rfl (by kernel_rfl) (by kernel_rfl) (by kernel_rfl) (fun _ _ _ h => h) (Or.inr ⟨by rfl, rfl⟩) (by assumption) ?_
            try simp only [Act.put, List.getElem_toArray, List.getElem_cons_zero, List.getElem_cons_succ, List.setIfInBounds_toArray, List.set_cons_zero, List.set_cons_succ]
            refine wpAnyH_take (i := 6) (v := .bool true) rfl (by kernel_rfl) (by kernel_rfl) (by kernel_rfl) (fun _ _ _ h => h) (Or.inl ⟨by rfl, fun w' h => by (go_simp <;> omega)⟩) (by assumption) ?_
            try simp only [Act.put, List.getElem_toArray, List.getElem_cons_zero, List.getElem_cons_succ, List.setIfInBounds_toArray, List.set_cons_zero, List.set_cons_succ]
            refine wpAnyH_take (i := 7) (v := .bool true) rfl (by kernel_rfl) (by kernel_rfl) (by kernel_rfl) (fun _ _ _ h => h) (Or.inl ⟨by rfl, fun w' h => by (go_simp <;> omega)⟩) (by assumption) ?_
            try simp only [Act.put, List.getElem_toArray, List.getElem_cons_zero, List.getElem_cons_succ, List.setIfInBounds_toArray, List.set_cons_zero, List.set_cons_succ]
            refine wpAnyH_take (i := 8) (v := undef) rfl (by kernel_rfl) (by kernel_rfl) (by kernel_rfl) (fun _ _ _ h => h) (Or.inr ⟨by rfl, rfl⟩) (by assumption) ?_
            try simp only [Act.put, List.getElem_toArray, List.getElem_cons_zero, List.getElem_cons_succ, List.setIfInBounds_toArray, List.set_cons_zero, List.set_cons_succ]
            refine wpAnyH_take (i := 9) (v := undef) rfl (by kernel_rfl) (by kernel_rfl) (by kernel_rfl) (fun _ _ _ h => h) (Or.inr ⟨by rfl, rfl⟩) (by assumption) ?_
            try simp only [Act.put, List.getElem_toArray, List.getElem_cons_zero, List.getElem_cons_succ, List.setIfInBounds_toArray, List.set_cons_zero, List.set_cons_succ]
            refine wpAnyH_take (i := 10) (v := undef) rfl (by kernel_rfl) (by kernel_rfl) (by kernel_rfl) (fun _ _ _ h => h) (Or.inr ⟨by rfl, rfl⟩) (by assumption) ?_
            try simp only [Act.put, List.getElem_toArray, List.getElem_cons_zero, List.getElem_cons_succ, List.setIfInBounds_toArray, List.set_cons_zero, List.set_cons_succ]
            refine wpAnyH_take (i := 11) (v := undef) rfl (by kernel_rfl) (by kernel_rfl) (by kernel_rfl) (fun _ _ _ h => h) (Or.inr ⟨by rfl, rfl⟩) (by assumption) ?_
            try simp only [Act.put, List.getElem_toArray, List.getElem_cons_zero, List.getElem_cons_succ, List.setIfInBounds_toArray, List.set_cons_zero, List.set_cons_succ]
            refine wpAnyH_take (i := 12) (v := undef) rfl (by kernel_rfl) (by kernel_rfl) (by kernel_rfl) (fun _ _ _ h => h) (Or.inr ⟨by rfl, rfl⟩) (by assumption) ?_
            try simp only [Act.put, List.getElem_toArray, List.getElem_cons_zero, List.getElem_cons_succ, List.setIfInBounds_toArray, List.set_cons_zero, List.set_cons_succ]
            refine wpAnyH_take (i := 13) (v := undef) rfl (by kernel_rfl) (by kernel_rfl) (by kernel_rfl) (fun _ _ _ h => h) (Or.inr ⟨by rfl, rfl⟩) (by assumption) ?_
            try simp only [Act.put, List.getElem_toArray, List.getElem_cons_zero, List.getElem_cons_succ, List.setIfInBounds_toArray, List.set_cons_zero, List.set_cons_succ]
            refine wpAnyH_take (i := 14) (v := undef) rfl (by kernel_rfl) (by kernel_rfl) (by kernel_rfl) (fun _ _ _ h => h) (Or.inr ⟨by rfl, rfl⟩) (by assumption) ?_
            try simp only [Act.put, List.getElem_toArray, List.getElem_cons_zero, List.getElem_cons_succ, List.setIfInBounds_toArray, List.set_cons_zero, List.set_cons_succ]
            refine wpAnyH_take (i := 15) (v := undef) rfl (by kernel_rfl) (by kernel_rfl) (by kernel_rfl) (fun _ _ _ h => h) (Or.inr ⟨by rfl, rfl⟩) (by assumption) ?_
            try simp only [Act.put, List.getElem_toArray, List.getElem_cons_zero, List.getElem_cons_succ, List.setIfInBounds_toArray, List.set_cons_zero, List.set_cons_succ]
            refine wpAnyH_take (i := 16) (v := undef) rfl (by kernel_rfl) (by kernel_rfl) (by kernel_rfl) (fun _ _ _ h => h) (Or.inr ⟨by rfl, rfl⟩) (by assumption) ?_
            try simp only [Act.put, List.getElem_toArray, List.getElem_cons_zero, List.getElem_cons_succ, List.setIfInBounds_toArray, List.set_cons_zero, List.set_cons_succ]
            refine wpAnyH_take (i := 17) (v := undef) rfl (by kernel_rfl) (by kernel_rfl) (by kernel_rfl) (fun _ _ _ h => h) (Or.inr ⟨by rfl, rfl⟩) (by assumption) ?_
            try simp only [Act.put, List.getElem_toArray, List.getElem_cons_zero, List.getElem_cons_succ, List.setIfInBounds_toArray, List.set_cons_zero, List.set_cons_succ]
            refine wpAnyH_take (i := 18) (v := undef) rfl (by kernel_rfl) (by kernel_rfl) (by kernel_rfl) (fun _ _ _ h => h) (Or.inr ⟨by rfl, rfl⟩) (by assumption) ?_
            try simp only [Act.put, List.getElem_toArray, List.getElem_cons_zero, List.getElem_cons_succ, List.setIfInBounds_toArray, List.set_cons_zero, List.set_cons_succ]
            refine wpAnyH_take (i := 19) (v := undef) rfl (by kernel_rfl) (by kernel_rfl) (by kernel_rfl) (fun _ _ _ h => h) (Or.inr ⟨by rfl, rfl⟩) (by assumption) ?_
            try simp only [Act.put, List.getElem_toArray, List.getElem_cons_zero, List.getElem_cons_succ, List.setIfInBounds_toArray, List.set_cons_zero, List.set_cons_succ]
            refine wpAnyH_take (i := 20) (v := undef) rfl (by kernel_rfl) (by kernel_rfl) (by kernel_rfl) (fun _ _ _ h => h) (Or.inr ⟨by rfl, rfl⟩) (by assumption) ?_
            try simp only [Act.put, List.getElem_toArray, List.getElem_cons_zero, List.getElem_cons_succ, List.setIfInBounds_toArray, List.set_cons_zero, List.set_cons_succ]
            refine wpAnyH_take (i := 21) (v := undef) rfl (by kernel_rfl) (by kernel_rfl) (by kernel_rfl) (fun _ _ _ h => h) (Or.inr ⟨by rfl, rfl⟩) (by assumption) ?_
            try simp only [Act.put, List.getElem_toArray, List.getElem_cons_zero, List.getElem_cons_succ, List.setIfInBounds_toArray, List.set_cons_zero, List.set_cons_succ]
            refine wpAnyH_take (i := 22) (v := undef) rfl (by kernel_rfl) (by kernel_rfl) (by kernel_rfl) (fun _ _ _ h => h) (Or.inr ⟨by rfl, rfl⟩) (by assumption) ?_
            try simp only [Act.put, List.getElem_toArray, List.getElem_cons_zero, List.getElem_cons_succ, List.setIfInBounds_toArray, List.set_cons_zero, List.set_cons_succ]
            refine wpAnyH_take (i := 23) (v := undef) rfl (by kernel_rfl) (by kernel_rfl) (by kernel_rfl) (fun _ _ _ h => h) (Or.inr ⟨by rfl, rfl⟩) (by assumption) ?_
            try simp only [Act.put, List.getElem_toArray, List.getElem_cons_zero, List.getElem_cons_succ, List.setIfInBounds_toArray, List.set_cons_zero, List.set_cons_succ]
            refine wpAnyH_take (i := 24) (v := .bool true) rfl (by kernel_rfl) (by kernel_rfl) (by kernel_rfl) (fun _ _ _ h => h) (Or.inl ⟨by rfl, fun w' h => by (go_simp <;> omega)⟩) (by assumption) ?_
            try simp only [Act.put, List.getElem_toArray, List.getElem_cons_zero, List.getElem_cons_succ, List.setIfInBounds_toArray, List.set_cons_zero, List.set_cons_succ]
            refine wpAnyH_done (by kernel_rfl) ?_ _
            try simp only [Act.put, List.getElem_toArray, List.getElem_cons_zero, List.getElem_cons_succ, List.setIfInBounds_toArray, List.set_cons_zero, List.set_cons_succ]
            have hb := hHeld
            clear hHeld
            go_wp2
            go_roundw
            case rel => exact ⟨k + 1, by omega, by go_num, by (rw [HN2.out]; rfl), by (rw [HN2.out]; rfl), HB.out.drew⟩
            case measure => simp [intOf]; omega
          · rw [show bestI (some (bb, oo, nn)) = (bb : Int) from rfl, show leastI (some (bb, oo, nn)) = (oo : Int) from rfl]
            obtain ⟨hbk, hon, ys, hys, hnn⟩ := HOk.out bb oo nn rfl
            obtain ⟨b9, o9, a9, c9, he9, -, e90, -⟩ := HR.out.at_ hys
            cases he9
            have e9 := (HB.out.cell (p := ⟨b, o + bb, none⟩) hbl).trans e90
            have hbb0 : (0 : Int) ≤ (bb : Int) := Int.natCast_nonneg _
            have hbb8 : (bb : Int) < xss.length := by omega
            have hbbn : ¬ (bb : Int) < 0 := by omega
            have hyl := H6.out ys (List.mem_of_getElem? hys)
            clear hys e90
            subst hnn
            by_cases hA : C < oo
            · have HN2 : Hid (bst xss d (k + 1) = some (k, C, xs.length)) := by show bst xss d (k + 1) = _; rw [HN.out, bstN, if_pos (.inl hA)]
              have hA' : (C : Int) < oo := by omega
              clear HN hA hcl hon
              go_wp2_with fail
              refine wp_region_held_drew (S := fun w' => Below wr.heap.size wr w') (by kernel_rfl) (Below.refl _ _).drew (fun hHeld => ?_)
              refine wpAnyH_take (i := 0) (v := .int .i64 bb) rfl (by kernel_rfl) (by kernel_rfl) (by kernel_rfl) (fun _ _ _ h => h) (Or.inl ⟨by rfl, fun w' h => by (go_simp <;> omega)⟩) (by assumption) ?_
              try simp only [Act.put, List.getElem_toArray, List.getElem_cons_zero, List.getElem_cons_succ, List.setIfInBounds_toArray, List.set_cons_zero, List.set_cons_succ]
              refine wpAnyH_take (i := 1) (v := .bool false) rfl (by kernel_rfl) (by kernel_rfl) (by kernel_rfl) (fun _ _ _ h => h) (Or.inl ⟨by rfl, fun w' h => by (go_simp <;> omega)⟩) (by assumption) ?_
              try simp only [Act.put, List.getElem_toArray, List.getElem_cons_zero, List.getElem_cons_succ, List.setIfInBounds_toArray, List.set_cons_zero, List.set_cons_succ]
              refine wpAnyH_take (i := 2) (v := .bool false) rfl (by kernel_rfl) (by kernel_rfl) (by kernel_rfl) (fun _ _ _ h => h) (Or.inl ⟨by rfl, fun w' h => by (go_simp <;> omega)⟩) (by assumption) ?_
              try simp only [Act.put, List.getElem_toArray, List.getElem_cons_zero, List.getElem_cons_succ, List.setIfInBounds_toArray, List.set_cons_zero, List.set_cons_succ]
              refine wpAnyH_take (i := 3) (v := .int .i64 C) rfl (by kernel_rfl) (by kernel_rfl) (by kernel_rfl) (fun _ _ _ h => h) (Or.inl ⟨by rfl, fun w' h => by (go_simp <;> omega)⟩) (by assumption) ?_
              try simp only [Act.put, List.getElem_toArray, List.getElem_cons_zero, List.getElem_cons_succ, List.setIfInBounds_toArray, List.set_cons_zero, List.set_cons_succ]
              refine wpAnyH_take (i := 4) (v := .int .i64 oo) rfl (by kernel_rfl) (by kernel_rfl) (by kernel_rfl) (fun _ _ _ h => h) (Or.inl ⟨by rfl, fun w' h => by (go_simp <;> omega)⟩) (by assumption) ?_
              try simp only [Act.put, List.getElem_toArray, List.getElem_cons_zero, List.getElem_cons_succ, List.setIfInBounds_toArray, List.set_cons_zero, List.set_cons_succ]
              refine wpAnyH_take (i := 5) (v := .bool true) rfl (by kernel_rfl) (by kernel_rfl) (by kernel_rfl) (fun _ _ _ h => h) (Or.inl ⟨by rfl, fun w' h => by (go_simp <;> omega)⟩) (by assumption) ?_
              try simp only [Act.put, List.getElem_toArray, List.getElem_cons_zero, List.getElem_cons_succ, List.setIfInBounds_toArray, List.set_cons_zero, List.set_cons_succ]
              refine wpAnyH_take (i := 6) (v := .bool true) rfl (by kernel_rfl) (by kernel_rfl) (by kernel_rfl) (fun _ _ _ h => h) (Or.inl ⟨by rfl, fun w' h => by (go_simp <;> omega)⟩) (by assumption) ?_
              try simp only [Act.put, List.getElem_toArray, List.getElem_cons_zero, List.getElem_cons_succ, List.setIfInBounds_toArray, List.set_cons_zero, List.set_cons_succ]
              refine wpAnyH_take (i := 7) (v := .bool true) rfl (by kernel_rfl) (by kernel_rfl) (by kernel_rfl) (fun _ _ _ h => h) (Or.inl ⟨by rfl, fun w' h => by (go_simp <;> omega)⟩) (by assumption) ?_
              try simp only [Act.put, List.getElem_toArray, List.getElem_cons_zero, List.getElem_cons_succ, List.setIfInBounds_toArray, List.set_cons_zero, List.set_cons_succ]
              refine wpAnyH_take (i := 8) (v := undef) rfl (by kernel_rfl) (by kernel_rfl) (by kernel_rfl) (fun _ _ _ h => h) (Or.inr ⟨by rfl, rfl⟩) (by assumption) ?_
              try simp only [Act.put, List.getElem_toArray, List.getElem_cons_zero, List.getElem_cons_succ, List.setIfInBounds_toArray, List.set_cons_zero, List.set_cons_succ]
              refine wpAnyH_take (i := 9) (v := undef) rfl (by kernel_rfl) (by kernel_rfl) (by kernel_rfl) (fun _ _ _ h => h) (Or.inr ⟨by rfl, rfl⟩) (by assumption) ?_
              try simp only [Act.put, List.getElem_toArray, List.getElem_cons_zero, List.getElem_cons_succ, List.setIfInBounds_toArray, List.set_cons_zero, List.set_cons_succ]
              refine wpAnyH_take (i := 10) (v := undef) rfl (by kernel_rfl) (by kernel_rfl) (by kernel_rfl) (fun _ _ _ h => h) (Or.inr ⟨by rfl, rfl⟩) (by assumption) ?_
              try simp only [Act.put, List.getElem_toArray, List.getElem_cons_zero, List.getElem_cons_succ, List.setIfInBounds_toArray, List.set_cons_zero, List.set_cons_succ]
              refine wpAnyH_take (i := 11) (v := undef) rfl (by kernel_rfl) (by kernel_rfl) (by kernel_rfl) (fun _ _ _ h => h) (Or.inr ⟨by rfl, rfl⟩) (by assumption) ?_
              try simp only [Act.put, List.getElem_toArray, List.getElem_cons_zero, List.getElem_cons_succ, List.setIfInBounds_toArray, List.set_cons_zero, List.set_cons_succ]
              refine wpAnyH_take (i := 12) (v := undef) rfl (by kernel_rfl) (by kernel_rfl) (by kernel_rfl) (fun _ _ _ h => h) (Or.inr ⟨by rfl, rfl⟩) (by assumption) ?_
              try simp only [Act.put, List.getElem_toArray, List.getElem_cons_zero, List.getElem_cons_succ, List.setIfInBounds_toArray, List.set_cons_zero, List.set_cons_succ]
              refine wpAnyH_take (i := 13) (v := undef) rfl (by kernel_rfl) (by kernel_rfl) (by kernel_rfl) (fun _ _ _ h => h) (Or.inr ⟨by rfl, rfl⟩) (by assumption) ?_
              try simp only [Act.put, List.getElem_toArray, List.getElem_cons_zero, List.getElem_cons_succ, List.setIfInBounds_toArray, List.set_cons_zero, List.set_cons_succ]
              refine wpAnyH_take (i := 14) (v := undef) rfl (by kernel_rfl) (by kernel_rfl) (by kernel_rfl) (fun _ _ _ h => h) (Or.inr ⟨by rfl, rfl⟩) (by assumption) ?_
              try simp only [Act.put, List.getElem_toArray, List.getElem_cons_zero, List.getElem_cons_succ, List.setIfInBounds_toArray, List.set_cons_zero, List.set_cons_succ]
              refine wpAnyH_take (i := 15) (v := undef) rfl (by kernel_rfl) (by kernel_rfl) (by kernel_rfl) (fun _ _ _ h => h) (Or.inr ⟨by rfl, rfl⟩) (by assumption) ?_
              try simp only [Act.put, List.getElem_toArray, List.getElem_cons_zero, List.getElem_cons_succ, List.setIfInBounds_toArray, List.set_cons_zero, List.set_cons_succ]
              refine wpAnyH_take (i := 16) (v := undef) rfl (by kernel_rfl) (by kernel_rfl) (by kernel_rfl) (fun _ _ _ h => h) (Or.inr ⟨by rfl, rfl⟩) (by assumption) ?_
              try simp only [Act.put, List.getElem_toArray, List.getElem_cons_zero, List.getElem_cons_succ, List.setIfInBounds_toArray, List.set_cons_zero, List.set_cons_succ]
              refine wpAnyH_take (i := 17) (v := undef) rfl (by kernel_rfl) (by kernel_rfl) (by kernel_rfl) (fun _ _ _ h => h) (Or.inr ⟨by rfl, rfl⟩) (by assumption) ?_
              try simp only [Act.put, List.getElem_toArray, List.getElem_cons_zero, List.getElem_cons_succ, List.setIfInBounds_toArray, List.set_cons_zero, List.set_cons_succ]
              refine wpAnyH_take (i := 18) (v := undef) rfl (by kernel_rfl) (by kernel_rfl) (by kernel_rfl) (fun _ _ _ h => h) (Or.inr ⟨by rfl, rfl⟩) (by assumption) ?_
              try simp only [Act.put, List.getElem_toArray, List.getElem_cons_zero, List.getElem_cons_succ, List.setIfInBounds_toArray, List.set_cons_zero, List.set_cons_succ]
              refine wpAnyH_take (i := 19) (v := undef) rfl (by kernel_rfl) (by kernel_rfl) (by kernel_rfl) (fun _ _ _ h => h) (Or.inr ⟨by rfl, rfl⟩) (by assumption) ?_
              try simp only [Act.put, List.getElem_toArray, List.getElem_cons_zero, List.getElem_cons_succ, List.setIfInBounds_toArray, List.set_cons_zero, List.set_cons_succ]
              refine wpAnyH_take (i := 20) (v := undef) rfl (by kernel_rfl) (by kernel_rfl) (by kernel_rfl) (fun _ _ _ h => h) (Or.inr ⟨by rfl, rfl⟩) (by assumption) ?_
              try simp only [Act.put, List.getElem_toArray, List.getElem_cons_zero, List.getElem_cons_succ, List.setIfInBounds_toArray, List.set_cons_zero, List.set_cons_succ]
              refine wpAnyH_take (i := 21) (v := undef) rfl (by kernel_rfl) (by kernel_rfl) (by kernel_rfl) (fun _ _ _ h => h) (Or.inr ⟨by rfl, rfl⟩) (by assumption) ?_
              try simp only [Act.put, List.getElem_toArray, List.getElem_cons_zero, List.getElem_cons_succ, List.setIfInBounds_toArray, List.set_cons_zero, List.set_cons_succ]
              refine wpAnyH_take (i := 22) (v := undef) rfl (by kernel_rfl) (by kernel_rfl) (by kernel_rfl) (fun _ _ _ h => h) (Or.inr ⟨by rfl, rfl⟩) (by assumption) ?_
              try simp only [Act.put, List.getElem_toArray, List.getElem_cons_zero, List.getElem_cons_succ, List.setIfInBounds_toArray, List.set_cons_zero, List.set_cons_succ]
              refine wpAnyH_take (i := 23) (v := undef) rfl (by kernel_rfl) (by kernel_rfl) (by kernel_rfl) (fun _ _ _ h => h) (Or.inr ⟨by rfl, rfl⟩) (by assumption) ?_
              try simp only [Act.put, List.getElem_toArray, List.getElem_cons_zero, List.getElem_cons_succ, List.setIfInBounds_toArray, List.set_cons_zero, List.set_cons_succ]
              refine wpAnyH_take (i := 24) (v := .bool true) rfl (by kernel_rfl) (by kernel_rfl) (by kernel_rfl) (fun _ _ _ h => h) (Or.inl ⟨by rfl, fun w' h => by (go_simp <;> omega)⟩) (by assumption) ?_
              try simp only [Act.put, List.getElem_toArray, List.getElem_cons_zero, List.getElem_cons_succ, List.setIfInBounds_toArray, List.set_cons_zero, List.set_cons_succ]
              refine wpAnyH_done (by kernel_rfl) ?_ _
              try simp only [Act.put, List.getElem_toArray, List.getElem_cons_zero, List.getElem_cons_succ, List.setIfInBounds_toArray, List.set_cons_zero, List.set_cons_succ]
              have hb := hHeld
              clear hHeld
              go_wp2
              go_roundw
              case rel => exact ⟨k + 1, by omega, by go_num, by (rw [HN2.out]; rfl), by (rw [HN2.out]; rfl), HB.out.drew⟩
              case measure => simp [intOf]; omega
            · have hA' : ¬ (C : Int) < oo := by omega
              by_cases hE : C = oo
              · have hE' : ((C : Int) == oo) = true := by simp only [beq_iff_eq]; omega
                by_cases hF : xs.length < ys.length
                · have HN2 : Hid (bst xss d (k + 1) = some (k, C, xs.length)) := by show bst xss d (k + 1) = _; rw [HN.out, bstN, if_pos (.inr ⟨hE, hF⟩)]
                  have hF' : (xs.length : Int) < ys.length := by omega
                  clear HN hA hcl hon hE hF
                  go_wp2_with fail
                  refine wp_region_held_drew (S := fun w' => Below wr.heap.size wr w') (by kernel_rfl) (Below.refl _ _).drew (fun hHeld => ?_)
                  refine wpAnyH_take (i := 0) (v := .int .i64 bb) rfl (by kernel_rfl) (by kernel_rfl) (by kernel_rfl) (fun _ _ _ h => h) (Or.inl ⟨by rfl, fun w' h => by (go_simp <;> omega)⟩) (by assumption) ?_
                  try simp only [Act.put, List.getElem_toArray, List.getElem_cons_zero, List.getElem_cons_succ, List.setIfInBounds_toArray, List.set_cons_zero, List.set_cons_succ]
                  refine wpAnyH_take (i := 1) (v := .bool false) rfl (by kernel_rfl) (by kernel_rfl) (by kernel_rfl) (fun _ _ _ h => h) (Or.inl ⟨by rfl, fun w' h => by (go_simp <;> omega)⟩) (by assumption) ?_
                  try simp only [Act.put, List.getElem_toArray, List.getElem_cons_zero, List.getElem_cons_succ, List.setIfInBounds_toArray, List.set_cons_zero, List.set_cons_succ]
                  refine wpAnyH_take (i := 2) (v := .bool false) rfl (by kernel_rfl) (by kernel_rfl) (by kernel_rfl) (fun _ _ _ h => h) (Or.inl ⟨by rfl, fun w' h => by (go_simp <;> omega)⟩) (by assumption) ?_
                  try simp only [Act.put, List.getElem_toArray, List.getElem_cons_zero, List.getElem_cons_succ, List.setIfInBounds_toArray, List.set_cons_zero, List.set_cons_succ]
                  refine wpAnyH_take (i := 3) (v := .int .i64 C) rfl (by kernel_rfl) (by kernel_rfl) (by kernel_rfl) (fun _ _ _ h => h) (Or.inl ⟨by rfl, fun w' h => by (go_simp <;> omega)⟩) (by assumption) ?_
                  try simp only [Act.put, List.getElem_toArray, List.getElem_cons_zero, List.getElem_cons_succ, List.setIfInBounds_toArray, List.set_cons_zero, List.set_cons_succ]
                  refine wpAnyH_take (i := 4) (v := .int .i64 oo) rfl (by kernel_rfl) (by kernel_rfl) (by kernel_rfl) (fun _ _ _ h => h) (Or.inl ⟨by rfl, fun w' h => by (go_simp <;> omega)⟩) (by assumption) ?_
                  try simp only [Act.put, List.getElem_toArray, List.getElem_cons_zero, List.getElem_cons_succ, List.setIfInBounds_toArray, List.set_cons_zero, List.set_cons_succ]
                  refine wpAnyH_take (i := 5) (v := .bool false) rfl (by kernel_rfl) (by kernel_rfl) (by kernel_rfl) (fun _ _ _ h => h) (Or.inl ⟨by rfl, fun w' h => by (go_simp <;> omega)⟩) (by assumption) ?_
                  try simp only [Act.put, List.getElem_toArray, List.getElem_cons_zero, List.getElem_cons_succ, List.setIfInBounds_toArray, List.set_cons_zero, List.set_cons_succ]
                  refine wpAnyH_take (i := 6) (v := .bool false) rfl (by kernel_rfl) (by kernel_rfl) (by kernel_rfl) (fun _ _ _ h => h) (Or.inl ⟨by rfl, fun w' h => by (go_simp <;> omega)⟩) (by assumption) ?_
                  try simp only [Act.put, List.getElem_toArray, List.getElem_cons_zero, List.getElem_cons_succ, List.setIfInBounds_toArray, List.set_cons_zero, List.set_cons_succ]
                  refine wpAnyH_take (i := 7) (v := .bool false) rfl (by kernel_rfl) (by kernel_rfl) (by kernel_rfl) (fun _ _ _ h => h) (Or.inl ⟨by rfl, fun w' h => by (go_simp <;> omega)⟩) (by assumption) ?_
                  try simp only [Act.put, List.getElem_toArray, List.getElem_cons_zero, List.getElem_cons_succ, List.setIfInBounds_toArray, List.set_cons_zero, List.set_cons_succ]
                  refine wpAnyH_take (i := 8) (v := .int .i64 C) rfl (by kernel_rfl) (by kernel_rfl) (by kernel_rfl) (fun _ _ _ h => h) (Or.inl ⟨by rfl, fun w' h => by (go_simp <;> omega)⟩) (by assumption) ?_
                  try simp only [Act.put, List.getElem_toArray, List.getElem_cons_zero, List.getElem_cons_succ, List.setIfInBounds_toArray, List.set_cons_zero, List.set_cons_succ]
                  refine wpAnyH_take (i := 9) (v := .int .i64 oo) rfl (by kernel_rfl) (by kernel_rfl) (by kernel_rfl) (fun _ _ _ h => h) (Or.inl ⟨by rfl, fun w' h => by (go_simp <;> omega)⟩) (by assumption) ?_
                  try simp only [Act.put, List.getElem_toArray, List.getElem_cons_zero, List.getElem_cons_succ, List.setIfInBounds_toArray, List.set_cons_zero, List.set_cons_succ]
                  refine wpAnyH_take (i := 10) (v := .bool true) rfl (by kernel_rfl) (by kernel_rfl) (by kernel_rfl) (fun _ _ _ h => h) (Or.inl ⟨by rfl, fun w' h => by (go_simp <;> omega)⟩) (by assumption) ?_
                  try simp only [Act.put, List.getElem_toArray, List.getElem_cons_zero, List.getElem_cons_succ, List.setIfInBounds_toArray, List.set_cons_zero, List.set_cons_succ]
                  refine wpAnyH_take (i := 11) (v := .bool true) rfl (by kernel_rfl) (by kernel_rfl) (by kernel_rfl) (fun _ _ _ h => h) (Or.inl ⟨by rfl, fun w' h => by (go_simp <;> omega)⟩) (by assumption) ?_
                  try simp only [Act.put, List.getElem_toArray, List.getElem_cons_zero, List.getElem_cons_succ, List.setIfInBounds_toArray, List.set_cons_zero, List.set_cons_succ]
                  refine wpAnyH_take (i := 12) (v := .slice (some ⟨b, o, none⟩) xss.length c) rfl (by kernel_rfl) (by kernel_rfl) (by kernel_rfl) (fun _ _ _ h => h) (Or.inl ⟨by rfl, fun w' h => by (go_simp <;> omega)⟩) (by assumption) ?_
                  try simp only [Act.put, List.getElem_toArray, List.getElem_cons_zero, List.getElem_cons_succ, List.setIfInBounds_toArray, List.set_cons_zero, List.set_cons_succ]
                  refine wpAnyH_take (i := 13) (v := .int .i64 k) rfl (by kernel_rfl) (by kernel_rfl) (by kernel_rfl) (fun _ _ _ h => h) (Or.inl ⟨by rfl, fun w' h => by (go_simp <;> omega)⟩) (by assumption) ?_
                  try simp only [Act.put, List.getElem_toArray, List.getElem_cons_zero, List.getElem_cons_succ, List.setIfInBounds_toArray, List.set_cons_zero, List.set_cons_succ]
                  refine wpAnyH_take (i := 14) (v := .pointer (some ⟨b, o + k, none⟩)) rfl (by kernel_rfl) (by kernel_rfl) (by kernel_rfl) (fun _ _ _ h => h) (Or.inl ⟨by rfl, fun w' h => by (go_simp <;> omega)⟩) (by assumption) ?_
                  try simp only [Act.put, List.getElem_toArray, List.getElem_cons_zero, List.getElem_cons_succ, List.setIfInBounds_toArray, List.set_cons_zero, List.set_cons_succ]
                  refine wpAnyH_take (i := 15) (v := .slice a xs.length c1) rfl (by kernel_rfl) (by kernel_rfl) (by kernel_rfl) (fun _ _ _ h => h) (Or.inl ⟨by rfl, fun w' h => by have g1 := (h.cell (p := ⟨b, o + k, none⟩) (Nat.lt_of_lt_of_le hbl HB.out.size)).trans e1; go_simp⟩) (by assumption) ?_
                  try simp only [Act.put, List.getElem_toArray, List.getElem_cons_zero, List.getElem_cons_succ, List.setIfInBounds_toArray, List.set_cons_zero, List.set_cons_succ]
                  refine wpAnyH_take (i := 16) (v := .int .i64 xs.length) rfl (by kernel_rfl) (by kernel_rfl) (by kernel_rfl) (fun _ _ _ h => h) (Or.inl ⟨by rfl, fun w' h => by (go_simp <;> omega)⟩) (by assumption) ?_
                  try simp only [Act.put, List.getElem_toArray, List.getElem_cons_zero, List.getElem_cons_succ, List.setIfInBounds_toArray, List.set_cons_zero, List.set_cons_succ]
                  refine wpAnyH_take (i := 17) (v := .slice (some ⟨b, o, none⟩) xss.length c) rfl (by kernel_rfl) (by kernel_rfl) (by kernel_rfl) (fun _ _ _ h => h) (Or.inl ⟨by rfl, fun w' h => by (go_simp <;> omega)⟩) (by assumption) ?_
                  try simp only [Act.put, List.getElem_toArray, List.getElem_cons_zero, List.getElem_cons_succ, List.setIfInBounds_toArray, List.set_cons_zero, List.set_cons_succ]
                  refine wpAnyH_take (i := 18) (v := .int .i64 bb) rfl (by kernel_rfl) (by kernel_rfl) (by kernel_rfl) (fun _ _ _ h => h) (Or.inl ⟨by rfl, fun w' h => by (go_simp <;> omega)⟩) (by assumption) ?_
                  try simp only [Act.put, List.getElem_toArray, List.getElem_cons_zero, List.getElem_cons_succ, List.setIfInBounds_toArray, List.set_cons_zero, List.set_cons_succ]
                  refine wpAnyH_take (i := 19) (v := .pointer (some ⟨b, o + bb, none⟩)) rfl (by kernel_rfl) (by kernel_rfl) (by kernel_rfl) (fun _ _ _ h => h) (Or.inl ⟨by rfl, fun w' h => by (go_simp <;> omega)⟩) (by assumption) ?_
                  try simp only [Act.put, List.getElem_toArray, List.getElem_cons_zero, List.getElem_cons_succ, List.setIfInBounds_toArray, List.set_cons_zero, List.set_cons_succ]
                  refine wpAnyH_take (i := 20) (v := .slice a9 ys.length c9) rfl (by kernel_rfl) (by kernel_rfl) (by kernel_rfl) (fun _ _ _ h => h) (Or.inl ⟨by rfl, fun w' h => by have g1 := (h.cell (p := ⟨b, o + bb, none⟩) (Nat.lt_of_lt_of_le hbl HB.out.size)).trans e9; go_simp⟩) (by assumption) ?_
                  try simp only [Act.put, List.getElem_toArray, List.getElem_cons_zero, List.getElem_cons_succ, List.setIfInBounds_toArray, List.set_cons_zero, List.set_cons_succ]
                  refine wpAnyH_take (i := 21) (v := .int .i64 ys.length) rfl (by kernel_rfl) (by kernel_rfl) (by kernel_rfl) (fun _ _ _ h => h) (Or.inl ⟨by rfl, fun w' h => by (go_simp <;> omega)⟩) (by assumption) ?_
                  try simp only [Act.put, List.getElem_toArray, List.getElem_cons_zero, List.getElem_cons_succ, List.setIfInBounds_toArray, List.set_cons_zero, List.set_cons_succ]
                  refine wpAnyH_take (i := 22) (v := .bool true) rfl (by kernel_rfl) (by kernel_rfl) (by kernel_rfl) (fun _ _ _ h => h) (Or.inl ⟨by rfl, fun w' h => by (go_simp <;> omega)⟩) (by assumption) ?_
                  try simp only [Act.put, List.getElem_toArray, List.getElem_cons_zero, List.getElem_cons_succ, List.setIfInBounds_toArray, List.set_cons_zero, List.set_cons_succ]
                  refine wpAnyH_take (i := 23) (v := .bool true) rfl (by kernel_rfl) (by kernel_rfl) (by kernel_rfl) (fun _ _ _ h => h) (Or.inl ⟨by rfl, fun w' h => by (go_simp <;> omega)⟩) (by assumption) ?_
                  try simp only [Act.put, List.getElem_toArray, List.getElem_cons_zero, List.getElem_cons_succ, List.setIfInBounds_toArray, List.set_cons_zero, List.set_cons_succ]
                  refine wpAnyH_take (i := 24) (v := .bool true) rfl (by kernel_rfl) (by kernel_rfl) (by kernel_rfl) (fun _ _ _ h => h) (Or.inl ⟨by rfl, fun w' h => by (go_simp <;> omega)⟩) (by assumption) ?_
                  try simp only [Act.put, List.getElem_toArray, List.getElem_cons_zero, List.getElem_cons_succ, List.setIfInBounds_toArray, List.set_cons_zero, List.set_cons_succ]
                  refine wpAnyH_done (by kernel_rfl) ?_ _
                  try simp only [Act.put, List.getElem_toArray, List.getElem_cons_zero, List.getElem_cons_succ, List.setIfInBounds_toArray, List.set_cons_zero, List.set_cons_succ]
                  have hb := hHeld
                  clear hHeld
                  go_wp2
                  go_roundw
                  case rel => exact ⟨k + 1, by omega, by go_num, by (rw [HN2.out]; rfl), by (rw [HN2.out]; rfl), HB.out.drew⟩
                  case measure => simp [intOf]; omega
                · have HN2 : Hid (bst xss d (k + 1) = some (bb, oo, ys.length)) := by show bst xss d (k + 1) = _; rw [HN.out, bstN, if_neg (by omega)]
                  have hF' : ¬ (xs.length : Int) < ys.length := by omega
                  clear HN hA hcl hon hE hF
                  go_wp2_with fail
                  refine wp_region_held_drew (S := fun w' => Below wr.heap.size wr w') (by kernel_rfl) (Below.refl _ _).drew (fun hHeld => ?_)
                  refine wpAnyH_take (i := 0) (v := .int .i64 bb) rfl (by kernel_rfl) (by kernel_rfl) (by kernel_rfl) (fun _ _ _ h => h) (Or.inl ⟨by rfl, fun w' h => by (go_simp <;> omega)⟩) (by assumption) ?_
                  try simp only [Act.put, List.getElem_toArray, List.getElem_cons_zero, List.getElem_cons_succ, List.setIfInBounds_toArray, List.set_cons_zero, List.set_cons_succ]
                  refine wpAnyH_take (i := 1) (v := .bool false) rfl (by kernel_rfl) (by kernel_rfl) (by kernel_rfl) (fun _ _ _ h => h) (Or.inl ⟨by rfl, fun w' h => by (go_simp <;> omega)⟩) (by assumption) ?_
                  try simp only [Act.put, List.getElem_toArray, List.getElem_cons_zero, List.getElem_cons_succ, List.setIfInBounds_toArray, List.set_cons_zero, List.set_cons_succ]
                  refine wpAnyH_take (i := 2) (v := .bool false) rfl (by kernel_rfl) (by kernel_rfl) (by kernel_rfl) (fun _ _ _ h => h) (Or.inl ⟨by rfl, fun w' h => by (go_simp <;> omega)⟩) (by assumption) ?_
                  try simp only [Act.put, List.getElem_toArray, List.getElem_cons_zero, List.getElem_cons_succ, List.setIfInBounds_toArray, List.set_cons_zero, List.set_cons_succ]
                  refine wpAnyH_take (i := 3) (v := .int .i64 C) rfl (by kernel_rfl) (by kernel_rfl) (by kernel_rfl) (fun _ _ _ h => h) (Or.inl ⟨by rfl, fun w' h => by (go_simp <;> omega)⟩) (by assumption) ?_
                  try simp only [Act.put, List.getElem_toArray, List.getElem_cons_zero, List.getElem_cons_succ, List.setIfInBounds_toArray, List.set_cons_zero, List.set_cons_succ]
                  refine wpAnyH_take (i := 4) (v := .int .i64 oo) rfl (by kernel_rfl) (by kernel_rfl) (by kernel_rfl) (fun _ _ _ h => h) (Or.inl ⟨by rfl, fun w' h => by (go_simp <;> omega)⟩) (by assumption) ?_
                  try simp only [Act.put, List.getElem_toArray, List.getElem_cons_zero, List.getElem_cons_succ, List.setIfInBounds_toArray, List.set_cons_zero, List.set_cons_succ]
                  refine wpAnyH_take (i := 5) (v := .bool false) rfl (by kernel_rfl) (by kernel_rfl) (by kernel_rfl) (fun _ _ _ h => h) (Or.inl ⟨by rfl, fun w' h => by (go_simp <;> omega)⟩) (by assumption) ?_
                  try simp only [Act.put, List.getElem_toArray, List.getElem_cons_zero, List.getElem_cons_succ, List.setIfInBounds_toArray, List.set_cons_zero, List.set_cons_succ]
                  refine wpAnyH_take (i := 6) (v := .bool false) rfl (by kernel_rfl) (by kernel_rfl) (by kernel_rfl) (fun _ _ _ h => h) (Or.inl ⟨by rfl, fun w' h => by (go_simp <;> omega)⟩) (by assumption) ?_
                  try simp only [Act.put, List.getElem_toArray, List.getElem_cons_zero, List.getElem_cons_succ, List.setIfInBounds_toArray, List.set_cons_zero, List.set_cons_succ]
                  refine wpAnyH_take (i := 7) (v := .bool false) rfl (by kernel_rfl) (by kernel_rfl) (by kernel_rfl) (fun _ _ _ h => h) (Or.inl ⟨by rfl, fun w' h => by (go_simp <;> omega)⟩) (by assumption) ?_
                  try simp only [Act.put, List.getElem_toArray, List.getElem_cons_zero, List.getElem_cons_succ, List.setIfInBounds_toArray, List.set_cons_zero, List.set_cons_succ]
                  refine wpAnyH_take (i := 8) (v := .int .i64 C) rfl (by kernel_rfl) (by kernel_rfl) (by kernel_rfl) (fun _ _ _ h => h) (Or.inl ⟨by rfl, fun w' h => by (go_simp <;> omega)⟩) (by assumption) ?_
                  try simp only [Act.put, List.getElem_toArray, List.getElem_cons_zero, List.getElem_cons_succ, List.setIfInBounds_toArray, List.set_cons_zero, List.set_cons_succ]
                  refine wpAnyH_take (i := 9) (v := .int .i64 oo) rfl (by kernel_rfl) (by kernel_rfl) (by kernel_rfl) (fun _ _ _ h => h) (Or.inl ⟨by rfl, fun w' h => by (go_simp <;> omega)⟩) (by assumption) ?_
                  try simp only [Act.put, List.getElem_toArray, List.getElem_cons_zero, List.getElem_cons_succ, List.setIfInBounds_toArray, List.set_cons_zero, List.set_cons_succ]
                  refine wpAnyH_take (i := 10) (v := .bool true) rfl (by kernel_rfl) (by kernel_rfl) (by kernel_rfl) (fun _ _ _ h => h) (Or.inl ⟨by rfl, fun w' h => by (go_simp <;> omega)⟩) (by assumption) ?_
                  try simp only [Act.put, List.getElem_toArray, List.getElem_cons_zero, List.getElem_cons_succ, List.setIfInBounds_toArray, List.set_cons_zero, List.set_cons_succ]
                  refine wpAnyH_take (i := 11) (v := .bool true) rfl (by kernel_rfl) (by kernel_rfl) (by kernel_rfl) (fun _ _ _ h => h) (Or.inl ⟨by rfl, fun w' h => by (go_simp <;> omega)⟩) (by assumption) ?_
                  try simp only [Act.put, List.getElem_toArray, List.getElem_cons_zero, List.getElem_cons_succ, List.setIfInBounds_toArray, List.set_cons_zero, List.set_cons_succ]
                  refine wpAnyH_take (i := 12) (v := .slice (some ⟨b, o, none⟩) xss.length c) rfl (by kernel_rfl) (by kernel_rfl) (by kernel_rfl) (fun _ _ _ h => h) (Or.inl ⟨by rfl, fun w' h => by (go_simp <;> omega)⟩) (by assumption) ?_
                  try simp only [Act.put, List.getElem_toArray, List.getElem_cons_zero, List.getElem_cons_succ, List.setIfInBounds_toArray, List.set_cons_zero, List.set_cons_succ]
                  refine wpAnyH_take (i := 13) (v := .int .i64 k) rfl (by kernel_rfl) (by kernel_rfl) (by kernel_rfl) (fun _ _ _ h => h) (Or.inl ⟨by rfl, fun w' h => by (go_simp <;> omega)⟩) (by assumption) ?_
                  try simp only [Act.put, List.getElem_toArray, List.getElem_cons_zero, List.getElem_cons_succ, List.setIfInBounds_toArray, List.set_cons_zero, List.set_cons_succ]
                  refine wpAnyH_take (i := 14) (v := .pointer (some ⟨b, o + k, none⟩)) rfl (by kernel_rfl) (by kernel_rfl) (by kernel_rfl) (fun _ _ _ h => h) (Or.inl ⟨by rfl, fun w' h => by (go_simp <;> omega)⟩) (by assumption) ?_
                  try simp only [Act.put, List.getElem_toArray, List.getElem_cons_zero, List.getElem_cons_succ, List.setIfInBounds_toArray, List.set_cons_zero, List.set_cons_succ]
                  refine wpAnyH_take (i := 15) (v := .slice a xs.length c1) rfl (by kernel_rfl) (by kernel_rfl) (by kernel_rfl) (fun _ _ _ h => h) (Or.inl ⟨by rfl, fun w' h => by have g1 := (h.cell (p := ⟨b, o + k, none⟩) (Nat.lt_of_lt_of_le hbl HB.out.size)).trans e1; go_simp⟩) (by assumption) ?_
                  try simp only [Act.put, List.getElem_toArray, List.getElem_cons_zero, List.getElem_cons_succ, List.setIfInBounds_toArray, List.set_cons_zero, List.set_cons_succ]
                  refine wpAnyH_take (i := 16) (v := .int .i64 xs.length) rfl (by kernel_rfl) (by kernel_rfl) (by kernel_rfl) (fun _ _ _ h => h) (Or.inl ⟨by rfl, fun w' h => by (go_simp <;> omega)⟩) (by assumption) ?_
                  try simp only [Act.put, List.getElem_toArray, List.getElem_cons_zero, List.getElem_cons_succ, List.setIfInBounds_toArray, List.set_cons_zero, List.set_cons_succ]
                  refine wpAnyH_take (i := 17) (v := .slice (some ⟨b, o, none⟩) xss.length c) rfl (by kernel_rfl) (by kernel_rfl) (by kernel_rfl) (fun _ _ _ h => h) (Or.inl ⟨by rfl, fun w' h => by (go_simp <;> omega)⟩) (by assumption) ?_
                  try simp only [Act.put, List.getElem_toArray, List.getElem_cons_zero, List.getElem_cons_succ, List.setIfInBounds_toArray, List.set_cons_zero, List.set_cons_succ]
                  refine wpAnyH_take (i := 18) (v := .int .i64 bb) rfl (by kernel_rfl) (by kernel_rfl) (by kernel_rfl) (fun _ _ _ h => h) (Or.inl ⟨by rfl, fun w' h => by (go_simp <;> omega)⟩) (by assumption) ?_
                  try simp only [Act.put, List.getElem_toArray, List.getElem_cons_zero, List.getElem_cons_succ, List.setIfInBounds_toArray, List.set_cons_zero, List.set_cons_succ]
                  refine wpAnyH_take (i := 19) (v := .pointer (some ⟨b, o + bb, none⟩)) rfl (by kernel_rfl) (by kernel_rfl) (by kernel_rfl) (fun _ _ _ h => h) (Or.inl ⟨by rfl, fun w' h => by (go_simp <;> omega)⟩) (by assumption) ?_
                  try simp only [Act.put, List.getElem_toArray, List.getElem_cons_zero, List.getElem_cons_succ, List.setIfInBounds_toArray, List.set_cons_zero, List.set_cons_succ]
                  refine wpAnyH_take (i := 20) (v := .slice a9 ys.length c9) rfl (by kernel_rfl) (by kernel_rfl) (by kernel_rfl) (fun _ _ _ h => h) (Or.inl ⟨by rfl, fun w' h => by have g1 := (h.cell (p := ⟨b, o + bb, none⟩) (Nat.lt_of_lt_of_le hbl HB.out.size)).trans e9; go_simp⟩) (by assumption) ?_
                  try simp only [Act.put, List.getElem_toArray, List.getElem_cons_zero, List.getElem_cons_succ, List.setIfInBounds_toArray, List.set_cons_zero, List.set_cons_succ]
                  refine wpAnyH_take (i := 21) (v := .int .i64 ys.length) rfl (by kernel_rfl) (by kernel_rfl) (by kernel_rfl) (fun _ _ _ h => h) (Or.inl ⟨by rfl, fun w' h => by (go_simp <;> omega)⟩) (by assumption) ?_
                  try simp only [Act.put, List.getElem_toArray, List.getElem_cons_zero, List.getElem_cons_succ, List.setIfInBounds_toArray, List.set_cons_zero, List.set_cons_succ]
                  refine wpAnyH_take (i := 22) (v := .bool false) rfl (by kernel_rfl) (by kernel_rfl) (by kernel_rfl) (fun _ _ _ h => h) (Or.inl ⟨by rfl, fun w' h => by (go_simp <;> omega)⟩) (by assumption) ?_
                  try simp only [Act.put, List.getElem_toArray, List.getElem_cons_zero, List.getElem_cons_succ, List.setIfInBounds_toArray, List.set_cons_zero, List.set_cons_succ]
                  refine wpAnyH_take (i := 23) (v := .bool false) rfl (by kernel_rfl) (by kernel_rfl) (by kernel_rfl) (fun _ _ _ h => h) (Or.inl ⟨by rfl, fun w' h => by (go_simp <;> omega)⟩) (by assumption) ?_
                  try simp only [Act.put, List.getElem_toArray, List.getElem_cons_zero, List.getElem_cons_succ, List.setIfInBounds_toArray, List.set_cons_zero, List.set_cons_succ]
                  refine wpAnyH_take (i := 24) (v := .bool false) rfl (by kernel_rfl) (by kernel_rfl) (by kernel_rfl) (fun _ _ _ h => h) (Or.inl ⟨by rfl, fun w' h => by (go_simp <;> omega)⟩) (by assumption) ?_
                  try simp only [Act.put, List.getElem_toArray, List.getElem_cons_zero, List.getElem_cons_succ, List.setIfInBounds_toArray, List.set_cons_zero, List.set_cons_succ]
                  refine wpAnyH_done (by kernel_rfl) ?_ _
                  try simp only [Act.put, List.getElem_toArray, List.getElem_cons_zero, List.getElem_cons_succ, List.setIfInBounds_toArray, List.set_cons_zero, List.set_cons_succ]
                  have hb := hHeld
                  clear hHeld
                  go_wp2
                  go_roundw
                  case rel => exact ⟨k + 1, by omega, by go_num, by (rw [HN2.out]; rfl), by (rw [HN2.out]; rfl), HB.out.drew⟩
                  case measure => simp [intOf]; omega
              · have hE' : ((C : Int) == oo) = false := by simp only [beq_eq_false_iff_ne, ne_eq]; omega
                have HN2 : Hid (bst xss d (k + 1) = some (bb, oo, ys.length)) := by show bst xss d (k + 1) = _; rw [HN.out, bstN, if_neg (by omega)]
                clear HN hA hcl hon hE
                go_wp2_with fail
                refine wp_region_held_drew (S := fun w' => Below wr.heap.size wr w') (by kernel_rfl) (Below.refl _ _).drew (fun hHeld => ?_)
                refine wpAnyH_take (i := 0) (v := .int .i64 bb) rfl (by kernel_rfl) (by kernel_rfl) (by kernel_rfl) (fun _ _ _ h => h) (Or.inl ⟨by rfl, fun w' h => by (go_simp <;> omega)⟩) (by assumption) ?_
                try simp only [Act.put, List.getElem_toArray, List.getElem_cons_zero, List.getElem_cons_succ, List.setIfInBounds_toArray, List.set_cons_zero, List.set_cons_succ]
                refine wpAnyH_take (i := 1) (v := .bool false) rfl (by kernel_rfl) (by kernel_rfl) (by kernel_rfl) (fun _ _ _ h => h) (Or.inl ⟨by rfl, fun w' h => by (go_simp <;> omega)⟩) (by assumption) ?_
                try simp only [Act.put, List.getElem_toArray, List.getElem_cons_zero, List.getElem_cons_succ, List.setIfInBounds_toArray, List.set_cons_zero, List.set_cons_succ]
                refine wpAnyH_take (i := 2) (v := .bool false) rfl (by kernel_rfl) (by kernel_rfl) (by kernel_rfl) (fun _ _ _ h => h) (Or.inl ⟨by rfl, fun w' h => by (go_simp <;> omega)⟩) (by assumption) ?_
                try simp only [Act.put, List.getElem_toArray, List.getElem_cons_zero, List.getElem_cons_succ, List.setIfInBounds_toArray, List.set_cons_zero, List.set_cons_succ]
                refine wpAnyH_take (i := 3) (v := .int .i64 C) rfl (by kernel_rfl) (by kernel_rfl) (by kernel_rfl) (fun _ _ _ h => h) (Or.inl ⟨by rfl, fun w' h => by (go_simp <;> omega)⟩) (by assumption) ?_
                try simp only [Act.put, List.getElem_toArray, List.getElem_cons_zero, List.getElem_cons_succ, List.setIfInBounds_toArray, List.set_cons_zero, List.set_cons_succ]
                refine wpAnyH_take (i := 4) (v := .int .i64 oo) rfl (by kernel_rfl) (by kernel_rfl) (by kernel_rfl) (fun _ _ _ h => h) (Or.inl ⟨by rfl, fun w' h => by (go_simp <;> omega)⟩) (by assumption) ?_
                try simp only [Act.put, List.getElem_toArray, List.getElem_cons_zero, List.getElem_cons_succ, List.setIfInBounds_toArray, List.set_cons_zero, List.set_cons_succ]
                refine wpAnyH_take (i := 5) (v := .bool false) rfl (by kernel_rfl) (by kernel_rfl) (by kernel_rfl) (fun _ _ _ h => h) (Or.inl ⟨by rfl, fun w' h => by (go_simp <;> omega)⟩) (by assumption) ?_
                try simp only [Act.put, List.getElem_toArray, List.getElem_cons_zero, List.getElem_cons_succ, List.setIfInBounds_toArray, List.set_cons_zero, List.set_cons_succ]
                refine wpAnyH_take (i := 6) (v := .bool false) rfl (by kernel_rfl) (by kernel_rfl) (by kernel_rfl) (fun _ _ _ h => h) (Or.inl ⟨by rfl, fun w' h => by (go_simp <;> omega)⟩) (by assumption) ?_
                try simp only [Act.put, List.getElem_toArray, List.getElem_cons_zero, List.getElem_cons_succ, List.setIfInBounds_toArray, List.set_cons_zero, List.set_cons_succ]
                refine wpAnyH_take (i := 7) (v := .bool false) rfl (by kernel_rfl) (by kernel_rfl) (by kernel_rfl) (fun _ _ _ h => h) (Or.inl ⟨by rfl, fun w' h => by (go_simp <;> omega)⟩) (by assumption) ?_
                try simp only [Act.put, List.getElem_toArray, List.getElem_cons_zero, List.getElem_cons_succ, List.setIfInBounds_toArray, List.set_cons_zero, List.set_cons_succ]
                refine wpAnyH_take (i := 8) (v := .int .i64 C) rfl (by kernel_rfl) (by kernel_rfl) (by kernel_rfl) (fun _ _ _ h => h) (Or.inl ⟨by rfl, fun w' h => by (go_simp <;> omega)⟩) (by assumption) ?_
                try simp only [Act.put, List.getElem_toArray, List.getElem_cons_zero, List.getElem_cons_succ, List.setIfInBounds_toArray, List.set_cons_zero, List.set_cons_succ]
                refine wpAnyH_take (i := 9) (v := .int .i64 oo) rfl (by kernel_rfl) (by kernel_rfl) (by kernel_rfl) (fun _ _ _ h => h) (Or.inl ⟨by rfl, fun w' h => by (go_simp <;> omega)⟩) (by assumption) ?_
                try simp only [Act.put, List.getElem_toArray, List.getElem_cons_zero, List.getElem_cons_succ, List.setIfInBounds_toArray, List.set_cons_zero, List.set_cons_succ]
                refine wpAnyH_take (i := 10) (v := .bool false) rfl (by kernel_rfl) (by kernel_rfl) (by kernel_rfl) (fun _ _ _ h => h) (Or.inl ⟨by rfl, fun w' h => by (go_simp <;> omega)⟩) (by assumption) ?_
                try simp only [Act.put, List.getElem_toArray, List.getElem_cons_zero, List.getElem_cons_succ, List.setIfInBounds_toArray, List.set_cons_zero, List.set_cons_succ]
                refine wpAnyH_take (i := 11) (v := .bool false) rfl (by kernel_rfl) (by kernel_rfl) (by kernel_rfl) (fun _ _ _ h => h) (Or.inl ⟨by rfl, fun w' h => by (go_simp <;> omega)⟩) (by assumption) ?_
                try simp only [Act.put, List.getElem_toArray, List.getElem_cons_zero, List.getElem_cons_succ, List.setIfInBounds_toArray, List.set_cons_zero, List.set_cons_succ]
                refine wpAnyH_take (i := 12) (v := undef) rfl (by kernel_rfl) (by kernel_rfl) (by kernel_rfl) (fun _ _ _ h => h) (Or.inr ⟨by rfl, rfl⟩) (by assumption) ?_
                try simp only [Act.put, List.getElem_toArray, List.getElem_cons_zero, List.getElem_cons_succ, List.setIfInBounds_toArray, List.set_cons_zero, List.set_cons_succ]
                refine wpAnyH_take (i := 13) (v := undef) rfl (by kernel_rfl) (by kernel_rfl) (by kernel_rfl) (fun _ _ _ h => h) (Or.inr ⟨by rfl, rfl⟩) (by assumption) ?_
                try simp only [Act.put, List.getElem_toArray, List.getElem_cons_zero, List.getElem_cons_succ, List.setIfInBounds_toArray, List.set_cons_zero, List.set_cons_succ]
                refine wpAnyH_take (i := 14) (v := undef) rfl (by kernel_rfl) (by kernel_rfl) (by kernel_rfl) (fun _ _ _ h => h) (Or.inr ⟨by rfl, rfl⟩) (by assumption) ?_
                try simp only [Act.put, List.getElem_toArray, List.getElem_cons_zero, List.getElem_cons_succ, List.setIfInBounds_toArray, List.set_cons_zero, List.set_cons_succ]
                refine wpAnyH_take (i := 15) (v := undef) rfl (by kernel_rfl) (by kernel_rfl) (by kernel_rfl) (fun _ _ _ h => h) (Or.inr ⟨by rfl, rfl⟩) (by assumption) ?_
                try simp only [Act.put, List.getElem_toArray, List.getElem_cons_zero, List.getElem_cons_succ, List.setIfInBounds_toArray, List.set_cons_zero, List.set_cons_succ]
                refine wpAnyH_take (i := 16) (v := undef) rfl (by kernel_rfl) (by kernel_rfl) (by kernel_rfl) (fun _ _ _ h => h) (Or.inr ⟨by rfl, rfl⟩) (by assumption) ?_
                try simp only [Act.put, List.getElem_toArray, List.getElem_cons_zero, List.getElem_cons_succ, List.setIfInBounds_toArray, List.set_cons_zero, List.set_cons_succ]
                refine wpAnyH_take (i := 17) (v := undef) rfl (by kernel_rfl) (by kernel_rfl) (by kernel_rfl) (fun _ _ _ h => h) (Or.inr ⟨by rfl, rfl⟩) (by assumption) ?_
                try simp only [Act.put, List.getElem_toArray, List.getElem_cons_zero, List.getElem_cons_succ, List.setIfInBounds_toArray, List.set_cons_zero, List.set_cons_succ]
                refine wpAnyH_take (i := 18) (v := undef) rfl (by kernel_rfl) (by kernel_rfl) (by kernel_rfl) (fun _ _ _ h => h) (Or.inr ⟨by rfl, rfl⟩) (by assumption) ?_
                try simp only [Act.put, List.getElem_toArray, List.getElem_cons_zero, List.getElem_cons_succ, List.setIfInBounds_toArray, List.set_cons_zero, List.set_cons_succ]
                refine wpAnyH_take (i := 19) (v := undef) rfl (by kernel_rfl) (by kernel_rfl) (by kernel_rfl) (fun _ _ _ h => h) (Or.inr ⟨by rfl, rfl⟩) (by assumption) ?_
                try simp only [Act.put, List.getElem_toArray, List.getElem_cons_zero, List.getElem_cons_succ, List.setIfInBounds_toArray, List.set_cons_zero, List.set_cons_succ]
                refine wpAnyH_take (i := 20) (v := undef) rfl (by kernel_rfl) (by kernel_rfl) (by kernel_rfl) (fun _ _ _ h => h) (Or.inr ⟨by rfl, rfl⟩) (by assumption) ?_
                try simp only [Act.put, List.getElem_toArray, List.getElem_cons_zero, List.getElem_cons_succ, List.setIfInBounds_toArray, List.set_cons_zero, List.set_cons_succ]
                refine wpAnyH_take (i := 21) (v := undef) rfl (by kernel_rfl) (by kernel_rfl) (by kernel_rfl) (fun _ _ _ h => h) (Or.inr ⟨by rfl, rfl⟩) (by assumption) ?_
                try simp only [Act.put, List.getElem_toArray, List.getElem_cons_zero, List.getElem_cons_succ, List.setIfInBounds_toArray, List.set_cons_zero, List.set_cons_succ]
                refine wpAnyH_take (i := 22) (v := undef) rfl (by kernel_rfl) (by kernel_rfl) (by kernel_rfl) (fun _ _ _ h => h) (Or.inr ⟨by rfl, rfl⟩) (by assumption) ?_
                try simp only [Act.put, List.getElem_toArray, List.getElem_cons_zero, List.getElem_cons_succ, List.setIfInBounds_toArray, List.set_cons_zero, List.set_cons_succ]
                refine wpAnyH_take (i := 23) (v := .bool false) rfl (by kernel_rfl) (by kernel_rfl) (by kernel_rfl) (fun _ _ _ h => h) (Or.inl ⟨by rfl, fun w' h => by (go_simp <;> omega)⟩) (by assumption) ?_
                try simp only [Act.put, List.getElem_toArray, List.getElem_cons_zero, List.getElem_cons_succ, List.setIfInBounds_toArray, List.set_cons_zero, List.set_cons_succ]
                refine wpAnyH_take (i := 24) (v := .bool false) rfl (by kernel_rfl) (by kernel_rfl) (by kernel_rfl) (fun _ _ _ h => h) (Or.inl ⟨by rfl, fun w' h => by (go_simp <;> omega)⟩) (by assumption) ?_
                try simp only [Act.put, List.getElem_toArray, List.getElem_cons_zero, List.getElem_cons_succ, List.setIfInBounds_toArray, List.set_cons_zero, List.set_cons_succ]
                refine wpAnyH_done (by kernel_rfl) ?_ _
                try simp only [Act.put, List.getElem_toArray, List.getElem_cons_zero, List.getElem_cons_succ, List.setIfInBounds_toArray, List.set_cons_zero, List.set_cons_succ]
                have hb := hHeld
                clear hHeld
                go_wp2
                go_roundw
                case rel => exact ⟨k + 1, by omega, by go_num, by (rw [HN2.out]; rfl), by (rw [HN2.out]; rfl), HB.out.drew⟩
                case measure => simp [intOf]; omega
    · obtain rfl : k = xss.length := by omega
      go_wp2
      go_ret
      exact ⟨rfl, HB.out⟩

end Go.Proofs.YtdgcgkeclcpafaaDoor
