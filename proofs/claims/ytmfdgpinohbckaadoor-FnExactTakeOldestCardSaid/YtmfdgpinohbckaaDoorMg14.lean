/-
  The model's l04Best at a pointer into a list. Condition: the rack reads as lists, at most eight of at most six; the pointer's day reads.
-/
import Derived.Test.YtmfdgpinohbckaaDoorMg10
import Derived.Test.YtmfdgpinohbckaaDoorMg13
namespace Go.Proofs.YtmfdgpinohbckaaDoor
open Go.ChangeShapes Go.WideShapes Go.ChangeAt Go.RowKit Go.Deep

def okFK (xss : List (List Wnt)) (x : Wnt) (w : World) (s : Sp) : Prop := ∃ xs a c, xss[s.1.2.1]? = some xs ∧ s.1.1 = x ∧ s.1.2.2 = xs.length ∧ xs.length < 6 ∧ s.2 = (a, xs.length, c) ∧ xs.length ≤ c ∧ Rd w w.heap.size wcells a xs
theorem okFK.keep {xss : List (List Wnt)} {x : Wnt} {w w' : World} {s : Sp} (h : okFK xss x w s) (hb : Below w.heap.size w w') : okFK xss x w' s := by
  obtain ⟨xs, a, c, h1, h2, h3, h4, h5, h6, h7⟩ := h
  exact ⟨xs, a, c, h1, h2, h3, h4, h5, h6, h7.keep hb⟩

set_option maxRecDepth 100000 in
set_option maxHeartbeats 4000000 in
theorem frontsK_any (xss : List (List Wnt)) (x : Wnt) (hwx : wfW x) (A : Option Addr) (c : Nat) (w : World) (hl : xss.length ≤ 8) (h6 : ∀ xs ∈ xss, xs.length ≤ 6) (hr : RdK w w.heap.size wcells A xss) :
    Calls Tryd.prog 90 #[.slice A xss.length c, .agg (wcells x).toArray] w fun e w' => ∃ (A' : Option Addr) (c' : Nat) (ss : List Sp), e = .returned (.slice A' ss.length c') ∧ w'.ownsRow w.heap.size 107 6 (.slice A' ss.length c') ss.length (ss.flatMap spcells) ∧ ss.map (·.1) = frT xss x xss.length ∧ (∀ s ∈ ss, okFK xss x w s) ∧ Below w.heap.size w w' := by
  obtain ⟨i0, hi, hz0, hz1, hz2⟩ := info_parts Tryd.infoSP
  have HI := Lib.hid hi
  have HZ0 := Lib.hid hz0
  have HZ1 := Lib.hid hz1
  have HZ2 := Lib.hid hz2
  clear hi hz0 hz1 hz2
  obtain ⟨⟨k1, y1⟩, d⟩ := x
  obtain ⟨-, q2, q3⟩ := hwx
  have q2' : -32768 ≤ d := q2
  have q3' : d ≤ 32767 := q3
  clear q2 q3
  show Calls Tryd.prog 90 #[.slice A xss.length c, .agg #[.int .u8 k1, .int .i16 y1, .int .i16 d]] w _
  have HR := Lib.hid hr
  have H6 := Lib.hid h6
  clear hr h6
  have h1 : Blk (w.alloc (.cells #[.int .u8 k1, .int .i16 y1, .int .i16 d] 30)) w.heap.size 30 #[.int .u8 k1, .int .i16 y1, .int .i16 d] := Blk.new w _ _
  have h2 : Below w.heap.size w (w.alloc (.cells #[.int .u8 k1, .int .i16 y1, .int .i16 d] 30)) := (Below.refl _ w).alloc (Nat.le_refl _) _
  have H1 := Lib.hid h1
  have H2 := Lib.hid h2
  clear h1 h2
  go_enter Tryd.func90, Tryd.ntmps90
  go_wp2_with fail
  go_loopw [5, 10] (fun v i wr => ∃ (k : Nat) (ss : List Sp) (A1 : Option Addr) (c1 : Nat), k ≤ xss.length ∧ i = .int .i64 k ∧ v = .slice A1 ss.length c1 ∧ wr.ownsRow (w.heap.size + 1) 107 6 (.slice A1 ss.length c1) ss.length (ss.flatMap spcells) ∧ ss.map (·.1) = frT xss ((k1, y1), d) k ∧ (∀ s ∈ ss, okFK xss ((k1, y1), d) w s) ∧ Blk wr w.heap.size 30 #[.int .u8 k1, .int .i16 y1, .int .i16 d] ∧ Below w.heap.size w wr)
    (fun _ i _ => xss.length - (intOf i).toNat)
  case atStart => exact ⟨0, [], _, _, by omega, rfl, rfl, ⟨rfl, .inl ⟨rfl, rfl⟩⟩, rfl, by simp, H1.out, H2.out⟩
  case round =>
    clear H1 H2
    obtain ⟨k, ss, A1, c1, hk, rfl, rfl, hO, hC, hS, hK, hB⟩ := hrel
    have HO := Lib.hid hO
    have HC := Lib.hid hC
    have HS := Lib.hid hS
    have HK := Lib.hid hK
    have HB := Lib.hid hB
    have hblt : w.heap.size < wr.heap.size := hK.lt
    clear hO hC hS hK hB
    by_cases hlt : k < xss.length
    · obtain ⟨xs, hxs⟩ : ∃ x, xss[k]? = some x := ⟨_, List.getElem?_eq_getElem hlt⟩
      have hxl := H6.out xs (List.mem_of_getElem? hxs)
      obtain ⟨bA, oA, a', c', hAe, hg, hc, hcap, hrd⟩ := HR.out.at_ hxs
      subst hAe
      have hlen : ss.length ≤ 8 := by have := frT_le xss ((k1, y1), d) k; rw [← HC.out] at this; simp at this; omega
      have HXs := Lib.hid hxs
      have HC0 := Lib.hid hc
      have HRd := Lib.hid hrd
      have HCap := Lib.hid hcap
      have e1 := (HB.out.cell (p := ⟨bA, oA + k, none⟩) hg).trans hc
      have hk0 : (0 : Int) ≤ (k : Int) := Int.natCast_nonneg _
      have hk8 : (k : Int) < xss.length := by omega
      have hm0 : (0 : Int) ≤ (xs.length : Int) := Int.natCast_nonneg _
      clear hxs hc hrd
      by_cases h6 : xs.length < 6
      · have h6' : (xs.length : Int) < 6 := by omega
        have HCs2 := Lib.hid (frT_yes (x := ((k1, y1), d)) HXs.out h6)
        have b0 : wr.cell? ⟨w.heap.size, 0, none⟩ = some (.int .u8 k1) := HK.out.cell 0
        have b1 : wr.cell? ⟨w.heap.size, 1, none⟩ = some (.int .i16 y1) := HK.out.cell 1
        have b2 : wr.cell? ⟨w.heap.size, 2, none⟩ = some (.int .i16 d) := HK.out.cell 2
        go_wp2_with fail
        refine (spotAt_any (some ⟨bA, oA, none⟩) xss.length c k (xs.length : Int) k1 y1 d a' xs.length c' _ ⟨q2', q3'⟩ hlt (by omega) bA oA rfl (Nat.lt_of_lt_of_le hg HB.out.size) ((HB.out.cell (p := ⟨bA, oA + k, none⟩) hg).trans HC0.out)).mono ?_
        rintro e w2 ⟨rfl, hb⟩
        have HB2 : Hid (Below w.heap.size w w2) := HB.out.trans (hb.mono HB.out.size)
        have HO2 := Lib.hid (own_keep' HO.out hb)
        have HK2 := Lib.hid (HK.out.keep hb)
        clear hb b0 b1 b2 e1 HO HK
        unfold spC
        go_wp2_with (at_builtin; refine wpList_append_any _ rfl (.tmp 18) (.tmp 25) 134 134 rfl (w.heap.size + 1) 107 i0 (.agg #[.int .u8 0, .int .i16 0, .int .i64 0, .int .i64 0, .int .i64 0, .slice none 0 0]) 6 56 Tryd.underlying134 HI.out HZ0.out HZ1.out HZ2.out rfl (by decide) (.slice A1 ss.length c1) ss.length (ss.flatMap spcells) rfl ?own2 _ 1 [.int .u8 k1, .int .i16 y1, .int .i64 d, .int .i64 k, .int .i64 xs.length, .slice a' xs.length c'] rfl ?src2 ?d3 ?d4 ?d5 ?_)
        case own2 => exact HO2.out.alloc _
        case src2 => exact Src.ofSlice _ Tryd.underlying134 ⟨w2.heap.size, 0, none⟩ 1 1 _ rfl (six_cells w2 _ _ _ _ _ _ _) (by intro u hu; simp only [List.mem_cons, List.not_mem_nil, or_false] at hu; rcases hu with rfl | rfl | rfl | rfl | rfl | rfl <;> rfl)
        case d3 => unfold maxLen; omega
        case d4 => omega
        case d5 => have := HK2.out.lt; simp; omega
        intro v4 w4 hown4 hg4 _
        rw [ownBlock_slice] at hg4
        obtain ⟨s, hs⟩ : ∃ s : Sp, s = ((((k1, y1), d), k, xs.length), (a', xs.length, c')) := ⟨_, rfl⟩
        have hown5 : w4.ownsRow (w.heap.size + 1) 107 6 v4 (ss ++ [s]).length ((ss ++ [s]).flatMap spcells) := by rw [List.length_append, List.flatMap_append]; subst hs; simpa [spcells] using hown4
        obtain ⟨A4, c4, rfl, -, -⟩ := own_rd spcells_length hown5
        have HO5 := Lib.hid hown5
        have HB4 : Hid (Below w.heap.size w w4) := (bal2 HB2.out _).grown hg4 (by have := HB2.out.size; simp; omega) (fun q e => by have := gk_ge HO2.out q e; omega)
        have HK4 : Hid (Blk w4 w.heap.size 30 #[.int .u8 k1, .int .i16 y1, .int .i16 d]) := gk_blk (HK2.out.alloc _) hg4 (fun e => by have := gk_ge HO2.out _ e; omega)
        have HS5 : Hid (∀ t ∈ ss ++ [s], okFK xss ((k1, y1), d) w t) := by
          intro t ht
          rcases List.mem_append.1 ht with h | h
          · exact HS.out t h
          · obtain rfl : t = s := by simpa using h
            subst hs
            exact ⟨xs, a', c', HXs.out, rfl, rfl, h6, rfl, HCap.out, HRd.out⟩
        have HC5 : Hid ((ss ++ [s]).map (·.1) = frT xss ((k1, y1), d) (k + 1)) := by
          show (ss ++ [s]).map (·.1) = _
          rw [List.map_append, HC.out, HCs2.out, hs]; rfl
        clear hown4 hown5 hg4 hs
        obtain ⟨S2, hS2⟩ : ∃ S2, ss ++ [s] = S2 := ⟨_, rfl⟩
        rw [hS2] at HO5 HS5 HC5 ⊢
        clear hS2
        go_wp2
        go_roundw
        case rel => exact ⟨k + 1, S2, A4, c4, by omega, by go_num, rfl, HO5.out, HC5.out, HS5.out, HK4.out, HB4.out⟩
        case measure => simp [intOf]; omega
      · have h6' : ¬ (xs.length : Int) < 6 := by omega
        have HCs2 := Lib.hid (frT_no (x := ((k1, y1), d)) HXs.out h6)
        go_wp2
        go_roundw
        case rel => exact ⟨k + 1, ss, A1, c1, by omega, by go_num, rfl, HO.out, by rw [HC.out, HCs2.out], HS.out, HK.out, HB.out⟩
        case measure => simp [intOf]; omega
    · obtain rfl : k = xss.length := by omega
      have HRd := Lib.hid (own_rd2 spcells_length HO.out)
      go_wp2
      go_ret
      exact ⟨_, _, ss, rfl, own_base HO.out (by omega), HC.out, HS.out, HB.out⟩
theorem behindK_any (k y d l i : Int) (a : Option Addr) (n c : Nat) (w : World) : Calls Tryd.prog 93 #[.agg (spC k y d l i a n c)] w fun e w' => e = .returned (.int .i64 i) ∧ Below w.heap.size w w' := by
  unfold spC
  go_enter Tryd.func93, Tryd.ntmps93
  go_wp2
  go_ret
  exact ⟨rfl, (Below.refl _ w).alloc (Nat.le_refl _) _⟩
def bstO (xss : List (List Wnt)) (d : Int) : Option Nat := (bst xss d xss.length).map (·.1)
def olEN (ad : Nat → Addr) : Option Nat → Value
  | none => .iface 165 (.pointer (some (ad 4)))
  | some _ => .nilIface
end Go.Proofs.YtmfdgpinohbckaaDoor

namespace Go.Proofs.YtmfdgpinohbckaaDoor
open Go.ChangeShapes Go.WideShapes Go.ChangeAt Go.RowKit Go.Deep

end Go.Proofs.YtmfdgpinohbckaaDoor
