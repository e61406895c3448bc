/-
  The program's spots: what blocks one; the list of all. Condition: the rack is a new one that reads as lists of things that are stored, whose numbers fit their kinds.
-/
import Derived.Test.YtmfdgpinohbckaaDoorMg5
import Derived.Test.YtmfdgpinohbckaaDoorMg6
import Derived.Test.YtmfdgpinohbckaaDoorMg4
namespace Go.Proofs.YtmfdgpinohbckaaDoor
open Go.ChangeShapes Go.WideShapes Go.ChangeAt Go.RowKit Go.Deep

theorem Tryd.infoSP : (Tryd.prog.info? 107).map (fun i => (i.zero, i.size, i.bytes)) = some (some (.agg #[.int .u8 0, .int .i16 0, .int .i64 0, .int .i64 0, .int .i64 0, .slice none 0 0]), 6, 56) := by kernel_rfl
/-- A spot: what is stored, the lane, the index; the lane's list. -/
abbrev Core := Wnt × Nat × Nat
abbrev Sp := Core × Hd
def spcells (s : Sp) : List Value := [.int .u8 s.1.1.1.1, .int .i16 s.1.1.1.2, .int .i64 s.1.1.2, .int .i64 s.1.2.1, .int .i64 s.1.2.2, .slice s.2.1 s.2.2.1 s.2.2.2]
theorem spcells_length (s : Sp) : (spcells s).length = 6 := rfl
theorem spcells_one (s : Sp) : (spcells s).toArray.all (·.oneCell') = true := by simp [spcells, Value.oneCell']
def coR (xs : List Wnt) (l : Nat) : Nat → List Core
  | 0 => []
  | m + 1 => coR xs l m ++ [(xs.getD m ((0, 0), 0), l, m)]
def coT (xss : List (List Wnt)) : Nat → List Core
  | 0 => []
  | i + 1 => coT xss i ++ coR (xss.getD i []) i (xss.getD i []).length
theorem coR_succ {xs : List Wnt} {l m : Nat} {x : Wnt} (h : xs[m]? = some x) : coR xs l (m + 1) = coR xs l m ++ [(x, l, m)] := by rw [coR]; simp [h]
theorem coT_succ {xss : List (List Wnt)} {i : Nat} {xs : List Wnt} (h : xss[i]? = some xs) : coT xss (i + 1) = coT xss i ++ coR xs i xs.length := by rw [coT]; simp [h]
theorem coR_len (xs : List Wnt) (l : Nat) : ∀ m, (coR xs l m).length = m
  | 0 => rfl
  | m + 1 => by rw [coR, List.length_append, coR_len xs l m]; rfl
theorem coT_le {xss : List (List Wnt)} (h : ∀ xs ∈ xss, xs.length ≤ 6) : ∀ i, (coT xss i).length ≤ 6 * i
  | 0 => by simp [coT]
  | i + 1 => by
    have h1 := coT_le h i
    have h2 : (xss.getD i []).length ≤ 6 := by
      rw [List.getD_eq_getElem?_getD]
      cases hi : xss[i]? with
      | none => simp
      | some xs => simpa using h xs (List.mem_of_getElem? hi)
    rw [coT, List.length_append, coR_len]; omega
theorem six_cells (W : World) (t : TypeId) (k y d l i : Int) (v : Value) : ∀ (j : Nat) (u : Value), [Value.int .u8 k, .int .i16 y, .int .i64 d, .int .i64 l, .int .i64 i, v][j]? = some u → (W.alloc (.cells #[.int .u8 k, .int .i16 y, .int .i64 d, .int .i64 l, .int .i64 i, v] t)).cell? ((⟨W.heap.size, 0, none⟩ : Addr).add j) = some u := fun j u hu => by
  have e : (⟨W.heap.size, 0, none⟩ : Addr).add j = ⟨W.heap.size, j, none⟩ := by cases j <;> simp [Addr.add]
  rw [e, Blk.cell (Blk.new W t #[.int .u8 k, .int .i16 y, .int .i64 d, .int .i64 l, .int .i64 i, v])]
  simpa using hu
theorem bal2 {w v : World} (h : Below w.heap.size w v) (o : Obj) : Below w.heap.size w (v.alloc o) := h.alloc h.size o
/-- What a spot says holds of a rack: its list is the lane. -/
def okS (xss : List (List Wnt)) (w : World) (s : Sp) : Prop := ∃ xs g, xss[s.1.2.1]? = some xs ∧ xs[s.1.2.2]? = some s.1.1 ∧ s.2 = (some ⟨g, 0, none⟩, xs.length, xs.length) ∧ Rd w w.heap.size wcells (some ⟨g, 0, none⟩) xs
theorem okS.keep {xss : List (List Wnt)} {w w' : World} {s : Sp} (h : okS xss w s) (hb : Below w.heap.size w w') : okS xss w' s := by
  obtain ⟨xs, g, h1, h2, h3, h4⟩ := h
  exact ⟨xs, g, h1, h2, h3, h4.keep hb⟩
theorem RsN.at_ {T : Type} {w : World} {g : Nat} {te t : TypeId} {cells : T → List Value} {xss : List (List T)} {gs : List Nat} (h : RsN w g te t cells xss gs) {k : Nat} {xs : List T} (hk : xss[k]? = some xs) :
    ∃ g', g < w.heap.size ∧ w.cell? ⟨g, k, none⟩ = some (.slice (some ⟨g', 0, none⟩) xs.length xs.length) ∧ Rd w w.heap.size cells (some ⟨g', 0, none⟩) xs := by
  obtain ⟨hl, ho, hi, -⟩ := h
  have hkl := (List.getElem?_eq_some_iff.1 hk).1
  have hg : gs[k]? = some (gs[k]'(by omega)) := List.getElem?_eq_getElem (by omega)
  have hr := hi k _ xs hg hk
  have hz : (List.zipWith hdOf gs xss)[k]? = some (hdOf (gs[k]'(by omega)) xs) := by rw [List.getElem?_zipWith, hg, hk]
  obtain ⟨b, o, e, hb, hrow⟩ := (ho.rd (Blk.lt ho)).at_ hcells_length hz
  cases e
  have := rowH hrow
  rw [Nat.zero_add] at this
  exact ⟨_, hb, this, hr.rd (Blk.lt hr)⟩
theorem rowSp {w : World} {b o : Nat} {s : Sp} (h : w.rangeAt b o (spcells s)) : w.cell? ⟨b, o, none⟩ = some (.int .u8 s.1.1.1.1) ∧ w.cell? ⟨b, o + 1, none⟩ = some (.int .i16 s.1.1.1.2) ∧ w.cell? ⟨b, o + 2, none⟩ = some (.int .i64 s.1.1.2) ∧ w.cell? ⟨b, o + 3, none⟩ = some (.int .i64 s.1.2.1) ∧ w.cell? ⟨b, o + 4, none⟩ = some (.int .i64 s.1.2.2) ∧ w.cell? ⟨b, o + 5, none⟩ = some (.slice s.2.1 s.2.2.1 s.2.2.2) :=
  ⟨h 0 _ rfl, h 1 _ rfl, h 2 _ rfl, h 3 _ rfl, h 4 _ rfl, h 5 _ rfl⟩

set_option maxRecDepth 100000 in
set_option maxHeartbeats 4000000 in
theorem spotsIn_any (xss : List (List Wnt)) (hwf : ∀ xs ∈ xss, ∀ x ∈ xs, wfW x) (g c : Nat) (gs : List Nat) (w : World) (hl : xss.length ≤ 8) (h6 : ∀ xs ∈ xss, xs.length ≤ 6) (hr : RsN w g 44 30 wcells xss gs) :
    Calls Tryd.prog 106 #[.slice (some ⟨g, 0, none⟩) xss.length c] w fun e w' => ∃ (A' : Option Addr) (c' : Nat) (ss : List Sp), e = .returned (.slice A' ss.length c') ∧ w'.ownsRow w.heap.size 107 6 (.slice A' ss.length c') ss.length (ss.flatMap spcells) ∧ ss.map (·.1) = coT xss xss.length ∧ (∀ s ∈ ss, okS xss w s) ∧ Below w.heap.size w w' := by
  obtain ⟨i0, hi, hz0, hz1, hz2⟩ := info_parts Tryd.infoSP
  have HI := Lib.hid hi
  have HZ0 := Lib.hid hz0
  have HZ1 := Lib.hid hz1
  have HZ2 := Lib.hid hz2
  clear hi hz0 hz1 hz2
  have HR := Lib.hid hr
  have HW := Lib.hid hwf
  have H6 := Lib.hid h6
  clear hr hwf h6
  go_enter Tryd.func106, Tryd.ntmps106
  go_wp2_with fail
  go_loopw [3, 10] (fun v i wr => ∃ (k : Nat) (ss : List Sp) (A1 : Option Addr) (c1 : Nat), k ≤ xss.length ∧ i = .int .i64 k ∧ v = .slice A1 ss.length c1 ∧ wr.ownsRow w.heap.size 107 6 (.slice A1 ss.length c1) ss.length (ss.flatMap spcells) ∧ ss.map (·.1) = coT xss k ∧ (∀ s ∈ ss, okS xss w s) ∧ Below w.heap.size w wr)
    (fun _ i _ => xss.length - (intOf i).toNat)
  case atStart => exact ⟨0, [], _, _, by omega, rfl, rfl, ⟨rfl, .inl ⟨rfl, rfl⟩⟩, rfl, by simp, Below.refl _ _⟩
  case round =>
    obtain ⟨k, ss, A1, c1, hk, rfl, rfl, hO, hC, hS, hB⟩ := hrel
    have HO := Lib.hid hO
    have HC := Lib.hid hC
    have HS := Lib.hid hS
    have HB := Lib.hid hB
    clear hO hC hS hB
    by_cases hlt : k < xss.length
    · obtain ⟨xs, hxs⟩ : ∃ x, xss[k]? = some x := ⟨_, List.getElem?_eq_getElem hlt⟩
      have hxl := H6.out xs (List.mem_of_getElem? hxs)
      obtain ⟨g', hg, hc, hrd⟩ := HR.out.at_ hxs
      have HCs := Lib.hid (coT_succ hxs)
      have hlen : ss.length ≤ 6 * k := by have := coT_le H6.out k; rw [← HC.out] at this; simpa using this
      have HWx : Hid (∀ x ∈ xs, wfW x) := HW.out xs (List.mem_of_getElem? hxs)
      have HXs := Lib.hid hxs
      have HC0 := Lib.hid hc
      have HRd := Lib.hid hrd
      have e1 := (HB.out.cell (p := ⟨g, k, none⟩) hg).trans hc
      have hk0 : (0 : Int) ≤ (k : Int) := Int.natCast_nonneg _
      have hk8 : (k : Int) < xss.length := by omega
      clear hxs hc hrd
      obtain ⟨s0, hs0⟩ : ∃ s0, ss = s0 := ⟨_, rfl⟩
      go_wp2_with fail
      clear e1
      go_loopw [3, 17] (fun v i wr => ∃ (m : Nat) (ss : List Sp) (A1 : Option Addr) (c1 : Nat), m ≤ xs.length ∧ i = .int .i64 m ∧ v = .slice A1 ss.length c1 ∧ wr.ownsRow w.heap.size 107 6 (.slice A1 ss.length c1) ss.length (ss.flatMap spcells) ∧ ss.map (·.1) = coT xss k ++ coR xs k m ∧ (∀ s ∈ ss, okS xss w s) ∧ Below w.heap.size w wr)
        (fun _ i _ => xs.length - (intOf i).toNat)
      case atStart => exact ⟨0, ss, A1, c1, by omega, rfl, rfl, HO.out, by rw [HC.out]; simp [coR], HS.out, HB.out⟩
      case round =>
        clear HO HC HS HB hs0 hlen
        obtain ⟨m, ss, A1, c1, hm, rfl, rfl, hO, hC, hS, hB⟩ := hrel
        have HO := Lib.hid hO
        have HC := Lib.hid hC
        have HS := Lib.hid hS
        have HB := Lib.hid hB
        clear hO hC hS hB
        have hm0 : (0 : Int) ≤ (m : Int) := Int.natCast_nonneg _
        by_cases hlt2 : m < xs.length
        · obtain ⟨⟨⟨k1, y1⟩, d⟩, hx⟩ : ∃ x, xs[m]? = some x := ⟨_, List.getElem?_eq_getElem hlt2⟩
          have hlen : ss.length ≤ 54 := by
            have h1 := coT_le H6.out k
            have h2 : (ss.map (·.1)).length = (coT xss k ++ coR xs k m).length := by rw [HC.out]
            rw [List.length_map, List.length_append, coR_len] at h2
            omega
          obtain ⟨q1, q2, q3⟩ := HWx.out _ (List.mem_of_getElem? hx)
          obtain ⟨b1, o1, he, hg1, hrow⟩ := (HRd.out.keep HB.out).at_ wcells_length hx
          cases he
          rw [Nat.zero_add] at hrow
          obtain ⟨D1, D2, D3⟩ := rowW hrow
          have HCs2 := Lib.hid (coR_succ (l := k) hx)
          have HXm := Lib.hid hx
          have hm8 : (m : Int) < xs.length := by omega
          clear hx hrow
          go_wp2_with fail
          have hbx : Below wr.heap.size wr (wr.alloc (.cells #[.int .u8 k1, .int .i16 y1, .int .i16 d] 30)) := (Below.refl _ wr).alloc (Nat.le_refl _) _
          have hbw : Below w.heap.size w (wr.alloc (.cells #[.int .u8 k1, .int .i16 y1, .int .i16 d] 30)) := HB.out.trans (hbx.mono HB.out.size)
          refine (spotAt_any (some ⟨g, 0, none⟩) xss.length c k (m : Int) k1 y1 d (some ⟨g', 0, none⟩) xs.length xs.length _ ⟨q2, q3⟩ hlt (by omega) g 0 rfl (Nat.lt_of_lt_of_le hg hbw.size) (by rw [Nat.zero_add]; exact (hbw.cell (p := ⟨g, k, none⟩) hg).trans HC0.out)).mono ?_
          rintro e w2 ⟨rfl, hb⟩
          have HB2 : Hid (Below w.heap.size w w2) := hbw.trans (hb.mono hbw.size)
          have HBr : Hid (Below wr.heap.size wr w2) := hbx.trans (hb.mono hbx.size)
          clear hb hbx hbw D1 D2 D3
          unfold spC
          have HO2 := Lib.hid (own_keep' HO.out HBr.out)
          go_wp2_with (at_builtin; refine wpList_append_any _ rfl (.tmp 22) (.tmp 28) 134 134 rfl w.heap.size 107 i0 (.agg #[.int .u8 0, .int .i16 0, .int .i64 0, .int .i64 0, .int .i64 0, .slice none 0 0]) 6 56 Tryd.underlying134 HI.out HZ0.out HZ1.out HZ2.out rfl (by decide) (.slice A1 ss.length c1) ss.length (ss.flatMap spcells) rfl ?own2 _ 1 [.int .u8 k1, .int .i16 y1, .int .i64 d, .int .i64 k, .int .i64 m, .slice (some ⟨g', 0, none⟩) xs.length xs.length] rfl ?src2 ?d3 ?d4 ?d5 ?_)
          case own2 => exact HO2.out.alloc _
          case src2 => exact Src.ofSlice _ Tryd.underlying134 ⟨w2.heap.size, 0, none⟩ 1 1 _ rfl (six_cells w2 _ _ _ _ _ _ _) (by intro u hu; simp only [List.mem_cons, List.not_mem_nil, or_false] at hu; rcases hu with rfl | rfl | rfl | rfl | rfl | rfl <;> rfl)
          case d3 => unfold maxLen; omega
          case d4 => omega
          case d5 => have := HB2.out.size; simp; omega
          intro v4 w4 hown4 hg4 _
          rw [ownBlock_slice] at hg4
          obtain ⟨s, hs⟩ : ∃ s : Sp, s = ((((k1, y1), d), k, m), (some ⟨g', 0, none⟩, xs.length, xs.length)) := ⟨_, rfl⟩
          have hown5 : w4.ownsRow w.heap.size 107 6 v4 (ss ++ [s]).length ((ss ++ [s]).flatMap spcells) := by rw [List.length_append, List.flatMap_append]; subst hs; simpa [spcells] using hown4
          obtain ⟨A4, c4, rfl, -, -⟩ := own_rd spcells_length hown5
          have hsl : (ss ++ [s]).length = ss.length + 1 := by simp
          have HO5 := Lib.hid hown5
          have HB4 : Hid (Below w.heap.size w w4) := (bal2 HB2.out _).grown hg4 (by have := HB2.out.size; simp; omega) (fun q e => gk_ge HO2.out q e)
          have HS5 : Hid (∀ t ∈ ss ++ [s], okS xss w t) := by
            intro t ht
            rcases List.mem_append.1 ht with h | h
            · exact HS.out t h
            · obtain rfl : t = s := by simpa using h
              subst hs
              exact ⟨xs, g', HXs.out, HXm.out, rfl, HRd.out⟩
          have HC5 : Hid ((ss ++ [s]).map (·.1) = coT xss k ++ coR xs k (m + 1)) := by
            show (ss ++ [s]).map (·.1) = _
            rw [List.map_append, HC.out, HCs2.out, List.append_assoc, hs]; rfl
          clear hown4 hown5 hg4 hsl hs
          obtain ⟨S2, hS2⟩ : ∃ S2, ss ++ [s] = S2 := ⟨_, rfl⟩
          rw [hS2] at HO5 HS5 HC5 ⊢
          clear hS2
          go_wp2
          go_roundw
          case rel => exact ⟨m + 1, S2, A4, c4, by omega, by go_num, rfl, HO5.out, HC5.out, HS5.out, HB4.out⟩
          case measure => simp [intOf]; omega
        · obtain rfl : m = xs.length := by omega
          go_wp2
          go_roundw
          case rel => exact ⟨k + 1, ss, A1, c1, by omega, by go_num, rfl, HO.out, by rw [HC.out, HCs.out], HS.out, HB.out⟩
          case measure => simp [intOf]; omega
    · obtain rfl : k = xss.length := by omega
      go_wp2
      go_ret
      exact ⟨_, _, ss, rfl, HO.out, HC.out, HS.out, HB.out⟩
end Go.Proofs.YtmfdgpinohbckaaDoor
