/-
  The choice: the program's contract of choiceOf. Condition: the rack reads as lists of things that are stored, with room, at most eight of at most six, on days up to 2000; the sentinel errors lie as the row lists them.
-/
import Derived.Test.YtmfdgpinohbckaaDoorMg10
namespace Go.Proofs.YtmfdgpinohbckaaDoor
open Go.ChangeShapes Go.WideShapes Go.ChangeAt Go.RowKit Go.Deep

set_option maxRecDepth 100000 in
set_option maxHeartbeats 8000000 in
theorem choiceOf_any (xss : List (List Wnt)) (hwf : ∀ xs ∈ xss, ∀ x ∈ xs, wfW x) (hd : ∀ xs ∈ xss, ∀ x ∈ xs, x.2 ≤ 2000) (A : Option Addr) (c : Nat) (k y s : Int) (hs : 0 ≤ s ∧ s ≤ 2000) (ad : Nat → Addr) (w : World) (hl : xss.length ≤ 8) (h6 : ∀ xs ∈ xss, xs.length ≤ 6) (hr : RdK w w.heap.size wcells A xss) (hE : EW 7 w ad) :
    Calls Tryd.prog 77 #[.slice A xss.length c, .agg #[.int .u8 k, .int .i16 y], .int .i64 s] w fun e w' => ∃ (k2 y2 d2 : Int) (l2 i2 : Nat) (a2 : Option Addr) (n2 c2 : Nat), e = .returned (.tuple #[.agg #[.int .u8 k2, .int .i16 y2, .int .i64 d2, .int .i64 l2, .int .i64 i2, .slice a2 n2 c2], olE ad (chT k y s xss)]) ∧ olC (chT k y s xss) = (((k2, y2), d2), l2, i2) ∧ Below w.heap.size w w' := by
  have HR := Lib.hid hr
  have H6 := Lib.hid h6
  have HW := Lib.hid hwf
  have HD := Lib.hid hd
  have HE := Lib.hid hE
  obtain ⟨hs0, hs1⟩ := hs
  clear hr h6 hwf hd hE
  have h2 : Below w.heap.size w ((w.alloc (.cells #[.int .u8 k, .int .i16 y] 28)).alloc (.cells #[.int .u8 0, .int .i16 0, .int .i64 0, .int .i64 0, .int .i64 0, .slice none 0 0] 107)) := by
    have q1 : Below w.heap.size w (w.alloc (.cells #[.int .u8 k, .int .i16 y] 28)) := (Below.refl _ w).alloc (Nat.le_refl _) _
    exact q1.alloc q1.size _
  have h1 : Blk ((w.alloc (.cells #[.int .u8 k, .int .i16 y] 28)).alloc (.cells #[.int .u8 0, .int .i16 0, .int .i64 0, .int .i64 0, .int .i64 0, .slice none 0 0] 107)) (w.heap.size + 1) 107 #[.int .u8 0, .int .i16 0, .int .i64 0, .int .i64 0, .int .i64 0, .slice none 0 0] := by
    have := Blk.new (w.alloc (.cells #[.int .u8 k, .int .i16 y] 28)) 107 #[.int .u8 0, .int .i16 0, .int .i64 0, .int .i64 0, .int .i64 0, .slice none 0 0]
    simpa using this
  have h3 : Blk ((w.alloc (.cells #[.int .u8 k, .int .i16 y] 28)).alloc (.cells #[.int .u8 0, .int .i16 0, .int .i64 0, .int .i64 0, .int .i64 0, .slice none 0 0] 107)) w.heap.size 28 #[.int .u8 k, .int .i16 y] := (Blk.new w _ _).alloc _
  obtain ⟨W0, hW0⟩ : ∃ W0, (w.alloc (.cells #[.int .u8 k, .int .i16 y] 28)).alloc (.cells #[.int .u8 0, .int .i16 0, .int .i64 0, .int .i64 0, .int .i64 0, .slice none 0 0] 107) = W0 := ⟨_, rfl⟩
  rw [hW0] at h1 h2 h3
  have H1 := Lib.hid h1
  have H2 := Lib.hid h2
  have H3 := Lib.hid h3
  have b0 : W0.cell? ⟨w.heap.size, 0, none⟩ = some (.int .u8 k) := h3.cell 0
  have b1 : W0.cell? ⟨w.heap.size, 1, none⟩ = some (.int .i16 y) := h3.cell 1
  clear h1 h2 h3
  go_enter Tryd.func77, Tryd.ntmps77
  go_wp2_with fail
  clear hW0
  refine (oldestOf_any xss HW.out HD.out A c k y ad W0 hl H6.out (HR.out.keep H2.out) (HE.out.below H2.out (Nat.le_refl _))).mono ?_
  rintro e w1 ⟨k3, y3, d3, l3, i3, a3, n3, c3, rfl, hol, hb⟩
  obtain ⟨W3, hW3⟩ : ∃ W3, w1.alloc (.cells #[.int .u8 k3, .int .i16 y3, .int .i64 d3, .int .i64 l3, .int .i64 i3, .slice a3 n3 c3] 107) = W3 := ⟨_, rfl⟩
  have hb3 : Below w1.heap.size w1 W3 := by rw [← hW3]; exact (Below.refl _ _).alloc (Nat.le_refl _) _
  have hk3 : Blk W3 w1.heap.size 107 #[.int .u8 k3, .int .i16 y3, .int .i64 d3, .int .i64 l3, .int .i64 i3, .slice a3 n3 c3] := by rw [← hW3]; exact Blk.new w1 _ _
  have HB3 : Hid (Below w.heap.size w W3) := (H2.out.trans (hb.mono H2.out.size)).trans (hb3.mono (H2.out.trans (hb.mono H2.out.size)).size)
  have HK3 := Lib.hid ((H1.out.keep hb).keep hb3)
  have HX3 := Lib.hid ((H3.out.keep hb).keep hb3)
  have HV3 := Lib.hid hk3
  have hK3 := HK3.out
  obtain ⟨O, hO⟩ : ∃ O, olT k y xss = O := ⟨_, rfl⟩
  rw [hO] at hol ⊢
  rcases O with _ | c0
  · have E : Hid (chT k y s xss = none) := by show _ = _; rw [chT, hO]
    rw [show olE ad none = .iface 165 (.pointer (some (ad 4))) from rfl]
    have z0 : W3.cell? ⟨w.heap.size + 1, 0, none⟩ = some (.int .u8 0) := hK3.cell 0
    have f0 : W3.frozen? ⟨w.heap.size + 1, 0, none⟩ = false := hK3.frozen 0
    have z1 : W3.cell? ⟨w.heap.size + 1, 1, none⟩ = some (.int .i16 0) := hK3.cell 1
    have f1 : W3.frozen? ⟨w.heap.size + 1, 1, none⟩ = false := hK3.frozen 1
    have z2 : W3.cell? ⟨w.heap.size + 1, 2, none⟩ = some (.int .i64 0) := hK3.cell 2
    have f2 : W3.frozen? ⟨w.heap.size + 1, 2, none⟩ = false := hK3.frozen 2
    have z3 : W3.cell? ⟨w.heap.size + 1, 3, none⟩ = some (.int .i64 0) := hK3.cell 3
    have f3 : W3.frozen? ⟨w.heap.size + 1, 3, none⟩ = false := hK3.frozen 3
    have z4 : W3.cell? ⟨w.heap.size + 1, 4, none⟩ = some (.int .i64 0) := hK3.cell 4
    have f4 : W3.frozen? ⟨w.heap.size + 1, 4, none⟩ = false := hK3.frozen 4
    have z5 : W3.cell? ⟨w.heap.size + 1, 5, none⟩ = some (.slice none 0 0) := hK3.cell 5
    have f5 : W3.frozen? ⟨w.heap.size + 1, 5, none⟩ = false := hK3.frozen 5
    clear hb b0 b1 hol hb3 hk3 hO hK3
    go_wp2
    refine bodyPost_ret (v := .tuple #[.agg #[.int .u8 0, .int .i16 0, .int .i64 0, .int .i64 0, .int .i64 0, .slice none 0 0], .iface 165 (.pointer (some (ad 4)))]) (by simp [results, Tryd.results77, go_sem, *]) rfl ?_
    exact ⟨0, 0, 0, 0, 0, none, 0, 0, by rw [E.out]; rfl, by rw [E.out]; rfl, ((((((HB3.out.setCell (p := ⟨w.heap.size + 1, 0, none⟩) (by show w.heap.size ≤ w.heap.size + 1; omega) _).setCell (p := ⟨w.heap.size + 1, 1, none⟩) (by show w.heap.size ≤ w.heap.size + 1; omega) _).setCell (p := ⟨w.heap.size + 1, 2, none⟩) (by show w.heap.size ≤ w.heap.size + 1; omega) _).setCell (p := ⟨w.heap.size + 1, 3, none⟩) (by show w.heap.size ≤ w.heap.size + 1; omega) _).setCell (p := ⟨w.heap.size + 1, 4, none⟩) (by show w.heap.size ≤ w.heap.size + 1; omega) _).setCell (p := ⟨w.heap.size + 1, 5, none⟩) (by show w.heap.size ≤ w.heap.size + 1; omega) _)⟩
  have hc0 : c0 = (((k3, y3), d3), l3, i3) := hol
  have hcd : d3 ≤ 2000 ∧ -32768 ≤ d3 := by
    have hm := (fmL_in hO).1
    rw [hc0] at hm
    refine ⟨coT_day HD.out (Nat.le_refl _) hm, ?_⟩
    obtain ⟨-, ys, g1, g2⟩ := coT_mem (Nat.le_refl _) hm
    exact (HW.out ys (List.mem_of_getElem? g1) _ (List.mem_of_getElem? g2)).2.1
  obtain ⟨hcd1, hcd2⟩ := hcd
  have HCT : Hid (chT k y s xss = fmL (chP k y (d3 + s)) (aLt xss) (coT xss xss.length)) := by show _ = _; rw [chT, hO, hc0]
  rw [show olE ad (some c0) = .nilIface from rfl]
  have v1 : W3.cell? ⟨w1.heap.size, 1, none⟩ = some (.int .i16 y3) := HV3.out.cell 1
  have v2 : W3.cell? ⟨w1.heap.size, 2, none⟩ = some (.int .i64 d3) := HV3.out.cell 2
  have x0 : W3.cell? ⟨w.heap.size, 0, none⟩ = some (.int .u8 k) := HX3.out.cell 0
  have x1 : W3.cell? ⟨w.heap.size, 1, none⟩ = some (.int .i16 y) := HX3.out.cell 1
  clear hb b0 b1 hol hb3 hk3 hO hK3 hc0
  go_wp2_with fail
  clear hW3 v1 v2 x0 x1
  obtain ⟨most, hmost⟩ : ∃ m, d3 + s = m := ⟨_, rfl⟩
  rw [hmost] at HCT ⊢
  clear hmost
  refine (spotsLike_any xss HW.out A c k y most W3 hl H6.out (HR.out.keep HB3.out)).mono ?_
  rintro e w2 ⟨A', c', ss, rfl, hRd, hC, hS, hb⟩
  have HB2 : Hid (Below w.heap.size w w2) := HB3.out.trans (hb.mono HB3.out.size)
  have HK2 := Lib.hid (HK3.out.keep hb)
  obtain ⟨hlk1, hlk2⟩ := ch_link hS hC (k := k) (y := y) (most := most) ad
  have hsl : (ss.filter (lkB k y most)).length ≤ 1000 := by
    have h0 := List.length_filter_le (lkB k y most) ss
    have h1 := coT_le H6.out xss.length
    rw [← hC, List.length_map] at h1
    omega
  have hq1 : Below w2.heap.size w2 (w2.alloc (.cells #[.func (.func 97) #[] #[], .func (.func 98) #[] #[]] 139)) := (Below.refl _ w2).alloc (Nat.le_refl _) _
  have hq2 : Blk (w2.alloc (.cells #[.func (.func 97) #[] #[], .func (.func 98) #[] #[]] 139)) w2.heap.size 139 #[.func (.func 97) #[] #[], .func (.func 98) #[] #[]] := Blk.new w2 _ _
  obtain ⟨F, hF⟩ : ∃ F, ss.filter (lkB k y most) = F := ⟨_, rfl⟩
  have hSF : ∀ s ∈ F, okK xss w2 s := fun s h => hS s (List.mem_filter.1 (by rw [hF]; exact h)).1
  rw [hF] at hlk1 hlk2 hsl hRd ⊢
  clear hF
  obtain ⟨n, hn⟩ : ∃ n : Nat, F.length = n := ⟨_, rfl⟩
  have HFL : Hid (∀ w', Below (w2.alloc (.cells #[.func (.func 97) #[] #[], .func (.func 98) #[] #[]] 139)).heap.size (w2.alloc (.cells #[.func (.func 97) #[] #[], .func (.func 98) #[] #[]] 139)) w' → Calls Tryd.prog 92 #[.slice A' n c', .slice (some ⟨w2.heap.size, 0, none⟩) 2 2] w' fun e w'' => e = .returned (.tuple #[.agg (spcells (flS chF F)).toArray, flE ad F]) ∧ Below w'.heap.size w' w'') := fun w' hb2 => by
    have hbw : Below w2.heap.size w2 w' := hq1.trans (hb2.mono hq1.size)
    have := firstLeast_any chF w2.heap.size 2 F A' c' ad w' (by show 2 ≤ 1000; omega) hsl (Nat.lt_of_lt_of_le hq2.lt hb2.size) (fun j f hf => by
      match j, hf with
      | 0, hf => cases hf; exact (hq2.keep hb2).cell 0
      | 1, hf => cases hf; exact (hq2.keep hb2).cell 1
      | j + 2, hf => simp [chF] at hf) (fun s h => ch_tells H6.out ((hSF s h).keep hbw)) ch_enters (hRd.keep hbw) ((HE.out.below HB2.out (Nat.le_refl _)).below hbw (Nat.le_refl _))
    rw [hn] at this
    exact this
  rw [hn]
  obtain ⟨⟨⟨⟨⟨k2, y2⟩, d2⟩, l2, i2⟩, a2, n2, c2⟩, hm⟩ : ∃ p, flS chF F = p := ⟨_, rfl⟩
  rw [hm] at HFL hlk1
  obtain ⟨er, her⟩ : ∃ v, flE ad F = v := ⟨_, rfl⟩
  rw [her] at HFL hlk2
  have HL1 := Lib.hid hlk1
  have HL2 := Lib.hid hlk2
  clear hlk1 hlk2 hm her hn hsl hRd hSF hC hS hb
  go_wp2_with fail
  refine (HFL.out _ (Below.refl _ _)).mono ?_
  rintro e w5 ⟨he, hb⟩
  have he2 : e = .returned (.tuple #[.agg #[.int .u8 k2, .int .i16 y2, .int .i64 d2, .int .i64 l2, .int .i64 i2, .slice a2 n2 c2], er]) := he
  subst he2
  have HB5 : Hid (Below w.heap.size w w5) := (HB2.out.trans (hq1.mono HB2.out.size)).trans (hb.mono (HB2.out.trans (hq1.mono HB2.out.size)).size)
  have hK5 := (HK2.out.keep hq1).keep hb
  have z0 : w5.cell? ⟨w.heap.size + 1, 0, none⟩ = some (.int .u8 0) := hK5.cell 0
  have f0 : w5.frozen? ⟨w.heap.size + 1, 0, none⟩ = false := hK5.frozen 0
  have z1 : w5.cell? ⟨w.heap.size + 1, 1, none⟩ = some (.int .i16 0) := hK5.cell 1
  have f1 : w5.frozen? ⟨w.heap.size + 1, 1, none⟩ = false := hK5.frozen 1
  have z2 : w5.cell? ⟨w.heap.size + 1, 2, none⟩ = some (.int .i64 0) := hK5.cell 2
  have f2 : w5.frozen? ⟨w.heap.size + 1, 2, none⟩ = false := hK5.frozen 2
  have z3 : w5.cell? ⟨w.heap.size + 1, 3, none⟩ = some (.int .i64 0) := hK5.cell 3
  have f3 : w5.frozen? ⟨w.heap.size + 1, 3, none⟩ = false := hK5.frozen 3
  have z4 : w5.cell? ⟨w.heap.size + 1, 4, none⟩ = some (.int .i64 0) := hK5.cell 4
  have f4 : w5.frozen? ⟨w.heap.size + 1, 4, none⟩ = false := hK5.frozen 4
  have z5 : w5.cell? ⟨w.heap.size + 1, 5, none⟩ = some (.slice none 0 0) := hK5.cell 5
  have f5 : w5.frozen? ⟨w.heap.size + 1, 5, none⟩ = false := hK5.frozen 5
  clear hb hK5 hq1 hq2 HFL he
  go_wp2
  refine bodyPost_ret (v := .tuple #[.agg #[.int .u8 k2, .int .i16 y2, .int .i64 d2, .int .i64 l2, .int .i64 i2, .slice a2 n2 c2], er]) (by simp [results, Tryd.results77, go_sem, *]) rfl ?_
  exact ⟨_, _, _, _, _, _, _, _, by rw [HCT.out, HL2.out], by rw [HCT.out]; exact HL1.out.symm, ((((((HB5.out.setCell (p := ⟨w.heap.size + 1, 0, none⟩) (by show w.heap.size ≤ w.heap.size + 1; omega) _).setCell (p := ⟨w.heap.size + 1, 1, none⟩) (by show w.heap.size ≤ w.heap.size + 1; omega) _).setCell (p := ⟨w.heap.size + 1, 2, none⟩) (by show w.heap.size ≤ w.heap.size + 1; omega) _).setCell (p := ⟨w.heap.size + 1, 3, none⟩) (by show w.heap.size ≤ w.heap.size + 1; omega) _).setCell (p := ⟨w.heap.size + 1, 4, none⟩) (by show w.heap.size ≤ w.heap.size + 1; omega) _).setCell (p := ⟨w.heap.size + 1, 5, none⟩) (by show w.heap.size ≤ w.heap.size + 1; omega) _)⟩
end Go.Proofs.YtmfdgpinohbckaaDoor
