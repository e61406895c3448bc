/-
  Taking the one that is chosen: the model's and the program's contracts. Condition: the rack reads, or is one's own; at most eight of at most six; the slack is one.
-/
import Derived.Test.YtmfdgpinohbckaaDoorKo7
import Derived.Test.YtmfdgpinohbckaaDoorKc6
import Derived.Test.YtmfdgpinohbckaaDoorKo6
namespace Go.Proofs.YtmfdgpinohbckaaDoor
open Go.ChangeShapes Go.WideShapes Go.ChangeAt Go.RowKit Go.Deep

def exE {T : Type} : Except Nat T → Option Nat
  | .error e => some e
  | .ok _ => none
def exR {X : Type} : Except Nat (List (List Wnt) × X × Nat) → List (List Wnt)
  | .error _ => []
  | .ok p => p.1
def exX {X : Type} (d : X) : Except Nat (List (List Wnt) × X × Nat) → X
  | .error _ => d
  | .ok p => p.2.1
def exM {X : Type} : Except Nat (List (List Wnt) × X × Nat) → Nat
  | .error _ => 0
  | .ok p => p.2.2
theorem tk_rc {s : Int} {xss : List (List Wnt)} {b : Bot} {c : Core} {xs : List Wnt} (h : chT b.1 b.2 s xss = some c) (hx : xss[c.2.1]? = some xs) (hi : xs[c.2.2]? = some c.1) :
    exR (tkT s xss b) = rcR xss c.2.1 xs c.2.2 ∧ exX ((0, 0), 0) (tkT s xss b) = rcV xss c.2.1 xs c.2.2 ∧ exM (tkT s xss b) = rcM xss c.2.1 xs c.2.2 ∧ cdO (exE (tkT s xss b)) = rcK xss c.2.1 xs c.2.2 ∧ ∀ ad, erO ad (exE (tkT s xss b)) = rcE ad xss c.2.1 xs c.2.2 := by
  cases hr : rcS xss c.2.1 xs (xs.length - 1 - c.2.2) with
  | none =>
    obtain ⟨e1, e2, e3, e4⟩ := rcB_no hr
    rw [tkT_limit h hx hr, e1, e2, e3, e4]
    exact ⟨rfl, rfl, rfl, rfl, fun ad => by rw [rcE_no hr]; rfl⟩
  | some r =>
    obtain ⟨e1, e2, e3, e4⟩ := rcB_yes hr hi
    rw [tkT_yes h hx hr, e1, e2, e3, e4]
    exact ⟨rfl, rfl, rfl, rfl, fun ad => by rw [(rc_yes hr hi ad).2.2]; rfl⟩

set_option maxRecDepth 100000 in
set_option maxHeartbeats 4000000 in
theorem l04Take_any (xss : List (List Wnt)) (hwf : ∀ xs ∈ xss, ∀ x ∈ xs, wfW x) (A : Option Addr) (c : Nat) (k y s : Int) (hs : 0 ≤ s ∧ s ≤ 2000) (w : World) (hl : xss.length ≤ 8) (h6 : ∀ xs ∈ xss, xs.length ≤ 6) (hr : RdN w w.heap.size wcells A xss) :
    Calls Tryd.prog 47 #[.slice A xss.length c, .agg #[.int .u8 k, .int .i16 y], .int .i64 s] w fun e w' => ∃ A' c', e = .returned (.tuple #[.slice A' (exR (tkT s xss (k, y))).length c', .agg (wcells (exX ((0, 0), 0) (tkT s xss (k, y)))).toArray, .int .i64 (exM (tkT s xss (k, y)) : Nat), .int .i64 (cdO (exE (tkT s xss (k, y))))]) ∧ RdO w' w.heap.size A' c' (exR (tkT s xss (k, y))) ∧ Below w.heap.size w w' := by
  have HR := Lib.hid hr
  have H6 := Lib.hid h6
  have HW := Lib.hid hwf
  have HL8 := Lib.hid hl
  have HS := Lib.hid hs
  clear hr h6 hwf hl hs
  have h2 : Below w.heap.size w ((w.alloc (.cells #[.int .u8 k, .int .i16 y] 28)).alloc (.cells #[.int .u8 0, .int .i16 0, .int .i16 0] 30)) := by
    have q1 : Below w.heap.size w (w.alloc (.cells #[.int .u8 k, .int .i16 y] 28)) := (Below.refl _ w).alloc (Nat.le_refl _) _
    exact q1.alloc q1.size _
  have h1 : Blk ((w.alloc (.cells #[.int .u8 k, .int .i16 y] 28)).alloc (.cells #[.int .u8 0, .int .i16 0, .int .i16 0] 30)) (w.heap.size + 1) 30 #[.int .u8 0, .int .i16 0, .int .i16 0] := by
    have := Blk.new (w.alloc (.cells #[.int .u8 k, .int .i16 y] 28)) 30 #[.int .u8 0, .int .i16 0, .int .i16 0]
    simpa using this
  have h3 : Blk ((w.alloc (.cells #[.int .u8 k, .int .i16 y] 28)).alloc (.cells #[.int .u8 0, .int .i16 0, .int .i16 0] 30)) w.heap.size 28 #[.int .u8 k, .int .i16 y] := (Blk.new w _ _).alloc _
  obtain ⟨W0, hW0⟩ : ∃ W0, ((w.alloc (.cells #[.int .u8 k, .int .i16 y] 28)).alloc (.cells #[.int .u8 0, .int .i16 0, .int .i16 0] 30)) = W0 := ⟨_, rfl⟩
  rw [hW0] at h1 h2 h3
  have H1 := Lib.hid h1
  have H2 := Lib.hid h2
  have b0 : W0.cell? ⟨w.heap.size, 0, none⟩ = some (.int .u8 k) := h3.cell 0
  have b1 : W0.cell? ⟨w.heap.size, 1, none⟩ = some (.int .i16 y) := h3.cell 1
  clear h1 h2 h3
  go_enter Tryd.func47, Tryd.ntmps47
  go_wp2_with fail
  clear hW0
  refine (l04Choice_any xss HW.out A c k y s HS.out W0 HL8.out H6.out (HR.out.keep H2.out)).mono ?_
  rintro e w1 ⟨rfl, hb⟩
  have G1 : Hid (Blk w1 (w.heap.size + 1) 30 #[.int .u8 0, .int .i16 0, .int .i16 0]) := H1.out.keep hb
  have G2 : Hid (Below w.heap.size w w1) := H2.out.trans (hb.mono H2.out.size)
  clear hb H1 H2 b0 b1
  obtain ⟨T, hT⟩ : ∃ T, chT k y s xss = T := ⟨_, rfl⟩
  rw [hT]
  cases T with
  | none =>
    have E := Lib.hid (tkT_no (b := (k, y)) hT)
    rw [show olI (none : Option Core) = -1 from rfl]
    have hA5 : Below w1.heap.size w1 (w1.alloc (.cells #[] 44)) := (Below.refl _ w1).alloc (Nat.le_refl _) _
    obtain ⟨W5, hW5⟩ : ∃ W5, w1.alloc (.cells #[] 44) = W5 := ⟨_, rfl⟩
    rw [hW5] at hA5
    have HC6 := Lib.hid (G1.out.keep hA5)
    have HB6 := Lib.hid (G2.out.trans (hA5.mono G2.out.size))
    clear hA5 hT
    have d0 : W5.cell? ⟨w.heap.size + 1, 0, none⟩ = some (.int .u8 0) := HC6.out.cell 0
    have d1 : W5.cell? ⟨w.heap.size + 1, 1, none⟩ = some (.int .i16 0) := HC6.out.cell 1
    have d2 : W5.cell? ⟨w.heap.size + 1, 2, none⟩ = some (.int .i16 0) := HC6.out.cell 2
    have f0 : W5.frozen? ⟨w.heap.size + 1, 0, none⟩ = false := HC6.out.frozen 0
    have f1 : W5.frozen? ⟨w.heap.size + 1, 1, none⟩ = false := HC6.out.frozen 1
    have f2 : W5.frozen? ⟨w.heap.size + 1, 2, none⟩ = false := HC6.out.frozen 2
    go_wp2
    refine bodyPost_ret (v := .tuple #[.slice (some ⟨w1.heap.size, 0, none⟩) 0 0, .agg #[.int .u8 0, .int .i16 0, .int .i16 0], .int .i64 0, .int .i64 6]) (by simp [results, Tryd.results47, go_sem, *]) rfl ?_
    exact ⟨_, _, by (rw [E.out]; rfl), .inl (by rw [E.out]; rfl), ((((HB6.out).setCell (p := ⟨w.heap.size + 1, 0, none⟩) (Nat.le_succ _) _).setCell (p := ⟨w.heap.size + 1, 1, none⟩) (Nat.le_succ _) _).setCell (p := ⟨w.heap.size + 1, 2, none⟩) (Nat.le_succ _) _)⟩
  | some cr =>
    obtain ⟨x0, l2, i2⟩ := cr
    obtain ⟨xs, hx, hi⟩ := chT_in hT
    have E1 := Lib.hid (tk_rc (b := (k, y)) hT hx hi)
    dsimp only at hx hi
    have hi2 := (List.getElem?_eq_some_iff.1 hi).1
    have hre := l04Reach_any xss A c l2 i2 xs w1 HL8.out H6.out HW.out (HR.out.keep G2.out) hx hi2
    dsimp only at E1
    obtain ⟨L, hL⟩ : ∃ L, rcR xss l2 xs i2 = L := ⟨_, rfl⟩
    obtain ⟨⟨⟨k1, y1⟩, n1⟩, hv⟩ : ∃ x, rcV xss l2 xs i2 = x := ⟨_, rfl⟩
    obtain ⟨m, hm⟩ : ∃ m : Nat, rcM xss l2 xs i2 = m := ⟨_, rfl⟩
    obtain ⟨cd, hcd⟩ : ∃ cd, rcK xss l2 xs i2 = cd := ⟨_, rfl⟩
    rw [hL, hv, hm, hcd] at hre E1
    have HRe := Lib.hid hre
    rw [show olI (some (x0, l2, i2)) = (l2 : Int) from rfl, show olX (some (x0, l2, i2)) = (i2 : Int) from rfl]
    have hl0 : (0 : Int) ≤ (l2 : Int) := Int.natCast_nonneg _
    have hl9 : ¬ (l2 : Int) < 0 := by omega
    clear hT hx hi hi2 hre hL hv hm hcd
    go_wp2_with fail
    refine HRe.out.mono ?_
    rintro e w2 ⟨A2, c2, he, hR2, hb2⟩
    have he2 : e = .returned (.tuple #[.slice A2 L.length c2, .agg #[.int .u8 k1, .int .i16 y1, .int .i16 n1], .int .i64 (m : Int), .int .i64 cd]) := he
    subst he2
    have HR2 := Lib.hid hR2
    have K1 : Hid (Blk w2 (w.heap.size + 1) 30 #[.int .u8 0, .int .i16 0, .int .i16 0]) := G1.out.keep hb2
    have K2 : Hid (Below w.heap.size w w2) := G2.out.trans (hb2.mono G2.out.size)
    have HSz : Hid (w.heap.size + 1 < w1.heap.size) := G1.out.lt
    clear he hR2 hb2 G1 G2 HRe
    have d0 : w2.cell? ⟨w.heap.size + 1, 0, none⟩ = some (.int .u8 0) := K1.out.cell 0
    have d1 : w2.cell? ⟨w.heap.size + 1, 1, none⟩ = some (.int .i16 0) := K1.out.cell 1
    have d2 : w2.cell? ⟨w.heap.size + 1, 2, none⟩ = some (.int .i16 0) := K1.out.cell 2
    have f0 : w2.frozen? ⟨w.heap.size + 1, 0, none⟩ = false := K1.out.frozen 0
    have f1 : w2.frozen? ⟨w.heap.size + 1, 1, none⟩ = false := K1.out.frozen 1
    have f2 : w2.frozen? ⟨w.heap.size + 1, 2, none⟩ = false := K1.out.frozen 2
    go_wp2
    refine bodyPost_ret (v := .tuple #[.slice A2 L.length c2, .agg #[.int .u8 k1, .int .i16 y1, .int .i16 n1], .int .i64 (m : Int), .int .i64 cd]) (by simp [results, Tryd.results47, go_sem, *]) rfl ?_
    have hlt : ∀ k, k = w.heap.size + 1 → k < w1.heap.size := fun k e => by have := HSz.out; omega
    exact ⟨A2, c2, by (rw [E1.out.1, E1.out.2.1, E1.out.2.2.1, E1.out.2.2.2.1]; rfl), by rw [E1.out.1]; exact RdO.base ((((show RdO w2 w1.heap.size A2 c2 L from HR2.out).only (only_set w2 (w.heap.size + 1) 0 (.int .u8 k1)) hlt).only (only_set _ (w.heap.size + 1) 1 (.int .i16 y1)) hlt).only (only_set _ (w.heap.size + 1) 2 (.int .i16 n1)) hlt) (by have := HSz.out; omega), (((K2.out.setCell (p := ⟨w.heap.size + 1, 0, none⟩) (Nat.le_succ _) _).setCell (p := ⟨w.heap.size + 1, 1, none⟩) (Nat.le_succ _) _).setCell (p := ⟨w.heap.size + 1, 2, none⟩) (Nat.le_succ _) _)⟩

theorem PutO.refl (A : Option Addr) (hs : List Hd) {w w1 : World} (hb : Below w.heap.size w w1) : PutO A hs hs w w1 := fun q hq _ hh => ⟨hb.block q hq, hh⟩
theorem PutO.start {A : Option Addr} {hs hs' : List Hd} {w w1 w2 : World} (hb : Below w.heap.size w w1) (h : PutO A hs hs' w1 w2) : PutO A hs hs' w w2 := fun q hq hA hh => by
  obtain ⟨h1, h2⟩ := h q (Nat.lt_of_lt_of_le hq hb.size) hA hh
  exact ⟨h1.trans (hb.block q hq), h2⟩
set_option maxRecDepth 100000 in
set_option maxHeartbeats 4000000 in
theorem takeOldest_any (xss : List (List Wnt)) (hs : List Hd) (b : Nat) (A : Option Addr) (c : Nat) (k y s : Int) (hss : 0 ≤ s ∧ s ≤ 2000) (ad : Nat → Addr) (v w : World) (hl : xss.length ≤ 8) (h6 : ∀ xs ∈ xss, xs.length ≤ 6) (hwf : ∀ xs ∈ xss, ∀ x ∈ xs, wfW x) (hd : ∀ xs ∈ xss, ∀ x ∈ xs, x.2 ≤ 2000) (hN : OwnN w b 44 30 3 wcells A c hs xss) (hbw : b ≤ w.heap.size) (hv : v.heap.size ≤ b) (hE : EW 7 v ad) (hvw : Below v.heap.size v w) :
    Calls Tryd.prog 50 #[.slice A xss.length c, .agg #[.int .u8 k, .int .i16 y], .int .i64 s] w fun e w' => ∃ hs', e = .returned (.tuple #[.agg (wcells (exX ((0, 0), 0) (tkT s xss (k, y)))).toArray, .int .i64 (exM (tkT s xss (k, y)) : Nat), erO ad (exE (tkT s xss (k, y)))]) ∧ (∀ r x m, (tkT s xss (k, y)) = .ok (r, x, m) → OwnN w' b 44 30 3 wcells A c hs' r) ∧ Below b w w' ∧ PutO A hs hs' w w' := by
  have H6 := Lib.hid h6
  have HW := Lib.hid hwf
  have HD := Lib.hid hd
  have HL8 := Lib.hid hl
  have HSs := Lib.hid hss
  have HE := Lib.hid hE
  have HV := Lib.hid hv
  have HVw := Lib.hid hvw
  have HBW := Lib.hid hbw
  have HN0 := Lib.hid hN
  have hS0 : SepL A hs (some ⟨w.heap.size + 1, 0, none⟩) := SepL.new (hN.keep ((Below.refl _ w).alloc (Nat.le_refl _) (.cells #[.int .u8 k, .int .i16 y] 28))) (by simp)
  have HS0 := Lib.hid hS0
  clear h6 hwf hd hl hss hE hv hvw hbw hN hS0
  have h2 : Below w.heap.size w ((w.alloc (.cells #[.int .u8 k, .int .i16 y] 28)).alloc (.cells #[.int .u8 0, .int .i16 0, .int .i16 0] 30)) := by
    have q1 : Below w.heap.size w (w.alloc (.cells #[.int .u8 k, .int .i16 y] 28)) := (Below.refl _ w).alloc (Nat.le_refl _) _
    exact q1.alloc q1.size _
  have h1 : Blk ((w.alloc (.cells #[.int .u8 k, .int .i16 y] 28)).alloc (.cells #[.int .u8 0, .int .i16 0, .int .i16 0] 30)) (w.heap.size + 1) 30 #[.int .u8 0, .int .i16 0, .int .i16 0] := by
    have := Blk.new (w.alloc (.cells #[.int .u8 k, .int .i16 y] 28)) 30 #[.int .u8 0, .int .i16 0, .int .i16 0]
    simpa using this
  have h3 : Blk ((w.alloc (.cells #[.int .u8 k, .int .i16 y] 28)).alloc (.cells #[.int .u8 0, .int .i16 0, .int .i16 0] 30)) w.heap.size 28 #[.int .u8 k, .int .i16 y] := (Blk.new w _ _).alloc _
  obtain ⟨W0, hW0⟩ : ∃ W0, ((w.alloc (.cells #[.int .u8 k, .int .i16 y] 28)).alloc (.cells #[.int .u8 0, .int .i16 0, .int .i16 0] 30)) = W0 := ⟨_, rfl⟩
  rw [hW0] at h1 h2 h3
  have H1 := Lib.hid h1
  have H2 := Lib.hid h2
  have b0 : W0.cell? ⟨w.heap.size, 0, none⟩ = some (.int .u8 k) := h3.cell 0
  have b1 : W0.cell? ⟨w.heap.size, 1, none⟩ = some (.int .i16 y) := h3.cell 1
  clear h1 h2 h3
  go_enter Tryd.func50, Tryd.ntmps50
  go_wp2_with fail
  clear hW0
  have HN1 := Lib.hid (HN0.out.keep H2.out)
  have HVe : Hid (Below v.heap.size v W0) := HVw.out.trans (H2.out.mono HVw.out.size)
  refine (choiceOf_any xss HW.out HD.out A c k y s HSs.out ad W0 HL8.out H6.out (HN1.out.rdK wcells_length) (HE.out.below HVe.out (Nat.le_refl _))).mono ?_
  rintro e w1 ⟨k2, y2, dd, l2, i2, a2, n2, c2, rfl, hol, hb⟩
  have hb3 : Below w1.heap.size w1 (w1.alloc (.cells #[.int .u8 k2, .int .i16 y2, .int .i64 dd, .int .i64 l2, .int .i64 i2, .slice a2 n2 c2] 107)) := (Below.refl _ _).alloc (Nat.le_refl _) _
  have hk3 : Blk (w1.alloc (.cells #[.int .u8 k2, .int .i16 y2, .int .i64 dd, .int .i64 l2, .int .i64 i2, .slice a2 n2 c2] 107)) w1.heap.size 107 #[.int .u8 k2, .int .i16 y2, .int .i64 dd, .int .i64 l2, .int .i64 i2, .slice a2 n2 c2] := Blk.new w1 _ _
  obtain ⟨ev, hev⟩ : ∃ v, olE ad (chT k y s xss) = v := ⟨_, rfl⟩
  rw [hev]
  have hb4 := H2.out.trans ((hb.trans (hb3.mono hb.size)).mono H2.out.size)
  have HB4 := Lib.hid hb4
  have HK4 := Lib.hid ((H1.out.keep hb).keep hb3)
  have HN4 := Lib.hid ((HN1.out.keep hb).keep hb3)
  have HSp := Lib.hid hk3
  have HEv := Lib.hid hev
  have HOl := Lib.hid hol
  clear hb hb3 hk3 hev hol hb4 H1 H2 HN1 HVe b0 b1 HN0
  go_upto_region 2 with fail
  obtain ⟨w3, hw3⟩ : ∃ W, w1.alloc (.cells #[.int .u8 k2, .int .i16 y2, .int .i64 dd, .int .i64 l2, .int .i64 i2, .slice a2 n2 c2] 107) = W := ⟨_, rfl⟩
  rw [hw3] at HB4 HK4 HN4 HSp ⊢
  clear hw3
  have d0 : w3.cell? ⟨w.heap.size + 1, 0, none⟩ = some (.int .u8 0) := HK4.out.cell 0
  have d1 : w3.cell? ⟨w.heap.size + 1, 1, none⟩ = some (.int .i16 0) := HK4.out.cell 1
  have d2 : w3.cell? ⟨w.heap.size + 1, 2, none⟩ = some (.int .i16 0) := HK4.out.cell 2
  have f0 : w3.frozen? ⟨w.heap.size + 1, 0, none⟩ = false := HK4.out.frozen 0
  have f1 : w3.frozen? ⟨w.heap.size + 1, 1, none⟩ = false := HK4.out.frozen 1
  have f2 : w3.frozen? ⟨w.heap.size + 1, 2, none⟩ = false := HK4.out.frozen 2
  cases hT : chT k y s xss with
  | none =>
    have E := Lib.hid (tkT_no (b := (k, y)) hT)
    rw [← HEv.out, hT, show olE ad none = .iface 165 (.pointer (some (ad 4))) from rfl]
    clear HEv HOl hT
    go_wp2
    refine bodyPost_ret (v := .tuple #[.agg #[.int .u8 0, .int .i16 0, .int .i16 0], .int .i64 0, .iface 165 (.pointer (some (ad 4)))]) (by simp [results, Tryd.results50, go_sem, *]) rfl ?_
    exact ⟨hs, by (rw [E.out]; rfl), fun r x m h => (by rw [E.out] at h; cases h), ((((HB4.out.mono HBW.out).setCell (p := ⟨w.heap.size + 1, 0, none⟩) (Nat.le_succ_of_le HBW.out) _).setCell (p := ⟨w.heap.size + 1, 1, none⟩) (Nat.le_succ_of_le HBW.out) _).setCell (p := ⟨w.heap.size + 1, 2, none⟩) (Nat.le_succ_of_le HBW.out) _), PutO.refl A hs ((((HB4.out).setCell (p := ⟨w.heap.size + 1, 0, none⟩) (Nat.le_succ _) _).setCell (p := ⟨w.heap.size + 1, 1, none⟩) (Nat.le_succ _) _).setCell (p := ⟨w.heap.size + 1, 2, none⟩) (Nat.le_succ _) _)⟩
  | some cr =>
    obtain ⟨x0, l3, i3⟩ := cr
    obtain ⟨xs, hx, hi⟩ := chT_in hT
    have E1 := Lib.hid (tk_rc (b := (k, y)) hT hx hi)
    have hol := HOl.out
    rw [hT] at hol
    have hol2 : (x0, l3, i3) = (((k2, y2), dd), l2, i2) := hol
    simp only [Prod.mk.injEq] at hol2
    obtain ⟨rfl, rfl, rfl⟩ := hol2
    dsimp only at hx hi E1
    have hi2 := (List.getElem?_eq_some_iff.1 hi).1
    have hre := reachX_any xss hs b A c l3 i3 xs ad v w3 HL8.out H6.out HW.out HN4.out (Nat.le_trans HBW.out HB4.out.size) hx hi2 HV.out HE.out (HVw.out.trans (HB4.out.mono HVw.out.size))
    obtain ⟨⟨⟨k1, y1⟩, n1⟩, hvv⟩ : ∃ x, rcV xss l3 xs i3 = x := ⟨_, rfl⟩
    obtain ⟨m, hm⟩ : ∃ m : Nat, rcM xss l3 xs i3 = m := ⟨_, rfl⟩
    obtain ⟨rv, hrv⟩ : ∃ v, rcE ad xss l3 xs i3 = v := ⟨_, rfl⟩
    have hE1 := E1.out
    rw [hvv, hm, hrv] at hre
    rw [hvv, hm] at hE1
    have HE1 := Lib.hid hE1
    have HRe := Lib.hid hre
    have HRv := Lib.hid hrv
    have HT := Lib.hid hT
    have HX := Lib.hid hx
    rw [← HEv.out, hT, show olE ad (some (((k2, y2), dd), l3, i3)) = .nilIface from rfl]
    have s3 : w3.cell? ⟨w1.heap.size, 3, none⟩ = some (.int .i64 l3) := HSp.out.cell 3
    have s4 : w3.cell? ⟨w1.heap.size, 4, none⟩ = some (.int .i64 i3) := HSp.out.cell 4
    clear E1 HEv HOl hol hT hx hi hi2 hre hE1 hvv hm hrv
    go_wp2_with fail
    refine HRe.out.mono ?_
    rintro e w5 ⟨hs5, he, hN5, hb5, hP5⟩
    have he2 : e = .returned (.tuple #[.agg #[.int .u8 k1, .int .i16 y1, .int .i16 n1], .int .i64 (m : Int), rv]) := he
    subst he2
    have hq : w.heap.size + 1 < w3.heap.size := HK4.out.lt
    have hP6 := hP5 (w.heap.size + 1) hq (HS0.out _ rfl).1 (HS0.out _ rfl).2
    have HK5 : Hid (Blk w5 (w.heap.size + 1) 30 #[.int .u8 0, .int .i16 0, .int .i16 0]) := hP6.1.trans HK4.out
    have HS5 : Hid (SepL A hs5 (some ⟨w.heap.size + 1, 0, none⟩)) := fun q e => by
      obtain rfl : w.heap.size + 1 = q := Option.some.inj e
      exact ⟨(HS0.out _ rfl).1, hP6.2⟩
    have HN5 := Lib.hid hN5
    have HB5 : Hid (Below b w w5) := (HB4.out.mono HBW.out).trans hb5
    have HP5 : Hid (PutO A hs hs5 w w5) := PutO.start HB4.out hP5
    clear he hN5 hb5 hP5 hP6 hq HRe d0 d1 d2 f0 f1 f2 s3 s4 HK4 HN4 HB4 HSp
    have d0 : w5.cell? ⟨w.heap.size + 1, 0, none⟩ = some (.int .u8 0) := HK5.out.cell 0
    have d1 : w5.cell? ⟨w.heap.size + 1, 1, none⟩ = some (.int .i16 0) := HK5.out.cell 1
    have d2 : w5.cell? ⟨w.heap.size + 1, 2, none⟩ = some (.int .i16 0) := HK5.out.cell 2
    have f0 : w5.frozen? ⟨w.heap.size + 1, 0, none⟩ = false := HK5.out.frozen 0
    have f1 : w5.frozen? ⟨w.heap.size + 1, 1, none⟩ = false := HK5.out.frozen 1
    have f2 : w5.frozen? ⟨w.heap.size + 1, 2, none⟩ = false := HK5.out.frozen 2
    go_wp2
    refine bodyPost_ret (v := .tuple #[.agg #[.int .u8 k1, .int .i16 y1, .int .i16 n1], .int .i64 (m : Int), rv]) (by simp [results, Tryd.results50, go_sem, *]) rfl ?_
    have hgr : w5.grownBy (((w5.setCell ⟨w.heap.size + 1, 0, none⟩ (.int .u8 k1)).setCell ⟨w.heap.size + 1, 1, none⟩ (.int .i16 y1)).setCell ⟨w.heap.size + 1, 2, none⟩ (.int .i16 n1)) ((some ⟨w.heap.size + 1, 0, none⟩ : Option Addr).map (·.block)) := gk_set (gk_set (gk_set (gk_refl w5 (some (w.heap.size + 1))) _) _) _
    refine ⟨hs5, by (rw [HE1.out.2.1, HE1.out.2.2.1, HE1.out.2.2.2.2, HRv.out]; rfl), fun r x m h => ?_, ((((HB5.out).setCell (p := ⟨w.heap.size + 1, 0, none⟩) (Nat.le_succ_of_le HBW.out) _).setCell (p := ⟨w.heap.size + 1, 1, none⟩) (Nat.le_succ_of_le HBW.out) _).setCell (p := ⟨w.heap.size + 1, 2, none⟩) (Nat.le_succ_of_le HBW.out) _), HP5.out.far ((((Below.refl w.heap.size w5).setCell (p := ⟨w.heap.size + 1, 0, none⟩) (Nat.le_succ _) _).setCell (p := ⟨w.heap.size + 1, 1, none⟩) (Nat.le_succ _) _).setCell (p := ⟨w.heap.size + 1, 2, none⟩) (Nat.le_succ _) _)⟩
    cases hS : rcS xss l3 xs (xs.length - 1 - i3) with
    | none => rw [tkT_limit (b := (k, y)) HT.out HX.out hS] at h; cases h
    | some r0 =>
      rw [tkT_yes (b := (k, y)) HT.out HX.out hS] at h
      simp only [Except.ok.injEq, Prod.mk.injEq] at h
      obtain ⟨rfl, -, -⟩ := h
      exact (sep_grow (HN5.out r0 hS) hgr HS5.out (.inl rfl)).1

end Go.Proofs.YtmfdgpinohbckaaDoor
