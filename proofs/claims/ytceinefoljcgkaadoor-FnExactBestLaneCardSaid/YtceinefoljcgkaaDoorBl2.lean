/-
  BestLane: the model's contract; the least of the spots in front is the best lane.
-/
import Derived.Test.YtceinefoljcgkaaDoorBl1
import Derived.Test.YtceinefoljcgkaaDoorSt2
import Derived.Test.YtceinefoljcgkaaDoorBk3
import Derived.Test.YtceinefoljcgkaaDoorFr1
import Derived.Test.YtceinefoljcgkaaDoorMf
namespace Go.Proofs.YtceinefoljcgkaaDoor
open Go.ChangeShapes Go.WideShapes Go.ChangeAt Go.RowKit Go.Deep

/-- The code of BestLane; its lane. -/
def blC (xss : List (List Wnt)) (x : Wnt) : Int := if (rkOk xss && sV x) = true then (if (bst xss x.2 xss.length).isSome = true then 0 else 6) else 1
def blN (xss : List (List Wnt)) (x : Wnt) : Int := if blC xss x = 0 then bestI (bst xss x.2 xss.length) else 0
/-- The numbers that decide. -/
def blF (xss : List (List Wnt)) : List Num := [(35, fun s => (bC xss s.1 : Int)), (75, fun s => (s.1.2.2 : Int))]
theorem cmp2 (a b a' b' : Int) : (if c64 a b = 0 then (if c64 a' b' = 0 then 0 else c64 a' b') else c64 a b) < 0 ↔ a < b ∨ (a = b ∧ a' < b') := by
  unfold c64
  repeat' split
  all_goals omega
theorem minL_snoc (fs : List Num) (s : Sp) : ∀ (t : List Sp) (m : Sp), minL fs m (t ++ [s]) = if cmpL fs s (minL fs m t) < 0 then s else minL fs m t
  | [], m => rfl
  | u :: t, m => by
    show minL fs (if cmpL fs u m < 0 then u else m) (t ++ [s]) = _
    rw [minL_snoc fs s t]; rfl
theorem bl_link {xss : List (List Wnt)} {x : Wnt} (h6 : ∀ xs ∈ xss, xs.length ≤ 6) : ∀ i, i ≤ xss.length → ∀ ss : List Sp, ss.map (·.1) = frT xss x i →
    (ss = [] ∧ bst xss x.2 i = none) ∨ ∃ m t, ss = m :: t ∧ bst xss x.2 i = some ((minL (blF xss) m t).1.2.1, bC xss (minL (blF xss) m t).1, (minL (blF xss) m t).1.2.2)
  | 0, _, ss, h => by
    left
    exact ⟨by simpa [frT] using h, rfl⟩
  | i + 1, hi, ss, h => by
    obtain ⟨xs, hx⟩ : ∃ y, xss[i]? = some y := ⟨_, List.getElem?_eq_getElem (by omega)⟩
    have hl := h6 xs (List.mem_of_getElem? hx)
    by_cases hf : xs.length = 6
    · rw [frT_no hx (by omega)] at h
      rw [bst_full hx hf]
      exact bl_link h6 i (by omega) ss h
    · rw [frT_yes hx (by omega)] at h
      rw [bst_room hx hf]
      obtain ⟨s1, s2, rfl, e1, e2⟩ := List.map_eq_append_iff.1 h
      obtain ⟨s, rfl, hs⟩ : ∃ s, s2 = [s] ∧ s.1 = (x, i, xs.length) := by
        cases s2 with
        | nil => cases e2
        | cons s r =>
          simp only [List.map_cons, List.cons.injEq, List.map_eq_nil_iff] at e2
          obtain ⟨e3, rfl⟩ := e2
          exact ⟨s, rfl, e3⟩
      have hb : bC xss s.1 = cntB xs x.2 xs.length := by rw [hs]; simp [bC, hx]
      right
      rcases bl_link h6 i (by omega) s1 e1 with ⟨rfl, hn⟩ | ⟨m, t, rfl, hm⟩
      · refine ⟨s, [], rfl, ?_⟩
        rw [hn]
        show some (i, cntB xs x.2 xs.length, xs.length) = some (s.1.2.1, bC xss s.1, s.1.2.2)
        rw [hb, hs]
      · refine ⟨m, t ++ [s], rfl, ?_⟩
        rw [hm, minL_snoc]
        obtain ⟨p, hp⟩ : ∃ p, minL (blF xss) m t = p := ⟨_, rfl⟩
        rw [hp]
        have hc : cmpL (blF xss) s p < 0 ↔ cntB xs x.2 xs.length < bC xss p.1 ∨ (cntB xs x.2 xs.length = bC xss p.1 ∧ xs.length < p.1.2.2) := by
          have := cmp2 (bC xss s.1 : Int) (bC xss p.1 : Int) (s.1.2.2 : Int) (p.1.2.2 : Int)
          have e : cmpL (blF xss) s p = (if c64 (bC xss s.1 : Int) (bC xss p.1 : Int) = 0 then (if c64 (s.1.2.2 : Int) (p.1.2.2 : Int) = 0 then 0 else c64 (s.1.2.2 : Int) (p.1.2.2 : Int)) else c64 (bC xss s.1 : Int) (bC xss p.1 : Int)) := rfl
          rw [e, this, hb, hs]
          simp only
          omega
        show (if _ then _ else _) = _
        by_cases hd : cmpL (blF xss) s p < 0
        · rw [if_pos (hc.1 hd), if_pos hd, hb, hs]
        · rw [if_neg (fun e => hd (hc.2 e)), if_neg hd]

set_option maxRecDepth 100000 in
set_option maxHeartbeats 4000000 in
theorem specBest_any (xss : List (List Wnt)) (hwf : ∀ xs ∈ xss, ∀ x ∈ xs, wfW x) (x : Wnt) (hwx : wfW x) (A : Option Addr) (c : Nat) (w : World) (hl : xss.length ≤ 1048576) (hx : ∀ xs ∈ xss, xs.length ≤ 1048576) (hr : RdN w w.heap.size wcells A xss) :
    Calls Tryd.prog 19 #[.slice A xss.length c, .agg (wcells x).toArray] w fun e w' => e = .returned (.tuple #[.int .i64 (blN xss x), .int .i64 (blC xss x)]) ∧ Below w.heap.size w w' := by
  obtain ⟨⟨k1, y1⟩, d⟩ := x
  show Calls Tryd.prog 19 #[.slice A xss.length c, .agg #[.int .u8 k1, .int .i16 y1, .int .i16 d]] w _
  have HR := Lib.hid hr
  have HW := Lib.hid hwf
  have HX := Lib.hid hx
  have HWX := Lib.hid hwx
  clear hr hwf hx hwx
  have h1 : Blk (w.alloc (.cells #[.int .u8 k1, .int .i16 y1, .int .i16 d] 45)) w.heap.size 45 #[.int .u8 k1, .int .i16 y1, .int .i16 d] := Blk.new w _ _
  have h2 : Below w.heap.size w (w.alloc (.cells #[.int .u8 k1, .int .i16 y1, .int .i16 d] 45)) := (Below.refl _ w).alloc (Nat.le_refl _) _
  obtain ⟨W0, hW0⟩ : ∃ W0, w.alloc (.cells #[.int .u8 k1, .int .i16 y1, .int .i16 d] 45) = W0 := ⟨_, rfl⟩
  rw [hW0] at h1 h2
  have H1 := Lib.hid h1
  have H2 := Lib.hid h2
  clear h1 h2
  go_enter Tryd.func19, Tryd.ntmps19
  go_wp2_with fail
  clear hW0
  refine (l04Ok_any xss HW.out A c _ hl HX.out (HR.out.keep H2.out)).mono ?_
  rintro e w1 ⟨rfl, hb⟩
  have J1 : Hid (Blk w1 w.heap.size 45 #[.int .u8 k1, .int .i16 y1, .int .i16 d]) := H1.out.keep hb
  have J2 : Hid (Below w.heap.size w w1) := H2.out.trans (hb.mono H2.out.size)
  clear hb H1 H2
  cases hv : rkOk xss
  · have hc : blC xss ((k1, y1), d) = 1 := by simp [blC, hv]
    have hn : blN xss ((k1, y1), d) = 0 := by rw [blN, hc]; rfl
    have E1 := Lib.hid hc
    have E2 := Lib.hid hn
    clear hv hc hn
    go_wp2
    go_ret2
    exact ⟨by (rw [E1.out, E2.out]; first | done | rfl), J2.out⟩
  have HV := Lib.hid hv
  have H8 := rkOk_len hv
  have H6 : Hid (∀ xs ∈ xss, xs.length ≤ 6) := fun xs h => (rkOk_lane hv h).1
  clear hv
  go_wp2_with fail
  refine (l04Stored_any ((k1, y1), d) HWX.out w.heap.size 0 _ J1.out.lt (wcells_range J1.out)).mono ?_
  rintro e w2 ⟨rfl, hb⟩
  have K1 : Hid (Blk w2 w.heap.size 45 #[.int .u8 k1, .int .i16 y1, .int .i16 d]) := J1.out.keep hb
  have K2 : Hid (Below w.heap.size w w2) := J2.out.trans (hb.mono J2.out.size)
  clear hb J1 J2
  cases hs : sV ((k1, y1), d)
  · have hc : blC xss ((k1, y1), d) = 1 := by simp [blC, hs]
    have hn : blN xss ((k1, y1), d) = 0 := by rw [blN, hc]; rfl
    have E1 := Lib.hid hc
    have E2 := Lib.hid hn
    clear hs hc hn
    go_wp2
    go_ret2
    exact ⟨by (rw [E1.out, E2.out]; first | done | rfl), K2.out⟩
  have HSv := Lib.hid hs
  clear hs
  go_wp2_with fail
  refine (l04Best_any xss A c w.heap.size d _ H8 H6.out (HR.out.keep K2.out) K1.out.lt (K1.out.cell 2)).mono ?_
  rintro e w3 ⟨rfl, hb⟩
  have L2 : Hid (Below w.heap.size w w3) := K2.out.trans (hb.mono K2.out.size)
  clear hb K1 K2
  obtain ⟨T, hT⟩ : ∃ T, bst xss d xss.length = T := ⟨_, rfl⟩
  have HT := Lib.hid hT
  rw [hT]
  clear hT
  rcases T with _ | ⟨b, o, n⟩
  · rw [show bestI none = -1 from rfl]
    have hc : blC xss ((k1, y1), d) = 6 := by simp [blC, HV.out, HSv.out, HT.out]
    have hn : blN xss ((k1, y1), d) = 0 := by rw [blN, hc]; rfl
    have E1 := Lib.hid hc
    have E2 := Lib.hid hn
    clear hc hn
    go_wp2
    go_ret2
    exact ⟨by (rw [E1.out, E2.out]; first | done | rfl), L2.out⟩
  · rw [show bestI (some (b, o, n)) = (b : Int) from rfl]
    have hc : blC xss ((k1, y1), d) = 0 := by simp [blC, HV.out, HSv.out, HT.out]
    have hn : blN xss ((k1, y1), d) = b := by rw [blN, hc, if_pos rfl]; show bestI (bst xss d xss.length) = _; rw [HT.out]; rfl
    have hb0 : ¬ (b : Int) < 0 := by omega
    have E1 := Lib.hid hc
    have E2 := Lib.hid hn
    clear hc hn
    go_wp2
    go_ret2
    exact ⟨by (rw [E1.out, E2.out]; first | done | rfl), L2.out⟩
end Go.Proofs.YtceinefoljcgkaaDoor
