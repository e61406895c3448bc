/-
  BestLane: which lane is best; the model's contract of l04Best. Condition: the rack reads as lists of things that are stored, valid.
-/
import Derived.Test.YtmfdgpinohbckaaDoorKc4
import Derived.Test.YtmfdgpinohbckaaDoorMg
import Derived.Test.YtmfdgpinohbckaaDoorMg5
namespace Go.Proofs.YtmfdgpinohbckaaDoor
open Go.ChangeShapes Go.WideShapes Go.ChangeAt Go.RowKit Go.Deep

/-- What firstLeast tells. -/
def noSp : Sp := ((((0, 0), 0), 0, 0), (none, 0, 0))
def flS (fs : List Num) : List Sp → Sp
  | [] => noSp
  | x :: xs => minL fs x xs
def flE (ad : Nat → Addr) : List Sp → Value
  | [] => .iface 165 (.pointer (some (ad 4)))
  | _ :: _ => .nilIface
def olC : Option Core → Core
  | none => (((0, 0), 0), 0, 0)
  | some c => c
def olE (ad : Nat → Addr) : Option Core → Value
  | none => .iface 165 (.pointer (some (ad 4)))
  | some _ => .nilIface
theorem firstLeast_any (fs : List Num) (B c : Nat) (ss : List Sp) (A : Option Addr) (cx : Nat) (ad : Nat → Addr) (w : World) (hn : fs.length ≤ 1000) (hl : ss.length ≤ 1000) (hB : B < w.heap.size) (hc : ∀ (j : Nat) (f : Num), fs[j]? = some f → w.cell? ⟨B, j, none⟩ = some (.func (.func f.1) #[] #[])) (hT : ∀ s ∈ ss, Tells w fs s) (hen : Enters fs) (hr : Rd w w.heap.size spcells A ss) (hE : EW 7 w ad) :
    Calls Tryd.prog 92 #[.slice A ss.length cx, .slice (some ⟨B, 0, none⟩) fs.length c] w fun e w' => e = .returned (.tuple #[.agg (spcells (flS fs ss)).toArray, flE ad ss]) ∧ Below w.heap.size w w' := by
  cases ss with
  | nil => exact firstLeast_nil A cx _ ad w hE
  | cons x xs => exact firstLeast_cons fs B c x xs A cx w hn (by omega) hB hc hT hen hr
theorem cmp1K (a b : Int) : (if c64 a b = 0 then 0 else c64 a b) < 0 ↔ a < b := by
  unfold c64
  repeat' split
  all_goals omega
theorem cmp2K (a b a' b' : Int) : (if c64 a b = 0 then (if c64 a' b' = 0 then 0 else c64 a' b') else c64 a b) < 0 ↔ a < b ∨ (a = b ∧ a' < b') := by
  unfold c64
  repeat' split
  all_goals omega
theorem storedK_any (k y d l i : Int) (a : Option Addr) (n c : Nat) (w : World) : Calls Tryd.prog 98 #[.agg (spC k y d l i a n c)] w fun e w' => e = .returned (.int .i64 d) ∧ Below w.heap.size w w' := by
  unfold spC
  go_enter Tryd.func98, Tryd.ntmps98
  go_wp2
  go_ret
  exact ⟨rfl, (Below.refl _ w).alloc (Nat.le_refl _) _⟩
theorem aheadK_any (k y d l : Int) (i : Nat) (a : Option Addr) (n c : Nat) (hn : n ≤ 100) (hi : i < n) (w : World) : Calls Tryd.prog 97 #[.agg (spC k y d l i a n c)] w fun e w' => e = .returned (.int .i64 ((n : Int) - 1 - i)) ∧ Below w.heap.size w w' := by
  unfold spC
  have hi0 : (0 : Int) ≤ (i : Int) := Int.natCast_nonneg _
  have hi1 : (i : Int) < n := by omega
  have hn1 : (n : Int) ≤ 100 := by omega
  go_enter Tryd.func97, Tryd.ntmps97
  go_wp2
  try go_quiet (fail)
  try go_wp2
  go_ret
  exact ⟨rfl, by first | exact (Below.refl _ w).alloc (Nat.le_refl _) _ | exact ((Below.refl _ w).alloc (Nat.le_refl _) _).drew⟩
def olF : List Num := [(98, fun s => s.1.1.2)]
theorem ol_enters : Enters olF := by
  intro f hf args w
  simp only [olF, List.mem_cons, List.not_mem_nil, or_false] at hf
  subst hf
  kernel_rfl
theorem ol_tells {xss : List (List Wnt)} {w : World} {s : Sp} (h : okK xss w s) : Tells w olF s := by
  obtain ⟨⟨⟨⟨k1, y1⟩, d⟩, l, i⟩, a, n, c⟩ := s
  intro f hf w' hb
  simp only [olF, List.mem_cons, List.not_mem_nil, or_false] at hf
  subst hf
  exact storedK_any k1 y1 d l i a n c w'
def chF : List Num := [(97, fun s => (s.2.2.1 : Int) - 1 - s.1.2.2), (98, fun s => s.1.1.2)]
theorem ch_enters : Enters chF := by
  intro f hf args w
  simp only [chF, List.mem_cons, List.not_mem_nil, or_false] at hf
  rcases hf with rfl | rfl
  · kernel_rfl
  · kernel_rfl
theorem ch_tells {xss : List (List Wnt)} (h6 : ∀ xs ∈ xss, xs.length ≤ 6) {w : World} {s : Sp} (h : okK xss w s) : Tells w chF s := by
  obtain ⟨xs, a', c', h1, h2, h3, h4, h5⟩ := h
  obtain ⟨⟨⟨⟨k1, y1⟩, d⟩, l, i⟩, a, n, c⟩ := s
  dsimp only at h1 h2 h3
  cases h3
  have hl := h6 xs (List.mem_of_getElem? h1)
  have hi := (List.getElem?_eq_some_iff.1 h2).1
  intro f hf w' hb
  simp only [chF, List.mem_cons, List.not_mem_nil, or_false] at hf
  rcases hf with rfl | rfl
  · exact aheadK_any k1 y1 d l i a' xs.length c' (by omega) hi w'
  · exact storedK_any k1 y1 d l i a' xs.length c' w'
theorem coT_day {xss : List (List Wnt)} (hd : ∀ xs ∈ xss, ∀ x ∈ xs, x.2 ≤ 2000) {n : Nat} (hn : n ≤ xss.length) {c : Core} (h : c ∈ coT xss n) : c.1.2 ≤ 2000 := by
  obtain ⟨-, ys, h1, h2⟩ := coT_mem hn h
  exact hd ys (List.mem_of_getElem? h1) _ (List.mem_of_getElem? h2)
theorem ol_link {xss : List (List Wnt)} (hd : ∀ xs ∈ xss, ∀ x ∈ xs, x.2 ≤ 2000) {k y : Int} {ss : List Sp} (hs : ss.map (·.1) = coT xss xss.length) (ad : Nat → Addr) : (flS olF (ss.filter (lkB k y 2000))).1 = olC (olT k y xss) ∧ flE ad (ss.filter (lkB k y 2000)) = olE ad (olT k y xss) := by
  have e : olT k y xss = fmL (lkC k y 2000) dLt (coT xss xss.length) := fm_congr fun c hc => by rw [lkC, decide_eq_true (coT_day hd (Nat.le_refl _) hc), Bool.and_true]
  cases hf : ss.filter (lkB k y 2000) with
  | nil => rw [e, least_no hs hf]; exact ⟨rfl, rfl⟩
  | cons x xs =>
    rw [e, least_is (fs := olF) hs hf (fun s t _ _ => by
      have := cmp1K s.1.1.2 t.1.1.2
      show (if c64 s.1.1.2 t.1.1.2 = 0 then 0 else c64 s.1.1.2 t.1.1.2) < 0 ↔ _
      rw [this, dLt, decide_eq_true_iff])]
    exact ⟨rfl, rfl⟩
theorem ch_link {xss : List (List Wnt)} {k y most : Int} {ss : List Sp} {w : World} (hok : ∀ s ∈ ss, okK xss w s) (hs : ss.map (·.1) = coT xss xss.length) (ad : Nat → Addr) : (flS chF (ss.filter (lkB k y most))).1 = olC (fmL (chP k y most) (aLt xss) (coT xss xss.length)) ∧ flE ad (ss.filter (lkB k y most)) = olE ad (fmL (chP k y most) (aLt xss) (coT xss xss.length)) := by
  have e : fmL (chP k y most) (aLt xss) (coT xss xss.length) = fmL (lkC k y most) (aLt xss) (coT xss xss.length) := rfl
  have ha : ∀ s ∈ ss, (s.2.2.1 : Int) - 1 - s.1.2.2 = ahC xss s.1 := fun s hs => by
    obtain ⟨xs, a', c', h1, h2, h3, h4, h5⟩ := hok s hs
    rw [ahC, List.getD_eq_getElem?_getD, h1, h3]; rfl
  cases hf : ss.filter (lkB k y most) with
  | nil => rw [e, least_no hs hf]; exact ⟨rfl, rfl⟩
  | cons x xs =>
    have hm : ∀ s, s ∈ x :: xs → s ∈ ss := fun s h => by rw [← hf] at h; exact (List.mem_filter.1 h).1
    rw [e, least_is (fs := chF) hs hf (fun s t h1 h2 => by
      have := cmp2K ((s.2.2.1 : Int) - 1 - s.1.2.2) ((t.2.2.1 : Int) - 1 - t.1.2.2) s.1.1.2 t.1.1.2
      show (if c64 ((s.2.2.1 : Int) - 1 - s.1.2.2) ((t.2.2.1 : Int) - 1 - t.1.2.2) = 0 then (if c64 s.1.1.2 t.1.1.2 = 0 then 0 else c64 s.1.1.2 t.1.1.2) else c64 ((s.2.2.1 : Int) - 1 - s.1.2.2) ((t.2.2.1 : Int) - 1 - t.1.2.2)) < 0 ↔ _
      rw [this, ha s (hm s h1), ha t (hm t h2), aLt]
      simp only [Bool.or_eq_true, Bool.and_eq_true, decide_eq_true_eq])]
    exact ⟨rfl, rfl⟩

set_option maxRecDepth 100000 in
set_option maxHeartbeats 4000000 in
theorem oldestOf_any (xss : List (List Wnt)) (hwf : ∀ xs ∈ xss, ∀ x ∈ xs, wfW x) (hd : ∀ xs ∈ xss, ∀ x ∈ xs, x.2 ≤ 2000) (A : Option Addr) (c : Nat) (k y : Int) (ad : Nat → Addr) (w : World) (hl : xss.length ≤ 8) (h6 : ∀ xs ∈ xss, xs.length ≤ 6) (hr : RdK w w.heap.size wcells A xss) (hE : EW 7 w ad) :
    Calls Tryd.prog 95 #[.slice A xss.length c, .agg #[.int .u8 k, .int .i16 y]] w fun e w' => ∃ (k2 y2 d2 : Int) (l2 i2 : Nat) (a2 : Option Addr) (n2 c2 : Nat), e = .returned (.tuple #[.agg #[.int .u8 k2, .int .i16 y2, .int .i64 d2, .int .i64 l2, .int .i64 i2, .slice a2 n2 c2], olE ad (olT k y xss)]) ∧ olC (olT k y xss) = (((k2, y2), d2), l2, i2) ∧ Below w.heap.size w w' := by
  have HR := Lib.hid hr
  have H6 := Lib.hid h6
  have HW := Lib.hid hwf
  have HD := Lib.hid hd
  have HE := Lib.hid hE
  clear hr h6 hwf hd hE
  have h2 : Below w.heap.size w ((w.alloc (.cells #[.int .u8 k, .int .i16 y] 28)).alloc (.cells #[.int .u8 0, .int .i16 0, .int .i64 0, .int .i64 0, .int .i64 0, .slice none 0 0] 107)) := by
    have q1 : Below w.heap.size w (w.alloc (.cells #[.int .u8 k, .int .i16 y] 28)) := (Below.refl _ w).alloc (Nat.le_refl _) _
    exact q1.alloc q1.size _
  have h1 : Blk ((w.alloc (.cells #[.int .u8 k, .int .i16 y] 28)).alloc (.cells #[.int .u8 0, .int .i16 0, .int .i64 0, .int .i64 0, .int .i64 0, .slice none 0 0] 107)) (w.heap.size + 1) 107 #[.int .u8 0, .int .i16 0, .int .i64 0, .int .i64 0, .int .i64 0, .slice none 0 0] := by
    have := Blk.new (w.alloc (.cells #[.int .u8 k, .int .i16 y] 28)) 107 #[.int .u8 0, .int .i16 0, .int .i64 0, .int .i64 0, .int .i64 0, .slice none 0 0]
    simpa using this
  have h3 : Blk ((w.alloc (.cells #[.int .u8 k, .int .i16 y] 28)).alloc (.cells #[.int .u8 0, .int .i16 0, .int .i64 0, .int .i64 0, .int .i64 0, .slice none 0 0] 107)) w.heap.size 28 #[.int .u8 k, .int .i16 y] := (Blk.new w _ _).alloc _
  obtain ⟨W0, hW0⟩ : ∃ W0, (w.alloc (.cells #[.int .u8 k, .int .i16 y] 28)).alloc (.cells #[.int .u8 0, .int .i16 0, .int .i64 0, .int .i64 0, .int .i64 0, .slice none 0 0] 107) = W0 := ⟨_, rfl⟩
  rw [hW0] at h1 h2 h3
  have H1 := Lib.hid h1
  have H2 := Lib.hid h2
  have b0 : W0.cell? ⟨w.heap.size, 0, none⟩ = some (.int .u8 k) := h3.cell 0
  have b1 : W0.cell? ⟨w.heap.size, 1, none⟩ = some (.int .i16 y) := h3.cell 1
  clear h1 h2 h3
  go_enter Tryd.func95, Tryd.ntmps95
  go_wp2_with fail
  clear hW0
  refine (spotsLike_any xss HW.out A c k y 2000 W0 hl H6.out (HR.out.keep H2.out)).mono ?_
  rintro e w2 ⟨A', c', ss, rfl, hRd, hC, hS, hb⟩
  have HB2 : Hid (Below w.heap.size w w2) := H2.out.trans (hb.mono H2.out.size)
  have HK2 := Lib.hid (H1.out.keep hb)
  obtain ⟨hlk1, hlk2⟩ := ol_link HD.out (k := k) (y := y) hC ad
  have hsl : (ss.filter (lkB k y 2000)).length ≤ 1000 := by
    have h0 := List.length_filter_le (lkB k y 2000) ss
    have h1 := coT_le H6.out xss.length
    rw [← hC, List.length_map] at h1
    omega
  have hq1 : Below w2.heap.size w2 (w2.alloc (.cells #[.func (.func 98) #[] #[]] 139)) := (Below.refl _ w2).alloc (Nat.le_refl _) _
  have hq2 : Blk (w2.alloc (.cells #[.func (.func 98) #[] #[]] 139)) w2.heap.size 139 #[.func (.func 98) #[] #[]] := Blk.new w2 _ _
  obtain ⟨F, hF⟩ : ∃ F, ss.filter (lkB k y 2000) = F := ⟨_, rfl⟩
  have hSF : ∀ s ∈ F, okK xss w2 s := fun s h => hS s (List.mem_filter.1 (by rw [hF]; exact h)).1
  rw [hF] at hlk1 hlk2 hsl hRd ⊢
  clear hF
  obtain ⟨n, hn⟩ : ∃ n : Nat, F.length = n := ⟨_, rfl⟩
  have HFL : Hid (∀ w', Below (w2.alloc (.cells #[.func (.func 98) #[] #[]] 139)).heap.size (w2.alloc (.cells #[.func (.func 98) #[] #[]] 139)) w' → Calls Tryd.prog 92 #[.slice A' n c', .slice (some ⟨w2.heap.size, 0, none⟩) 1 1] w' fun e w'' => e = .returned (.tuple #[.agg (spcells (flS olF F)).toArray, flE ad F]) ∧ Below w'.heap.size w' w'') := fun w' hb2 => by
    have hbw : Below w2.heap.size w2 w' := hq1.trans (hb2.mono hq1.size)
    have := firstLeast_any olF w2.heap.size 1 F A' c' ad w' (by show 1 ≤ 1000; omega) hsl (Nat.lt_of_lt_of_le hq2.lt hb2.size) (fun j f hf => by
      match j, hf with
      | 0, hf => cases hf; exact (hq2.keep hb2).cell 0
      | j + 1, hf => simp [olF] at hf) (fun s h => ol_tells ((hSF s h).keep hbw)) ol_enters (hRd.keep hbw) ((HE.out.below HB2.out (Nat.le_refl _)).below hbw (Nat.le_refl _))
    rw [hn] at this
    exact this
  rw [hn]
  obtain ⟨⟨⟨⟨⟨k2, y2⟩, d2⟩, l2, i2⟩, a2, n2, c2⟩, hm⟩ : ∃ p, flS olF F = p := ⟨_, rfl⟩
  rw [hm] at HFL hlk1
  obtain ⟨er, her⟩ : ∃ v, flE ad F = v := ⟨_, rfl⟩
  rw [her] at HFL hlk2
  have HL1 := Lib.hid hlk1
  have HL2 := Lib.hid hlk2
  clear hlk1 hlk2 hm her hn hsl hRd hSF hC hS hb b0 b1
  go_wp2_with fail
  refine (HFL.out _ (Below.refl _ _)).mono ?_
  rintro e w5 ⟨he, hb⟩
  have he2 : e = .returned (.tuple #[.agg #[.int .u8 k2, .int .i16 y2, .int .i64 d2, .int .i64 l2, .int .i64 i2, .slice a2 n2 c2], er]) := he
  subst he2
  have HB5 : Hid (Below w.heap.size w w5) := (HB2.out.trans (hq1.mono HB2.out.size)).trans (hb.mono (HB2.out.trans (hq1.mono HB2.out.size)).size)
  have hK5 := (HK2.out.keep hq1).keep hb
  have z0 : w5.cell? ⟨w.heap.size + 1, 0, none⟩ = some (.int .u8 0) := hK5.cell 0
  have f0 : w5.frozen? ⟨w.heap.size + 1, 0, none⟩ = false := hK5.frozen 0
  have z1 : w5.cell? ⟨w.heap.size + 1, 1, none⟩ = some (.int .i16 0) := hK5.cell 1
  have f1 : w5.frozen? ⟨w.heap.size + 1, 1, none⟩ = false := hK5.frozen 1
  have z2 : w5.cell? ⟨w.heap.size + 1, 2, none⟩ = some (.int .i64 0) := hK5.cell 2
  have f2 : w5.frozen? ⟨w.heap.size + 1, 2, none⟩ = false := hK5.frozen 2
  have z3 : w5.cell? ⟨w.heap.size + 1, 3, none⟩ = some (.int .i64 0) := hK5.cell 3
  have f3 : w5.frozen? ⟨w.heap.size + 1, 3, none⟩ = false := hK5.frozen 3
  have z4 : w5.cell? ⟨w.heap.size + 1, 4, none⟩ = some (.int .i64 0) := hK5.cell 4
  have f4 : w5.frozen? ⟨w.heap.size + 1, 4, none⟩ = false := hK5.frozen 4
  have z5 : w5.cell? ⟨w.heap.size + 1, 5, none⟩ = some (.slice none 0 0) := hK5.cell 5
  have f5 : w5.frozen? ⟨w.heap.size + 1, 5, none⟩ = false := hK5.frozen 5
  clear hb hK5 hq1 hq2 HFL he
  go_wp2
  refine bodyPost_ret (v := .tuple #[.agg #[.int .u8 k2, .int .i16 y2, .int .i64 d2, .int .i64 l2, .int .i64 i2, .slice a2 n2 c2], er]) (by simp [results, Tryd.results95, go_sem, *]) rfl ?_
  exact ⟨_, _, _, _, _, _, _, _, by rw [HL2.out], HL1.out.symm, ((((((HB5.out.setCell (p := ⟨w.heap.size + 1, 0, none⟩) (by show w.heap.size ≤ w.heap.size + 1; omega) _).setCell (p := ⟨w.heap.size + 1, 1, none⟩) (by show w.heap.size ≤ w.heap.size + 1; omega) _).setCell (p := ⟨w.heap.size + 1, 2, none⟩) (by show w.heap.size ≤ w.heap.size + 1; omega) _).setCell (p := ⟨w.heap.size + 1, 3, none⟩) (by show w.heap.size ≤ w.heap.size + 1; omega) _).setCell (p := ⟨w.heap.size + 1, 4, none⟩) (by show w.heap.size ≤ w.heap.size + 1; omega) _).setCell (p := ⟨w.heap.size + 1, 5, none⟩) (by show w.heap.size ≤ w.heap.size + 1; omega) _)⟩
end Go.Proofs.YtmfdgpinohbckaaDoor

namespace Go.Proofs.YtmfdgpinohbckaaDoor
open Go.ChangeShapes Go.WideShapes Go.ChangeAt Go.RowKit Go.Deep

/-- The best of the first lanes: lane, how many are blocked, how many bottles there are. -/
def bstN (T : Option (Nat × Nat × Nat)) (i own len : Nat) : Option (Nat × Nat × Nat) :=
  match T with
  | none => some (i, own, len)
  | some (b, o, n) => if own < o ∨ (own = o ∧ len < n) then some (i, own, len) else some (b, o, n)
def bst (xss : List (List Wnt)) (d : Int) : Nat → Option (Nat × Nat × Nat)
  | 0 => none
  | i + 1 => if (xss.getD i []).length = 6 then bst xss d i else bstN (bst xss d i) i (cntB (xss.getD i []) d (xss.getD i []).length) (xss.getD i []).length
def bestI : Option (Nat × Nat × Nat) → Int
  | none => -1
  | some (b, _, _) => b
def leastI : Option (Nat × Nat × Nat) → Int
  | none => 0
  | some (_, o, _) => o
theorem bst_full {xss : List (List Wnt)} {d : Int} {i : Nat} {xs : List Wnt} (h : xss[i]? = some xs) (hl : xs.length = 6) : bst xss d (i + 1) = bst xss d i := by rw [bst]; simp [h, hl]
theorem bst_room {xss : List (List Wnt)} {d : Int} {i : Nat} {xs : List Wnt} (h : xss[i]? = some xs) (hl : ¬ xs.length = 6) : bst xss d (i + 1) = bstN (bst xss d i) i (cntB xs d xs.length) xs.length := by rw [bst]; simp [h, hl]
theorem bst_ok {xss : List (List Wnt)} {d : Int} : ∀ (k : Nat), k ≤ xss.length → ∀ b o n, bst xss d k = some (b, o, n) → b < k ∧ o ≤ n ∧ ∃ ys, xss[b]? = some ys ∧ n = ys.length
  | 0, _, b, o, n, h => by cases h
  | k + 1, hk, b, o, n, h => by
    obtain ⟨xs, hx⟩ : ∃ x, xss[k]? = some x := ⟨_, List.getElem?_eq_getElem (by omega)⟩
    have new : ∀ b o n, some (k, cntB xs d xs.length, xs.length) = some (b, o, n) → b < k + 1 ∧ o ≤ n ∧ ∃ ys, xss[b]? = some ys ∧ n = ys.length := fun b o n e => by
      simp only [Option.some.injEq, Prod.mk.injEq] at e
      obtain ⟨rfl, rfl, rfl⟩ := e
      exact ⟨by omega, cntB_le _ _ _, xs, hx, rfl⟩
    have old : ∀ b o n, bst xss d k = some (b, o, n) → b < k + 1 ∧ o ≤ n ∧ ∃ ys, xss[b]? = some ys ∧ n = ys.length := fun b o n e => by
      obtain ⟨h1, h2⟩ := bst_ok k (by omega) b o n e
      exact ⟨by omega, h2⟩
    by_cases hl : xs.length = 6
    · rw [bst_full hx hl] at h; exact old b o n h
    · rw [bst_room hx hl] at h
      unfold bstN at h
      split at h
      · exact new b o n h
      · rename_i b' o' n' e
        split at h
        · exact new b o n h
        · rw [← e] at h; exact old b o n h

end Go.Proofs.YtmfdgpinohbckaaDoor
