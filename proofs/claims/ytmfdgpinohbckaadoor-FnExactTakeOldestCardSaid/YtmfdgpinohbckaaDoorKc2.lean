/-
  The first least of some things: mathematics, and of spots. No program's condition.
-/
import Derived.Test.YtmfdgpinohbckaaDoorMg8
import Derived.Test.YtmfdgpinohbckaaDoorMg9
import Derived.Test.YtmfdgpinohbckaaDoorMg
namespace Go.Proofs.YtmfdgpinohbckaaDoor
open Go.ChangeShapes Go.WideShapes Go.ChangeAt Go.RowKit Go.Deep

/-- One step of looking for the first least of those that fit. -/
def fm {T : Type} (p : T → Bool) (lt : T → T → Bool) (m : Option T) (c : T) : Option T :=
  if p c = true then (match m with | none => some c | some x => if lt c x = true then some c else some x) else m
def fmL {T : Type} (p : T → Bool) (lt : T → T → Bool) (cs : List T) : Option T := cs.foldl (fm p lt) none
theorem fmL_snoc {T : Type} (p : T → Bool) (lt : T → T → Bool) (cs : List T) (c : T) : fmL p lt (cs ++ [c]) = fm p lt (fmL p lt cs) c := by simp [fmL, List.foldl_append]
theorem fm_skip {T : Type} {p : T → Bool} {lt : T → T → Bool} {m : Option T} {c : T} (h : p c = false) : fm p lt m c = m := by simp [fm, h]
theorem fm_first {T : Type} {p : T → Bool} {lt : T → T → Bool} {c : T} (h : p c = true) : fm p lt none c = some c := by simp [fm, h]
theorem fm_less {T : Type} {p : T → Bool} {lt : T → T → Bool} {x c : T} (h : p c = true) (h2 : lt c x = true) : fm p lt (some x) c = some c := by simp [fm, h, h2]
theorem fm_not {T : Type} {p : T → Bool} {lt : T → T → Bool} {x c : T} (h2 : lt c x = false) : fm p lt (some x) c = some x := by simp [fm, h2]
theorem fmL_mem {T : Type} {p : T → Bool} {lt : T → T → Bool} : ∀ {cs : List T} {m : Option T} {c : T}, cs.foldl (fm p lt) m = some c → m = some c ∨ (c ∈ cs ∧ p c = true)
  | [], m, c, h => .inl h
  | x :: xs, m, c, h => by
    rcases fmL_mem (cs := xs) h with h1 | h1
    · by_cases hx : p x = true
      · cases m with
        | none =>
          rw [fm_first hx] at h1
          obtain rfl := Option.some.inj h1
          exact .inr ⟨List.mem_cons_self .., hx⟩
        | some y =>
          by_cases hl : lt x y = true
          · rw [fm_less hx hl] at h1
            obtain rfl := Option.some.inj h1
            exact .inr ⟨List.mem_cons_self .., hx⟩
          · rw [fm_not (by simpa using hl)] at h1
            exact .inl h1
      · rw [fm_skip (by simpa using hx)] at h1
        exact .inl h1
    · exact .inr ⟨List.mem_cons_of_mem _ h1.1, h1.2⟩
theorem fmL_in {T : Type} {p : T → Bool} {lt : T → T → Bool} {cs : List T} {c : T} (h : fmL p lt cs = some c) : c ∈ cs ∧ p c = true := by
  rcases fmL_mem h with h | h
  · cases h
  · exact h
theorem fm_filter {T : Type} (p : T → Bool) (lt : T → T → Bool) : ∀ (cs : List T) (m : Option T), (cs.filter p).foldl (fm (fun _ => true) lt) m = cs.foldl (fm p lt) m
  | [], m => rfl
  | x :: xs, m => by
    by_cases hx : p x = true
    · rw [List.filter_cons_of_pos hx, List.foldl_cons, List.foldl_cons, fm_filter p lt xs]
      congr 1
      simp [fm, hx]
    · rw [List.filter_cons_of_neg hx, List.foldl_cons, fm_filter p lt xs, fm_skip (by simpa using hx)]
theorem fm_congr {T : Type} {p q : T → Bool} {lt : T → T → Bool} : ∀ {cs : List T} {m : Option T}, (∀ c ∈ cs, p c = q c) → cs.foldl (fm p lt) m = cs.foldl (fm q lt) m
  | [], m, _ => rfl
  | x :: xs, m, h => by
    have e : fm p lt m x = fm q lt m x := by simp [fm, h x (List.mem_cons_self ..)]
    rw [List.foldl_cons, List.foldl_cons, e]
    exact fm_congr fun c hc => h c (List.mem_cons_of_mem _ hc)
/-- What lies in a rack. -/
theorem coR_mem {xs : List Wnt} {l : Nat} {c : Core} : ∀ {m : Nat}, m ≤ xs.length → c ∈ coR xs l m → c.2.1 = l ∧ c.2.2 < m ∧ xs[c.2.2]? = some c.1
  | 0, _, h => by cases h
  | m + 1, hm, h => by
    rw [coR, List.mem_append] at h
    rcases h with h | h
    · obtain ⟨h1, h2, h3⟩ := coR_mem (by omega) h
      exact ⟨h1, by omega, h3⟩
    · obtain rfl := List.mem_singleton.1 h
      have e : xs[m]? = some (xs[m]'(by omega)) := List.getElem?_eq_getElem (by omega)
      exact ⟨rfl, by show m < m + 1; omega, by show xs[m]? = some (xs.getD m _); rw [List.getD_eq_getElem?_getD, e]; rfl⟩
theorem coT_mem {xss : List (List Wnt)} {c : Core} : ∀ {n : Nat}, n ≤ xss.length → c ∈ coT xss n → c.2.1 < n ∧ ∃ ys, xss[c.2.1]? = some ys ∧ ys[c.2.2]? = some c.1
  | 0, _, h => by cases h
  | n + 1, hn, h => by
    have e : xss[n]? = some (xss[n]'(by omega)) := List.getElem?_eq_getElem (by omega)
    rw [coT_succ e, List.mem_append] at h
    rcases h with h | h
    · obtain ⟨h1, ys, h2, h3⟩ := coT_mem (by omega) h
      exact ⟨by omega, ys, h2, h3⟩
    · obtain ⟨h1, h2, h3⟩ := coR_mem (Nat.le_refl _) h
      exact ⟨by omega, _, by rw [h1]; exact e, h3⟩
/-- Alike; stored until a day. -/
def lkE (k y : Int) (c : Core) : Bool := decide (c.1.1.1 = k) && decide (c.1.1.2 = y)
def lkC (k y last : Int) (c : Core) : Bool := lkE k y c && decide (c.1.2 ≤ last)
theorem lkB_C (k y last : Int) (s : Sp) : lkB k y last s = lkC k y last s.1 := rfl
theorem filter_map1 (k y last : Int) : ∀ (ss : List Sp), (ss.filter (lkB k y last)).map (·.1) = (ss.map (·.1)).filter (lkC k y last)
  | [] => rfl
  | s :: ss => by
    by_cases h : lkC k y last s.1 = true
    · rw [List.filter_cons_of_pos (by rw [lkB_C]; exact h), List.map_cons, List.map_cons, List.filter_cons_of_pos h, filter_map1 k y last ss]
    · rw [List.filter_cons_of_neg (by rw [lkB_C]; exact h), List.map_cons, List.filter_cons_of_neg h, filter_map1 k y last ss]
/-- The program's least is the model's. -/
theorem min_fm {fs : List Num} {lt : Core → Core → Bool} : ∀ (xt : List Sp) (x0 : Sp), (∀ s t, s ∈ x0 :: xt → t ∈ x0 :: xt → (cmpL fs s t < 0 ↔ lt s.1 t.1 = true)) → (xt.map (·.1)).foldl (fm (fun _ => true) lt) (some x0.1) = some (minL fs x0 xt).1
  | [], x0, _ => rfl
  | x :: xt, x0, h => by
    rw [List.map_cons, List.foldl_cons, minL]
    have hx := h x x0 (List.mem_cons_of_mem _ (List.mem_cons_self ..)) (List.mem_cons_self ..)
    have e : fm (fun _ => true) lt (some x0.1) x.1 = some (if cmpL fs x x0 < 0 then x else x0).1 := by
      by_cases hl : lt x.1 x0.1 = true
      · rw [fm_less rfl hl, if_pos (hx.2 hl)]
      · rw [fm_not (by simpa using hl), if_neg (fun hc => hl (hx.1 hc))]
    rw [e]
    refine min_fm xt _ fun s t hs ht => h s t ?_ ?_
    · rcases List.mem_cons.1 hs with rfl | hs
      · by_cases hc : cmpL fs x x0 < 0
        · rw [if_pos hc]; simp
        · rw [if_neg hc]; simp
      · exact List.mem_cons_of_mem _ (List.mem_cons_of_mem _ hs)
    · rcases List.mem_cons.1 ht with rfl | ht
      · by_cases hc : cmpL fs x x0 < 0
        · rw [if_pos hc]; simp
        · rw [if_neg hc]; simp
      · exact List.mem_cons_of_mem _ (List.mem_cons_of_mem _ ht)
theorem least_is {fs : List Num} {lt : Core → Core → Bool} {k y last : Int} {cs : List Core} {ss : List Sp} (hs : ss.map (·.1) = cs) {x0 : Sp} {xt : List Sp} (he : ss.filter (lkB k y last) = x0 :: xt) (h : ∀ s t, s ∈ x0 :: xt → t ∈ x0 :: xt → (cmpL fs s t < 0 ↔ lt s.1 t.1 = true)) : fmL (lkC k y last) lt cs = some (minL fs x0 xt).1 := by
  rw [fmL, ← fm_filter, ← hs, ← filter_map1, he, List.map_cons, List.foldl_cons, fm_first rfl]
  exact min_fm xt x0 h
theorem least_no {lt : Core → Core → Bool} {k y last : Int} {cs : List Core} {ss : List Sp} (hs : ss.map (·.1) = cs) (he : ss.filter (lkB k y last) = []) : fmL (lkC k y last) lt cs = none := by
  rw [fmL, ← fm_filter, ← hs, ← filter_map1, he]; rfl

set_option maxRecDepth 100000 in
set_option maxHeartbeats 4000000 in
theorem delNil_any (f : Value) (c : Nat) (w : World) (HI : ∀ W, Below w.heap.size w W → Calls Tryd.prog 102 #[.slice none 0 c, f] W fun e w' => e = .returned (.int .i64 (-1)) ∧ Below W.heap.size W w') :
    Calls Tryd.prog 89 #[.slice none 0 c, f] w fun e w' => e = .returned (.slice none 0 c) ∧ Below w.heap.size w w' := by
  have HII := Lib.hid (HI w (Below.refl _ w))
  clear HI
  go_enter Tryd.func89, Tryd.ntmps89
  go_wp2_with fail
  refine HII.out.mono ?_
  rintro e w1 ⟨rfl, hb⟩
  have HB := Lib.hid hb
  clear hb HII
  go_wp2
  go_ret
  exact ⟨rfl, HB.out⟩

set_option maxRecDepth 100000 in
set_option maxHeartbeats 4000000 in
theorem spotsLike_any (xss : List (List Wnt)) (hwf : ∀ xs ∈ xss, ∀ x ∈ xs, wfW x) (A : Option Addr) (c : Nat) (k y last : Int) (w : World) (hl : xss.length ≤ 8) (h6 : ∀ xs ∈ xss, xs.length ≤ 6) (hr : RdK w w.heap.size wcells A xss) :
    Calls Tryd.prog 96 #[.slice A xss.length c, .agg #[.int .u8 k, .int .i16 y], .int .i64 last] w fun e w' => ∃ (A' : Option Addr) (c' : Nat) (ss : List Sp), e = .returned (.slice A' (ss.filter (lkB k y last)).length c') ∧ Rd w' w'.heap.size spcells A' (ss.filter (lkB k y last)) ∧ ss.map (·.1) = coT xss xss.length ∧ (∀ s ∈ ss, okK xss w' s) ∧ Below w.heap.size w w' := by
  have HR := Lib.hid hr
  have H6 := Lib.hid h6
  have HW := Lib.hid hwf
  clear hr h6 hwf
  have h2 : Below w.heap.size w ((w.alloc (.cells #[.int .u8 k, .int .i16 y] 28)).alloc (.cells #[.int .i64 last] 2)) := by
    have q1 : Below w.heap.size w (w.alloc (.cells #[.int .u8 k, .int .i16 y] 28)) := (Below.refl _ w).alloc (Nat.le_refl _) _
    exact q1.alloc q1.size _
  have h1 : Blk ((w.alloc (.cells #[.int .u8 k, .int .i16 y] 28)).alloc (.cells #[.int .i64 last] 2)) (w.heap.size + 1) 2 #[.int .i64 last] := by
    have := Blk.new (w.alloc (.cells #[.int .u8 k, .int .i16 y] 28)) 2 #[.int .i64 last]
    simpa using this
  have h3 : Blk ((w.alloc (.cells #[.int .u8 k, .int .i16 y] 28)).alloc (.cells #[.int .i64 last] 2)) w.heap.size 28 #[.int .u8 k, .int .i16 y] := (Blk.new w _ _).alloc _
  obtain ⟨W0, hW0⟩ : ∃ W0, (w.alloc (.cells #[.int .u8 k, .int .i16 y] 28)).alloc (.cells #[.int .i64 last] 2) = W0 := ⟨_, rfl⟩
  rw [hW0] at h1 h2 h3
  have H1 := Lib.hid h1
  have H2 := Lib.hid h2
  have H3 := Lib.hid h3
  clear h1 h2 h3
  go_enter Tryd.func96, Tryd.ntmps96
  go_wp2_with fail
  clear hW0
  refine (spotsK_any xss HW.out A c W0 hl H6.out (HR.out.keep H2.out)).mono ?_
  rintro e w2 ⟨A', c', ss, rfl, hO, hC, hS, hb⟩
  have hsl : ss.length ≤ 48 := by
    have h1 := coT_le H6.out xss.length
    rw [← hC] at h1
    simp only [List.length_map] at h1
    omega
  have HC := Lib.hid hC
  have HS := Lib.hid hS
  have HB2 : Hid (Below w.heap.size w w2) := H2.out.trans (hb.mono H2.out.size)
  have HBW := Lib.hid hb
  have K1 := Lib.hid (H1.out.keep hb)
  have K3 := Lib.hid (H3.out.keep hb)
  have HN : Hid (ss.filter (lkB k y last) = [] → Rd w2 w2.heap.size spcells none (ss.filter (lkB k y last))) := fun h => by rw [h]; exact fun hn => absurd hn (by simp)
  rcases OX.of hO with ⟨he, hss⟩ | ⟨g, cap, he, hg, hX⟩
  · subst hss
    simp only [List.length_nil, Value.slice.injEq] at he
    obtain ⟨rfl, -, rfl⟩ := he
    clear hO hb hC hS hsl HN
    rw [show ([] : List Sp).length = 0 from rfl]
    go_wp2_with fail
    refine (delNil_any _ 0 w2 (fun W hW => (indexSp_any (lkB k y last) [] (by simp) w.heap.size (w.heap.size + 1) none 0 W (fun hn => absurd hn (by simp)) (fun p hp => by cases hp)).mono ?_)).mono ?_
    · rintro e w3 ⟨⟨rfl, -⟩ | ⟨j, x, -, hx, -⟩, hb⟩
      · exact ⟨rfl, hb⟩
      · cases hx
    rintro e w3 ⟨rfl, hb⟩
    have HB3 : Hid (Below w.heap.size w w3) := HB2.out.trans (hb.mono HB2.out.size)
    clear hb
    go_wp2
    go_ret
    exact ⟨_, _, [], rfl, fun hn => absurd hn (by simp), HC.out, by simp, HB3.out⟩
  · obtain ⟨rfl, rfl⟩ : A' = some ⟨g, 0, none⟩ ∧ c' = cap := by simpa using he
    have HX := Lib.hid hX
    have HG := Lib.hid hg
    have hlt1 : w.heap.size + 1 < W0.heap.size := H1.out.lt
    have hgl : g < w2.heap.size := hX.lt
    have HF : Hid (∀ p ∈ ss, ∀ (W : World), w2.grownBy W (some g) → Calls Tryd.prog 107 #[.agg (spcells p).toArray, .pointer (some ⟨w.heap.size, 0, none⟩), .pointer (some ⟨w.heap.size + 1, 0, none⟩)] W fun e w' => e = .returned (.bool (!lkB k y last p)) ∧ Below W.heap.size W w') := fun p hp W hW => by
      have c0 : w2.cell? ⟨w.heap.size, 0, none⟩ = some (.int .u8 k) := K3.out.cell 0
      have c1 : w2.cell? ⟨w.heap.size, 1, none⟩ = some (.int .i16 y) := K3.out.cell 1
      have c2 : w2.cell? ⟨w.heap.size + 1, 0, none⟩ = some (.int .i64 last) := K1.out.cell 0
      have hgg := HG.out
      exact likeCl_any p k y last _ _ W (hW.cell c0 (by intro e; have := Option.some.inj e; dsimp only at this; omega)) (hW.cell c1 (by intro e; have := Option.some.inj e; dsimp only at this; omega)) (hW.cell c2 (by intro e; have := Option.some.inj e; dsimp only at this; omega))
    have HDel : Hid (Calls Tryd.prog 89 #[.slice (some ⟨g, 0, none⟩) ss.length c', .func (.func 107) #[] #[.pointer (some ⟨w.heap.size, 0, none⟩), .pointer (some ⟨w.heap.size + 1, 0, none⟩)]] w2 fun e w' => e = .returned (.slice (some ⟨g, 0, none⟩) (ss.filter (lkB k y last)).length c') ∧ OX w' g 107 6 spcells (ss.filter (lkB k y last)) c' ∧ w2.grownBy w' (some g)) :=
      delSp_any (lkB k y last) ss (by omega) _ _ g c' w2 HX.out HF.out
    clear hO hb hC hS hX hg HN he
    go_wp2_with fail
    refine HDel.out.mono ?_
    rintro e w3 ⟨rfl, hX3, hG3⟩
    have HB3 : Hid (Below w.heap.size w w3) := HB2.out.grown hG3 HB2.out.size (fun j e => by obtain rfl := Option.some.inj e; have := HG.out; omega)
    have HBW3 : Hid (Below W0.heap.size W0 w3) := HBW.out.grown hG3 HBW.out.size (fun j e => by obtain rfl := Option.some.inj e; exact HG.out)
    have HX3 := Lib.hid hX3
    clear hX3 hG3 HDel
    go_wp2
    go_ret
    exact ⟨_, _, ss, rfl, own_rd2 spcells_length (HX3.out.own spcells_length (Nat.zero_le _)), HC.out, fun s hs => (HS.out s hs).keep HBW3.out, HB3.out⟩
end Go.Proofs.YtmfdgpinohbckaaDoor
