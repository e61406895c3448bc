/-
  MostOf: the program's CountsIn at a list of one crate. Condition: the crate reads, its numbers fit their kinds; the sentinel errors lie as the row lists them.
-/
import Derived.Test.YtcdhmlalpjcidaaDoorCn3
import Derived.Test.YtcdhmlalpjcidaaDoorMg4
import Derived.Test.YtcdhmlalpjcidaaDoorKn
import Derived.Test.YtcdhmlalpjcidaaDoorEo
import Derived.Maps.RangeWalk
namespace Go.Proofs.YtcdhmlalpjcidaaDoor
open Go.ChangeShapes Go.WideShapes Go.ChangeAt Go.RowKit Go.Deep
open Go.Maps (Keyed)

theorem own_grownM {w w1 : World} {r b size n c : Nat} {e : TypeId} {A : Option Addr} {xs : List Value} (h : w.ownsRow b e size (.slice A n c) n xs) (hg : w.grownBy w1 (some r)) (hr : ¬ b ≤ r) : w1.ownsRow b e size (.slice A n c) n xs := by
  obtain ⟨h1, h2⟩ := h
  refine ⟨h1, ?_⟩
  rcases h2 with h2 | ⟨g, cap, cur, hv, hb, hh, hrr⟩
  · exact .inl h2
  · exact .inr ⟨g, cap, cur, hv, hb, gk_blk (B := g) hh hg (fun e => by have := Option.some.inj e; omega), hrr⟩
theorem own_blockM {w : World} {b size n : Nat} {e : TypeId} {v : Value} {xs : List Value} (h : w.ownsRow b e size v n xs) {k : Nat} (hk : v.ownBlock = some k) : b ≤ k ∧ k < w.heap.size := by
  rcases h.2 with ⟨rfl, -⟩ | ⟨g, cap, cur, rfl, h2, h3, -⟩
  · cases hk
  · obtain rfl : g = k := by simpa [Value.ownBlock] using hk
    exact ⟨h2, (Array.getElem?_eq_some_iff.1 h3).1⟩
theorem keyB_invM {v : Value} {l : Lit} (h : keyOf Tryd.prog 26 v = some l) : ∃ b : { b : Bot // wfB b }, v = .agg #[.int .u8 b.1.1, .int .i16 b.1.2] := by
  obtain ⟨xs, L, rfl, hL, -⟩ := keyOf_top (by rw [Tryd.underlying26]) h
  rw [Tryd.tsize] at hL
  obtain ⟨b, hb, hc⟩ := klits_bottle_inv (P := Tryd.prog) (d := 209 + 1) Tryd.underlying26 Tryd.underlying5 Tryd.underlying22 rfl rfl (by kernel_rfl) (by kernel_rfl) Tryd.cellsIB hL
  refine ⟨⟨b, hb⟩, ?_⟩
  have : xs = #[.int .u8 b.1, .int .i16 b.2] := by
    apply Array.ext'
    rw [hc]; rfl
  rw [this]
/-- What of a map has been put into a list. -/
structure JXM (f : Bot → Nat) (left : Lit → Bool) (X : List Wnt) : Prop where
  in_ : ∀ x ∈ X, wfB x.1 ∧ left (kB x.1) = false ∧ x.2 = (f x.1 : Int) ∧ f x.1 ≠ 0
  nd : (X.map fun x => x.1).Nodup
  all : ∀ b, wfB b → f b ≠ 0 → left (kB b) = true ∨ (b, (f b : Int)) ∈ X
theorem JXM.step {f : Bot → Nat} {left : Lit → Bool} {X : List Wnt} (h : JXM f left X) {b : Bot} (hb : wfB b) (hl : left (kB b) = true) (hf : f b ≠ 0) : JXM f (fun z => left z && !z.sameKey (kB b)) (X ++ [(b, (f b : Int))]) := by
  have hsame : (kB b).sameKey (kB b) = true := by simp [kB, Lit.sameKey]
  refine ⟨fun x hx => ?_, ?_, fun c hc hfc => ?_⟩
  · rw [List.mem_append, List.mem_singleton] at hx
    rcases hx with hx | rfl
    · obtain ⟨h1, h2, h3, h4⟩ := h.in_ x hx
      exact ⟨h1, by show (left (kB x.1) && _) = false; rw [h2]; rfl, h3, h4⟩
    · exact ⟨hb, by show (left (kB b) && !(kB b).sameKey (kB b)) = false; rw [hsame]; simp, rfl, hf⟩
  · rw [List.map_append, List.nodup_append]
    refine ⟨h.nd, by simp, fun a ha c hc => ?_⟩
    simp only [List.map_cons, List.map_nil, List.mem_singleton] at hc
    subst hc
    obtain ⟨x, hx, rfl⟩ := List.mem_map.1 ha
    intro e
    have := (h.in_ x hx).2.1
    rw [e, hl] at this
    cases this
  · rcases h.all c hc hfc with h1 | h1
    · cases hs : (kB c).sameKey (kB b)
      · exact .inl (by simp [h1, hs])
      · have : kB c = kB b := WideAt.sameKey_eq hs
        have := kB_inj hc hb this
        subst this
        exact .inr (by simp)
    · exact .inr (by simp [h1])
theorem mult_mem {x : Crt} {b : Bot} (h : mult x b ≠ 0) : b ∈ allB x.1 12 := by
  have : 0 < ((allB x.1 12).filter fun y => decide (y = b)).length := Nat.pos_of_ne_zero h
  obtain ⟨z, hz⟩ := List.exists_mem_of_length_pos this
  simp only [List.mem_filter, decide_eq_true_eq] at hz
  rw [← hz.2]; exact hz.1
theorem JXM.len {x : Crt} {left : Lit → Bool} {X : List Wnt} (h : JXM (mult x) left X) : X.length ≤ 12 := by
  have h1 := nodup_leC (m := allB x.1 12) h.nd (fun c hc => by
    obtain ⟨w, hw, rfl⟩ := List.mem_map.1 hc
    exact mult_mem (h.in_ w hw).2.2.2)
  have h2 := allB_length x.1 12
  rw [List.length_map] at h1
  omega
theorem JXM.sort {x : Crt} {left : Lit → Bool} {X C : List Wnt} (h : JXM (mult x) left X) (hl : ∀ z, left z = false) (hC : IsC (mult x) C) : isL (fun p q => decide (cmpB p.1 q.1 < 0)) X = C :=
  sort_IsC hC h.nd (fun w hw => (h.in_ w hw).2.2) (fun c hc => by
    rcases h.all c (allB_wf x.2 c (mult_mem hc)) hc with h1 | h1
    · rw [hl] at h1; cases h1
    · exact h1)
def cnL (x : Crt) (C : List Wnt) : List Wnt := if okC x.1 = true then C else []
def cnD (x : Crt) : Int := if okC x.1 = true then 0 else 1
theorem okS_one (x : Crt) : okS [x] = okC x.1 := by simp [okS]

set_option maxRecDepth 100000 in
set_option maxHeartbeats 8000000 in
theorem countsIn_any (x : Crt) (C : List Wnt) (hC : IsC (mult x) C) (A : Option Addr) (c : Nat) (ad : Nat → Addr) (w : World) (hr : Rd w w.heap.size kcells A [x]) (hE : EW 7 w ad) :
    Calls Tryd.prog 38 #[.slice A 1 c] w fun e w' => ∃ v, e = .returned (.tuple #[v, .int .i64 (cnD x)]) ∧ w'.ownsRow w.heap.size 68 3 v (cnL x C).length ((cnL x C).flatMap ncells) ∧ Below w.heap.size w w' := by
  obtain ⟨i0, hi0, hz0, hz1, hz2⟩ := info_parts Tryd.infoCt
  have HI := Lib.hid hi0
  have HZ0 := Lib.hid hz0
  have HZ1 := Lib.hid hz1
  have HZ2 := Lib.hid hz2
  clear hi0 hz0 hz1 hz2
  have HC := Lib.hid hC
  have HR := Lib.hid hr
  have HE := Lib.hid hE
  clear hC hr hE
  go_enter Tryd.func38, Tryd.ntmps38
  go_wp2_with fail
  refine (checkStack_any [x] A c ad w (by simp) HR.out HE.out).mono ?_
  rintro e w1 ⟨rfl, hb⟩
  have HB1 := Lib.hid hb
  clear hb
  rw [okS_one]
  cases hk : okC x.1
  · rw [show erV ad 5 false = .iface 173 (.pointer (some (ad 5))) from rfl]
    have HK := Lib.hid hk
    clear hk
    go_wp2_with fail
    refine (codeOf_O (HE.out.below HB1.out (Nat.le_refl _)) 5 (by omega)).mono ?_
    rintro e w2 ⟨rfl, rfl⟩
    rw [show cdN 5 = 1 from rfl]
    go_wp2
    go_ret2
    exact ⟨_, by (rw [cnD, HK.out]; first | done | rfl), by rw [cnL, HK.out]; exact ⟨rfl, .inl ⟨rfl, rfl⟩⟩, HB1.out⟩
  rw [show erV ad 5 true = .nilIface from rfl]
  have HK := Lib.hid hk
  clear hk
  go_wp2_with fail
  refine (countBottles_any [x] A c w1 (by simp) (HR.out.keep HB1.out)).mono ?_
  rintro e w2 ⟨M, nb, D, rfl, hMB, hn, hown, hhold, hb⟩
  have HH : Hid (Holds D wfB kB (mult x)) := hhold.congr (fun b _ => by simp [cntAll])
  have HX0 : Hid (JXM (mult x) (Maps.has D) []) := ⟨fun x hx => (by cases hx), List.nodup_nil, fun b hb h0 => .inl (HH.out.has hb h0)⟩
  have HB2 : Hid (Below w.heap.size w w2) := HB1.out.trans (hb.mono HB1.out.size)
  have HO2 := Lib.hid hown
  have HwM : Hid (w.heap.size ≤ M) := Nat.le_trans HB1.out.size hMB
  have HMl : Hid (M < w2.heap.size) := by
    obtain ⟨es, clock, hb, -⟩ := hown
    exact (Array.getElem?_eq_some_iff.1 hb).1
  clear hb hown hhold hMB
  go_wp2_with (at_range; refine wpList_range_own _ rfl (.tmp 15) 100 rfl 26 2 (Keyed.of_law Tryd.lawB) Tryd.underlying100 (plainElem Tryd.prog 2) M nb D rfl HO2.out ?_; intro w0 hrg0 hg0 hs0)
  go_frame
  have HRG0 := Lib.hid hrg0
  have HB0 : Hid (Below w.heap.size w w0) := HB2.out.grown hg0 HB2.out.size (fun j hj => by cases hj)
  have HS0 : Hid (w0.heap.size = w2.heap.size + 1) := hs0
  clear hrg0 hg0 hs0
  go_loopw [5] (fun bv wr => ∃ left cnt, ∃ (X : List Wnt) (L : Option Addr) (lc : Nat), bv = .slice L X.length lc ∧ wr.ranges Tryd.prog 26 (plainElem Tryd.prog 2) M w2.heap.size nb D left cnt ∧ wr.ownsRow w0.heap.size 68 3 (.slice L X.length lc) X.length (X.flatMap ncells) ∧ JXM (mult x) left X ∧ w0.heap.size ≤ wr.heap.size ∧ Below w.heap.size w wr) (fun _ wr => wr.rangeLeft M w2.heap.size)
  case atStart => exact ⟨_, _, [], none, 0, rfl, HRG0.out, ⟨rfl, .inl ⟨rfl, rfl⟩⟩, HX0.out, Nat.le_refl _, HB0.out⟩
  case round =>
    clear HRG0 HX0 HB0
    obtain ⟨left, cnt, X, L, lc, rfl, q1, q2, q3, q5, q6⟩ := hrel
    have R1 := Lib.hid q1
    have R1x := Lib.hid q1.left_eq
    have R2 := Lib.hid q2
    have R3 := Lib.hid q3
    have R5 : Hid (w0.heap.size ≤ wr.heap.size) := q5
    have R6 := Lib.hid q6
    have HXl : Hid (X.length ≤ 12) := q3.len
    clear q1 q2 q3 q5 q6
    go_wp2_with (at_next; refine wpList_next_ranges _ rfl (.tmp 16) rfl 26 (Keyed.of_law Tryd.lawB) (plainElem Tryd.prog 2) (fun (q : { b : Bot // wfB b }) => Value.agg #[.int .u8 q.1.1, .int .i16 q.1.2]) (fun (n : Int) => Value.int .i64 n) (fun key kl h => keyB_invM h) (fun v y h => by obtain ⟨a, e, _, _⟩ := plainElem_int_inv Tryd.underlying2 h; exact ⟨a, e⟩) M w2.heap.size nb D left cnt rfl R1.out ?_ ?_)
    · intro h0 hl0
      have hXl := HXl.out
      have hsort := R3.out.sort hl0 HC.out
      have hrd : Rd wr wr.heap.size ncells L X := own_rd2 ncells_length R2.out
      have hOr := orderedCc_any (fun p q => cmpB p.1 q.1) X X.length rfl (by omega) (fun p q _ _ => cmp_rng p.1 q.1) (fun p q _ _ W => compareCounts_any p.1.1 p.1.2 p.2 q.1.1 q.1.2 q.2 W) L lc wr hrd (fun W hW => cloneC_any X L lc W (by omega) (hrd.keep hW))
      rw [hsort] at hOr
      have HOr := Lib.hid hOr
      have HXl2 : Hid (X.length = C.length) := by show _ = _; rw [← hsort, isL_len]
      have HSw : Hid (w.heap.size ≤ wr.heap.size) := R6.out.size
      clear hsort hrd hOr R1 R2 R3 hXl
      go_wp2_with fail
      refine HOr.out.mono ?_
      rintro e w6 ⟨A6, c6, rfl, ho6, hb⟩
      have HB6 : Hid (Below w.heap.size w w6) := R6.out.trans (hb.mono R6.out.size)
      rw [HXl2.out] at ho6 ⊢
      have HO6 := Lib.hid ho6
      clear hb ho6 HOr R6
      go_wp2
      go_ret2
      exact ⟨_, by (rw [cnD, HK.out]; first | done | rfl), by rw [cnL, HK.out]; exact own_base HO6.out HSw.out, HB6.out⟩
    · intro k1 y1 hq0 cv kl y ps w4 cnt1 hkey hlk hv hat hrg1 hclt hg1 hs1 hen
      obtain ⟨cv2, hcv, hy, -⟩ := plainElem_int_inv Tryd.underlying2 hv
      simp only [Value.int.injEq, true_and] at hcv
      subst hcv
      simp only [Prod.mk.injEq] at hy
      obtain ⟨rfl, rfl⟩ := hy
      obtain rfl : kl = kB (k1, y1) := Option.some.inj (hkey.symm.trans (keyB (k1, y1) hq0))
      have hq := HH.out (k1, y1) hq0
      have hcx : mult x (k1, y1) ≠ 0 ∧ cv = (mult x (k1, y1) : Nat) := by
        by_cases h0 : mult x (k1, y1) = 0
        · have e1 := hq (.lit (.int .i64 (cv + 1)))
          rw [if_pos h0] at e1
          have e2 := hat (.lit (.int .i64 (cv + 1)))
          have e3 := e1.symm.trans e2
          simp only [DataW.lit.injEq, Lit.int.injEq, true_and] at e3
          omega
        · have e1 := hq (.map [])
          rw [if_neg h0] at e1
          have e3 := (hat (.map [])).symm.trans e1
          simp only [i64L, DataW.lit.injEq, Lit.int.injEq, true_and] at e3
          exact ⟨h0, e3⟩
      obtain ⟨hc0, rfl⟩ := hcx
      have hJ := R3.out.step hq0 hlk hc0
      have hO1 : w4.ownsRow w0.heap.size 68 3 (.slice L X.length lc) X.length (X.flatMap ncells) := own_grownM R2.out hg1 (fun e => by have := HS0.out; omega)
      have hB1 : Below w.heap.size w w4 := R6.out.grown hg1 R6.out.size (fun j hj => by cases hj; have := HMl.out; have := HwM.out; omega)
      have hRl := R5.out
      have hsz4 : w0.heap.size ≤ w4.heap.size := by omega
      have HL1 := Lib.hid R1x.out
      obtain ⟨fv, hfv⟩ : ∃ n : Int, ((mult x (k1, y1) : Nat) : Int) = n := ⟨_, rfl⟩
      rw [hfv] at hJ hen ⊢
      have HJ := Lib.hid hJ
      have RG := Lib.hid hrg1
      have HO1 := Lib.hid hO1
      have HB1 := Lib.hid hB1
      have HSz4 : Hid (w0.heap.size ≤ w4.heap.size) := hsz4
      have hxl := HXl.out
      have HClt : Hid (cnt1 < cnt) := hclt
      clear hkey hlk hv hat hrg1 hg1 hs1 hq hc0 hJ hO1 hB1 hRl hsz4 hfv R1 R2 R3 R5 R6 hclt
      go_wp2_with (at_builtin; refine wpList_append_own _ rfl (.tmp 22) (.tmp 26) 63 rfl w0.heap.size 68 i0 (.agg #[.int .u8 0, .int .i16 0, .int .i64 0]) 3 16 Tryd.underlying63 HI.out HZ0.out HZ1.out HZ2.out rfl (by decide) _ _ _ rfl ((HO1.out.alloc _).alloc _) ⟨w4.heap.size + 1, 0, none⟩ 1 1 [.int .u8 k1, .int .i16 y1, .int .i64 fv] rfl rfl ?f1 ?f2 ?f3 ?f4 ?f5 ?_)
      try (case f1 => have h := cells3C (w4.alloc (.cells #[.int .u8 k1, .int .i16 y1] 26)) 68 k1 y1 fv; simpa using h)
      try (case f2 => first | exact one3C _ _ _ | exact ⟨rfl, rfl, rfl⟩)
      case f3 => unfold maxLen; omega
      case f4 => omega
      case f5 => have := HSz4.out; simp; omega
      intro v8 w8 hown8 hg8 _
      have hown9 : w8.ownsRow w0.heap.size 68 3 v8 (X ++ [((k1, y1), fv)]).length ((X ++ [((k1, y1), fv)]).flatMap ncells) := by rw [List.length_append, List.flatMap_append]; simpa [ncells] using hown8
      obtain ⟨A8, c8, rfl, -, -⟩ := own_rd ncells_length hown9
      have hb4 : Below w4.heap.size w4 ((w4.alloc (.cells #[.int .u8 k1, .int .i16 y1] 26)).alloc (.cells #[.int .u8 k1, .int .i16 y1, .int .i64 fv] 68)) := ((Below.refl _ w4).alloc (Nat.le_refl _) _).alloc (by simp) _
      have hgo : ∀ q, (Value.slice L X.length lc).ownBlock = some q → w0.heap.size ≤ q := fun q e => (own_blockM HO1.out e).1
      have HO9 := Lib.hid hown9
      have HRG9 := Lib.hid ((RG.out.kept (grown_of_below hb4) (by simp) (by simp)).kept hg8 (fun e => by have := hgo _ e.symm; have := HS0.out; have := HMl.out; omega) (fun e => by have := hgo _ e.symm; have := HS0.out; omega))
      have hB5 := HB1.out.trans (hb4.mono HB1.out.size)
      have HB9 : Hid (Below w.heap.size w w8) := hB5.grown hg8 hB5.size (fun q e => by have := hgo q e; have := HS0.out; have := HMl.out; have := HwM.out; omega)
      have HSz9 : Hid (w0.heap.size ≤ w8.heap.size) := Nat.le_trans HSz4.out (Nat.le_trans hb4.size hg8.size)
      obtain ⟨t2, ht2⟩ : ∃ t2, X ++ [((k1, y1), fv)] = t2 := ⟨_, rfl⟩
      have hJ2 := HJ.out
      rw [ht2] at HO9 hJ2 ⊢
      have hl2 : X.length + 1 = t2.length := by rw [← ht2]; simp
      have HJ2 := Lib.hid hJ2
      have HLl := Lib.hid HRG9.out.left_eq
      clear hown8 hown9 hg8 hb4 hgo hB5 ht2 hl2 hJ2 HO1 HB1 RG HJ hxl hen
      go_wp2
      go_roundw
      case rel => exact ⟨_, cnt1, t2, A8, c8, rfl, HRG9.out, HO9.out, HJ2.out, HSz9.out, HB9.out⟩
      case measure => rw [HLl.out, HL1.out]; exact HClt.out
end Go.Proofs.YtcdhmlalpjcidaaDoor
