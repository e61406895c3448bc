/-
  GreedyOpen: the program's contracts. Condition: the lists read as crates and wants, which fit their kinds, not more than 1048576; the sentinel errors lie as the row lists them.
-/
import Derived.Test.YtkehmelcecifdaaDoorGo1
import Derived.Test.YtkehmelcecifdaaDoorAs0
import Derived.Test.YtkehmelcecifdaaDoorIs0
import Derived.Test.YtkehmelcecifdaaDoorLq
import Derived.Test.YtkehmelcecifdaaDoorLp
import Derived.Test.YtkehmelcecifdaaDoorEo
namespace Go.Proofs.YtkehmelcecifdaaDoor
open Go.ChangeShapes Go.WideShapes Go.ChangeAt Go.RowKit Go.Deep

theorem own_neG {w : World} {b size n c B : Nat} {t t' : TypeId} {A : Option Addr} {xs : List Value} {cs : Array Value} (h : w.ownsRow b t size (.slice A n c) n xs) (hk : Blk w B t' cs) (ht : t ≠ t') : A.map (·.block) ≠ some B := by
  intro e
  rcases h.2 with ⟨e1, -⟩ | ⟨g, cap, cur, e1, -, hg, -⟩
  · cases e1; cases e
  · cases e1
    obtain rfl : g = B := by simpa using e
    unfold Blk at hk
    rw [hk] at hg
    simp only [Option.some.injEq, Obj.cells.injEq] at hg
    exact ht hg.2.1.symm
theorem own_grown_neG {w w1 : World} {row : Option Nat} {b size n : Nat} {e : TypeId} {v : Value} {xs : List Value} (h : w.ownsRow b e size v n xs) (hg : w.grownBy w1 row) (hne : ∀ k, v.ownBlock = some k → row ≠ some k) : w1.ownsRow b e size v n xs := by
  obtain ⟨h1, h2⟩ := h
  refine ⟨h1, ?_⟩
  rcases h2 with h2 | ⟨g, cap, cur, hv, hb, hh, hr⟩
  · exact .inl h2
  · exact .inr ⟨g, cap, cur, hv, hb, gk_blk (B := g) hh hg (hne g (by rw [hv]; rfl)), hr⟩
theorem own_two_neG {w : World} {b b' size size' n n' c c' : Nat} {t t' : TypeId} {A A' : Option Addr} {xs xs' : List Value} (h : w.ownsRow b t size (.slice A n c) n xs) (h' : w.ownsRow b' t' size' (.slice A' n' c') n' xs') (ht : t' ≠ t) : ∀ q, A.map (·.block) = some q → A'.map (·.block) ≠ some q := by
  intro q e
  rcases h.2 with ⟨e1, -⟩ | ⟨g, cap, cur, e1, -, hg, -⟩
  · cases e1; cases e
  · cases e1
    obtain rfl : g = q := by simpa using e
    exact own_neG h' hg ht
theorem gk_setCellsG {w w1 : World} {G : Nat} (h : w.grownBy w1 (some G)) (o : Nat) (vs : List Value) : w.grownBy (w1.setCells G o vs) (some G) := by
  obtain ⟨e1, e2, e3⟩ := setCells_same G vs o w1
  exact ⟨by rw [e1]; exact h.os, by rw [e2]; exact h.tape, by rw [e3]; exact h.output, by rw [size_setCells]; exact h.size, fun k hk hne => by rw [setCells_other _ _ _ _ _ (fun e => hne (by rw [e]))]; exact h.block k hk hne⟩

def lnV : Value → Nat
  | .slice _ n _ => n
  | _ => 0
/-- What is lacking lies below w0, or in a block of wants. -/
def KOk (w0 : Nat) (W : World) (K : Option Addr) (n : Nat) : Prop := 0 < n → ∀ q, K.map (·.block) = some q → q < w0 ∨ ∃ cs, Blk W q 91 cs
theorem KOk.ne {w0 : Nat} {W : World} {K : Option Addr} {n : Nat} (h : KOk w0 W K n) (h0 : 0 < n) {t : TypeId} {size k c : Nat} {L : Option Addr} {xs : List Value} (ho : W.ownsRow w0 t size (.slice L k c) k xs) (ht : t ≠ 91) : ∀ q, K.map (·.block) = some q → L.map (·.block) ≠ some q := fun q e e2 => by
  rcases h h0 q e with h1 | ⟨cs, h1⟩
  · have := (own_blockG ho (by rw [ownBlock_sliceG]; exact e2)).1; omega
  · exact own_neG ho h1 ht e2
theorem KOk.keep {w0 : Nat} {W W' : World} {K : Option Addr} {n : Nat} (h : KOk w0 W K n) (hb : Below W.heap.size W W') : KOk w0 W' K n := fun h0 q e => by
  rcases h h0 q e with h1 | ⟨cs, h1⟩
  · exact .inl h1
  · exact .inr ⟨cs, h1.keep hb⟩
theorem KOk.of {w0 b : Nat} {W : World} {K : Option Addr} {n c : Nat} {xs : List Value} (ho : W.ownsRow b 91 3 (.slice K n c) n xs) : KOk w0 W K n := fun h0 q e => by
  rcases ho.2 with ⟨h1, -⟩ | ⟨g, cap, cur, h1, -, h3, -⟩
  · cases h1; cases e
  · cases h1
    obtain rfl : g = q := by simpa using e
    exact .inr ⟨cur, h3⟩
theorem KOk.start {K : Option Addr} {w : World} {W : World} {xs : List Wnt} (hr : Rd w w.heap.size wcells K xs) : KOk w.heap.size W K xs.length := fun h0 q e => by
  obtain ⟨b, o, e3, hlt, -⟩ := hr h0
  rw [e3] at e
  have : b = q := by simpa using e
  exact .inl (by omega)

set_option maxRecDepth 100000 in
set_option maxHeartbeats 2000000 in
theorem cloneK_any (xs : List Crt) (A : Option Addr) (c : Nat) (w : World) (hl : xs.length ≤ 1048576) (hr : Rd w w.heap.size kcells A xs) :
    Calls Tryd.prog 94 #[.slice A xs.length c] w fun e w' => ∃ A' c', e = .returned (.slice A' xs.length c') ∧ w'.ownsRow w.heap.size 109 24 (.slice A' xs.length c') xs.length (xs.flatMap kcells) ∧ Below w.heap.size w w' := by
  obtain ⟨i0, hi, hz0, hz1, hz2⟩ := info_parts Tryd.infoCr
  have HI := Lib.hid hi
  have HZ0 := Lib.hid hz0
  have HZ1 := Lib.hid hz1
  have HZ2 := Lib.hid hz2
  clear hi hz0 hz1 hz2
  have HR := Lib.hid hr
  cases A with
  | none =>
    have hx : xs = [] := by
      rcases Nat.eq_zero_or_pos xs.length with h | h
      · exact List.eq_nil_of_length_eq_zero h
      · obtain ⟨b, o, e, -⟩ := hr h; cases e
    subst hx
    clear hr
    have hnil : ∀ w : World, (binOp .eql 57 (.slice none 0 c) (.slice none 0 0)).run Tryd.prog w = .ok (.bool true) w := fun w => Lib.run_eql_slice_nil (P := Tryd.prog) w 57 109 none 0 c 0 0 Tryd.underlying57
    show Calls Tryd.prog 94 #[.slice none 0 c] w _
    go_enter Tryd.func94, Tryd.ntmps94
    go_wp2
    go_ret
    exact ⟨none, 0, rfl, ⟨rfl, .inl ⟨rfl, rfl⟩⟩, Below.refl _ _⟩
  | some a =>
    clear hr
    have hnil : ∀ w : World, (binOp .eql 57 (.slice (some a) xs.length c) (.slice none 0 0)).run Tryd.prog w = .ok (.bool false) w := fun w => Lib.run_eql_slice_nil (P := Tryd.prog) w 57 109 (some a) xs.length c 0 0 Tryd.underlying57
    go_enter Tryd.func94, Tryd.ntmps94
    go_wp2_with (at_builtin; refine wpList_append_any _ rfl (.tmp 5) (.tmp 6) 57 57 rfl w.heap.size 109 i0 _ 24 48 Tryd.underlying57 HI.out HZ0.out HZ1.out HZ2.out rfl (by decide) _ 0 [] rfl ?own _ xs.length (xs.flatMap kcells) rfl ?src ?c3 ?c4 ?c5 ?_)
    case own => exact empty_ownG w _ 24
    case src => exact src_of_rd _ Tryd.underlying57 kcells_length kcells_one (HR.out.keep ((Below.refl _ w).alloc (Nat.le_refl _) _))
    case c3 => unfold maxLen; omega
    case c4 => omega
    case c5 => simp
    intro v' w2 hown hg _
    have hB : Below w.heap.size w w2 := ((Below.refl _ w).alloc (Nat.le_refl _) _).grown hg (by simp) (fun k e => by
      have e2 : w.heap.size = k := by simpa [Value.ownBlock] using e
      omega)
    have hown2 : w2.ownsRow w.heap.size 109 24 v' xs.length (xs.flatMap kcells) := by simpa using hown
    obtain ⟨A', c', rfl, -, -⟩ := own_rd kcells_length hown2
    have HO := Lib.hid hown2
    have HB := Lib.hid hB
    clear hown hown2 hg hB hnil
    go_wp2
    go_ret
    exact ⟨A', c', rfl, HO.out, HB.out⟩

set_option maxRecDepth 100000 in
set_option maxHeartbeats 4000000 in
theorem mostUseful_any (cs : List Crt) (lk : List Wnt) (hw : ∀ x ∈ lk, wfW x) (A A2 : Option Addr) (c c2 : Nat) (w : World) (hl : cs.length ≤ 1048576) (hl2 : lk.length ≤ 1048576) (hr : Rd w w.heap.size kcells A cs) (hr2 : Rd w w.heap.size wcells A2 lk) :
    Calls Tryd.prog 95 #[.slice A cs.length c, .slice A2 lk.length c2] w fun e w' => e = .returned (.tuple #[.int .i64 ((muS cs lk cs.length).1 : Nat), .int .i64 (muS cs lk cs.length).2]) ∧ Below w.heap.size w w' := by
  have HR := Lib.hid hr
  have HR2 := Lib.hid hr2
  have HW := Lib.hid hw
  clear hr hr2 hw
  go_enter Tryd.func95, Tryd.ntmps95
  go_wp2_with fail
  go_loopw [6, 7, 13] (fun bv mv iv wr => ∃ k : Nat, k ≤ cs.length ∧ bv = .int .i64 ((muS cs lk k).1 : Nat) ∧ mv = .int .i64 (muS cs lk k).2 ∧ iv = .int .i64 k ∧ Below w.heap.size w wr) (fun _ _ i _ => cs.length - (intOf i).toNat)
  case atStart => exact ⟨0, by omega, rfl, rfl, rfl, Below.refl _ _⟩
  case round =>
    obtain ⟨k, hk, rfl, rfl, rfl, q1⟩ := hrel
    have Q1 := Lib.hid q1
    clear q1
    obtain ⟨mb, hmb⟩ : ∃ m, muS cs lk k = m := ⟨_, rfl⟩
    have HMb := Lib.hid hmb
    rw [hmb]
    clear hmb
    obtain ⟨b0, m0⟩ := mb
    dsimp only
    have hk0 : (0 : Int) ≤ (k : Int) := Int.natCast_nonneg _
    by_cases hlt : k < cs.length
    · obtain ⟨x, hx⟩ : ∃ x, cs[k]? = some x := ⟨_, List.getElem?_eq_getElem hlt⟩
      obtain ⟨b, o, rfl, hbl, hrow⟩ := (HR.out.below (Nat.le_refl _) Q1.out).at_ kcells_length hx
      have hk8 : (k : Int) < cs.length := by omega
      have HX := Lib.hid hx
      have HRow := Lib.hid hrow
      clear hx hbl hrow
      have H1 : Hid (CBlk (wr.alloc (.cells #[.int .u8 0, .int .i16 0, .int .u8 0, .int .i16 0, .int .u8 0, .int .i16 0, .int .u8 0, .int .i16 0, .int .u8 0, .int .i16 0, .int .u8 0, .int .i16 0, .int .u8 0, .int .i16 0, .int .u8 0, .int .i16 0, .int .u8 0, .int .i16 0, .int .u8 0, .int .i16 0, .int .u8 0, .int .i16 0, .int .u8 0, .int .i16 0] 109)) wr.heap.size 109 noB) := CBlk.new' rfl rfl
      have H2 : Hid (CBlk ((wr.alloc (.cells #[.int .u8 0, .int .i16 0, .int .u8 0, .int .i16 0, .int .u8 0, .int .i16 0, .int .u8 0, .int .i16 0, .int .u8 0, .int .i16 0, .int .u8 0, .int .i16 0, .int .u8 0, .int .i16 0, .int .u8 0, .int .i16 0, .int .u8 0, .int .i16 0, .int .u8 0, .int .i16 0, .int .u8 0, .int .i16 0, .int .u8 0, .int .i16 0] 109)).setRow wr.heap.size (ccells x.1).toArray) wr.heap.size 109 x.1) := CBlk.setRow H1.out
      have H3 : Hid (Below w.heap.size w ((wr.alloc (.cells #[.int .u8 0, .int .i16 0, .int .u8 0, .int .i16 0, .int .u8 0, .int .i16 0, .int .u8 0, .int .i16 0, .int .u8 0, .int .i16 0, .int .u8 0, .int .i16 0, .int .u8 0, .int .i16 0, .int .u8 0, .int .i16 0, .int .u8 0, .int .i16 0, .int .u8 0, .int .i16 0, .int .u8 0, .int .i16 0, .int .u8 0, .int .i16 0] 109)).setRow wr.heap.size (ccells x.1).toArray)) := Below.setRow (Q1.out.alloc Q1.out.size _) _ _ Q1.out.size
      go_wp2_with (first
        | (refine wpList_load_mid rfl 109 (.tmp 16) rfl b (o + k * 24) rfl (kcells x) _ HRow.out Tryd.underlying109 rfl (size_k Tryd.sizeCr x) ?_)
        | (refine wpList_store_row rfl 109 (.tmp 9) (.tmp 17) rfl wr.heap.size (ccells x.1).toArray rfl rfl 109 _ H1.out (size_of_crate Tryd.sizeCr _ x.2.1) (by rw [ccells_size _ x.2.1]; rfl) (ccells_one _) ?_)
        | (refine wpList_load_row rfl 109 (.tmp 9) rfl wr.heap.size rfl 109 _ (0, 0) _ H2.out Tryd.underlying109 rfl (size_of_crate Tryd.sizeCr _ x.2.1) ?_))
      refine (usefulIn_any x lk HW.out A2 c2 _ hl2 (HR2.out.keep H3.out)).mono ?_
      rintro e w2 ⟨rfl, hb⟩
      have Q2 : Hid (Below w.heap.size w w2) := H3.out.trans (hb.mono H3.out.size)
      clear hb H1 H2 H3
      obtain ⟨us, hus⟩ : ∃ u, usTo (mult x) lk lk.length = u := ⟨_, rfl⟩
      have HUs : Hid (usW x lk = us) := hus
      rw [hus]
      clear hus
      by_cases hm0 : m0 < us
      · have hS2 : Hid (muS cs lk (k + 1) = (k, us)) := by show _ = _; rw [muS_yes HX.out (by rw [HMb.out, HUs.out]; exact hm0), HUs.out]
        go_wp2
        go_roundw
        case rel => exact ⟨k + 1, by omega, by rw [hS2.out], by rw [hS2.out], by go_num, Q2.out⟩
        case measure => simp [intOf]; omega
      · have hS2 : Hid (muS cs lk (k + 1) = (b0, m0)) := by show _ = _; rw [muS_no HX.out (by rw [HMb.out, HUs.out]; exact hm0)]; exact HMb.out
        go_wp2
        go_roundw
        case rel => exact ⟨k + 1, by omega, by rw [hS2.out], by rw [hS2.out], by go_num, Q2.out⟩
        case measure => simp [intOf]; omega
    · obtain rfl : k = cs.length := by omega
      go_wp2
      go_ret2
      exact ⟨by (rw [HMb.out]; first | done | rfl), Q1.out⟩

def geO (xs : List Crt) (ord : List Wnt) : Option Nat := if lack (cntAll xs) ord = [] then none else some 4
def geL (xs : List Crt) (ord : List Wnt) : List Int := if lack (cntAll xs) ord = [] then (grS xs ord (xs.length + 1)).1 else []
theorem ge_stuck {xs : List Crt} {ord : List Wnt} {j : Nat} (hp : ∀ w ∈ ord, 0 < w.2) (hj : j ≤ xs.length) (hs : gStk (grS xs ord j)) (h0 : (grS xs ord j).2.2 ≠ []) : geL xs ord = [] ∧ geO xs ord = some 4 := by
  have : ¬ lack (cntAll xs) ord = [] := fun h => h0 ((grS_GI hp j).helps h hs)
  exact ⟨by rw [geL, if_neg this], by rw [geO, if_neg this]⟩
theorem ge_done {xs : List Crt} {ord : List Wnt} {j : Nat} (hp : ∀ w ∈ ord, 0 < w.2) (hj : j ≤ xs.length) (h0 : (grS xs ord j).2.2 = []) : geL xs ord = (grS xs ord j).1 ∧ geO xs ord = none := by
  have h1 := (grS_GI hp j).filled h0
  exact ⟨by rw [geL, if_pos h1, grS_fin (by omega) (.inl h0)], by rw [geO, if_pos h1]⟩
theorem zC_cells : (#[.int .u8 0, .int .i16 0, .int .u8 0, .int .i16 0, .int .u8 0, .int .i16 0, .int .u8 0, .int .i16 0, .int .u8 0, .int .i16 0, .int .u8 0, .int .i16 0, .int .u8 0, .int .i16 0, .int .u8 0, .int .i16 0, .int .u8 0, .int .i16 0, .int .u8 0, .int .i16 0, .int .u8 0, .int .i16 0, .int .u8 0, .int .i16 0] : Array Value).toList = kcells zC := rfl
theorem cnt_one (x : Crt) (b : Bot) : cntAll [x] b = mult x b := by simp [cntAll]

set_option maxRecDepth 100000 in
set_option maxHeartbeats 8000000 in
theorem greedyOpen_any (xs : List Crt) (ord : List Wnt) (hw : ∀ x ∈ ord, wfW x) (hp : ∀ x ∈ ord, 0 < x.2) (A A2 : Option Addr) (c c2 : Nat) (ad : Nat → Addr) (w : World) (hl : xs.length ≤ 12) (hl2 : ord.length ≤ 1048576) (hr : Rd w w.heap.size kcells A xs) (hr2 : Rd w w.heap.size wcells A2 ord) (hE : EW 7 w ad) :
    Calls Tryd.prog 66 #[.slice A xs.length c, .slice A2 ord.length c2] w fun e w' => ∃ v, e = .returned (.tuple #[v, erO ad (geO xs ord)]) ∧ w'.ownsRow w.heap.size 2 1 v (geL xs ord).length ((geL xs ord).flatMap icells) ∧ Below w.heap.size w w' := by
  obtain ⟨j0, hj, hy0, hy1, hy2⟩ := info_parts Tryd.info64
  have HJ := Lib.hid hj
  have HY0 := Lib.hid hy0
  have HY1 := Lib.hid hy1
  have HY2 := Lib.hid hy2
  clear hj hy0 hy1 hy2
  have HR2 := Lib.hid hr2
  have HW := Lib.hid hw
  have HP := Lib.hid hp
  have HE := Lib.hid hE
  have HKc := Lib.hid (cloneK_any xs A c w (by omega) hr)
  clear hr hr2 hw hp hE
  go_enter Tryd.func66, Tryd.ntmps66
  go_wp2_with fail
  refine HKc.out.mono ?_
  rintro e w1 ⟨C, cc, rfl, hC, hb⟩
  have HC0 := Lib.hid hC
  have HB1 := Lib.hid hb
  have HD0 : Hid (KOk w.heap.size w1 A2 ord.length) := KOk.start HR2.out
  clear hC hb HKc
  go_wp2_with fail
  go_loopw [6, 8] (fun ov lv wr => ∃ (j : Nat) (L : Option Addr) (lc : Nat) (K : Option Addr) (kc : Nat), j ≤ xs.length ∧ (grS xs ord j).1.length = j ∧ ov = .slice L (grS xs ord j).1.length lc ∧ lv = .slice K (grS xs ord j).2.2.length kc ∧
      wr.ownsRow w.heap.size 2 1 (.slice L (grS xs ord j).1.length lc) (grS xs ord j).1.length ((grS xs ord j).1.flatMap icells) ∧ wr.ownsRow w.heap.size 109 24 (.slice C xs.length cc) xs.length ((grS xs ord j).2.1.flatMap kcells) ∧ Rd wr wr.heap.size wcells K (grS xs ord j).2.2 ∧ KOk w.heap.size wr K (grS xs ord j).2.2.length ∧ Below w.heap.size w wr)
      (fun ov _ _ => xs.length - lnV ov)
  case atStart => exact ⟨0, none, 0, A2, c2, Nat.zero_le _, rfl, rfl, rfl, ⟨rfl, .inl ⟨rfl, rfl⟩⟩, HC0.out, HR2.out.keep HB1.out, HD0.out, HB1.out⟩
  case round =>
    clear HC0 HD0 HB1
    obtain ⟨j, L, lc, K, kc, hj, hjl, rfl, rfl, hO, hC, hK, hD, hB⟩ := hrel
    obtain ⟨wa, rfl⟩ : ∃ u, u = wr := ⟨_, rfl⟩
    have hG := grS_GI (xs := xs) HP.out j
    have HRm := Lib.hid (fun h => grS_room (xs := xs) HP.out hjl h)
    have HSt := Lib.hid (fun h h0 => ge_stuck (xs := xs) HP.out hj h h0)
    have HDn := Lib.hid (fun h0 => ge_done (xs := xs) HP.out hj h0)
    obtain ⟨S, hS⟩ : ∃ S, grS xs ord j = S := ⟨_, rfl⟩
    rw [hS] at hG hjl hO hC hK hD HRm HSt HDn ⊢
    obtain ⟨out, cs, lk⟩ := S
    dsimp only at hjl hO hC hK hD ⊢
    have HG := Lib.hid hG
    have HO := Lib.hid hO
    have hcl : cs.length = xs.length := hG.len
    rw [← hcl] at hC
    have HC := Lib.hid hC
    have HKr := Lib.hid hK
    have HD := Lib.hid hD
    have HB := Lib.hid hB
    have HJl := Lib.hid hjl
    have HO12 : Hid (out.length ≤ 12) := by show _ ≤ _; omega
    have HLkw : Hid (∀ x ∈ lk, wfW x) := by show ∀ x ∈ lk, _; rw [show lk = _ from HG.out.lk]; exact lack_wf HW.out
    have HLkl : Hid (lk.length ≤ 1048576) := by show _ ≤ _; rw [show lk = _ from HG.out.lk]; exact Nat.le_trans (lack_length _ _) hl2
    have HCl := Lib.hid hcl
    clear hO hC hK hD hB hjl hG hS hj
    by_cases h0 : lk = []
    · have E := Lib.hid (HDn.out h0)
      subst h0
      dsimp only [List.length_nil]
      clear hcl
      go_wp2
      go_ret2
      exact ⟨_, by (rw [E.out.2]; first | done | rfl), by rw [E.out.1]; exact HO.out, HB.out⟩
    · have hln : 0 < lk.length := List.length_pos_iff.2 h0
      have HLn : Hid (0 < lk.length) := hln
      have hlb : (0 : Int) < (lk.length : Int) := by omega
      obtain ⟨mm, hmm⟩ : ∃ m, muS cs lk cs.length = m := ⟨_, rfl⟩
      have hMu := mostUseful_any cs lk HLkw.out C K cc kc wa (by omega) HLkl.out (own_rd2 kcells_length HC.out) HKr.out
      rw [hmm, hcl] at hMu
      have HMu := Lib.hid hMu
      have HMm := Lib.hid hmm
      clear hMu hmm
      clear hcl hln
      go_wp2_with fail
      refine HMu.out.mono ?_
      rintro e w2 ⟨rfl, hb⟩
      have HB2 : Hid (Below w.heap.size w w2) := HB.out.trans (hb.mono HB.out.size)
      have HO2 := Lib.hid (own_keep' HO.out hb)
      have HC2 := Lib.hid (own_keep' HC.out hb)
      have HKr2 := Lib.hid (HKr.out.keep hb)
      have HD2 := Lib.hid (HD.out.keep hb)
      clear hb HB HO HC HKr HMu hlb HD
      obtain ⟨m, us⟩ := mm
      dsimp only
      by_cases hu : us = 0
      · subst hu
        have E := Lib.hid (HSt.out (.inr (by show (muS cs lk cs.length).2 ≤ 0; rw [HMm.out]; exact Int.le_refl _)) h0)
        have e4 : w2.cell? ⟨4, 0, none⟩ = some (.iface 228 (.pointer (some (ad 4)))) := (HE.out.below HB2.out (Nat.le_refl _)).cell 4 (by omega)
        go_wp2_with fail
        go_region
        go_wp2
        go_ret2
        exact ⟨_, by (rw [E.out.2]; first | done | rfl), by rw [E.out.1]; exact ⟨rfl, .inl ⟨rfl, rfl⟩⟩, by first | exact HB2.out | exact HB2.out.drew⟩
      · have hub : (us == 0) = false := by simpa using hu
        have hns : ¬ gStk (out, cs, lk) := by
          rintro (h | h)
          · exact h0 h
          · have h1 : (muS cs lk cs.length).2 ≤ 0 := h
            have h2 := muS_ge cs lk cs.length
            rw [HMm.out] at h1 h2
            dsimp only at h1 h2
            omega
        have HN := Lib.hid (HRm.out hns)
        obtain ⟨-, x, hx, hmx, hlx⟩ := HG.out.next hns
        have hx : cs[(muS cs lk cs.length).1]? = some x := hx
        have hmx : (muS cs lk cs.length).1 < xs.length := hmx
        have hlx : (gNx (out, cs, lk)).2.2 = lack (mult x) lk := hlx
        rw [HMm.out] at hx hmx
        dsimp only at hx hmx
        have hcsN : (gNx (out, cs, lk)).2.1 = cs.set m zC := by show cs.set (muS cs lk cs.length).1 zC = _; rw [HMm.out]
        have houN : (gNx (out, cs, lk)).1 = out ++ [(m : Int)] := by show out ++ [((muS cs lk cs.length).1 : Int)] = _; rw [HMm.out]
        have HN1 : Hid ((grS xs ord (j + 1)).1 = out ++ [(m : Int)]) := by show _ = _; rw [HN.out.1]; exact houN
        have HN2 : Hid ((grS xs ord (j + 1)).2.1 = cs.set m zC) := by show _ = _; rw [HN.out.1]; exact hcsN
        have HN3 : Hid ((grS xs ord (j + 1)).2.2 = lack (mult x) lk) := by show _ = _; rw [HN.out.1]; exact hlx
        have HN4 : Hid ((grS xs ord (j + 1)).1.length = j + 1 ∧ j + 1 ≤ xs.length) := HN.out.2
        have HX := Lib.hid hx
        have hmc : m < cs.length := (List.getElem?_eq_some_iff.1 hx).1
        have HMc := Lib.hid hmc
        obtain ⟨gC, rfl, hgC, hOX⟩ : ∃ g, C = some ⟨g, 0, none⟩ ∧ w.heap.size ≤ g ∧ OX w2 g 109 24 kcells cs cc := by
          rcases OX.of HC2.out with ⟨-, h1⟩ | ⟨g, cap, h1, h2, h3⟩
          · rw [h1] at hmc; simp at hmc
          · cases h1; exact ⟨g, rfl, h2, h3⟩
        have HOX := Lib.hid hOX
        have HgC := Lib.hid hgC
        have HCap : Hid (cs.length ≤ cc ∧ cc ≤ maxLen) := by obtain ⟨cur, -, h1, h2, -⟩ := hOX; exact ⟨h1, h2⟩
        have HSz : Hid (w.heap.size ≤ w2.heap.size) := HB2.out.size
        clear hx hmx hlx hcsN houN hns hmc hOX hgC h0 hu HSt HDn HRm HG
        go_wp2_with (at_builtin; refine wpList_append_own _ rfl (.tmp 26) (.tmp 28) 26 rfl w.heap.size 2 j0 (.int .i64 0) 1 8 Tryd.underlying26 HJ.out HY0.out HY1.out HY2.out rfl (by decide) _ _ _ rfl (HO2.out.alloc _) ⟨w2.heap.size, 0, none⟩ 1 1 [.int .i64 (m : Int)] rfl rfl ?f1 ?f2 ?f3 ?f4 ?f5 ?_)
        try (case f1 => exact cell1G _ _ _)
        try (case f2 => first | rfl | (intro u hu; simp at hu; subst hu; rfl))
        case f3 => have := HO12.out; unfold maxLen; omega
        case f4 => have := HO12.out; omega
        case f5 => have := HSz.out; simp; omega
        intro v8 w8 hown8 hg8 _
        rw [ownBlock_sliceG] at hg8
        have hown9 : w8.ownsRow w.heap.size 2 1 v8 (out ++ [(m : Int)]).length ((out ++ [(m : Int)]).flatMap icells) := by rw [List.length_append, List.flatMap_append]; simpa [icells] using hown8
        obtain ⟨A8, c8, rfl, -, -⟩ := own_rd icells_length hown9
        have HO9 := Lib.hid hown9
        have hA8 : Below w2.heap.size w2 (w2.alloc (.cells #[.int .i64 (m : Int)] 2)) := (Below.refl _ w2).alloc (Nat.le_refl _) _
        have HB8 : Hid (Below w.heap.size w w8) := (HB2.out.alloc HB2.out.size _).grown hg8 (HB2.out.alloc HB2.out.size _).size (fun q e => by have := own_blockG HO2.out (by rw [ownBlock_sliceG]; exact e); omega)
        have hC8 : w8.ownsRow w.heap.size 109 24 (.slice (some ⟨gC, 0, none⟩) cs.length cc) cs.length (cs.flatMap kcells) := own_grown_neG (own_keep' HC2.out hA8) hg8 (fun q e e2 => own_two_neG HO2.out HC2.out (by decide) q e2 (by rw [ownBlock_sliceG] at e; exact e))
        have hOX8 : OX w8 gC 109 24 kcells cs cc := by
          rcases OX.of hC8 with ⟨h1, -⟩ | ⟨g, cap, h1, h2, h3⟩
          · cases h1
          · cases h1; exact h3
        have HOX8 := Lib.hid hOX8
        have HK8 : Hid (Rd w8 w8.heap.size wcells K lk) := (OnlyG.of_grown hg8 (fun q e => e)).rd (HKr2.out.keep hA8) (fun q e e2 => KOk.ne (HD2.out.keep hA8) HLn.out (own_keep' HO2.out hA8) (by decide) q e e2)
        have HR1 : Hid (Rd w8 w8.heap.size kcells (some ⟨gC, m * 24, none⟩) [x]) := fun _ => ⟨gC, m * 24, rfl, HOX8.out.lt, fun i v hv => HOX8.out.cell kcells_length HX.out (by simpa using hv)⟩
        have HSh := Lib.hid (shortIn_any [x] lk HLkw.out (some ⟨gC, m * 24, none⟩) K (cc - m) kc w8 (by simp) HLkl.out HR1.out HK8.out)
        rw [lack_congr (fun x' _ => cnt_one x x'.1)] at HSh
        have hmc := HMc.out
        obtain ⟨hcp1, -⟩ := HCap.out
        have hm0 : (0 : Int) ≤ (m : Int) := Int.natCast_nonneg _
        have hcc : cc ≤ maxLen := HCap.out.2
        have hcm : ¬ cc = m := by omega
        obtain ⟨z, hz⟩ : ∃ z : Int, (m : Int) + 1 = z := ⟨_, rfl⟩
        have hzw : wrap64 ((m : Int) + 1) = z := by rw [← hz]; unfold maxLen at hcc; exact IntWalk.wrap64_in _ ⟨by omega, by omega⟩
        have hz0 : 0 ≤ z := by omega
        have hz9 : z ≤ cc := by omega
        have hzm : ¬ z < m := by omega
        have hzt : z.toNat = m + 1 := by omega
        have HTh := HOX8.out.there (k := m) hmc
        have HTh := Lib.hid HTh
        have hzmx : max z 0 = z := by omega
        clear hown8 hown9 hg8 hA8 hC8 hOX8 HOX HC2 HKr2 HO2 HB2 HD2 HR1 hz hcc hmc hcp1
        clear HTh
        go_wp2_with fail
        refine HSh.out.mono ?_
        rintro e w9 ⟨v9, rfl, hown9, hb⟩
        obtain ⟨A9, c9, rfl, -, -⟩ := own_rd wcells_length hown9
        have hmc := HMc.out
        have hOX9 := HOX8.out.keep hb
        have hO9 := own_keep' HO9.out hb
        have hB9 : Below w.heap.size w w9 := HB8.out.trans (hb.mono HB8.out.size)
        have hgk : w9.grownBy (w9.setCells gC (m * 24) (kcells zC)) (some gC) := gk_setCellsG (gk_refl w9 (some gC)) _ _
        have hOn : OnlyG (fun q => q = gC) w9 (w9.setCells gC (m * 24) (kcells zC)) := OnlyG.of_grown hgk (fun q e => (Option.some.inj e).symm)
        have R1 : Hid ((w9.setCells gC (m * 24) (kcells zC)).ownsRow w.heap.size 2 1 (.slice A8 (out ++ [(m : Int)]).length c8) (out ++ [(m : Int)]).length ((out ++ [(m : Int)]).flatMap icells)) := hOn.own hO9 (fun q e e2 => by
          subst e2
          rw [ownBlock_sliceG] at e
          obtain ⟨cur, h3, -⟩ := hOX9
          exact own_neG hO9 (t' := 109) h3 (by decide) e)
        have R2 : Hid ((w9.setCells gC (m * 24) (kcells zC)).ownsRow w.heap.size 109 24 (.slice (some ⟨gC, 0, none⟩) xs.length cc) xs.length ((cs.set m zC).flatMap kcells)) := by
          have h5 := (OX.set kcells_length hOX9 hmc zC).own kcells_length HgC.out
          rw [List.length_set, HCl.out] at h5
          exact h5
        have hK9 := hOn.own hown9 (fun q e e2 => by
          subst e2
          rw [ownBlock_sliceG] at e
          obtain ⟨cur, h3, -⟩ := hOX9
          exact own_neG hown9 (t' := 109) h3 (by decide) e)
        have R3 : Hid (Rd (w9.setCells gC (m * 24) (kcells zC)) (w9.setCells gC (m * 24) (kcells zC)).heap.size wcells A9 (lack (mult x) lk)) := own_rd2 wcells_length hK9
        have R4 : Hid (KOk w.heap.size (w9.setCells gC (m * 24) (kcells zC)) A9 (lack (mult x) lk).length) := KOk.of hK9
        have R5 : Hid (Below w.heap.size w (w9.setCells gC (m * 24) (kcells zC))) := Below.setCells hB9 _ _ _ HgC.out
        have hth := hOX9.there hmc
        have HTh := Lib.hid hth
        have hm8 : (m : Int) < xs.length := by have := HCl.out; omega
        clear hown9 hb hOX9 hO9 hB9 hgk hOn hK9 hth hmc HSh HOX8 HO9 HB8 hzw hz0 hz9 hzm hzt hzmx hcm
        obtain ⟨lk2, hlk2⟩ : ∃ l, lack (mult x) lk = l := ⟨_, rfl⟩
        rw [hlk2] at R3 R4 HN3 ⊢
        clear hlk2
        obtain ⟨o2, ho2⟩ : ∃ o2, out ++ [(m : Int)] = o2 := ⟨_, rfl⟩
        have hol : out.length + 1 = o2.length := by rw [← ho2]; simp
        rw [ho2] at R1 HN1
        rw [hol]
        clear ho2 hol
        go_wp2_with (refine wpList_store_mid rfl 109 (.tmp 40) (.tmp 39) rfl gC (m * 24) #[.int .u8 0, .int .i16 0, .int .u8 0, .int .i16 0, .int .u8 0, .int .i16 0, .int .u8 0, .int .i16 0, .int .u8 0, .int .i16 0, .int .u8 0, .int .i16 0, .int .u8 0, .int .i16 0, .int .u8 0, .int .i16 0, .int .u8 0, .int .i16 0, .int .u8 0, .int .i16 0, .int .u8 0, .int .i16 0, .int .u8 0, .int .i16 0] rfl rfl ?ht (Tryd.sizeCr) ?hone ?_)
        case ht => exact HTh.out
        case hone => first | exact kcells_one zC | (simp [Value.oneCell']; done)
        try dsimp only [Act.put]
        go_roundw
        case rel => exact ⟨j + 1, A8, c8, A9, c9, HN4.out.2, HN4.out.1, by rw [HN1.out], by rw [HN3.out], by rw [HN1.out]; exact R1.out, by rw [HN2.out]; exact R2.out, by rw [HN3.out]; exact R3.out, by rw [HN3.out]; exact R4.out, R5.out⟩
        case measure => have h1 := HN4.out; rw [HN1.out] at h1; have := HJl.out; simp only [lnV, List.getD_eq_getElem?_getD, Array.getD_eq_getD_getElem?] at *; simp [lnV]; omega

set_option maxRecDepth 100000 in
set_option maxHeartbeats 4000000 in
theorem implGreedy_any (xs : List Crt) (ord : List Wnt) (hw : ∀ x ∈ ord, wfW x) (A A2 : Option Addr) (c c2 : Nat) (ad : Nat → Addr) (w : World) (hl : xs.length ≤ 1048576) (hl2 : ord.length ≤ 1048576) (hr : Rd w w.heap.size kcells A xs) (hr2 : Rd w w.heap.size wcells A2 ord) (hE : EW 7 w ad) :
    Calls Tryd.prog 32 #[.slice A xs.length c, .slice A2 ord.length c2] w fun e w' => ∃ v, e = .returned (.tuple #[v, .int .i64 (goC xs ord)]) ∧ w'.ownsRow w.heap.size 2 1 v (goL xs ord).length ((goL xs ord).flatMap icells) ∧ Below w.heap.size w w' := by
  have HR := Lib.hid hr
  have HR2 := Lib.hid hr2
  have HW := Lib.hid hw
  have HE := Lib.hid hE
  clear hr hr2 hw hE
  go_enter Tryd.func32, Tryd.ntmps32
  go_wp2_with fail
  refine (checkFilling_any xs ord HW.out A A2 c c2 ad w hl hl2 HR.out HR2.out HE.out).mono ?_
  rintro e w1 ⟨rfl, hb⟩
  have HB := Lib.hid hb
  clear hb
  cases ha : askOk xs ord
  · have E := Lib.hid (go_bad ha)
    have e1 : erV ad 5 false = .iface 228 (.pointer (some (ad 5))) := rfl
    rw [e1]
    clear ha e1
    go_wp2_with fail
    refine (codeOf_5 (HE.out.below HB.out (Nat.le_refl _))).mono ?_
    rintro e w2 ⟨rfl, rfl⟩
    go_wp2
    go_ret2
    exact ⟨_, by (rw [E.out.2]; first | done | rfl), by rw [E.out.1]; exact ⟨rfl, .inl ⟨rfl, rfl⟩⟩, HB.out⟩
  · have HA := Lib.hid (ask_yes ha)
    have E : Hid (goL xs ord = geL xs ord ∧ goC xs ord = cdO (geO xs ord)) := by
      show _ ∧ _
      by_cases h2 : lack (cntAll xs) ord = []
      · have h1 := go_ok ha h2
        exact ⟨by rw [h1.1, geL, if_pos h2], by rw [h1.2, geO, if_pos h2]; rfl⟩
      · have h1 := go_lack ha h2
        exact ⟨by rw [h1.1, geL, if_neg h2], by rw [h1.2, geO, if_neg h2]; rfl⟩
    have hq7 : ∀ i, geO xs ord = some i → i < 7 := fun i hi => by unfold geO at hi; split at hi <;> cases hi; omega
    have HQ7 := Lib.hid hq7
    have e1 : erV ad 5 true = .nilIface := rfl
    rw [e1]
    clear ha e1 hq7
    go_wp2_with fail
    refine (greedyOpen_any xs ord HW.out (ordOk_num HA.out.2) A A2 c c2 ad w1 (okS_len HA.out.1) hl2 (HR.out.keep HB.out) (HR2.out.keep HB.out) (HE.out.below HB.out (Nat.le_refl _))).mono ?_
    rintro e w2 ⟨v, rfl, ho, hb⟩
    have HO := Lib.hid (own_base ho HB.out.size)
    have HB2 : Hid (Below w.heap.size w w2) := HB.out.trans (hb.mono HB.out.size)
    have hco := codeOf_any (HE.out.below HB2.out (Nat.le_refl _)) (geO xs ord) HQ7.out
    obtain ⟨u, hu⟩ : ∃ v, erO ad (geO xs ord) = v := ⟨_, rfl⟩
    rw [hu] at hco ⊢
    have HCo := Lib.hid hco
    clear hb ho hu hco
    go_wp2_with fail
    refine HCo.out.mono ?_
    rintro e w3 ⟨rfl, rfl⟩
    obtain ⟨cd, hcd⟩ : ∃ v, cdO (geO xs ord) = v := ⟨_, rfl⟩
    have HCd := Lib.hid hcd
    rw [hcd]
    clear hcd HCo
    go_wp2
    go_ret2
    exact ⟨_, by (rw [E.out.2, HCd.out]; first | done | rfl), by rw [E.out.1]; exact HO.out, HB2.out⟩
end Go.Proofs.YtkehmelcecifdaaDoor
