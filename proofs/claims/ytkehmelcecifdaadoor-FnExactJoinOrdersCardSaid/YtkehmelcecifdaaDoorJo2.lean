/-
  JoinOrders: maps of bottles to numbers of two bytes, orders checked by two, two orders put behind one another. Condition: the lists read; the sentinel errors lie as the row lists them.
-/
import Derived.Test.YtkehmelcecifdaaDoorJo0
import Derived.Test.YtkehmelcecifdaaDoorKy
import Derived.Test.YtkehmelcecifdaaDoorMg5
import Derived.Test.YtkehmelcecifdaaDoorAs0
import Derived.Test.YtkehmelcecifdaaDoorEo
import Derived.Lib.AppendZerosOnto
import Derived.Lib.SliceRun
import Derived.Lib.Walk
import Derived.Shelf.RegionOpenPlain
namespace Go.Proofs.YtkehmelcecifdaaDoor
open Go.ChangeShapes Go.WideShapes Go.ChangeAt Go.RowKit Go.Deep

def i16L (n : Nat) : DataW Unit := .lit (.int .i16 (n : Int))
/-- A map reads as the numbers f, and holds nothing where f is 0. -/
def HoldsJ (D : DataW Unit) {α : Type} (ok : α → Prop) (key : α → Lit) (f : α → Nat) : Prop := ∀ x, ok x → ∀ zd, D.atKey (key x) zd = if f x = 0 then zd else i16L (f x)
theorem HoldsJ.empty {α : Type} (ok : α → Prop) (key : α → Lit) : HoldsJ (.map []) ok key (fun _ => 0) := fun _ _ _ => rfl
theorem HoldsJ.look {D : DataW Unit} {α : Type} {ok : α → Prop} {key : α → Lit} {f : α → Nat} (h : HoldsJ D ok key f) {x : α} (hx : ok x) {c : Int} (hc : D.atKey (key x) (.lit (.int .i16 0)) = .lit (.int .i16 c)) : c = f x := by
  have := h x hx (.lit (.int .i16 0))
  rw [hc] at this
  by_cases h0 : f x = 0
  · rw [if_pos h0] at this
    simp only [DataW.lit.injEq, Lit.int.injEq, true_and] at this
    rw [this, h0]; rfl
  · rw [if_neg h0] at this
    simp only [i16L, DataW.lit.injEq, Lit.int.injEq, true_and] at this
    exact this
theorem HoldsJ.put {D : DataW Unit} {α : Type} {ok : α → Prop} {key : α → Lit} {f g : α → Nat} (h : HoldsJ D ok key f) (hm : Maps.IsMap D) (hinj : ∀ x y, ok x → ok y → key x = key y → x = y) {x : α} (hx : ok x) (hk : WideAt.IsKeyLit (key x)) {n : Nat} (hn : n ≠ 0)
    (hg : g x = n) (ho : ∀ y, y ≠ x → g y = f y) : HoldsJ (D.put (key x) (.lit (.int .i16 (n : Int)))) ok key g := by
  intro y hy zd
  by_cases e : y = x
  · subst e
    rw [Maps.atKey_put_same hm hk, hg, if_neg hn]; rfl
  · rw [Maps.atKey_put_other (fun h' => e (hinj _ _ hy hx h')), ho y e]
    exact h y hy zd
theorem HoldsJ.has {D : DataW Unit} {α : Type} {ok : α → Prop} {key : α → Lit} {f : α → Nat} (h : HoldsJ D ok key f) {x : α} (hx : ok x) (h0 : f x ≠ 0) : Maps.has D (key x) = true :=
  Maps.has_true_of_atKey (y := i16L (f x)) (fun z => by rw [h x hx z, if_neg h0])
theorem HoldsJ.congr {D : DataW Unit} {α : Type} {ok : α → Prop} {key : α → Lit} {f g : α → Nat} (h : HoldsJ D ok key f) (e : ∀ x, ok x → f x = g x) : HoldsJ D ok key g := fun x hx zd => by rw [h x hx zd, e x hx]


section
open Go.ChangeMaps Go.MapKept
open Go.WideElems (Fit)
open Go.WideMaps (KeyLaw)
open Go.Maps (Keyed)
theorem entry_law2 {H : Type} {P : Program} {w : World} {t k e : TypeId} {q : IntKind} {b n : Nat} {D : DataW H} (h : w.ownsMap P k (plainElem P e) b n D) (K : KeyLaw P k) (ht : P.underlying t = some (.map k e)) (he : P.underlying e = some (.int q))
    (hz : ∀ u : World, (zeroValue e).run P u = .ok (.int q 0) u) (hn : n < maxLen) {key : Value} {kl : Lit} (hkey : keyOf P k key = some kl) :
    ∃ (c : Int) (v0 : Value) (st : Nat) (w1 : World), D.atKey kl (.lit (.int q 0)) = .lit (.int q c) ∧ (Lit.int q c).wf = true ∧ (Instr.lookup t (.map (some b)) key false).run P w = .ok (.int q c) w ∧
      (Instr.mapEntry t (.map (some b)) key).run P w = .ok (.tuple #[v0, goInt st]) w1 ∧ (Instr.lookup t (.map (some b)) key false).run P w1 = .ok (.int q c) w1 ∧ w.grownBy w1 (some b) ∧
      ∀ x : Int, (Lit.int q x).wf = true → ∃ w2, (Instr.entryStore t (.map (some b)) (goInt st) (.int q x)).run P w1 = .ok () w2 ∧ w2.ownsMap P k (plainElem P e) b (n + 1) (D.put kl (.lit (.int q x))) ∧ w.grownBy w2 (some b) := by
  have KK := Keyed.of_law K
  obtain ⟨c, hlook, hat, hwc⟩ := h.lookup_int KK ht he (hz w) hkey
  obtain ⟨es, clock, hb, F, hs, hD⟩ := id h
  obtain ⟨v0, st, es1, clock1, hME, -, hES⟩ := WideElems.entry_then_store K ht hz hb F hkey
  -- the world behind the entry is that behind a store of what was there
  obtain ⟨w', hup, hown', hgr'⟩ := h.update KK ht hn hkey (plainElem_int he hwc)
  have hw1 : setBlock w b (.map es1 clock1) = w' := by
    rcases K.find w hkey es.toList F.keys with ⟨h1, h2⟩ | ⟨j, e0, h1, h2, h3⟩
    · have l1 : (Instr.lookup t (.map (some b)) key false).run P w = .ok (.int q 0) w := by
        simp [Instr.lookup, run_underlying ht, MapKept.run_getObj_map hb, KK.check w _ hkey, h1, hz, Result.andThen]
      rw [hlook] at l1
      simp only [Result.ok.injEq, Value.int.injEq, true_and, and_true] at l1
      subst l1
      have m1 : (Instr.mapEntry t (.map (some b)) key).run P w = .ok (.tuple #[.int q 0, goInt clock]) (setBlock w b (.map (es.push ⟨key, .int q 0, clock⟩) (clock + 1))) := by
        simp [Instr.mapEntry, run_underlying ht, MapKept.run_getObj_map hb, K.check w false hkey, h1, hz, MapKept.run_setObj_map _ hb, Result.andThen, setBlock]
      have u1 : (Instr.mapUpdate t (.map (some b)) key (.int q 0)).run P w = .ok () (setBlock w b (.map (es.push ⟨key, .int q 0, clock⟩) (clock + 1))) := by
        simp [Instr.mapUpdate, run_underlying ht, MapKept.run_getObj_map hb, K.check w false hkey, h1, MapKept.run_setObj_map _ hb, Result.andThen, setBlock]
      rw [hME] at m1
      rw [hup] at u1
      simp only [Result.ok.injEq, true_and] at m1 u1
      rw [m1.2, u1]
    · have hj : es[j]? = some e0 := by simpa using h2
      have l1 : (Instr.lookup t (.map (some b)) key false).run P w = .ok e0.val w := by
        simp [Instr.lookup, run_underlying ht, MapKept.run_getObj_map hb, KK.check w _ hkey, h1, Result.andThen]
      rw [hlook] at l1
      simp only [Result.ok.injEq, and_true] at l1
      have hsame : es.modify j (fun e => { e with key := key }) = es := by
        apply Array.ext'
        rw [Array.toList_modify, modify_eq_set _ _ _ _ h2]
        have : ({ e0 with key := key } : MapEntry) = e0 := by rw [← h3]
        rw [this]
        exact WideElems.set_self _ _ _ h2
      have hsame2 : es.modify j (fun e => { e with key := key, val := .int q c }) = es := by
        apply Array.ext'
        rw [Array.toList_modify, modify_eq_set _ _ _ _ h2]
        have : ({ e0 with key := key, val := .int q c } : MapEntry) = e0 := by rw [← h3, l1]
        rw [this]
        exact WideElems.set_self _ _ _ h2
      have m1 : (Instr.mapEntry t (.map (some b)) key).run P w = .ok (.tuple #[e0.val, goInt e0.born]) (setBlock w b (.map es clock)) := by
        simp [Instr.mapEntry, run_underlying ht, MapKept.run_getObj_map hb, K.check w false hkey, h1, hj, h3, K.stays w hkey, hsame, MapKept.run_setObj_map _ hb, Result.andThen, setBlock]
      have u1 : (Instr.mapUpdate t (.map (some b)) key (.int q c)).run P w = .ok () (setBlock w b (.map es clock)) := by
        simp [Instr.mapUpdate, run_underlying ht, MapKept.run_getObj_map hb, K.check w false hkey, h1, hj, h3, K.stays w hkey, hsame2, MapKept.run_setObj_map _ hb, Result.andThen, setBlock]
      rw [hME] at m1
      rw [hup] at u1
      simp only [Result.ok.injEq, true_and] at m1 u1
      rw [m1.2, u1]
  refine ⟨c, v0, st, w', hat, hwc, hlook, by rw [hME, hw1], ?_, hgr', fun x hx => ?_⟩
  · obtain ⟨c2, hl2, hat2, -⟩ := hown'.lookup_int KK ht he (hz w') hkey
    have hm : Maps.IsMap D := ⟨_, hD⟩
    rw [Maps.atKey_put_same hm (KK.key hkey)] at hat2
    simp only [DataW.lit.injEq, Lit.int.injEq, true_and] at hat2
    rw [hl2, hat2]
  · have hblk : w'.heap[b]? = some (.map es1 clock1) := by rw [← hw1]; exact heap_setBlock_same hb _
    obtain ⟨es', clock', hst, hup2⟩ := hES w' (.int q x) hblk
    obtain ⟨w3, hup3, hown3, hgr3⟩ := h.update KK ht hn hkey (plainElem_int he hx)
    rw [hup2] at hup3
    simp only [Result.ok.injEq, true_and] at hup3
    have e2 : setBlock w' b (.map es' clock') = w3 := by
      rw [← hw1, ← hup3]
      simp [setBlock]
    exact ⟨w3, by rw [hst, e2], hown3, hgr3⟩

end
theorem keyB_inv {v : Value} {l : Lit} (h : keyOf Tryd.prog 76 v = some l) : ∃ b : { b : Bot // wfB b }, v = .agg #[.int .u8 b.1.1, .int .i16 b.1.2] := by
  obtain ⟨xs, L, rfl, hL, -⟩ := keyOf_top (by rw [Tryd.underlying76]) h
  rw [Tryd.tsize] at hL
  obtain ⟨b, hb, hc⟩ := klits_bottle_inv (P := Tryd.prog) (d := 264 + 1) Tryd.underlying76 Tryd.underlying5 Tryd.underlying74 rfl rfl (by kernel_rfl) (by kernel_rfl) Tryd.cellsIB hL
  refine ⟨⟨b, hb⟩, ?_⟩
  have : xs = #[.int .u8 b.1, .int .i16 b.2] := by
    apply Array.ext'
    rw [hc]; rfl
  rw [this]
theorem kBJ_is (b : Bot) : WideAt.IsKeyLit (kB b) := trivial

set_option maxHeartbeats 1000000 in
theorem checkOrd2_any (a b : List Wnt) (hwa : ∀ x ∈ a, wfW x) (hwb : ∀ x ∈ b, wfW x) (A A2 : Option Addr) (c c2 B cc : Nat) (ad : Nat → Addr) (w : World) (hla : a.length ≤ 1048576) (hlb : b.length ≤ 1048576) (hra : Rd w w.heap.size wcells A a) (hrb : Rd w w.heap.size wcells A2 b) (hB : w.cell? ⟨B, 0, none⟩ = some (.slice A a.length c)) (hB2 : w.cell? ⟨B, 1, none⟩ = some (.slice A2 b.length c2)) (hE : EW 7 w ad) :
    Calls Tryd.prog 55 #[.slice (some ⟨B, 0, none⟩) 2 cc] w fun e w' => e = .returned (erO ad (chk 5 (ordOk a && ordOk b))) ∧ Below w.heap.size w w' := by
  have HRa := Lib.hid hra
  have HRb := Lib.hid hrb
  have HWa := Lib.hid hwa
  have HWb := Lib.hid hwb
  have HE := Lib.hid hE
  have HB2 := Lib.hid hB2
  have hBl := block_lt_of_cell hB2
  clear hra hrb hwa hwb hE
  go_enter Tryd.func55, Tryd.ntmps55
  go_wp2_with fail
  refine wp_loop_rounds 3 ?_
  rw [rounds_succ]
  go_wp2_with fail
  refine (validOrder_any a HWa.out A c _ hla HRa.out).mono ?_
  rintro e w1 ⟨rfl, hb⟩
  have H4 := Lib.hid hb
  have hc : w1.cell? ⟨6, 0, none⟩ = some (.iface 228 (.pointer (some (ad 5)))) := ((HE.out).below H4.out (Nat.le_refl _)).cell 5 (by omega)
  have hB3 : w1.cell? ⟨B, 1, none⟩ = some (.slice A2 b.length c2) := (H4.out.cell (p := ⟨B, 1, none⟩) hBl).trans HB2.out
  clear hb
  cases hv : ordOk a
  · have Hva : Hid (ordOk a = false) := hv
    clear hv
    go_wp2
    go_ret
    exact ⟨by rw [Hva.out]; rfl, H4.out⟩
  · have Hva : Hid (ordOk a = true) := hv
    clear hv hc
    go_wp2
    rw [rounds_succ]
    go_wp2_with fail
    refine (validOrder_any b HWb.out A2 c2 _ hlb (HRb.out.keep H4.out)).mono ?_
    rintro e w2 ⟨rfl, hb⟩
    have H5 : Hid (Below w.heap.size w w2) := H4.out.trans (hb.mono H4.out.size)
    have hc : w2.cell? ⟨6, 0, none⟩ = some (.iface 228 (.pointer (some (ad 5)))) := ((HE.out).below H5.out (Nat.le_refl _)).cell 5 (by omega)
    clear hb hB hB3
    cases hv : ordOk b
    · have Hvb : Hid (ordOk b = false) := hv
      clear hv
      go_wp2
      go_ret
      exact ⟨by rw [Hva.out, Hvb.out]; rfl, H5.out⟩
    · have Hvb : Hid (ordOk b = true) := hv
      clear hv
      go_wp2
      rw [rounds_succ]
      go_wp2
      go_ret
      exact ⟨by rw [Hva.out, Hvb.out]; rfl, H5.out⟩

set_option maxHeartbeats 4000000 in
set_option maxRecDepth 100000 in
theorem growW_any (n : Nat) (hn : n ≤ 1000) (w : World) :
    Calls Tryd.prog 97 #[.slice none 0 0, .int .i64 n] w fun e w' => ∃ A' c', e = .returned (.slice A' 0 c') ∧ w'.ownsRow w.heap.size 91 3 (.slice A' 0 c') 0 [] ∧ Below w.heap.size w w' := by
  obtain ⟨i0, hi0, hz0, hz1, hz2⟩ := info_parts Tryd.infoWI
  by_cases h0 : n = 0
  · subst h0
    go_enter Tryd.func97, Tryd.ntmps97
    go_wp2
    go_ret
    exact ⟨none, 0, rfl, ⟨rfl, .inl ⟨rfl, rfl⟩⟩, Below.refl _ _⟩
  have hs0 : 0 < i0.size := by rw [hz1]; omega
  have hGn : n ≤ grownCap w n 0 91 := grownCap_ge w _ _ _
  have hGm := grownCap_le_maxLen w n 0 91 (by unfold maxLen; omega)
  have hrz : ∀ ty, (Builtin.append_ #[46, 3] ty #[.slice none 0 0, .int .i64 n]).run Tryd.prog w = .ok (.slice (some ⟨w.heap.size, 0, none⟩) n (grownCap w n 0 91)) (w.drew.alloc (.cells (#[] ++ Builtin.zeroCells (Value.agg #[.int .u8 0, .int .i16 0, .int .i16 0]).cells n ++ Builtin.zeroCells (Value.agg #[.int .u8 0, .int .i16 0, .int .i16 0]).cells (grownCap w n 0 91 - n)) 91)) := fun ty => by
    have h := Lib.run_append_grow_zeros w 46 3 ty 91 i0 (.agg #[.int .u8 0, .int .i16 0, .int .i16 0]) .i64 .i64 Tryd.underlying46 Tryd.underlying3 hi0 hz0 none 0 0 [] (run_firstCells_none w.drew i0.size 0 0 0) n (by omega) hs0 (by omega) (by omega) (by rw [hz2]; omega)
      (by rw [Nat.zero_add]; exact growslice_fits (by omega) (by rw [hz2]; omega))
    rw [Nat.zero_add] at h
    exact h
  have hown : (w.drew.alloc (.cells (#[] ++ Builtin.zeroCells (Value.agg #[.int .u8 0, .int .i16 0, .int .i16 0]).cells n ++ Builtin.zeroCells (Value.agg #[.int .u8 0, .int .i16 0, .int .i16 0]).cells (grownCap w n 0 91 - n)) 91)).ownsRow w.heap.size 91 3 (.slice (some ⟨w.heap.size, 0, none⟩) 0 (grownCap w n 0 91)) 0 [] := by
    refine ⟨rfl, .inr ⟨w.heap.size, _, _, rfl, Nat.le_refl _, heap_alloc_new w.drew _, Nat.zero_le _, hGm, ?_, by simp⟩⟩
    simp only [Array.size_append, size_zeroCells, List.size_toArray, List.length_nil, Value.cells]
    simp
    omega
  have hB : Below w.heap.size w (w.drew.alloc (.cells (#[] ++ Builtin.zeroCells (Value.agg #[.int .u8 0, .int .i16 0, .int .i16 0]).cells n ++ Builtin.zeroCells (Value.agg #[.int .u8 0, .int .i16 0, .int .i16 0]).cells (grownCap w n 0 91 - n)) 91)) := (Below.refl _ w).drew.alloc (Nat.le_refl _) _
  obtain ⟨W1, hW1⟩ : ∃ W1, (w.drew.alloc (.cells (#[] ++ Builtin.zeroCells (Value.agg #[.int .u8 0, .int .i16 0, .int .i16 0]).cells n ++ Builtin.zeroCells (Value.agg #[.int .u8 0, .int .i16 0, .int .i16 0]).cells (grownCap w n 0 91 - n)) 91)) = W1 := ⟨_, rfl⟩
  rw [hW1] at hown hB
  simp only [hW1] at hrz
  obtain ⟨G, hG⟩ : ∃ G, grownCap w n 0 91 = G := ⟨_, rfl⟩
  rw [hG] at hown hGn hGm
  simp only [hG] at hrz
  have HO := Lib.hid hown
  have HB := Lib.hid hB
  have hn0 : (0 : Int) < (n : Int) := by omega
  have hn1 : ¬ (n : Int) < 0 := by omega
  have hn2 : wrap64 (n : Int) = n := IntWalk.wrap64_in _ ⟨by omega, by omega⟩
  have hG1 : (G : Int) ≤ 9223372036854775807 := by unfold maxLen at hGm; omega
  clear hown hB hW1 hG hi0 hz0 hz1 hz2 hs0 h0
  go_enter Tryd.func97, Tryd.ntmps97
  go_wp2_with (at_builtin; refine Lib.wpList_append_run _ rfl _ _ _ _ rfl _ _ rfl rfl _ _ (hrz _) ?_)
  all_goals (go_ret; exact ⟨_, _, rfl, HO.out, HB.out⟩)

set_option maxHeartbeats 4000000 in
set_option maxRecDepth 100000 in
theorem concat2_any (a b : List Wnt) (hla : a.length ≤ 8) (hlb : b.length ≤ 8) (A A2 : Option Addr) (c c2 B cc : Nat) (w : World) (hra : Rd w w.heap.size wcells A a) (hrb : Rd w w.heap.size wcells A2 b) (hB : w.cell? ⟨B, 0, none⟩ = some (.slice A a.length c)) (hB2 : w.cell? ⟨B, 1, none⟩ = some (.slice A2 b.length c2)) :
    Calls Tryd.prog 69 #[.slice (some ⟨B, 0, none⟩) 2 cc] w fun e w' => ∃ A' c', e = .returned (.slice A' (a ++ b).length c') ∧ w'.ownsRow w.heap.size 91 3 (.slice A' (a ++ b).length c') (a ++ b).length ((a ++ b).flatMap wcells) ∧ Below w.heap.size w w' := by
  obtain ⟨i0, hi0, hz0, hz1, hz2⟩ := info_parts Tryd.infoWI
  have HI := Lib.hid hi0
  have HZ0 := Lib.hid hz0
  have HZ1 := Lib.hid hz1
  have HZ2 := Lib.hid hz2
  clear hi0 hz0 hz1 hz2
  have HRa := Lib.hid hra
  have HRb := Lib.hid hrb
  have hBl := block_lt_of_cell hB2
  have HC1 := Lib.hid hB
  have HC2 := Lib.hid hB2
  clear hra hrb
  obtain ⟨na, hna⟩ : ∃ n, a.length = n := ⟨_, rfl⟩
  obtain ⟨nb, hnb⟩ : ∃ n, b.length = n := ⟨_, rfl⟩
  have HNa := Lib.hid hna
  have HNb := Lib.hid hnb
  rw [hna] at hla hB
  rw [hnb] at hlb hB2
  have w1 : IntKind.i64.wrap (na : Int) = na := IntWalk.i64_in _ ⟨by omega, by omega⟩
  have w2 : wrap64 (na : Int) = na := IntWalk.wrap64_in _ ⟨by omega, by omega⟩
  have w3 : IntKind.i64.wrap ((na : Int) + nb) = ((na + nb : Nat) : Int) := (IntWalk.i64_in _ ⟨by omega, by omega⟩).trans (by omega)
  have w4 : wrap64 ((na : Int) + nb) = ((na + nb : Nat) : Int) := (IntWalk.wrap64_in _ ⟨by omega, by omega⟩).trans (by omega)
  have w5 : ¬ ((na + nb : Nat) : Int) < 0 := by omega
  have w6 : ¬ (na : Int) < 0 := by omega
  have HGw := Lib.hid (growW_any (na + nb) (by omega) w)
  have hla2 : na ≤ 8 := hla
  clear hna hnb
  go_enter Tryd.func69, Tryd.ntmps69
  go_wp2_with fail
  refine wp_loop_rounds 3 ?_
  rw [rounds_succ]
  go_wp2_with fail
  rw [rounds_succ]
  go_wp2_with fail
  rw [rounds_succ]
  go_wp2_with fail
  clear w1 w2 w3 w4 w5 w6
  refine HGw.out.mono ?_
  rintro e w5 ⟨A5, c5, rfl, ho, hb⟩
  have HO5 := Lib.hid ho
  have HB5 := Lib.hid hb
  have hB5 : w5.cell? ⟨B, 0, none⟩ = some (.slice A na c) := (hb.cell (p := ⟨B, 0, none⟩) hBl).trans hB
  have hB6 : w5.cell? ⟨B, 1, none⟩ = some (.slice A2 nb c2) := (hb.cell (p := ⟨B, 1, none⟩) hBl).trans hB2
  have HSa : Hid (Src Tryd.prog 3 46 (.slice A na c) na (a.flatMap wcells) w5) := by
    have := src_of_rd (P := Tryd.prog) w5 Tryd.underlying46 wcells_length wcells_one (c := c) (HRa.out.keep hb)
    rw [HNa.out] at this
    exact this
  clear ho hb HGw hB hB2
  go_wp2_with fail
  refine wp_loop_rounds 3 ?_
  rw [rounds_succ]
  go_wp2_with (at_builtin; refine wpList_append_any _ rfl (.tmp 31) (.tmp 32) 46 46 rfl w.heap.size 91 i0 (.agg #[.int .u8 0, .int .i16 0, .int .i16 0]) 3 6 Tryd.underlying46 HI.out HZ0.out HZ1.out HZ2.out rfl (by decide) _ 0 [] rfl HO5.out _ na (a.flatMap wcells) rfl HSa.out ?c3 ?c4 ?c5 ?_)
  case c3 => unfold maxLen; omega
  case c4 => omega
  case c5 => exact HB5.out.size
  intro v6 w6 hown6 hg6 _
  have hB6' : w6.cell? ⟨B, 1, none⟩ = some (.slice A2 nb c2) := (World.cell?_of_block (w := w5) (w' := w6) (a := ⟨B, 1, none⟩) (hg6.block B (Nat.lt_of_lt_of_le hBl HB5.out.size) (fun e => by have := (HO5.out.lt _ e.symm).1; omega))).trans hB6
  have HB6 : Hid (Below w.heap.size w w6) := HB5.out.grown hg6 HB5.out.size (fun q e => (HO5.out.lt q e).1)
  have hown7 : w6.ownsRow w.heap.size 91 3 v6 a.length (a.flatMap wcells) := by rw [HNa.out]; simpa using hown6
  obtain ⟨A6, c6, rfl, -, -⟩ := own_rd wcells_length hown7
  have HO6 := Lib.hid hown7
  have HSb : Hid (Src Tryd.prog 3 46 (.slice A2 nb c2) nb (b.flatMap wcells) w6) := by
    have := src_of_rd (P := Tryd.prog) w6 Tryd.underlying46 wcells_length wcells_one (c := c2) (HRb.out.keep HB6.out)
    rw [HNb.out] at this
    exact this
  clear hown6 hown7 hg6 hB5 hB6 HO5 HB5 HSa
  rw [HNa.out] at HO6 ⊢
  go_wp2_with fail
  rw [rounds_succ]
  go_wp2_with (at_builtin; refine wpList_append_any _ rfl (.tmp 31) (.tmp 32) 46 46 rfl w.heap.size 91 i0 (.agg #[.int .u8 0, .int .i16 0, .int .i16 0]) 3 6 Tryd.underlying46 HI.out HZ0.out HZ1.out HZ2.out rfl (by decide) _ na (a.flatMap wcells) rfl HO6.out _ nb (b.flatMap wcells) rfl HSb.out ?d3 ?d4 ?d5 ?_)
  case d3 => unfold maxLen; omega
  case d4 => omega
  case d5 => exact HB6.out.size
  intro v8 w8 hown8 hg8 _
  have HB8 : Hid (Below w.heap.size w w8) := HB6.out.grown hg8 HB6.out.size (fun q e => (HO6.out.lt q e).1)
  have hown9 : w8.ownsRow w.heap.size 91 3 v8 (a ++ b).length ((a ++ b).flatMap wcells) := by rw [List.length_append, List.flatMap_append, HNa.out, HNb.out]; exact hown8
  obtain ⟨A8, c8, rfl, -, -⟩ := own_rd wcells_length hown9
  have HO9 := Lib.hid hown9
  clear hown8 hown9 hg8 HO6 HB6 HSb hB6'
  go_wp2_with fail
  rw [rounds_succ]
  go_wp2
  go_ret
  exact ⟨A8, c8, rfl, HO9.out, HB8.out⟩
end Go.Proofs.YtkehmelcecifdaaDoor
