/-
  The list of all walks that the program makes. Condition: valid walkers of at most 60 bottles.
-/
import Derived.Test.YtcalooahafgfbaaDoorYx
import Derived.Test.YtcalooahafgfbaaDoorYa
import Derived.Test.YtcalooahafgfbaaDoorNp
import Derived.Test.YtcalooahafgfbaaDoorAs
namespace Go.Proofs.YtcalooahafgfbaaDoor
open Go.ChangeShapes Go.WideShapes Go.ChangeAt Go.RowKit Go.Deep

theorem Tryd.infoKW : (Tryd.prog.info? 60).map (fun i => (i.zero, i.size, i.bytes)) = some (some (.agg #[.int .i16 0, .int .i16 0, .int .i16 0, .int .i16 0, .int .i16 0, .int .i8 0, .int .i64 0, .int .i64 0, .slice none 0 0]), 9, 56) := by kernel_rfl
/-- The walks of a walker: the walker, and where its visits lie. -/
abbrev KW := Wal × Nat
def kcw (n : Nat) (s : KW) : List Value := kcellsV s.1 s.2 n
theorem kcw_length (n : Nat) (s : KW) : (kcw n s).length = 9 := rfl
theorem kcw_one (n : Nat) (s : KW) : (kcw n s).toArray.all (·.oneCell') = true := by simp [kcw, kcellsV, Value.oneCell']
def okW (n : Nat) (w : World) (s : KW) : Prop := Rs w s.2 2 icells (vis n s.1)
theorem okW.keep {n : Nat} {w w' : World} {s : KW} (h : okW n w s) (hb : Below w.heap.size w w') : okW n w' s := Blk.keep h hb
theorem okW.grown {n : Nat} {w w' : World} {s : KW} {row : Option Nat} (h : okW n w s) (hg : w.grownBy w' row) (hne : row ≠ some s.2) : okW n w' s := gk_blk h hg hne
theorem nine_cells (W : World) (t : TypeId) (cs : List Value) : ∀ (j : Nat) (u : Value), cs[j]? = some u → (W.alloc (.cells cs.toArray t)).cell? ((⟨W.heap.size, 0, none⟩ : Addr).add j) = some u := fun j u hu => by
  have e : (⟨W.heap.size, 0, none⟩ : Addr).add j = ⟨W.heap.size, j, none⟩ := by cases j <;> simp [Addr.add]
  rw [e, Blk.cell (Blk.new W t cs.toArray)]
  simpa using hu
theorem balW {w v : World} (h : Below w.heap.size w v) (o : Obj) : Below w.heap.size w (v.alloc o) := h.alloc h.size o
theorem ownBlock_slice' (A : Option Addr) (n c : Nat) : (Value.slice A n c).ownBlock = A.map (·.block) := by cases A <;> rfl

set_option maxRecDepth 100000 in
set_option maxHeartbeats 4000000 in
theorem allWalks_any (n : Nat) (h1 : 1 ≤ n) (h60 : n ≤ 60) (l : List Wal) (hv : ∀ x ∈ l, vOk n x = true) (A : Option Addr) (c : Nat) (w : World) (hl : l.length ≤ 8) (hr : Rd w w.heap.size vcells A l) :
    Calls Tryd.prog 15 #[.int .i64 n, .slice A l.length c] w fun e w' => ∃ (A' : Option Addr) (c' : Nat) (ks : List KW), e = .returned (.slice A' ks.length c') ∧ w'.ownsRow w.heap.size 60 9 (.slice A' ks.length c') ks.length (ks.flatMap (kcw n)) ∧ ks.map (·.1) = l ∧ (∀ s ∈ ks, okW n w' s) ∧ Below w.heap.size w w' := by
  obtain ⟨i0, hi, hz0, hz1, hz2⟩ := info_parts Tryd.infoKW
  have HI := Lib.hid hi
  have HZ0 := Lib.hid hz0
  have HZ1 := Lib.hid hz1
  have HZ2 := Lib.hid hz2
  have HR := Lib.hid hr
  have HV := Lib.hid hv
  clear hi hz0 hz1 hz2 hr hv
  go_enter Tryd.func15, Tryd.ntmps15
  go_wp2_with fail
  go_loopw [5, 10] (fun v i wr => ∃ (k : Nat) (ks : List KW) (A1 : Option Addr) (c1 : Nat), k ≤ l.length ∧ i = .int .i64 k ∧ v = .slice A1 ks.length c1 ∧ ks.length = k ∧ wr.ownsRow w.heap.size 60 9 (.slice A1 ks.length c1) ks.length (ks.flatMap (kcw n)) ∧ ks.map (·.1) = l.take k ∧ (∀ s ∈ ks, okW n wr s ∧ A1.map (·.block) ≠ some s.2) ∧ Below w.heap.size w wr)
    (fun _ i _ => l.length - (intOf i).toNat)
  case atStart => exact ⟨0, [], _, _, by omega, rfl, rfl, rfl, ⟨rfl, .inl ⟨rfl, rfl⟩⟩, rfl, by simp, Below.refl _ _⟩
  case round =>
    obtain ⟨k, ks, A1, c1, hk, rfl, rfl, hkl, hO, hC, hS, hB⟩ := hrel
    have HO := Lib.hid hO
    have HC := Lib.hid hC
    have HS := Lib.hid hS
    have HB := Lib.hid hB
    have HKL := Lib.hid hkl
    clear hO hC hS hB hkl
    by_cases hlt : k < l.length
    · obtain ⟨⟨fi, ev, st, sp, co, tu⟩, hx⟩ : ∃ x, l[k]? = some x := ⟨_, List.getElem?_eq_getElem hlt⟩
      obtain ⟨b, o, rfl, hbl, hrow⟩ := (HR.out.below (Nat.le_refl _) HB.out).at_ vcells_length hx
      have HVx := Lib.hid (HV.out _ (List.mem_of_getElem? hx))
      have htk : l.take (k + 1) = l.take k ++ [(⟨fi, ev, st, sp, co, tu⟩ : Wal)] := by rw [List.take_add_one, hx]; rfl
      have HT := Lib.hid htk
      have d0 : wr.cell? ⟨b, o + k * 6, none⟩ = some (.int .i16 fi) := hrow 0 _ rfl
      have d1 : wr.cell? ⟨b, o + k * 6 + 1, none⟩ = some (.int .i16 ev) := hrow 1 _ rfl
      have d2 : wr.cell? ⟨b, o + k * 6 + 2, none⟩ = some (.int .i16 st) := hrow 2 _ rfl
      have d3 : wr.cell? ⟨b, o + k * 6 + 3, none⟩ = some (.int .i16 sp) := hrow 3 _ rfl
      have d4 : wr.cell? ⟨b, o + k * 6 + 4, none⟩ = some (.int .i16 co) := hrow 4 _ rfl
      have d5 : wr.cell? ⟨b, o + k * 6 + 5, none⟩ = some (.int .i8 tu) := hrow 5 _ rfl
      have hk0 : (0 : Int) ≤ (k : Int) := Int.natCast_nonneg _
      have hk8 : (k : Int) < l.length := by omega
      have hA1 : Below wr.heap.size wr (wr.alloc (.cells #[.int .i16 fi, .int .i16 ev, .int .i16 st, .int .i16 sp, .int .i16 co, .int .i8 tu] 36)) := (Below.refl _ wr).alloc (Nat.le_refl _) _
      have HA1 := Lib.hid hA1
      clear hx hrow htk hA1
      go_wp2_with fail
      refine (walksOf_any n h1 h60 ⟨fi, ev, st, sp, co, tu⟩ HVx.out _).mono ?_
      rintro e w2 ⟨g, hg, he, hRg, hb⟩
      have he2 : e = .returned (.agg #[.int .i16 fi, .int .i16 ev, .int .i16 st, .int .i16 sp, .int .i16 co, .int .i8 tu, .int .i64 fi, .int .i64 ev, .slice (some ⟨g, 0, none⟩) n n]) := he
      subst he2
      have HBr : Hid (Below wr.heap.size wr w2) := HA1.out.trans (hb.mono HA1.out.size)
      have HB2 : Hid (Below w.heap.size w w2) := HB.out.trans (HBr.out.mono HB.out.size)
      have HG : Hid (wr.heap.size ≤ g) := Nat.le_trans HA1.out.size hg
      have HRg := Lib.hid hRg
      clear he hg hRg hb d0 d1 d2 d3 d4 d5
      have HO2 := Lib.hid (own_keep' HO.out HBr.out)
      go_wp2_with (at_builtin; refine wpList_append_any _ rfl (.tmp 14) (.tmp 18) 41 41 rfl w.heap.size 60 i0 (.agg #[.int .i16 0, .int .i16 0, .int .i16 0, .int .i16 0, .int .i16 0, .int .i8 0, .int .i64 0, .int .i64 0, .slice none 0 0]) 9 56 Tryd.underlying41 HI.out HZ0.out HZ1.out HZ2.out rfl (by decide) (.slice A1 ks.length c1) ks.length (ks.flatMap (kcw n)) rfl ?own2 _ 1 [.int .i16 fi, .int .i16 ev, .int .i16 st, .int .i16 sp, .int .i16 co, .int .i8 tu, .int .i64 fi, .int .i64 ev, .slice (some ⟨g, 0, none⟩) n n] rfl ?src2 ?d3 ?d4 ?d5 ?_)
      case own2 => exact HO2.out.alloc _
      case src2 => exact Src.ofSlice _ Tryd.underlying41 ⟨w2.heap.size, 0, none⟩ 1 1 _ rfl (nine_cells w2 _ [.int .i16 fi, .int .i16 ev, .int .i16 st, .int .i16 sp, .int .i16 co, .int .i8 tu, .int .i64 fi, .int .i64 ev, .slice (some ⟨g, 0, none⟩) n n]) (by intro u hu; simp only [List.mem_cons, List.not_mem_nil, or_false] at hu; rcases hu with rfl | rfl | rfl | rfl | rfl | rfl | rfl | rfl | rfl <;> rfl)
      case d3 => have := HKL.out; unfold maxLen; omega
      case d4 => have := HKL.out; omega
      case d5 => have := HB2.out.size; simp; omega
      intro v4 w4 hown4 hg4 hblk
      rw [ownBlock_slice'] at hg4 hblk
      obtain ⟨s, hs⟩ : ∃ s : KW, s = (⟨fi, ev, st, sp, co, tu⟩, g) := ⟨_, rfl⟩
      have hown5 : w4.ownsRow w.heap.size 60 9 v4 (ks ++ [s]).length ((ks ++ [s]).flatMap (kcw n)) := by rw [List.length_append, List.flatMap_append]; subst hs; simpa [kcw, kcellsV] using hown4
      obtain ⟨A4, c4, rfl, -, -⟩ := own_rd (kcw_length n) hown5
      rw [ownBlock_slice'] at hblk
      have hA1lt : ∀ q, A1.map (·.block) = some q → q < wr.heap.size := fun q e => by
        have := (own_block HO.out (by rw [ownBlock_slice']; exact e)).2
        exact this
      have HB4 : Hid (Below w.heap.size w w4) := (balW HB2.out _).grown hg4 (by have := HB2.out.size; simp; omega) (fun q e => gk_ge HO2.out q e)
      have hlt2 : ∀ t ∈ ks, t.2 < wr.heap.size := fun t ht => Blk.lt (HS.out t ht).1
      have HS5 : Hid (∀ t ∈ ks ++ [s], okW n w4 t ∧ A4.map (·.block) ≠ some t.2) := by
        have hne : ∀ t ∈ ks ++ [s], A1.map (·.block) ≠ some t.2 ∧ okW n w2 t ∧ t.2 < w2.heap.size := by
          intro t ht
          rcases List.mem_append.1 ht with h | h
          · exact ⟨(HS.out t h).2, (HS.out t h).1.keep HBr.out, Nat.lt_of_lt_of_le (hlt2 t h) HBr.out.size⟩
          · obtain rfl : t = s := by simpa using h
            subst hs
            exact ⟨fun e => by have := hA1lt _ e; have := HG.out; dsimp only at *; omega, HRg.out, Blk.lt HRg.out⟩
        intro t ht
        obtain ⟨p1, p2, p3⟩ := hne t ht
        refine ⟨okW.grown (n := n) (Blk.alloc p2 _) hg4 p1, fun e => ?_⟩
        rcases hblk with h | h
        · rw [h] at e; exact p1 e
        · rw [h] at e
          have e3 := Option.some.inj e
          have e4 : w2.heap.size + 1 = t.2 := by simpa using e3
          omega
      have HC5 : Hid ((ks ++ [s]).map (·.1) = l.take (k + 1)) := by
        show (ks ++ [s]).map (·.1) = _
        rw [List.map_append, HC.out, HT.out, hs]; rfl
      have HL5 : Hid ((ks ++ [s]).length = k + 1) := by show _ = _; rw [List.length_append, HKL.out]; rfl
      have HO5 := Lib.hid hown5
      have hsl : (ks ++ [s]).length = ks.length + 1 := by simp
      clear hown4 hown5 hg4 hblk hA1lt hlt2 hs hsl
      obtain ⟨S2, hS2⟩ : ∃ S2, ks ++ [s] = S2 := ⟨_, rfl⟩
      rw [hS2] at HO5 HS5 HC5 HL5 ⊢
      clear hS2
      go_wp2
      go_roundw
      case rel => exact ⟨k + 1, S2, A4, c4, by omega, by go_num, rfl, HL5.out, HO5.out, HC5.out, HS5.out, HB4.out⟩
      case measure => simp [intOf]; omega
    · obtain rfl : k = l.length := by omega
      go_wp2
      go_ret
      exact ⟨_, _, ks, rfl, HO.out, by rw [HC.out, List.take_length], fun s hs => (HS.out s hs).1, HB.out⟩
end Go.Proofs.YtcalooahafgfbaaDoor
