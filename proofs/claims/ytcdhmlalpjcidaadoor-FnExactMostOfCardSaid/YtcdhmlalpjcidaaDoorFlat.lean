/-
  Values made of integers alone (structs and arrays of them, nested), and slices of such, opened; blocks that are known whole. No condition of its own.
-/
import Derived.WalkKit
import Derived.ProofKit
import Derived.OpenShut
import Derived.Lib.SmallJoins
import Derived.Lib.Hide
import Derived.Deep.Slices
import Derived.Deep.Fields
import Derived.Deep.Draws
import Derived.Deep.MidRow
import Derived.OwnWalk
import Derived.Laws.OwnMore
import Derived.Laws.Rows
import Derived.Below
namespace Go.Proofs.YtcdhmlalpjcidaaDoor
open Go.ChangeShapes Go.WideShapes Go.ChangeAt Go.RowKit Go.Joins Go.Deep

/-- The cells are integers of these kinds, within their bounds. -/
def FitsL : List IntKind → List Value → Prop
  | [], [] => True
  | k :: ks, c :: cs => (∃ n, c = .int k n ∧ (Lit.int k n).wf = true) ∧ FitsL ks cs
  | _, _ => False

theorem FitsL.length : ∀ {ks : List IntKind} {cs : List Value}, FitsL ks cs → cs.length = ks.length
  | [], [], _ => rfl
  | _ :: _, _ :: _, h => by simp [FitsL.length h.2]
  | [], _ :: _, h => h.elim
  | _ :: _, [], h => h.elim
theorem FitsL.append : ∀ {ks : List IntKind} {cs : List Value} {ks' : List IntKind} {cs' : List Value}, FitsL ks cs → FitsL ks' cs' → FitsL (ks ++ ks') (cs ++ cs')
  | [], [], _, _, _, h' => h'
  | _ :: _, _ :: _, _, _, h, h' => ⟨h.1, FitsL.append h.2 h'⟩
  | [], _ :: _, _, _, h, _ => h.elim
  | _ :: _, [], _, _, h, _ => h.elim
theorem FitsL.split : ∀ {ks ks' : List IntKind} {cs : List Value}, FitsL (ks ++ ks') cs → ∃ c1 c2, cs = c1 ++ c2 ∧ FitsL ks c1 ∧ FitsL ks' c2
  | [], _, cs, h => ⟨[], cs, rfl, trivial, h⟩
  | k :: ks, ks', c :: cs, h => by
    obtain ⟨c1, c2, rfl, h1, h2⟩ := FitsL.split (ks := ks) h.2
    exact ⟨c :: c1, c2, rfl, ⟨h.1, h1⟩, h2⟩
  | _ :: _, _, [], h => h.elim
theorem FitsL.parts : ∀ (kss : List (List IntKind)) (cs : List Value), cs.length = kss.flatten.length →
    (∀ i ks, kss[i]? = some ks → FitsL ks ((cs.drop (kss.take i).flatten.length).take ks.length)) → FitsL kss.flatten cs
  | [], cs, hl, _ => by
    have : cs = [] := List.eq_nil_of_length_eq_zero (by simpa using hl)
    subst this; exact trivial
  | ks :: kss, cs, hl, h => by
    have h0 := h 0 ks rfl
    simp only [List.take_zero, List.flatten_nil, List.length_nil, List.drop_zero] at h0
    have hl' : cs.length = ks.length + kss.flatten.length := by simpa using hl
    have hr := FitsL.parts kss (cs.drop ks.length) (by rw [List.length_drop]; omega) (fun i ks' hi => by
      have := h (i + 1) ks' (by simpa using hi)
      simpa [List.drop_drop, Nat.add_comm] using this)
    rw [← List.take_append_drop ks.length cs, List.flatten_cons]
    exact h0.append hr

/-- A type that holds integers alone: its cells' kinds. -/
inductive FlatT (P : Program) : TypeId → List IntKind → Prop
  | int {t k} : P.underlying t = some (.int k) → FlatT P t [k]
  | arr {t n e ks} : P.underlying t = some (.array n e) → P.cellsOf e = ks.length → P.cellsOf t = n * ks.length → FlatT P e ks → FlatT P t (List.replicate n ks).flatten
  | str {t} {fs : Array Field} {kss : List (List IntKind)} : P.underlying t = some (.struct fs) → fs.size = kss.length → P.cellsOf t = kss.flatten.length →
      (∀ (i : Nat) (f : Field) (ks : List IntKind), fs[i]? = some f → kss[i]? = some ks → P.cellsOf f.type = ks.length ∧ f.offset = (kss.take i).flatten.length) →
      (∀ (i : Nat) (f : Field) (ks : List IntKind), fs[i]? = some f → kss[i]? = some ks → FlatT P f.type ks) → FlatT P t kss.flatten

section
variable {H : Type} {enc : TypeId × Value → H} {P : Program} {w : World} {base : Nat} {spare : Nat → Bool} {held : Bool}
theorem flatten_replicate_take {α : Type} (l : List α) (n i : Nat) (h : i ≤ n) : ((List.replicate n l).take i).flatten.length = i * l.length := by
  simp [List.take_replicate, Nat.min_eq_left h]
theorem flat_fits {t : TypeId} {ks : List IntKind} (hF : FlatT P t ks) : ∀ {fuel : Nat} {cs : List Value} {x : DataW H × List MemPlace}, DataW.trod enc P w base spare held fuel t cs = some x → FitsL ks cs := by
  induction hF with
  | int hu =>
    intro fuel cs x h
    obtain ⟨n, rfl, _, hw⟩ := DataW.trod_int hu h
    exact ⟨⟨n, rfl, hw⟩, trivial⟩
  | @arr t n e ks hu hc ht _ ih =>
    intro fuel cs x h
    obtain ⟨xs, m, _, _, hlen, hxl, hg⟩ := DataW.trod_array hu h
    refine FitsL.parts _ cs (by rw [hlen, ht]; simp) (fun i ks' hi => ?_)
    obtain ⟨hin, rfl⟩ : i < n ∧ ks' = ks := by
      rw [List.getElem?_replicate] at hi
      by_cases hin : i < n
      · rw [if_pos hin] at hi; exact ⟨hin, (Option.some.inj hi).symm⟩
      · rw [if_neg hin] at hi; cases hi
    have g := hg i hin
    rw [List.getElem?_eq_getElem (by omega)] at g
    have := ih g
    rwa [hc, ← flatten_replicate_take ks' n i (by omega)] at this
  | @str t fs kss hu hs ht hp _ ih =>
    intro fuel cs x h
    obtain ⟨xs, m, _, _, hlen, hxl, hg⟩ := DataW.trod_struct hu h
    refine FitsL.parts _ cs (by rw [hlen, ht]) (fun i ks' hi => ?_)
    have hin : i < kss.length := (List.getElem?_eq_some_iff.1 hi).1
    have hf : fs[i]? = some (fs[i]'(by omega)) := Array.getElem?_eq_getElem (by omega)
    have g := hg i _ hf
    rw [List.getElem?_eq_getElem (by omega)] at g
    have := ih i _ _ hf hi g
    obtain ⟨h1, h2⟩ := hp i _ _ hf hi
    rwa [h1, h2] at this

/-- The fields of a struct, one behind the other. -/
def FieldsFlat (P : Program) : Nat → List Field → List (List IntKind) → Prop
  | _, [], [] => True
  | o, f :: fs, ks :: kss => P.cellsOf f.type = ks.length ∧ f.offset = o ∧ FlatT P f.type ks ∧ FieldsFlat P (o + ks.length) fs kss
  | _, _, _ => False
theorem FieldsFlat.length {P : Program} : ∀ {o : Nat} {fs : List Field} {kss : List (List IntKind)}, FieldsFlat P o fs kss → fs.length = kss.length
  | _, [], [], _ => rfl
  | _, _ :: _, _ :: _, h => by simp [FieldsFlat.length h.2.2.2]
  | _, [], _ :: _, h => h.elim
  | _, _ :: _, [], h => h.elim
theorem FieldsFlat.at_ {P : Program} : ∀ {o : Nat} {fs : List Field} {kss : List (List IntKind)}, FieldsFlat P o fs kss → ∀ (i : Nat) (f : Field) (ks : List IntKind), fs[i]? = some f → kss[i]? = some ks →
    (P.cellsOf f.type = ks.length ∧ f.offset = o + (kss.take i).flatten.length) ∧ FlatT P f.type ks
  | o, f :: fs, ks :: kss, h, 0, f', ks', hf, hk => by
    simp only [List.getElem?_cons_zero, Option.some.injEq] at hf hk
    subst hf; subst hk
    exact ⟨⟨h.1, by simp [h.2.1]⟩, h.2.2.1⟩
  | o, f :: fs, ks :: kss, h, i + 1, f', ks', hf, hk => by
    obtain ⟨⟨h1, h2⟩, h3⟩ := FieldsFlat.at_ h.2.2.2 i f' ks' (by simpa using hf) (by simpa using hk)
    exact ⟨⟨h1, by rw [h2]; simp [Nat.add_assoc]⟩, h3⟩
  | _, [], [], _, i, _, _, hf, _ => by simp at hf
  | _, [], _ :: _, h, _, _, _, _, _ => h.elim
  | _, _ :: _, [], h, _, _, _, _, _ => h.elim
theorem flat_struct {P : Program} {t : TypeId} {fs : List Field} {kss : List (List IntKind)} (ht : P.underlying t = some (.struct fs.toArray)) (hT : P.cellsOf t = kss.flatten.length) (h : FieldsFlat P 0 fs kss) : FlatT P t kss.flatten :=
  .str ht (by simpa using h.length) hT (fun i f ks hf hk => by simpa using (h.at_ i f ks (by simpa using hf) hk).1) (fun i f ks hf hk => (h.at_ i f ks (by simpa using hf) hk).2)
theorem wf_i16 {n : Int} (h : (Lit.int .i16 n).wf = true) : -32768 ≤ n ∧ n ≤ 32767 := bounds_i16 h
theorem wf_u8 {n : Int} (h : (Lit.int .u8 n).wf = true) : 0 ≤ n ∧ n ≤ 255 := bounds_u8 h

theorem open_flat {t : TypeId} {ks : List IntKind} {r : Reach} {b0 : Nat} {v : Value} {d : DataW H} {p : List MemPlace} (hF : FlatT P t ks) (hA : ∃ cs : Array Value, v = .agg cs) (h : DataW.Trod enc P w base spare held t v d p) :
    ∃ cs : List Value, v = .agg cs.toArray ∧ FitsL ks cs := by
  obtain ⟨cs, rfl⟩ := hA
  obtain ⟨fuel, hf⟩ := h
  exact ⟨cs.toList, by simp, by simpa [Value.cells] using flat_fits hF hf⟩

theorem choose_rows {T : Type} (n : Nat) (q : Nat → T → Prop) (h : ∀ i, i < n → ∃ b, q i b) : ∃ xs : List T, xs.length = n ∧ ∀ i b, xs[i]? = some b → q i b := by
  induction n with
  | zero => exact ⟨[], rfl, fun i b h => by simp at h⟩
  | succ n ih =>
    obtain ⟨xs, hl, hx⟩ := ih (fun i hi => h i (by omega))
    obtain ⟨b, hb⟩ := h n (by omega)
    refine ⟨xs ++ [b], by simp [hl], fun i c hc => ?_⟩
    by_cases hi : i < n
    · rw [List.getElem?_append_left (by omega)] at hc; exact hx i c hc
    · have hi' : i = n := by
        have := (List.getElem?_eq_some_iff.1 hc).1
        simp at this; omega
      subst hi'
      rw [List.getElem?_append_right (by omega), hl] at hc
      simp at hc; subst hc; exact hb
end

theorem block_of_add (a : Addr) (n : Nat) : (a.add n).block = a.block := by unfold Addr.add; split <;> rfl

/-- A slice reads as these rows, and lies below block B. -/
def Rd {T : Type} (w : World) (B : Nat) (cells : T → List Value) (A : Option Addr) (xs : List T) : Prop :=
  0 < xs.length → ∃ b o, A = some ⟨b, o, none⟩ ∧ b < B ∧ w.rangeAt b o (xs.flatMap cells)
theorem rangeAt_below {w w' : World} {B b o : Nat} {cs : List Value} (h : w.rangeAt b o cs) (hb : Below B w w') (hB : b < B) : w'.rangeAt b o cs := fun j v hv => (hb.cell (p := ⟨b, o + j, none⟩) hB).trans (h j v hv)
theorem Rd.below {T : Type} {w w' : World} {B : Nat} {cells : T → List Value} {A : Option Addr} {xs : List T} (h : Rd w B cells A xs) {B' : Nat} (hB : B ≤ B') (hb : Below B' w w') : Rd w' B cells A xs := fun hn => by
  obtain ⟨b, o, e, hlt, hr⟩ := h hn
  exact ⟨b, o, e, hlt, rangeAt_below hr hb (Nat.lt_of_lt_of_le hlt hB)⟩
theorem Rd.more {T : Type} {w : World} {B B' : Nat} {cells : T → List Value} {A : Option Addr} {xs : List T} (h : Rd w B cells A xs) (hB : B ≤ B') : Rd w B' cells A xs := fun hn => by
  obtain ⟨b, o, e, hlt, hr⟩ := h hn
  exact ⟨b, o, e, Nat.lt_of_lt_of_le hlt hB, hr⟩
theorem Rd.keep {T : Type} {w w' : World} {cells : T → List Value} {A : Option Addr} {xs : List T} (h : Rd w w.heap.size cells A xs) (hb : Below w.heap.size w w') : Rd w' w'.heap.size cells A xs := (h.below (Nat.le_refl _) hb).more hb.size
theorem rows_length {T : Type} {cells : T → List Value} {size : Nat} (hs : ∀ b, (cells b).length = size) (xs : List T) : (xs.flatMap cells).length = xs.length * size := by
  induction xs with
  | nil => simp
  | cons b xs ih => rw [List.flatMap_cons, List.length_append, ih, hs, List.length_cons]; rw [Nat.succ_mul]; omega
theorem rows_get {T : Type} {cells : T → List Value} {size : Nat} (hs : ∀ b, (cells b).length = size) : ∀ (xs : List T) {k : Nat} {b : T} (_ : xs[k]? = some b) (j : Nat) (_ : j < size), (xs.flatMap cells)[k * size + j]? = (cells b)[j]?
  | [], k, b, h, _, _ => by simp at h
  | x :: xs, 0, b, h, j, hj => by
    simp only [List.getElem?_cons_zero, Option.some.injEq] at h
    subst h
    rw [List.flatMap_cons, List.getElem?_append_left (by rw [hs]; omega)]; simp
  | x :: xs, k + 1, b, h, j, hj => by
    rw [List.flatMap_cons, List.getElem?_append_right (by rw [hs, Nat.succ_mul]; omega), hs]
    rw [← rows_get hs xs (k := k) (by simpa using h) j hj]
    congr 1
    rw [Nat.succ_mul]; omega
theorem range_row {T : Type} {w : World} {b o : Nat} {cells : T → List Value} {size : Nat} {xs : List T} (hs : ∀ b, (cells b).length = size) (h : w.rangeAt b o (xs.flatMap cells)) {k : Nat} {x : T} (hk : xs[k]? = some x) : w.rangeAt b (o + k * size) (cells x) := fun j v hv => by
  have hj : j < size := by have := (List.getElem?_eq_some_iff.1 hv).1; rwa [hs] at this
  rw [Nat.add_assoc]
  exact h (k * size + j) v ((rows_get hs xs hk j hj).trans hv)
theorem Rd.at_ {T : Type} {w : World} {B : Nat} {cells : T → List Value} {A : Option Addr} {xs : List T} {size : Nat} (hs : ∀ b, (cells b).length = size) (h : Rd w B cells A xs) {k : Nat} {x : T} (hk : xs[k]? = some x) :
    ∃ b o, A = some ⟨b, o, none⟩ ∧ b < B ∧ w.rangeAt b (o + k * size) (cells x) := by
  obtain ⟨b, o, e, hb, hr⟩ := h (by have := (List.getElem?_eq_some_iff.1 hk).1; omega)
  exact ⟨b, o, e, hb, range_row hs hr hk⟩

theorem add_zero_spot {w : World} {a : Addr} {v : Value} (h : w.cell? a = some v) : a = ⟨a.block, a.off, none⟩ := by
  unfold World.cell? at h
  cases ho : w.heap[a.block]? with
  | none => simp [ho] at h
  | some ob =>
    rw [ho] at h
    cases ob with
    | cells c t f =>
      simp only at h
      cases hs : a.spot with
      | none => cases a; simp_all
      | some s => simp [hs] at h
    | _ => simp at h

section
variable {H : Type} {enc : TypeId × Value → H} {P : Program} {w : World} {base : Nat} {spare : Nat → Bool} {held : Bool}
theorem open_rows {T : Type} (cells : T → List Value) (wf : T → Prop) {t e : TypeId} {ks : List IntKind} {v : Value} {d : DataW H} {p : List MemPlace} (ht : P.underlying t = some (.slice e)) (hF : FlatT P e ks) (hC : P.cellsOf e = ks.length) (h0 : 0 < ks.length) (hlen : ∀ b, (cells b).length = ks.length)
    (hdec : ∀ cs, FitsL ks cs → ∃ b, wf b ∧ cs = cells b) (hv : v.cells.toList = [v]) (h : DataW.Trod enc P w 0 spare held t v d p) :
    ∃ (A : Option Addr) (c : Nat) (xs : List T), v = .slice A xs.length c ∧ xs.length ≤ c ∧ c ≤ maxLen ∧ (∀ x ∈ xs, wf x) ∧ Rd w w.heap.size cells A xs := by
  obtain ⟨fuel, hf⟩ := h
  rw [hv] at hf
  rcases open_slice ht hf with ⟨hcs, _⟩ | ⟨a, len, cap, m, n, D, Pl, hcs, _, hl, hm, hmm, _, hi⟩
  · obtain rfl : v = .slice none 0 0 := by simpa using hcs
    exact ⟨none, 0, [], rfl, Nat.le_refl _, Nat.zero_le _, by simp, fun h => absurd h (by simp)⟩
  · obtain rfl : v = .slice (some a) len cap := by simpa using hcs
    have hlm : len ≤ m := by rw [hmm]; split <;> omega
    obtain ⟨xs, hxl, hx⟩ := choose_rows len (fun i b => wf b ∧ ∀ j u, (cells b)[j]? = some u → w.cell? (a.add (i * ks.length + j)) = some u) (fun i hil => by
      obtain ⟨cs', hc, htr⟩ := hi i (by omega)
      obtain ⟨b, hwf, he⟩ := hdec cs' (flat_fits hF htr)
      obtain ⟨_, hcl, hat⟩ := World.cells?_some hc
      refine ⟨b, hwf, fun j u hu => ?_⟩
      rw [← he] at hu
      have hj : j < P.cellsOf e := by rw [← hcl]; exact (List.getElem?_eq_some_iff.1 hu).1
      have := hat j hj
      rw [Go.Deep.add_add, hC] at this
      rw [this, hu])
    refine ⟨some a, cap, xs, by rw [hxl], by omega, hm, fun x hxm => ?_, fun hn => ?_⟩
    · obtain ⟨i, hil, rfl⟩ := List.mem_iff_getElem.1 hxm
      exact (hx i _ (List.getElem?_eq_getElem hil)).1
    · obtain ⟨cs', hc, htr⟩ := hi 0 (by omega)
      obtain ⟨_, hcl, hat⟩ := World.cells?_some hc
      have h1 := hat 0 (by rw [hC]; exact h0)
      have hfl := (flat_fits hF htr).length
      rw [List.getElem?_eq_getElem (by omega)] at h1
      have h1' : w.cell? a = some (cs'[0]'(by omega)) := by
        have e0 : (a.add (0 * P.cellsOf e)).add 0 = a := by simp [Addr.add]
        rw [← e0]; exact h1
      have hlt := block_lt_of_cell h1'
      have hsp := add_zero_spot h1'
      obtain ⟨b, o, s⟩ := a
      simp only [Addr.mk.injEq, true_and] at hsp
      subst hsp
      refine ⟨b, o, rfl, hlt, fun j v hv => ?_⟩
      have hjl := (List.getElem?_eq_some_iff.1 hv).1
      rw [rows_length hlen] at hjl
      have hk : j / ks.length < xs.length := Nat.div_lt_of_lt_mul (by rw [Nat.mul_comm]; exact hjl)
      have hr := rows_get hlen xs (List.getElem?_eq_getElem hk) (j % ks.length) (Nat.mod_lt _ h0)
      rw [Nat.div_add_mod' j ks.length] at hr
      have := (hx _ _ (List.getElem?_eq_getElem hk)).2 (j % ks.length) v (hr.symm.trans hv)
      rw [Nat.div_add_mod' j ks.length] at this
      rwa [Addr.add_mid] at this
end

/-! ### Blocks that are known whole -/
def Blk (w : World) (g : Nat) (t : TypeId) (cs : Array Value) : Prop := w.heap[g]? = some (.cells cs t (0, 0))
section
variable {w w' : World} {g : Nat} {t : TypeId} {cs : Array Value}
theorem Blk.lt (h : Blk w g t cs) : g < w.heap.size := (Array.getElem?_eq_some_iff.1 h).1
theorem Blk.cell (h : Blk w g t cs) (i : Nat) : w.cell? ⟨g, i, none⟩ = cs[i]? := cell_of_row w g i cs t (0, 0) h
theorem Blk.frozen (h : Blk w g t cs) (i : Nat) : w.frozen? ⟨g, i, none⟩ = false := by
  unfold Blk at h
  simp [World.frozen?, h]
theorem Blk.new (w : World) (t : TypeId) (cs : Array Value) : Blk (w.alloc (.cells cs t)) w.heap.size t cs := heap_alloc_new w _
theorem Blk.new' {B : Nat} {cs' : Array Value} (hB : B = w.heap.size) (hc : cs' = cs) : Blk (w.alloc (.cells cs' t)) B t cs := by
  subst hB; subst hc; exact Blk.new w t cs'
theorem Blk.drew (h : Blk w g t cs) : Blk w.drew g t cs := h
theorem Blk.alloc (h : Blk w g t cs) (o : Obj) : Blk (w.alloc o) g t cs := (Below.heap_alloc w o g h.lt).trans h
theorem Blk.set_ (h : Blk w g t cs) (i : Nat) (u : Value) : Blk (w.setCell ⟨g, i, none⟩ u) g t (cs.setIfInBounds i u) := by
  unfold Blk at h ⊢
  simp [World.setCell, Array.getElem?_modify, h]
theorem Blk.far (h : Blk w g t cs) {p : Addr} (hp : g ≠ p.block) (u : Value) : Blk (w.setCell p u) g t cs := (Below.heap_setCell w p u g hp).trans h
theorem Blk.below {B : Nat} (h : Blk w g t cs) (hb : Below B w w') (hg : g < B) : Blk w' g t cs := (hb.block g hg).trans h
theorem Blk.keep (h : Blk w g t cs) (hb : Below w.heap.size w w') : Blk w' g t cs := h.below hb h.lt
end

/-- Block g is just these rows. -/
def Rs {T : Type} (w : World) (g : Nat) (t : TypeId) (cells : T → List Value) (xs : List T) : Prop := Blk w g t (xs.flatMap cells).toArray
theorem Rs.range {T : Type} {w : World} {g : Nat} {t : TypeId} {cells : T → List Value} {xs : List T} (h : Rs w g t cells xs) : w.rangeAt g 0 (xs.flatMap cells) := fun j v hv => by
  rw [Nat.zero_add, Blk.cell h]; simpa using hv
theorem Rs.rd {T : Type} {w : World} {g B : Nat} {t : TypeId} {cells : T → List Value} {xs : List T} (h : Rs w g t cells xs) (hB : g < B) : Rd w B cells (some ⟨g, 0, none⟩) xs := fun _ => ⟨g, 0, rfl, hB, h.range⟩
theorem Blk.there {w : World} {g : Nat} {t : TypeId} {cs : Array Value} (h : Blk w g t cs) {o n : Nat} (ho : o + n ≤ cs.size) : w.there g o n := fun j hj => by
  refine ⟨?_, h.frozen _⟩
  rw [h.cell, Array.getElem?_eq_getElem (by omega)]; rfl
theorem Blk.setCells {g : Nat} {t : TypeId} : ∀ {w : World} {cs : List Value} (_ : Blk w g t cs.toArray) (o : Nat) (vs : List Value), o + vs.length ≤ cs.length → Blk (w.setCells g o vs) g t (cs.take o ++ vs ++ cs.drop (o + vs.length)).toArray
  | w, cs, h, o, [], _ => by
    have : cs.take o ++ [] ++ cs.drop (o + ([] : List Value).length) = cs := by simp
    rw [this]; exact h
  | w, cs, h, o, v :: vs, hl => by
    have h1 := h.set_ o v
    have e1 : cs.toArray.setIfInBounds o v = (cs.set o v).toArray := by simp
    rw [e1] at h1
    have hl' : o + 1 + vs.length ≤ (cs.set o v).length := by simp at hl ⊢; omega
    have h2 := Blk.setCells h1 (o + 1) vs hl'
    have e2 : (cs.set o v).take (o + 1) ++ vs ++ (cs.set o v).drop (o + 1 + vs.length) = cs.take o ++ (v :: vs) ++ cs.drop (o + (v :: vs).length) := by
      have ho : o < cs.length := by simp at hl; omega
      rw [List.drop_set_of_lt (by omega), List.take_succ_eq_append_getElem (by simpa using ho), List.take_set_of_le (by omega)]
      simp [Nat.add_assoc, Nat.add_comm 1]
    rw [e2] at h2
    exact h2
theorem rows_splice {T : Type} {cells : T → List Value} {size : Nat} (hs : ∀ b, (cells b).length = size) : ∀ (xs : List T) (k : Nat) (x : T), k < xs.length →
    (xs.flatMap cells).take (k * size) ++ cells x ++ (xs.flatMap cells).drop (k * size + (cells x).length) = (xs.set k x).flatMap cells
  | [], k, x, h => by simp at h
  | y :: ys, 0, x, _ => by
    rw [hs]
    simp only [Nat.zero_mul, List.take_zero, List.nil_append, Nat.zero_add, List.set_cons_zero, List.flatMap_cons]
    rw [List.drop_append_of_le_length (by rw [hs]; omega), List.drop_of_length_le (by rw [hs]; omega), List.nil_append]
  | y :: ys, k + 1, x, h => by
    have ih := rows_splice hs ys k x (by simpa using h)
    rw [hs] at ih ⊢
    have e1 : (k + 1) * size = size + k * size := by rw [Nat.succ_mul]; omega
    simp only [List.set_cons_succ, List.flatMap_cons]
    rw [← ih, e1, List.take_append, List.drop_append, hs, List.take_of_length_le (by rw [hs]; omega), List.drop_of_length_le (by rw [hs]; omega)]
    simp only [List.append_assoc, List.nil_append]
    congr 3
    · congr 1; omega
    · congr 1; congr 1; omega
theorem Rs.set_ {T : Type} {w : World} {g : Nat} {t : TypeId} {cells : T → List Value} {size : Nat} {xs : List T} (hs : ∀ b, (cells b).length = size) (h : Rs w g t cells xs) {k : Nat} (hk : k < xs.length) (x : T) : Rs (w.setCells g (k * size) (cells x)) g t cells (xs.set k x) := by
  have := Blk.setCells h (k * size) (cells x) (by rw [rows_length hs, hs, ← Nat.succ_mul]; exact Nat.mul_le_mul_right _ hk)
  rw [rows_splice hs xs k x hk] at this
  exact this
theorem Rs.there {T : Type} {w : World} {g : Nat} {t : TypeId} {cells : T → List Value} {size : Nat} {xs : List T} (hs : ∀ b, (cells b).length = size) (h : Rs w g t cells xs) {k : Nat} (hk : k < xs.length) (x : T) : w.there g (k * size) (cells x).toArray.size := by
  refine Blk.there h ?_
  simp only [List.size_toArray]
  rw [rows_length hs, hs, ← Nat.succ_mul]; exact Nat.mul_le_mul_right _ hk
theorem Below.setCells {N : Nat} {a : World} : ∀ {w : World} (_ : Below N a w) (g o : Nat) (vs : List Value) (_ : N ≤ g), Below N a (w.setCells g o vs)
  | _, h, _, _, [], _ => h
  | _, h, g, o, v :: vs, hg => Below.setCells (h.setCell (p := ⟨g, o, none⟩) hg v) g (o + 1) vs hg
theorem Blk.setCells_far {g : Nat} {t : TypeId} {cs : Array Value} : ∀ {w : World} (_ : Blk w g t cs) (g' o : Nat) (vs : List Value) (_ : g ≠ g'), Blk (w.setCells g' o vs) g t cs
  | _, h, _, _, [], _ => h
  | _, h, g', o, v :: vs, hg => Blk.setCells_far (h.far (p := ⟨g', o, none⟩) hg v) g' (o + 1) vs hg
theorem size_setCells (g : Nat) : ∀ (vs : List Value) (o : Nat) (w : World), (w.setCells g o vs).heap.size = w.heap.size
  | [], _, _ => rfl
  | v :: vs, o, w => by
    show ((w.setCell ⟨g, o, none⟩ v).setCells g (o + 1) vs).heap.size = _
    rw [size_setCells g vs]; simp
/-- What a make of so many elements leaves, as a block. -/
theorem blk_of_make {w : World} {base e size g n : Nat} {xs : List Value} (h : w.ownsRow base e size (.slice (some ⟨g, 0, none⟩) n n) n xs) : Blk w g e xs.toArray := by
  obtain ⟨hl, ⟨h0, _⟩ | ⟨g', cap, cur, hv, _, hh, hn, hc, hs, rfl⟩⟩ := h
  · cases h0
  · obtain ⟨hg, hcap⟩ : g = g' ∧ n = cap := by simpa using hv
    subst hg; subst hcap
    rw [List.take_of_length_le (by simp [hs])]
    exact hh
theorem all_one {cs : List Value} (h : ∀ v ∈ cs, v.oneCell' = true) : cs.toArray.all (·.oneCell') = true := by
  rw [Array.all_eq_true_iff_forall_mem]
  intro x hx; exact h x (by simpa using hx)
end Go.Proofs.YtcdhmlalpjcidaaDoor
