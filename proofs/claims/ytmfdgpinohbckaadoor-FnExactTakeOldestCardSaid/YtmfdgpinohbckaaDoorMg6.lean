/-
  append of whatever slice, beside lists of lists (As0, No).
-/
import Derived.Test.YtmfdgpinohbckaaDoorNs
import Derived.Test.YtmfdgpinohbckaaDoorMg5
import Derived.Deep.AppendSrc
import Derived.Laws.AppendOwn
import Derived.Lib.SliceRun
namespace Go.Proofs.YtmfdgpinohbckaaDoor
open Go.ChangeShapes Go.WideShapes Go.ChangeAt Go.RowKit Go.Deep

/-- Nothing that was there has been turned, but in the blocks of S. -/
structure Only (S : Nat → Prop) (w w' : World) : Prop where
  os : w'.os = w.os
  tape : w'.tape = w.tape
  output : w'.output = w.output
  size : w.heap.size ≤ w'.heap.size
  block : ∀ k, k < w.heap.size → ¬ S k → w'.heap[k]? = w.heap[k]?
theorem Only.refl (S : Nat → Prop) (w : World) : Only S w w := ⟨rfl, rfl, rfl, Nat.le_refl _, fun _ _ _ => rfl⟩
theorem Only.trans {S : Nat → Prop} {a b c : World} (h : Only S a b) (k : Only S b c) : Only S a c :=
  ⟨k.os.trans h.os, k.tape.trans h.tape, k.output.trans h.output, Nat.le_trans h.size k.size, fun i hi hs => (k.block i (Nat.lt_of_lt_of_le hi h.size) hs).trans (h.block i hi hs)⟩
theorem Only.mono {S S' : Nat → Prop} {a b : World} (h : Only S a b) (hS : ∀ k, S k → S' k) : Only S' a b := ⟨h.os, h.tape, h.output, h.size, fun i hi hs => h.block i hi (fun e => hs (hS i e))⟩
theorem Only.of_below {S : Nat → Prop} {a b : World} (h : Below a.heap.size a b) : Only S a b := ⟨h.os, h.tape, h.output, h.size, fun k hk _ => h.block k hk⟩
theorem Only.of_grown {S : Nat → Prop} {a b : World} {row : Option Nat} (h : a.grownBy b row) (hS : ∀ k, row = some k → S k) : Only S a b :=
  ⟨h.os, h.tape, h.output, h.size, fun k hk hs => h.block k hk (fun e => hs (hS k e.symm))⟩
theorem Only.below {S : Nat → Prop} {a w w' : World} {B : Nat} (h : Only S w w') (hb : Below B a w) (hB : B ≤ w.heap.size) (hS : ∀ k, S k → B ≤ k) : Below B a w' :=
  hb.trans ⟨h.os, h.tape, h.output, h.size, fun k hk => h.block k (Nat.lt_of_lt_of_le hk hB) (fun e => by have := hS k e; omega)⟩
theorem Only.blk {S : Nat → Prop} {w w' : World} {B : Nat} {t : TypeId} {cs : Array Value} (h : Only S w w') (hK : Blk w B t cs) (hne : ¬ S B) : Blk w' B t cs := (h.block B hK.lt hne).trans hK
theorem Only.rd {T : Type} {S : Nat → Prop} {w w' : World} {cells : T → List Value} {A : Option Addr} {xs : List T} (h : Only S w w') (hr : Rd w w.heap.size cells A xs) (hne : ∀ k, A.map (·.block) = some k → ¬ S k) : Rd w' w'.heap.size cells A xs := fun hn => by
  obtain ⟨b, o, rfl, hlt, hrow⟩ := hr hn
  refine ⟨b, o, rfl, Nat.lt_of_lt_of_le hlt h.size, fun j v hv => ?_⟩
  rw [World.cell?_of_block (w := w) (w' := w') (a := ⟨b, o + j, none⟩) (h.block b hlt (hne b rfl))]
  exact hrow j v hv
theorem Only.own {S : Nat → Prop} {w w' : World} {b size n : Nat} {e : TypeId} {v : Value} {xs : List Value} (h : Only S w w') (ho : w.ownsRow b e size v n xs) (hne : ∀ k, v.ownBlock = some k → ¬ S k) : w'.ownsRow b e size v n xs := by
  refine ⟨ho.1, ?_⟩
  rcases ho.2 with h0 | ⟨g, cap, cur, h1, h2, h3, h4⟩
  · exact .inl h0
  · exact .inr ⟨g, cap, cur, h1, h2, (h.block g (Array.getElem?_eq_some_iff.1 h3).1 (hne g (by rw [h1]; rfl))).trans h3, h4⟩

theorem own_block {w : World} {b size n : Nat} {e : TypeId} {v : Value} {xs : List Value} (h : w.ownsRow b e size v n xs) {k : Nat} (hk : v.ownBlock = some k) : b ≤ k ∧ k < w.heap.size := by
  rcases h.2 with ⟨rfl, -⟩ | ⟨g, cap, cur, rfl, h2, h3, -⟩
  · cases hk
  · obtain rfl : g = k := by simpa [Value.ownBlock] using hk
    exact ⟨h2, (Array.getElem?_eq_some_iff.1 h3).1⟩

/-- Lists of the call's own: the list of them, each of them, and no two in one block. -/
def OwnN {T : Type} (w : World) (b : Nat) (te t : TypeId) (size : Nat) (cells : T → List Value) (A : Option Addr) (c : Nat) (hs : List Hd) (xss : List (List T)) : Prop :=
  w.ownsRow b te 1 (.slice A hs.length c) hs.length (hs.flatMap hcells) ∧ hs.length = xss.length ∧
  (∀ (i : Nat) (h : Hd) (xs : List T), hs[i]? = some h → xss[i]? = some xs → h.2.1 = xs.length ∧ w.ownsRow b t size (.slice h.1 h.2.1 h.2.2) xs.length (xs.flatMap cells)) ∧
  (∀ (i j : Nat) (h h' : Hd), i ≠ j → hs[i]? = some h → hs[j]? = some h' → ∀ k, h.1.map (·.block) = some k → h'.1.map (·.block) ≠ some k) ∧
  (∀ (i : Nat) (h : Hd), hs[i]? = some h → ∀ k, A.map (·.block) = some k → h.1.map (·.block) ≠ some k)
theorem OwnN.rd {T : Type} {w : World} {b : Nat} {te t : TypeId} {size : Nat} {cells : T → List Value} {A : Option Addr} {c : Nat} {hs : List Hd} {xss : List (List T)} (hs1 : ∀ x, (cells x).length = size) (h : OwnN w b te t size cells A c hs xss) : RdN w w.heap.size cells A xss := by
  obtain ⟨h1, h2, h3, -, -⟩ := h
  refine ⟨hs, h2, own_rd2 hcells_length h1, fun i hd xs hi hx => ?_⟩
  obtain ⟨e, ho⟩ := h3 i hd xs hi hx
  rw [e] at ho
  exact ⟨e, own_rd2 hs1 ho⟩
theorem OwnN.keep {T : Type} {w w' : World} {b : Nat} {te t : TypeId} {size : Nat} {cells : T → List Value} {A : Option Addr} {c : Nat} {hs : List Hd} {xss : List (List T)} (h : OwnN w b te t size cells A c hs xss) (hb : Below w.heap.size w w') : OwnN w' b te t size cells A c hs xss := by
  obtain ⟨h1, h2, h3, h4, h5⟩ := h
  exact ⟨own_keep' h1 hb, h2, fun i hd xs hi hx => ⟨(h3 i hd xs hi hx).1, own_keep' (h3 i hd xs hi hx).2 hb⟩, h4, h5⟩
theorem ownBlock_slice (A : Option Addr) (n c : Nat) : (Value.slice A n c).ownBlock = A.map (·.block) := by cases A <;> rfl
theorem OwnN.only {T : Type} {S : Nat → Prop} {w w' : World} {b : Nat} {te t : TypeId} {size : Nat} {cells : T → List Value} {A : Option Addr} {c : Nat} {hs : List Hd} {xss : List (List T)} (h : OwnN w b te t size cells A c hs xss) (ho : Only S w w') (hne : ∀ k, S k → k < b) : OwnN w' b te t size cells A c hs xss := by
  obtain ⟨h1, h2, h3, h4, h5⟩ := h
  have key : ∀ {e : TypeId} {sz n : Nat} {v : Value} {xs : List Value}, w.ownsRow b e sz v n xs → w'.ownsRow b e sz v n xs := fun o => ho.own o (fun k hk hS => by have := (own_block o hk).1; have := hne k hS; omega)
  exact ⟨key h1, h2, fun i hd xs hi hx => ⟨(h3 i hd xs hi hx).1, key (h3 i hd xs hi hx).2⟩, h4, h5⟩
theorem OwnN.base {T : Type} {w : World} {b b' : Nat} {te t : TypeId} {size : Nat} {cells : T → List Value} {A : Option Addr} {c : Nat} {hs : List Hd} {xss : List (List T)} (h : OwnN w b te t size cells A c hs xss) (hb : b' ≤ b) : OwnN w b' te t size cells A c hs xss := by
  obtain ⟨h1, h2, h3, h4, h5⟩ := h
  exact ⟨own_base h1 hb, h2, fun i hd xs hi hx => ⟨(h3 i hd xs hi hx).1, own_base (h3 i hd xs hi hx).2 hb⟩, h4, h5⟩
theorem OwnN.nil {T : Type} (w : World) (b : Nat) (te t : TypeId) (size : Nat) (cells : T → List Value) : OwnN w b te t size cells none 0 [] ([] : List (List T)) :=
  ⟨⟨rfl, .inl ⟨rfl, rfl⟩⟩, rfl, fun i h xs hi => by simp at hi, fun i j h h' _ hi => by simp at hi, fun i h hi => by simp at hi⟩

/-- The blocks of lists that are not empty. -/
def inHs (hs : List Hd) (n : Nat) (k : Nat) : Prop := ∃ (i : Nat) (h : Hd), i < n ∧ hs[i]? = some h ∧ 0 < h.2.1 ∧ h.1.map (·.block) = some k
end Go.Proofs.YtmfdgpinohbckaaDoor

namespace Go.Proofs.YtmfdgpinohbckaaDoor
open Go.ChangeShapes Go.WideShapes Go.ChangeAt Go.RowKit Go.Deep

theorem setCells_other (g : Nat) : ∀ (vs : List Value) (o : Nat) (w : World) (k : Nat), k ≠ g → (w.setCells g o vs).heap[k]? = w.heap[k]?
  | [], _, _, _, _ => rfl
  | v :: vs, o, w, k, hk => (setCells_other g vs (o + 1) _ k hk).trans (Below.heap_setCell w ⟨g, o, none⟩ v k hk)
theorem setCells_same (g : Nat) : ∀ (vs : List Value) (o : Nat) (w : World), (w.setCells g o vs).os = w.os ∧ (w.setCells g o vs).tape = w.tape ∧ (w.setCells g o vs).output = w.output
  | [], _, _ => ⟨rfl, rfl, rfl⟩
  | v :: vs, o, w => setCells_same g vs (o + 1) (w.setCell ⟨g, o, none⟩ v)

section
variable {P : Program} (w : World)
theorem src_of_rd {T : Type} {size : Nat} {t e : TypeId} (ht : P.underlying t = some (.slice e)) {B : Nat} {cells : T → List Value} (hs : ∀ x, (cells x).length = size) (h1 : ∀ x, (cells x).toArray.all (·.oneCell') = true) {A : Option Addr} {c : Nat} {xs : List T} (hr : Rd w B cells A xs) :
    Src P size t (.slice A xs.length c) xs.length (xs.flatMap cells) w := by
  have hone : ∀ u ∈ xs.flatMap cells, u.oneCell' = true := by
    intro u hu
    obtain ⟨x, -, hx⟩ := List.mem_flatMap.1 hu
    have := h1 x
    rw [List.all_toArray, List.all_eq_true] at this
    exact this u hx
  cases A with
  | none =>
    have : xs = [] := by
      rcases Nat.eq_zero_or_pos xs.length with h | h
      · exact List.eq_nil_of_length_eq_zero h
      · obtain ⟨b, o, e, -⟩ := hr h; cases e
    subst this
    exact Src.ofNil w ht c
  | some a =>
    refine Src.ofSlice w ht a xs.length c _ (rows_length hs xs) (fun j u hu => ?_) hone
    have hj := (List.getElem?_eq_some_iff.1 hu).1
    rw [rows_length hs] at hj
    obtain ⟨b, o, e, -, hrow⟩ := hr (by rcases Nat.eq_zero_or_pos xs.length with h | h <;> simp_all)
    obtain rfl : a = ⟨b, o, none⟩ := Option.some.inj e
    rw [Addr.add_mid]
    exact hrow j u hu

theorem run_append_any (base : Nat) (t tx ty e : TypeId) (i : TypeInfo) (z : Value) (size bytes : Nat) (ht : P.underlying t = some (.slice e)) (hi : P.info? e = some i) (hz : i.zero = some z)
    (hsize : i.size = size) (hby : i.bytes = bytes) (hzs : z.cells.size = size) (hsz : 0 < size)
    (v : Value) (n : Nat) (xs : List Value) (hown : w.ownsRow base e size v n xs) (x : Value) (m : Nat) (news : List Value) (hs : Src P size tx x m news w)
    (h63 : n + m ≤ maxLen) (hbytes : (n + m) * bytes ≤ 140737488355328) (hbase : base ≤ w.heap.size) :
    ∃ v' w', (Builtin.append_ #[t, tx] ty #[v, x]).run P w = .ok v' w' ∧ w'.ownsRow base e size v' (n + m) (xs ++ news) ∧ w.grownBy w' v.ownBlock ∧ (v'.ownBlock = v.ownBlock ∨ v'.ownBlock = some w.heap.size) := by
  subst hsize
  subst hby
  have hl := hs.newsLen
  have hsmall : n + m ≤ 9223372036854775807 := by simp only [maxLen] at h63; omega
  have hlen : (xs ++ news).length = (n + m) * i.size := by rw [List.length_append, hown.1, hl, Nat.add_mul]
  have grown : ∀ (old : Nat), old < n + m → ∀ (row : Option Nat),
      (w.drew.alloc (.cells ((xs ++ news).toArray ++ Builtin.zeroCells z.cells (grownCap w (n + m) old e - (n + m))) e)).ownsRow base e i.size
        (.slice (some ⟨w.heap.size, 0, none⟩) (n + m) (grownCap w (n + m) old e)) (n + m) (xs ++ news) ∧
      w.grownBy (w.drew.alloc (.cells ((xs ++ news).toArray ++ Builtin.zeroCells z.cells (grownCap w (n + m) old e - (n + m))) e)) row := by
    intro old ho row
    have hge := grownCap_ge w (n + m) old e
    have hcm : grownCap w (n + m) old e ≤ maxLen := grownCap_le_maxLen w (n + m) old e h63
    refine ⟨⟨hlen, .inr ⟨w.heap.size, _, _, rfl, hbase, heap_alloc_new w.drew _, hge, hcm, ?_, ?_⟩⟩, ⟨rfl, rfl, rfl, by simp, fun k hk _ => Below.heap_alloc w.drew _ k hk⟩⟩
    · rw [Array.size_append, List.size_toArray, size_zeroCells, hzs, hlen, ← Nat.add_mul]
      congr 1
      omega
    · rw [Array.toList_append, ← hlen]
      exact List.take_left
  rcases hown.2 with ⟨rfl, rfl⟩ | ⟨g, cap, cur, rfl, hbg, hg, hnc, hcm, hcs, htake⟩
  · have hx : xs = [] := List.eq_nil_of_length_eq_zero (by simpa using hown.1)
    subst hx
    by_cases hm : m = 0
    · subst hm
      have hn : news = [] := List.eq_nil_of_length_eq_zero (by simpa using hl)
      subst hn
      refine ⟨.slice none 0 0, w, ?_, World.ownsRow_nil w base e i.size, ⟨rfl, rfl, rfl, Nat.le_refl _, fun _ _ _ => rfl⟩, .inl rfl⟩
      have hcl := hs.cells
      rcases hs.kind with ⟨e', hk⟩ | hk <;> simp [Builtin.append_, run_underlying ht, run_underlying hk, sizeOf, typeInfo, hi, hs.len, hcl]
    · have hr := run_append_grow_src (P := P) w t tx ty e i z ht hi hz none 0 0 [] (run_firstCells_none w.drew i.size 0 0 0) x m news hs (by omega) (by omega) (growslice_fits (by omega) hbytes)
      have hgr := grown 0 (by omega) (Value.ownBlock (.slice none 0 0))
      simp only [Nat.zero_add] at hgr hr ⊢
      exact ⟨_, _, hr, hgr.1, hgr.2, .inr rfl⟩
  · have hK : Blk w g e cur := hg
    by_cases hroom : n + m ≤ cap
    · have hfit : n * i.size + news.length ≤ cur.size := by rw [hl, hcs, ← Nat.add_mul]; exact Nat.mul_le_mul_right _ hroom
      have hr := run_append_room_src (P := P) w t tx ty e i ht hi g 0 n cap x m news hs hroom
        (fun j hj => by rw [hK.cell, Array.getElem?_eq_getElem (by omega)]; rfl) (fun j hj => hK.frozen _)
      rw [Nat.zero_add] at hr
      have hK2 : Blk (w.setCells g (n * i.size) news) g e (cur.toList.take (n * i.size) ++ news ++ cur.toList.drop (n * i.size + news.length)).toArray := Blk.setCells (cs := cur.toList) (by simpa using hK) _ _ (by simpa using hfit)
      obtain ⟨q1, q2, q3⟩ := setCells_same g news (n * i.size) w
      refine ⟨_, _, hr, ⟨hlen, .inr ⟨g, cap, _, rfl, hbg, hK2, hroom, hcm, ?_, ?_⟩⟩, ⟨q1, q2, q3, by rw [size_setCells]; exact Nat.le_refl _, fun k _ hk => setCells_other g news _ w k (fun e => hk (by simp [Value.ownBlock, e]))⟩, .inl rfl⟩
      · simp only [List.size_toArray, List.length_append, List.length_take, List.length_drop, Array.length_toList]
        omega
      · rw [htake, ← hlen]
        exact List.take_left
    · have holds : ∀ j u, xs[j]? = some u → w.cell? ((⟨g, 0, none⟩ : Addr).add j) = some u := hown.cells (g := g) rfl
      have hr := run_append_grow_src (P := P) w t tx ty e i z ht hi hz (some ⟨g, 0, none⟩) n cap xs (run_firstCells_some w.drew i.size n _ n cap xs hown.1 (by simpa using holds)) x m news hs (by omega) (by omega) (growslice_fits (by omega) hbytes)
      have hgr := grown cap (by omega) (Value.ownBlock (.slice (some ⟨g, 0, none⟩) n cap))
      exact ⟨_, _, hr, hgr.1, hgr.2, .inr rfl⟩

theorem wp_append_any {o : Oper} {a : Act} {K : Act → World → Prop} {Q : Exit → Act → World → Prop} (s x : Operand) (t tx : TypeId)
    (ho : o.op = .call { callee := .builtin .append, args := #[s, x], argTypes := #[t, tx] })
    (base : Nat) (e : TypeId) (i : TypeInfo) (z : Value) (size bytes : Nat) (ht : P.underlying t = some (.slice e)) (hi : P.info? e = some i) (hz : i.zero = some z)
    (hsize : i.size = size) (hby : i.bytes = bytes) (hzs : z.cells.size = size) (hsz : 0 < size)
    (v : Value) (n : Nat) (xs : List Value) (hs : a.eval s = v) (hown : w.ownsRow base e size v n xs)
    (y : Value) (m : Nat) (news : List Value) (hx : a.eval x = y) (hsrc : Src P size tx y m news w)
    (h63 : n + m ≤ maxLen) (hbytes : (n + m) * bytes ≤ 140737488355328) (hbase : base ≤ w.heap.size)
    (h : ∀ v' w', w'.ownsRow base e size v' (n + m) (xs ++ news) → w.grownBy w' v.ownBlock → (v'.ownBlock = v.ownBlock ∨ v'.ownBlock = some w.heap.size) → K (a.put o.dst v') w') : o.wp P a w K Q := by
  obtain ⟨v', w', hr, h2, h3, h4⟩ := run_append_any (P := P) w base t tx o.type e i z size bytes ht hi hz hsize hby hzs hsz v n xs hown y m news hsrc h63 hbytes hbase
  unfold Oper.wp execOp
  simp only [ho, resolve, invoke, builtin, Sem.run_bind, Sem.run_pure, Result.andThen_ok, List.map_toArray, List.map_cons, List.map_nil, hs, hx, hr]
  exact h v' w' h2 h3 h4
theorem wpList_append_any {ops : Array Oper} {rest : List Oper} {o : Oper} {a : Act} {Q : Exit → Act → World → Prop} (hgd : o.guard = none) (s x : Operand) (t tx : TypeId)
    (ho : o.op = .call { callee := .builtin .append, args := #[s, x], argTypes := #[t, tx] })
    (base : Nat) (e : TypeId) (i : TypeInfo) (z : Value) (size bytes : Nat) (ht : P.underlying t = some (.slice e)) (hi : P.info? e = some i) (hz : i.zero = some z)
    (hsize : i.size = size) (hby : i.bytes = bytes) (hzs : z.cells.size = size) (hsz : 0 < size)
    (v : Value) (n : Nat) (xs : List Value) (hs : a.eval s = v) (hown : w.ownsRow base e size v n xs)
    (y : Value) (m : Nat) (news : List Value) (hx : a.eval x = y) (hsrc : Src P size tx y m news w)
    (h63 : n + m ≤ maxLen) (hbytes : (n + m) * bytes ≤ 140737488355328) (hbase : base ≤ w.heap.size)
    (h : ∀ v' w', w'.ownsRow base e size v' (n + m) (xs ++ news) → w.grownBy w' v.ownBlock → (v'.ownBlock = v.ownBlock ∨ v'.ownBlock = some w.heap.size) → wpList P ops Q rest (a.put o.dst v') w') : wpList P ops Q (o :: rest) a w :=
  wpList_plain hgd fun _ hK => wp_append_any w s x t tx ho base e i z size bytes ht hi hz hsize hby hzs hsz v n xs hs hown y m news hx hsrc h63 hbytes hbase fun v' w' h2 h3 h4 => hK _ _ (h v' w' h2 h3 h4)
end
end Go.Proofs.YtmfdgpinohbckaaDoor


