/-
  LedgerText: the program's contract, over the library's contracts of Itoa, Join and the strings.Builder. Condition: the library's table lies as the row lists it.
-/
import Derived.Test.YtjjdehnpnfdjcabDoorLt0
import Derived.Test.YtjjdehnpnfdjcabDoorHl2
import Derived.Test.YtjjdehnpnfdjcabDoorBxq
import Derived.Test.YtjjdehnpnfdjcabDoorJn1
import Derived.Test.YtjjdehnpnfdjcabDoorFlb
import Derived.Test.YtjjdehnpnfdjcabDoorGk
import Derived.Test.YtjjdehnpnfdjcabDoorW0
namespace Go.Proofs.YtjjdehnpnfdjcabDoor
open Go.ChangeShapes Go.WideShapes Go.ChangeAt Go.RowKit Go.Deep

theorem Tryd.bldT : (Tryd.prog.info? 67).map (fun i => (i.zero, i.size)) = some (some (.agg #[.pointer none, .slice none 0 0]), 2) := by kernel_rfl
theorem writeString_any (B b : Nat) (bs : List Value) (s : ByteArray) (w : World) (h : Lib.IsBuilder 67 5 B b bs w) (hlen : bs.length + s.size ≤ 140737488355328) (hBw : B ≤ w.heap.size) :
    Calls Tryd.prog 35 #[.pointer (some ⟨b, 0, none⟩), .string s] w fun e w' => e = .returned (.tuple #[.int .i64 s.size, .nilIface]) ∧ (Lib.BuilderAt 67 5 B b (.pointer (some ⟨b, 0, none⟩)) (bs ++ Lib.strCells s) w' ∧ Below B w w') :=
  Any.Builder_WriteString { Tryd.lays156 with } Tryd.Builder_Extra_156 B b bs s w h hlen hBw
theorem builder_new (W : World) (B : Nat) (hB : B ≤ W.heap.size) : Lib.IsBuilder 67 5 B W.heap.size (Lib.byteCells ([] : List UInt8)) (W.alloc (.cells #[.pointer none, .slice none 0 0] 67)) :=
  Or.inl ⟨hB, .slice none 0 0, heap_alloc_new W _, ⟨rfl, .inl ⟨rfl, rfl⟩⟩, by simp [Value.ownBlock]⟩
theorem builder_keep {T e : TypeId} {B b : Nat} {bs : List Value} {w w' : World} (h : Lib.IsBuilder T e B b bs w) (hb : Below w.heap.size w w') : Lib.IsBuilder T e B b bs w' := by
  have key : ∀ p, Lib.BuilderAt T e B b p bs w → Lib.BuilderAt T e B b p bs w' := fun p ⟨h1, v, h2, h3, h4⟩ => ⟨h1, v, (hb.block b (by
    rcases Nat.lt_or_ge b w.heap.size with h' | h'
    · exact h'
    · simp [Array.getElem?_eq_none h'] at h2)).trans h2, own_keep' h3 hb, h4⟩
  exact h.imp (key _) (key _)


theorem own_four (w : World) (a b c d : ByteArray) : (w.alloc (.cells #[.string a, .string b, .string c, .string d] 9)).ownsRow w.heap.size 9 1 (.slice (some ⟨w.heap.size, 0, none⟩) [a, b, c, d].length 4) [a, b, c, d].length ([a, b, c, d].flatMap stc) :=
  ⟨rfl, .inr ⟨w.heap.size, 4, #[.string a, .string b, .string c, .string d], rfl, Nat.le_refl _, heap_alloc_new w _, Nat.le_refl _, by unfold maxLen; omega, by simp, by simp [stc]⟩⟩
theorem lt_join (sd sf st sw sn : ByteArray) : jnS ⟨#[32]⟩ [sd, sf ++ ⟨#[62]⟩ ++ st, sw, sn] ++ ⟨#[10]⟩ = (sd ++ ⟨#[32]⟩ ++ sf ++ ⟨#[62]⟩ ++ st) ++ (⟨#[32]⟩ ++ sw ++ ⟨#[32]⟩ ++ sn ++ ⟨#[10]⟩) := by
  rw [← jnK_nil]
  apply ByteArray.ext
  apply Array.toList_inj.1
  simp [jnK, ByteArray.data_append]
set_option maxRecDepth 100000 in
set_option maxHeartbeats 1000000 in
theorem whatWords_any (w : World) : Calls Tryd.prog 66 #[] w fun e w' => e = .returned (.slice (some ⟨w.heap.size, 0, none⟩) 5 5) ∧ Below w.heap.size w w' ∧ (∀ j, j < 5 → w'.cell? ⟨w.heap.size, j, none⟩ = some (.string (wdS j))) ∧ w.heap.size < w'.heap.size := by
  go_enter Tryd.func66, Tryd.ntmps66
  go_wp2
  go_ret
  refine ⟨rfl, (by repeat (first | exact Below.refl _ _ | refine Below.drew ?_ | refine Below.alloc ?_ (by simp <;> omega) _ | refine Below.setCell ?_ (by simp <;> omega) _)), fun j hj => ?_, by simp⟩
  have : j = 0 ∨ j = 1 ∨ j = 2 ∨ j = 3 ∨ j = 4 := by omega
  rcases this with rfl | rfl | rfl | rfl | rfl <;> simp [wdS]

set_option maxRecDepth 100000 in
set_option maxHeartbeats 4000000 in
theorem entryText_any (d f t k n : Nat) (hd : d ≤ 10000) (hf : f ≤ 5) (ht : t ≤ 5) (hk : k ≤ 4) (hn : n ≤ 1000) (w : World) (htab : Tab w) :
    Calls Tryd.prog 42 #[.agg #[.int .i16 d, .int .i8 f, .int .i8 t, .int .u8 k, .int .i16 n]] w fun e w' => e = .returned (.string (ltW ⟨d, f, t, k, n⟩)) ∧ Below w.heap.size w w' := by
  have HRes : Hid (ltW ⟨d, f, t, k, n⟩ = jnS ⟨#[32]⟩ [decS d, decS f ++ ⟨#[62]⟩ ++ decS t, wdS k, decS n] ++ ⟨#[10]⟩) := by show _ = _; rw [ltW_nat, lt_join]; rfl
  have HDd : Hid (∀ W, Tab W → Calls Tryd.prog 26 #[.int .i64 d] W fun e w' => e = .returned (.string (decS d)) ∧ Below W.heap.size W w') := fun W hW => itoaN d (by omega) W hW
  have hzd := decS_size d
  have ud : IntKind.i64.wrap (d : Int) = d := IntWalk.i64_in _ ⟨by omega, by omega⟩
  obtain ⟨sd, hsd⟩ : ∃ s, decS d = s := ⟨_, rfl⟩
  rw [hsd] at HDd hzd HRes
  clear hsd
  have HDf : Hid (∀ W, Tab W → Calls Tryd.prog 26 #[.int .i64 f] W fun e w' => e = .returned (.string (decS f)) ∧ Below W.heap.size W w') := fun W hW => itoaN f (by omega) W hW
  have hzf := decS_size f
  have uf : IntKind.i64.wrap (f : Int) = f := IntWalk.i64_in _ ⟨by omega, by omega⟩
  obtain ⟨sf, hsf⟩ : ∃ s, decS f = s := ⟨_, rfl⟩
  rw [hsf] at HDf hzf HRes
  clear hsf
  have HDt : Hid (∀ W, Tab W → Calls Tryd.prog 26 #[.int .i64 t] W fun e w' => e = .returned (.string (decS t)) ∧ Below W.heap.size W w') := fun W hW => itoaN t (by omega) W hW
  have hzt := decS_size t
  have ut : IntKind.i64.wrap (t : Int) = t := IntWalk.i64_in _ ⟨by omega, by omega⟩
  obtain ⟨st, hst⟩ : ∃ s, decS t = s := ⟨_, rfl⟩
  rw [hst] at HDt hzt HRes
  clear hst
  have HDn : Hid (∀ W, Tab W → Calls Tryd.prog 26 #[.int .i64 n] W fun e w' => e = .returned (.string (decS n)) ∧ Below W.heap.size W w') := fun W hW => itoaN n (by omega) W hW
  have hzn := decS_size n
  have un : IntKind.i64.wrap (n : Int) = n := IntWalk.i64_in _ ⟨by omega, by omega⟩
  obtain ⟨sn, hsn⟩ : ∃ s, decS n = s := ⟨_, rfl⟩
  rw [hsn] at HDn hzn HRes
  clear hsn
  have hB0 : Below w.heap.size w (w.alloc (.cells #[.int .i16 d, .int .i8 f, .int .i8 t, .int .u8 k, .int .i16 n] 80)) := (Below.refl _ w).alloc (Nat.le_refl _) _
  have hC0 : (w.alloc (.cells #[.int .i16 d, .int .i8 f, .int .i8 t, .int .u8 k, .int .i16 n] 80)).cell? ⟨w.heap.size, 0, none⟩ = some (.int .i16 d) ∧ (w.alloc (.cells #[.int .i16 d, .int .i8 f, .int .i8 t, .int .u8 k, .int .i16 n] 80)).cell? ⟨w.heap.size, 1, none⟩ = some (.int .i8 f) ∧ (w.alloc (.cells #[.int .i16 d, .int .i8 f, .int .i8 t, .int .u8 k, .int .i16 n] 80)).cell? ⟨w.heap.size, 2, none⟩ = some (.int .i8 t) ∧ (w.alloc (.cells #[.int .i16 d, .int .i8 f, .int .i8 t, .int .u8 k, .int .i16 n] 80)).cell? ⟨w.heap.size, 3, none⟩ = some (.int .u8 k) ∧ (w.alloc (.cells #[.int .i16 d, .int .i8 f, .int .i8 t, .int .u8 k, .int .i16 n] 80)).cell? ⟨w.heap.size, 4, none⟩ = some (.int .i16 n) ∧ w.heap.size < (w.alloc (.cells #[.int .i16 d, .int .i8 f, .int .i8 t, .int .u8 k, .int .i16 n] 80)).heap.size := by simp
  go_enter Tryd.func42, Tryd.ntmps42
  go_wp2_with fail
  obtain ⟨W1, hW1⟩ : ∃ W1, (w.alloc (.cells #[.int .i16 d, .int .i8 f, .int .i8 t, .int .u8 k, .int .i16 n] 80)) = W1 := ⟨_, rfl⟩
  rw [hW1] at hB0 hC0 ⊢
  obtain ⟨q0, q1, q2, q3, q4, hs1⟩ := hC0
  have HB0 := Lib.hid hB0
  have HTb := Lib.hid (Tab.on htab hB0 (Nat.le_refl _))
  have hn1 : ¬ (9223372036854775807 < sf.size + 1) := by omega
  have hn2 : ¬ (9223372036854775807 < sf.size + 1 + st.size) := by omega
  clear hW1 hB0 htab
  refine wp_region_held_drew (S := fun w' => Below W1.heap.size W1 w') (by kernel_rfl) (Below.refl _ _).drew (fun hHeld => ?_)
  refine wpAnyH_take (i := 0) (v := .pointer (some ⟨w.heap.size, 1, none⟩)) rfl (by kernel_rfl) (by kernel_rfl) (by kernel_rfl) (fun _ _ _ h => h) (Or.inl ⟨by rfl, fun w' h => by go_simp⟩) (by assumption) ?_
  try simp only [Act.put, List.getElem_toArray, List.getElem_cons_zero, List.getElem_cons_succ, List.setIfInBounds_toArray, List.set_cons_zero, List.set_cons_succ]
  refine wpAnyH_take (i := 1) (v := .int .i8 f) rfl (by kernel_rfl) (by kernel_rfl) (by kernel_rfl) (fun _ _ _ h => h) (Or.inl ⟨by rfl, fun w' h => by have e8 := (h.cell (p := ⟨w.heap.size, 1, none⟩) hs1).trans q1; go_simp⟩) (by assumption) ?_
  try simp only [Act.put, List.getElem_toArray, List.getElem_cons_zero, List.getElem_cons_succ, List.setIfInBounds_toArray, List.set_cons_zero, List.set_cons_succ]
  refine wpAnyH_take (i := 2) (v := .int .i64 f) rfl (by kernel_rfl) (by kernel_rfl) (by kernel_rfl) (fun _ _ _ h => h) (Or.inl ⟨by rfl, fun w' h => by go_simp⟩) (by assumption) ?_
  try simp only [Act.put, List.getElem_toArray, List.getElem_cons_zero, List.getElem_cons_succ, List.setIfInBounds_toArray, List.set_cons_zero, List.set_cons_succ]
  refine wpAnyH_take (i := 5) (v := .pointer (some ⟨w.heap.size, 2, none⟩)) rfl (by kernel_rfl) (by kernel_rfl) (by kernel_rfl) (fun _ _ _ h => h) (Or.inl ⟨by rfl, fun w' h => by go_simp⟩) (by assumption) ?_
  try simp only [Act.put, List.getElem_toArray, List.getElem_cons_zero, List.getElem_cons_succ, List.setIfInBounds_toArray, List.set_cons_zero, List.set_cons_succ]
  refine wpAnyH_take (i := 6) (v := .int .i8 t) rfl (by kernel_rfl) (by kernel_rfl) (by kernel_rfl) (fun _ _ _ h => h) (Or.inl ⟨by rfl, fun w' h => by have e8 := (h.cell (p := ⟨w.heap.size, 2, none⟩) hs1).trans q2; go_simp⟩) (by assumption) ?_
  try simp only [Act.put, List.getElem_toArray, List.getElem_cons_zero, List.getElem_cons_succ, List.setIfInBounds_toArray, List.set_cons_zero, List.set_cons_succ]
  refine wpAnyH_take (i := 7) (v := .int .i64 t) rfl (by kernel_rfl) (by kernel_rfl) (by kernel_rfl) (fun _ _ _ h => h) (Or.inl ⟨by rfl, fun w' h => by go_simp⟩) (by assumption) ?_
  try simp only [Act.put, List.getElem_toArray, List.getElem_cons_zero, List.getElem_cons_succ, List.setIfInBounds_toArray, List.set_cons_zero, List.set_cons_succ]
  obtain ⟨D0, hD0⟩ : ∃ D0, W1.drew = D0 := ⟨_, rfl⟩
  rw [hD0] at hHeld ⊢
  clear hD0
  refine wpAnyH_ready (rs := [3]) (by kernel_rfl) (by simp) ?_
  refine AllReadyH.cons rfl (fun K hK => ?_) AllReadyH.nil
  refine if_wanted rfl ?_
  go_simp
  refine (HDf.out _ (HTb.out.on hHeld (Nat.le_refl _))).mono ?_
  rintro z w3 ⟨rfl, hb⟩
  have hH2 : Below W1.heap.size W1 w3 := hHeld.trans (hb.mono hHeld.size)
  clear hb hHeld
  dsimp only
  refine hK.out _ _ hH2 (fun hHeld => ?_)
  clear hK K hH2
  try simp only [Act.put, List.getElem_toArray, List.getElem_cons_zero, List.getElem_cons_succ, List.setIfInBounds_toArray, List.set_cons_zero, List.set_cons_succ]
  refine wpAnyH_take (i := 4) (v := .string (sf ++ ⟨#[62]⟩)) rfl (by kernel_rfl) (by kernel_rfl) (by kernel_rfl) (fun _ _ _ h => h) (Or.inl ⟨by rfl, fun w' h => by go_simp⟩) (by assumption) ?_
  try simp only [Act.put, List.getElem_toArray, List.getElem_cons_zero, List.getElem_cons_succ, List.setIfInBounds_toArray, List.set_cons_zero, List.set_cons_succ]
  refine wpAnyH_ready (rs := [8]) (by kernel_rfl) (by simp) ?_
  refine AllReadyH.cons rfl (fun K hK => ?_) AllReadyH.nil
  refine if_wanted rfl ?_
  go_simp
  refine (HDt.out _ (HTb.out.on hHeld (Nat.le_refl _))).mono ?_
  rintro z W5 ⟨rfl, hb⟩
  have hH2 : Below W1.heap.size W1 W5 := hHeld.trans (hb.mono hHeld.size)
  clear hb hHeld
  dsimp only
  refine hK.out _ _ hH2 (fun hHeld => ?_)
  clear hK K hH2
  try simp only [Act.put, List.getElem_toArray, List.getElem_cons_zero, List.getElem_cons_succ, List.setIfInBounds_toArray, List.set_cons_zero, List.set_cons_succ]
  refine wpAnyH_take (i := 9) (v := .string (sf ++ ⟨#[62]⟩ ++ st)) rfl (by kernel_rfl) (by kernel_rfl) (by kernel_rfl) (fun _ _ _ h => h) (Or.inl ⟨by rfl, fun w' h => by go_simp⟩) (by assumption) ?_
  try simp only [Act.put, List.getElem_toArray, List.getElem_cons_zero, List.getElem_cons_succ, List.setIfInBounds_toArray, List.set_cons_zero, List.set_cons_succ]
  refine wpAnyH_ready (rs := [10]) (by kernel_rfl) (by simp) ?_
  refine AllReadyH.cons rfl (fun K hK => ?_) AllReadyH.nil
  refine if_wanted rfl ?_
  refine wp_assign0 (x := .tmp 14) (v := .string (sf ++ ⟨#[62]⟩ ++ st)) rfl (by go_simp) ?_
  refine hK.out _ _ hHeld (fun hHeld => ?_)
  clear hK K
  try simp only [Act.put, List.getElem_toArray, List.getElem_cons_zero, List.getElem_cons_succ, List.setIfInBounds_toArray, List.set_cons_zero, List.set_cons_succ]
  refine wpAnyH_done (by kernel_rfl) ?_ _
  try simp only [Act.put, List.getElem_toArray, List.getElem_cons_zero, List.getElem_cons_succ, List.setIfInBounds_toArray, List.set_cons_zero, List.set_cons_succ]
  have hb := hHeld
  clear hHeld
  have HB5 := Lib.hid (HB0.out.trans (hb.mono HB0.out.size))
  have HT5 := Lib.hid (HTb.out.on hb (Nat.le_refl _))
  have r0 := (hb.cell (p := ⟨w.heap.size, 0, none⟩) hs1).trans q0
  have r3 := (hb.cell (p := ⟨w.heap.size, 3, none⟩) hs1).trans q3
  have r4 := (hb.cell (p := ⟨w.heap.size, 4, none⟩) hs1).trans q4
  have hs5 : w.heap.size < W5.heap.size := Nat.lt_of_lt_of_le hs1 hb.size
  obtain ⟨ss, hss⟩ : ∃ u, sf ++ ⟨#[62]⟩ ++ st = u := ⟨_, rfl⟩
  have hzs : ss.size ≤ 20 := by rw [← hss]; simp only [ByteArray.size_append]; have : (⟨#[62]⟩ : ByteArray).size = 1 := rfl; omega
  rw [hss] at HRes ⊢
  clear hb q0 q1 q2 q3 q4 hn1 hn2 hss
  go_wp2_with fail
  refine wp_region_held_drew (S := fun w' => Below W5.heap.size W5 w') (by kernel_rfl) (Below.refl _ _).drew (fun hHeld => ?_)
  refine wpAnyH_take (i := 0) (v := .pointer (some ⟨w.heap.size, 0, none⟩)) rfl (by kernel_rfl) (by kernel_rfl) (by kernel_rfl) (fun _ _ _ h => h) (Or.inl ⟨by rfl, fun w' h => by go_simp⟩) (by assumption) ?_
  try simp only [Act.put, List.getElem_toArray, List.getElem_cons_zero, List.getElem_cons_succ, List.setIfInBounds_toArray, List.set_cons_zero, List.set_cons_succ]
  refine wpAnyH_take (i := 1) (v := .int .i16 d) rfl (by kernel_rfl) (by kernel_rfl) (by kernel_rfl) (fun _ _ _ h => h) (Or.inl ⟨by rfl, fun w' h => by have e8 := (h.cell (p := ⟨w.heap.size, 0, none⟩) hs5).trans r0; go_simp⟩) (by assumption) ?_
  try simp only [Act.put, List.getElem_toArray, List.getElem_cons_zero, List.getElem_cons_succ, List.setIfInBounds_toArray, List.set_cons_zero, List.set_cons_succ]
  refine wpAnyH_take (i := 2) (v := .int .i64 d) rfl (by kernel_rfl) (by kernel_rfl) (by kernel_rfl) (fun _ _ _ h => h) (Or.inl ⟨by rfl, fun w' h => by go_simp⟩) (by assumption) ?_
  try simp only [Act.put, List.getElem_toArray, List.getElem_cons_zero, List.getElem_cons_succ, List.setIfInBounds_toArray, List.set_cons_zero, List.set_cons_succ]
  refine wpAnyH_take (i := 4) (v := .string ss) rfl (by kernel_rfl) (by kernel_rfl) (by kernel_rfl) (fun _ _ _ h => h) (Or.inl ⟨by rfl, fun w' h => by go_simp⟩) (by assumption) ?_
  try simp only [Act.put, List.getElem_toArray, List.getElem_cons_zero, List.getElem_cons_succ, List.setIfInBounds_toArray, List.set_cons_zero, List.set_cons_succ]
  refine wpAnyH_take (i := 6) (v := .pointer (some ⟨w.heap.size, 3, none⟩)) rfl (by kernel_rfl) (by kernel_rfl) (by kernel_rfl) (fun _ _ _ h => h) (Or.inl ⟨by rfl, fun w' h => by go_simp⟩) (by assumption) ?_
  try simp only [Act.put, List.getElem_toArray, List.getElem_cons_zero, List.getElem_cons_succ, List.setIfInBounds_toArray, List.set_cons_zero, List.set_cons_succ]
  refine wpAnyH_take (i := 7) (v := .int .u8 k) rfl (by kernel_rfl) (by kernel_rfl) (by kernel_rfl) (fun _ _ _ h => h) (Or.inl ⟨by rfl, fun w' h => by have e8 := (h.cell (p := ⟨w.heap.size, 3, none⟩) hs5).trans r3; go_simp⟩) (by assumption) ?_
  try simp only [Act.put, List.getElem_toArray, List.getElem_cons_zero, List.getElem_cons_succ, List.setIfInBounds_toArray, List.set_cons_zero, List.set_cons_succ]
  refine wpAnyH_take (i := 10) (v := .pointer (some ⟨w.heap.size, 4, none⟩)) rfl (by kernel_rfl) (by kernel_rfl) (by kernel_rfl) (fun _ _ _ h => h) (Or.inl ⟨by rfl, fun w' h => by go_simp⟩) (by assumption) ?_
  try simp only [Act.put, List.getElem_toArray, List.getElem_cons_zero, List.getElem_cons_succ, List.setIfInBounds_toArray, List.set_cons_zero, List.set_cons_succ]
  refine wpAnyH_take (i := 11) (v := .int .i16 n) rfl (by kernel_rfl) (by kernel_rfl) (by kernel_rfl) (fun _ _ _ h => h) (Or.inl ⟨by rfl, fun w' h => by have e8 := (h.cell (p := ⟨w.heap.size, 4, none⟩) hs5).trans r4; go_simp⟩) (by assumption) ?_
  try simp only [Act.put, List.getElem_toArray, List.getElem_cons_zero, List.getElem_cons_succ, List.setIfInBounds_toArray, List.set_cons_zero, List.set_cons_succ]
  refine wpAnyH_take (i := 12) (v := .int .i64 n) rfl (by kernel_rfl) (by kernel_rfl) (by kernel_rfl) (fun _ _ _ h => h) (Or.inl ⟨by rfl, fun w' h => by go_simp⟩) (by assumption) ?_
  try simp only [Act.put, List.getElem_toArray, List.getElem_cons_zero, List.getElem_cons_succ, List.setIfInBounds_toArray, List.set_cons_zero, List.set_cons_succ]
  obtain ⟨D0, hD0⟩ : ∃ D0, W5.drew = D0 := ⟨_, rfl⟩
  rw [hD0] at hHeld ⊢
  clear hD0
  refine wpAnyH_ready (rs := [3]) (by kernel_rfl) (by simp) ?_
  refine AllReadyH.cons rfl (fun K hK => ?_) AllReadyH.nil
  refine if_wanted rfl ?_
  go_simp
  refine (HDd.out _ (HT5.out.on hHeld (Nat.le_refl _))).mono ?_
  rintro z w6 ⟨rfl, hb⟩
  have hH2 : Below W5.heap.size W5 w6 := hHeld.trans (hb.mono hHeld.size)
  clear hb hHeld
  dsimp only
  refine hK.out _ _ hH2 (fun hHeld => ?_)
  clear hK K hH2
  try simp only [Act.put, List.getElem_toArray, List.getElem_cons_zero, List.getElem_cons_succ, List.setIfInBounds_toArray, List.set_cons_zero, List.set_cons_succ]
  obtain ⟨g, hg⟩ : ∃ g, w6.heap.size = g := ⟨_, rfl⟩
  have HWd := Lib.hid (whatWords_any w6)
  rw [hg] at HWd
  refine wpAnyH_ready (rs := [5]) (by kernel_rfl) (by simp) ?_
  refine AllReadyH.cons rfl (fun K hK => ?_) AllReadyH.nil
  refine if_wanted rfl ?_
  go_simp
  refine HWd.out.mono ?_
  rintro z w8 ⟨rfl, hb, hcw, hgl⟩
  have hH2 : Below W5.heap.size W5 w8 := hHeld.trans ((hg ▸ hb).mono hHeld.size)
  clear hb hHeld HWd hg
  dsimp only
  refine hK.out _ _ hH2 (fun hHeld => ?_)
  clear hK K
  refine wpAnyH_sub (S' := fun w' => Below w8.heap.size w8 w') (fun w' hw => hH2.trans (hw.mono hH2.size)) _ _ _ _ ?_
  have hHeld : Below w8.heap.size w8 w8 := Below.refl _ _
  try simp only [Act.put, List.getElem_toArray, List.getElem_cons_zero, List.getElem_cons_succ, List.setIfInBounds_toArray, List.set_cons_zero, List.set_cons_succ]
  have hck := hcw k (by omega)
  have HT8 := Lib.hid (HT5.out.on hH2 (Nat.le_refl _))
  refine wpAnyH_take (i := 8) (v := .pointer (some ⟨g, k, none⟩)) rfl (by kernel_rfl) (by kernel_rfl) (by kernel_rfl) (fun _ _ _ h => h) (Or.inl ⟨by rfl, fun w' h => by have hk5 : ¬ (5 : Int) ≤ (k : Int) := (by omega); have hk6 : (k : Int) < 5 := (by omega); go_simp⟩) (by assumption) ?_
  try simp only [Act.put, List.getElem_toArray, List.getElem_cons_zero, List.getElem_cons_succ, List.setIfInBounds_toArray, List.set_cons_zero, List.set_cons_succ]
  refine wpAnyH_take (i := 9) (v := .string (wdS k)) rfl (by kernel_rfl) (by kernel_rfl) (by kernel_rfl) (fun _ _ _ h => h) (Or.inl ⟨by rfl, fun w' h => by have e8 := (h.cell (p := ⟨g, k, none⟩) hgl).trans hck; go_simp⟩) (by assumption) ?_
  try simp only [Act.put, List.getElem_toArray, List.getElem_cons_zero, List.getElem_cons_succ, List.setIfInBounds_toArray, List.set_cons_zero, List.set_cons_succ]
  obtain ⟨sw, hsw⟩ : ∃ s, wdS k = s := ⟨_, rfl⟩
  rw [hsw] at HRes ⊢
  have hzw : sw.size ≤ 5 := by rw [← hsw]; exact wdS_size k
  clear hsw hck hcw
  refine wpAnyH_ready (rs := [13]) (by kernel_rfl) (by simp) ?_
  refine AllReadyH.cons rfl (fun K hK => ?_) AllReadyH.nil
  refine if_wanted rfl ?_
  go_simp
  refine (HDn.out _ (HT8.out.on hHeld (Nat.le_refl _))).mono ?_
  rintro z w10 ⟨rfl, hb⟩
  have hH2 : Below w8.heap.size w8 w10 := hHeld.trans (hb.mono hHeld.size)
  clear hb hHeld
  dsimp only
  refine hK.out _ _ hH2 (fun hHeld => ?_)
  clear hK K hH2
  try simp only [Act.put, List.getElem_toArray, List.getElem_cons_zero, List.getElem_cons_succ, List.setIfInBounds_toArray, List.set_cons_zero, List.set_cons_succ]
  refine wpAnyH_ready (rs := [14]) (by kernel_rfl) (by simp) ?_
  refine AllReadyH.cons rfl (fun K hK => ?_) AllReadyH.nil
  refine if_wanted rfl ?_
  go_simp
  have HJ := Lib.hid (joinO_any [sd, ss, sw, sn] ⟨#[32]⟩ (by have := jnS_size (sp := ⟨#[32]⟩) (ws := [sd, ss, sw, sn]) (b := 10100) rfl (fun x hx => by simp only [List.mem_cons, List.not_mem_nil, or_false] at hx; rcases hx with rfl | rfl | rfl | rfl <;> omega); simp only [List.length_cons, List.length_nil] at this; omega) (by show 4 ≤ _; omega) w10.heap.size (some ⟨w10.heap.size, 0, none⟩) 4 _ (own_four w10 sd ss sw sn))
  have HA9 := Lib.hid (hHeld.alloc hHeld.size (.cells #[.string sd, .string ss, .string sw, .string sn] 9))
  refine hK.out _ _ HA9.out (fun hHeld => ?_)
  clear hK K hHeld
  try simp only [Act.put, List.getElem_toArray, List.getElem_cons_zero, List.getElem_cons_succ, List.setIfInBounds_toArray, List.set_cons_zero, List.set_cons_succ]
  have hHeld := HA9.out
  refine wpAnyH_ready (rs := [15]) (by kernel_rfl) (by simp) ?_
  refine AllReadyH.cons rfl (fun K hK => ?_) AllReadyH.nil
  refine if_wanted rfl ?_
  refine wp_assign0 (v := .slice (some ⟨w10.heap.size, 0, none⟩) 4 4) rfl rfl ?_
  refine hK.out _ _ hHeld (fun hHeld => ?_)
  clear hK K
  try simp only [Act.put, List.getElem_toArray, List.getElem_cons_zero, List.getElem_cons_succ, List.setIfInBounds_toArray, List.set_cons_zero, List.set_cons_succ]
  refine wpAnyH_done (by kernel_rfl) ?_ _
  try simp only [Act.put, List.getElem_toArray, List.getElem_cons_zero, List.getElem_cons_succ, List.setIfInBounds_toArray, List.set_cons_zero, List.set_cons_succ]
  have hb := hHeld
  clear hHeld
  have HB9 := Lib.hid (HB5.out.trans ((hH2.trans (hb.mono hH2.size)).mono HB5.out.size))
  have HL4 : ([sd, ss, sw, sn] : List ByteArray).length = 4 := rfl
  rw [HL4] at HJ
  have hjz := jnS_size (sp := ⟨#[32]⟩) (ws := [sd, ss, sw, sn]) (b := 10100) rfl (fun x hx => by simp only [List.mem_cons, List.not_mem_nil, or_false] at hx; rcases hx with rfl | rfl | rfl | rfl <;> omega)
  rw [HL4] at hjz
  obtain ⟨js, hjs⟩ : ∃ j, jnS ⟨#[32]⟩ [sd, ss, sw, sn] = j := ⟨_, rfl⟩
  rw [hjs] at HJ HRes hjz
  have hn1 : ¬ (9223372036854775807 < js.size + 1) := by omega
  clear hb hH2 hjs HA9 HL4
  go_wp2_with fail
  refine HJ.out.mono ?_
  rintro z w11 ⟨rfl, hb⟩
  have HB11 := Lib.hid (HB9.out.trans (hb.mono HB9.out.size))
  clear hb HJ
  go_wp2
  first | go_ret | skip
  exact ⟨by (rw [HRes.out]; first | done | rfl), HB11.out⟩

set_option maxRecDepth 100000 in
set_option maxHeartbeats 4000000 in
theorem implLedgerText_any (l : List Ent) (hwf : ∀ x ∈ l, wfE x) (A : Option Addr) (c : Nat) (w : World) (hl : l.length ≤ 1048576) (hr : Rd w w.heap.size ecells A l) (ht : Tab w) :
    Calls Tryd.prog 19 #[.slice A l.length c] w fun e w' => e = .returned (.string (ltA l)) ∧ Below w.heap.size w w' := by
  have HC := Lib.hid (implValidLedger_any 6 l hwf A c w hl hr)
  have HR := Lib.hid hr
  have HT := Lib.hid ht
  have HW := Lib.hid hwf
  clear hr ht hwf
  go_enter Tryd.func19, Tryd.ntmps19
  go_wp2_with fail
  refine HC.out.mono ?_
  rintro e w1 ⟨rfl, hb⟩
  have HB := Lib.hid hb
  clear HC hb
  cases h0 : leOk 6 l
  · have E := Lib.hid (ltA_no h0)
    clear h0
    go_wp2
    first | go_ret | skip
    exact ⟨by (rw [E.out]; first | done | rfl), HB.out⟩
  have E := Lib.hid (ltA_yes h0)
  obtain ⟨-, hl8, hen⟩ := leOk_out h0
  have HSz : Hid (∀ k, (ltT l k).size ≤ 11040 * k) := ltT_size hen HW.out
  have HEn := Lib.hid hen
  have HBu := Lib.hid (builder_new w1 w1.heap.size (Nat.le_refl _))
  have HB1 : Hid (Below w1.heap.size w1 (w1.alloc (.cells #[.pointer none, .slice none 0 0] 67))) := (Below.refl _ _).alloc (Nat.le_refl _) _
  have HR1 := Lib.hid (HR.out.keep HB.out)
  have HTb := Lib.hid (HT.out.on HB.out (Nat.le_refl _))
  clear h0 hen
  go_wp2_with fail
  go_loopw [11] (fun i wr => ∃ (a : Nat), a ≤ l.length ∧ i = .int .i64 a ∧ Lib.IsBuilder 67 5 w1.heap.size w1.heap.size (Lib.byteCells (ltT l a).data.toList) wr ∧ Below w1.heap.size w1 wr) (fun i _ => l.length - (intOf i).toNat)
  case atStart => exact ⟨0, by omega, rfl, HBu.out, HB1.out⟩
  case round =>
    clear HBu HB1
    obtain ⟨a, ha, rfl, hBu, hB⟩ := hrel
    obtain ⟨wa, rfl⟩ : ∃ u, u = wr := ⟨_, rfl⟩
    have HBu := Lib.hid hBu
    have HB2 := Lib.hid hB
    have hsz := HSz.out a
    clear hB hBu
    have ha0 : (0 : Int) ≤ (a : Int) := Int.natCast_nonneg _
    by_cases hlt : a < l.length
    · have ha8 : (a : Int) < l.length := by omega
      obtain ⟨x, hx⟩ : ∃ x, l[a]? = some x := ⟨_, List.getElem?_eq_getElem hlt⟩
      have hm := List.mem_of_getElem? hx
      obtain ⟨d, f, t, k, n, rfl, hd, hf, ht, hk, hn⟩ := en_nat (HEn.out _ hm) (HW.out _ hm)
      obtain ⟨b, q, rfl, hbl, hrow⟩ := (HR1.out.keep HB2.out).at_ ecells_length hx
      obtain ⟨e0, e1, e2, e3, e4⟩ := rowE5 hrow
      simp only at e0 e1 e2 e3 e4
      have HSt := Lib.hid (ltT_succ hx)
      have h1 := lt1_size hd hf ht
      have h2 := lt2_size (k := k) hn
      have HAx : Hid (Below wa.heap.size wa (wa.alloc (.cells #[.int .i16 d, .int .i8 f, .int .i8 t, .int .u8 k, .int .i16 n] 80))) := (Below.refl _ _).alloc (Nat.le_refl _) _
      have HD := Lib.hid (entryText_any d f t k n hd hf ht hk hn (wa.alloc (.cells #[.int .i16 d, .int .i8 f, .int .i8 t, .int .u8 k, .int .i16 n] 80)) (HTb.out.on (HB2.out.trans (HAx.out.mono HB2.out.size)) (Nat.le_refl _)))
      have hzl : (ltW ⟨d, f, t, k, n⟩).size ≤ 11040 := by rw [ltW_nat, ByteArray.size_append]; omega
      obtain ⟨js, hjs⟩ : ∃ j, ltW ⟨d, f, t, k, n⟩ = j := ⟨_, rfl⟩
      obtain ⟨tx, htx⟩ : ∃ u, ltT l a = u := ⟨_, rfl⟩
      rw [hjs] at HD hzl HSt
      rw [htx] at HBu hsz HSt
      have HMc : Hid (Lib.byteCells tx.data.toList ++ Lib.strCells js = Lib.byteCells (ltT l (a + 1)).data.toList) := by
        show _ = _
        rw [HSt.out]; simp [Lib.byteCells, Lib.strCells, ByteArray.data_append]
      have HTx : Hid ((Lib.byteCells tx.data.toList).length = tx.size) := by show _ = _; rw [Lib.byteCells, List.length_map]; rfl
      have hszs : tx.size + js.size ≤ 140737488355328 := by omega
      clear hx hrow hm hjs htx h1 h2
      go_wp2_with fail
      refine HD.out.mono ?_
      rintro e w3 ⟨rfl, hb3⟩
      have hb3' := HAx.out.trans (hb3.mono HAx.out.size)
      have HBu5 := Lib.hid (builder_keep HBu.out hb3')
      have HB5 := Lib.hid (HB2.out.trans (hb3'.mono HB2.out.size))
      have HWs := Lib.hid (writeString_any w1.heap.size w1.heap.size (Lib.byteCells tx.data.toList) js w3 HBu5.out (by rw [HTx.out]; exact hszs) HB5.out.size)
      rw [HMc.out] at HWs
      clear hb3 hb3' HD e0 e1 e2 e3 e4
      go_wp2_with fail
      refine HWs.out.mono ?_
      rintro e w4 ⟨rfl, hBu, hb4⟩
      have HBu6 : Hid (Lib.IsBuilder 67 5 w1.heap.size w1.heap.size (Lib.byteCells (ltT l (a + 1)).data.toList) w4) := Or.inr hBu
      have HB6 := Lib.hid (HB5.out.trans hb4)
      clear hBu hb4 HWs
      go_wp2
      go_roundw
      case rel => exact ⟨a + 1, by omega, by go_num, HBu6.out, HB6.out⟩
      case measure => first | (simp [intOf]; done) | (simp [intOf]; omega)
    · obtain rfl : a = l.length := by omega
      have HSt := Lib.hid (Tryd.Builder_String_any w1.heap.size w1.heap.size (ltT l l.length).data.toList wa HBu.out HB2.out.size)
      go_wp2_with fail
      refine HSt.out.mono ?_
      rintro e w4 ⟨rfl, hb4⟩
      have HB6 := Lib.hid (HB.out.trans ((HB2.out.trans hb4).mono HB.out.size))
      clear hb4 HSt
      go_wp2
      go_ret
      exact ⟨by (rw [E.out]; first | done | rfl), HB6.out⟩
end Go.Proofs.YtjjdehnpnfdjcabDoor
