/-
  RackText: the program's contract, over the library's contracts of Itoa, Join and the strings.Builder. Condition: the library's table and the error for what is invalid lie as the row lists them.
-/
import Derived.Test.YtjjdehnpnfdjcabDoorRx0
import Derived.Test.YtjjdehnpnfdjcabDoorFlb
import Derived.Test.YtjjdehnpnfdjcabDoorGk
import Derived.Test.YtjjdehnpnfdjcabDoorW0
namespace Go.Proofs.YtjjdehnpnfdjcabDoor
open Go.ChangeShapes Go.WideShapes Go.ChangeAt Go.RowKit Go.Deep

theorem Tryd.bldT : (Tryd.prog.info? 67).map (fun i => (i.zero, i.size)) = some (some (.agg #[.pointer none, .slice none 0 0]), 2) := by kernel_rfl
theorem writeString_any (B b : Nat) (bs : List Value) (s : ByteArray) (w : World) (h : Lib.IsBuilder 67 5 B b bs w) (hlen : bs.length + s.size ≤ 140737488355328) (hBw : B ≤ w.heap.size) :
    Calls Tryd.prog 35 #[.pointer (some ⟨b, 0, none⟩), .string s] w fun e w' => e = .returned (.tuple #[.int .i64 s.size, .nilIface]) ∧ (Lib.BuilderAt 67 5 B b (.pointer (some ⟨b, 0, none⟩)) (bs ++ Lib.strCells s) w' ∧ Below B w w') :=
  Any.Builder_WriteString { Tryd.lays156 with } Tryd.Builder_Extra_156 B b bs s w h hlen hBw
theorem builder_new (W : World) (B : Nat) (hB : B ≤ W.heap.size) : Lib.IsBuilder 67 5 B W.heap.size (Lib.byteCells ([] : List UInt8)) (W.alloc (.cells #[.pointer none, .slice none 0 0] 67)) :=
  Or.inl ⟨hB, .slice none 0 0, heap_alloc_new W _, ⟨rfl, .inl ⟨rfl, rfl⟩⟩, by simp [Value.ownBlock]⟩
theorem builder_keep {T e : TypeId} {B b : Nat} {bs : List Value} {w w' : World} (h : Lib.IsBuilder T e B b bs w) (hb : Below w.heap.size w w') : Lib.IsBuilder T e B b bs w' := by
  have key : ∀ p, Lib.BuilderAt T e B b p bs w → Lib.BuilderAt T e B b p bs w' := fun p ⟨h1, v, h2, h3, h4⟩ => ⟨h1, v, (hb.block b (by
    rcases Nat.lt_or_ge b w.heap.size with h' | h'
    · exact h'
    · simp [Array.getElem?_eq_none h'] at h2)).trans h2, own_keep' h3 hb, h4⟩
  exact h.imp (key _) (key _)


set_option maxRecDepth 100000 in
set_option maxHeartbeats 2000000 in
theorem storedText_any (p q n : Nat) (hp : p ≤ 20) (hq : q ≤ 2099) (hn : n ≤ 2000) (hvb : vB ((p : Int), (q : Int)) = true) (w : World) (ht : Tab w) :
    Calls Tryd.prog 34 #[.agg #[.int .u8 p, .int .i16 q, .int .i16 n]] w fun e w' => e = .returned (.string (rxW (((p : Int), (q : Int)), (n : Int)))) ∧ Below w.heap.size w w' := by
  rw [rxW_nat]
  have HDa : Hid (∀ W, Tab W → Calls Tryd.prog 25 #[.agg #[.int .u8 p, .int .i16 q]] W fun e w' => e = .returned (.string (btS p q)) ∧ Below W.heap.size W w') := fun W hW => by
    have := bottleText_any p q W hW
    rwa [btV, if_pos hvb] at this
  have HDb : Hid (∀ W, Tab W → Calls Tryd.prog 26 #[.int .i64 n] W fun e w' => e = .returned (.string (decS n)) ∧ Below W.heap.size W w') := fun W hW => itoaN n (by omega) W hW
  have u1 : IntKind.i64.wrap (n : Int) = n := IntWalk.i64_in _ ⟨by omega, by omega⟩
  have hza := btS_size hp hq
  have hzb := decS_size n
  have hB0 : Below w.heap.size w (w.alloc (.cells #[.int .u8 p, .int .i16 q, .int .i16 n] 69)) := (Below.refl _ w).alloc (Nat.le_refl _) _
  have hC0 : (w.alloc (.cells #[.int .u8 p, .int .i16 q, .int .i16 n] 69)).cell? ⟨w.heap.size, 0, none⟩ = some (.int .u8 p) ∧ (w.alloc (.cells #[.int .u8 p, .int .i16 q, .int .i16 n] 69)).cell? ⟨w.heap.size, 1, none⟩ = some (.int .i16 q) ∧ (w.alloc (.cells #[.int .u8 p, .int .i16 q, .int .i16 n] 69)).cell? ⟨w.heap.size, 2, none⟩ = some (.int .i16 n) ∧ w.heap.size < (w.alloc (.cells #[.int .u8 p, .int .i16 q, .int .i16 n] 69)).heap.size := by simp
  go_enter Tryd.func34, Tryd.ntmps34
  go_wp2_with fail
  obtain ⟨W1, hW1⟩ : ∃ W1, w.alloc (.cells #[.int .u8 p, .int .i16 q, .int .i16 n] 69) = W1 := ⟨_, rfl⟩
  rw [hW1] at hB0 hC0 ⊢
  obtain ⟨a0, a1, a2, hs1⟩ := hC0
  have HB0 := Lib.hid hB0
  have HTb := Lib.hid (Tab.on ht hB0 (Nat.le_refl _))
  obtain ⟨da, hda⟩ : ∃ d, btS p q = d := ⟨_, rfl⟩
  obtain ⟨db, hdb⟩ : ∃ d, decS n = d := ⟨_, rfl⟩
  rw [hda] at HDa hza
  rw [hdb] at HDb hzb
  have HD1 := Lib.hid hda
  have HD2 := Lib.hid hdb
  have hn1 : ¬ (9223372036854775807 < da.size + 1) := by omega
  have hn2 : ¬ (9223372036854775807 < da.size + 1 + db.size) := by omega
  clear hW1 hda hdb hB0 ht
  refine wp_region_held_drew (S := fun w' => Below W1.heap.size W1 w') (by kernel_rfl) (Below.refl _ _).drew (fun hHeld => ?_)
  refine wpAnyH_take (i := 0) (v := .pointer (some ⟨w.heap.size, 0, none⟩)) rfl (by kernel_rfl) (by kernel_rfl) (by kernel_rfl) (fun _ _ _ h => h) (Or.inl ⟨by rfl, fun w' h => by go_simp⟩) (by assumption) ?_
  try simp only [Act.put, List.getElem_toArray, List.getElem_cons_zero, List.getElem_cons_succ, List.setIfInBounds_toArray, List.set_cons_zero, List.set_cons_succ]
  refine wpAnyH_take (i := 1) (v := .agg #[.int .u8 p, .int .i16 q]) rfl (by kernel_rfl) (by kernel_rfl) (by kernel_rfl) (fun _ _ _ h => h) (Or.inl ⟨by rfl, fun w' h => by have e4 := (h.cell (p := ⟨w.heap.size, 0, none⟩) hs1).trans a0; have e5 := (h.cell (p := ⟨w.heap.size, 1, none⟩) hs1).trans a1; go_simp⟩) (by assumption) ?_
  try simp only [Act.put, List.getElem_toArray, List.getElem_cons_zero, List.getElem_cons_succ, List.setIfInBounds_toArray, List.set_cons_zero, List.set_cons_succ]
  refine wpAnyH_take (i := 4) (v := .pointer (some ⟨w.heap.size, 2, none⟩)) rfl (by kernel_rfl) (by kernel_rfl) (by kernel_rfl) (fun _ _ _ h => h) (Or.inl ⟨by rfl, fun w' h => by go_simp⟩) (by assumption) ?_
  try simp only [Act.put, List.getElem_toArray, List.getElem_cons_zero, List.getElem_cons_succ, List.setIfInBounds_toArray, List.set_cons_zero, List.set_cons_succ]
  refine wpAnyH_take (i := 5) (v := .int .i16 n) rfl (by kernel_rfl) (by kernel_rfl) (by kernel_rfl) (fun _ _ _ h => h) (Or.inl ⟨by rfl, fun w' h => by have e4 := (h.cell (p := ⟨w.heap.size, 2, none⟩) hs1).trans a2; go_simp⟩) (by assumption) ?_
  try simp only [Act.put, List.getElem_toArray, List.getElem_cons_zero, List.getElem_cons_succ, List.setIfInBounds_toArray, List.set_cons_zero, List.set_cons_succ]
  refine wpAnyH_take (i := 6) (v := .int .i64 n) rfl (by kernel_rfl) (by kernel_rfl) (by kernel_rfl) (fun _ _ _ h => h) (Or.inl ⟨by rfl, fun w' h => by go_simp⟩) (by assumption) ?_
  try simp only [Act.put, List.getElem_toArray, List.getElem_cons_zero, List.getElem_cons_succ, List.setIfInBounds_toArray, List.set_cons_zero, List.set_cons_succ]
  obtain ⟨D0, hD0⟩ : ∃ D0, W1.drew = D0 := ⟨_, rfl⟩
  rw [hD0] at hHeld ⊢
  clear hD0
  refine wpAnyH_ready (rs := [2]) (by kernel_rfl) (by simp) ?_
  refine AllReadyH.cons rfl (fun K hK => ?_) AllReadyH.nil
  refine if_wanted rfl ?_
  go_simp
  refine (HDa.out _ (HTb.out.on hHeld (Nat.le_refl _))).mono ?_
  rintro z w5 ⟨rfl, hb⟩
  have hH2 : Below W1.heap.size W1 w5 := hHeld.trans (hb.mono hHeld.size)
  clear hb hHeld
  dsimp only
  refine hK.out _ _ hH2 (fun hHeld => ?_)
  clear hK K hH2
  try simp only [Act.put, List.getElem_toArray, List.getElem_cons_zero, List.getElem_cons_succ, List.setIfInBounds_toArray, List.set_cons_zero, List.set_cons_succ]
  refine wpAnyH_take (i := 3) (v := .string (da ++ ⟨#[64]⟩)) rfl (by kernel_rfl) (by kernel_rfl) (by kernel_rfl) (fun _ _ _ h => h) (Or.inl ⟨by rfl, fun w' h => by go_simp⟩) (by assumption) ?_
  try simp only [Act.put, List.getElem_toArray, List.getElem_cons_zero, List.getElem_cons_succ, List.setIfInBounds_toArray, List.set_cons_zero, List.set_cons_succ]
  refine wpAnyH_ready (rs := [7]) (by kernel_rfl) (by simp) ?_
  refine AllReadyH.cons rfl (fun K hK => ?_) AllReadyH.nil
  refine if_wanted rfl ?_
  go_simp
  refine (HDb.out _ (HTb.out.on hHeld (Nat.le_refl _))).mono ?_
  rintro z w6 ⟨rfl, hb⟩
  have hH2 : Below W1.heap.size W1 w6 := hHeld.trans (hb.mono hHeld.size)
  clear hb hHeld
  dsimp only
  refine hK.out _ _ hH2 (fun hHeld => ?_)
  clear hK K hH2
  try simp only [Act.put, List.getElem_toArray, List.getElem_cons_zero, List.getElem_cons_succ, List.setIfInBounds_toArray, List.set_cons_zero, List.set_cons_succ]
  refine wpAnyH_take (i := 8) (v := .string (da ++ ⟨#[64]⟩ ++ db)) rfl (by kernel_rfl) (by kernel_rfl) (by kernel_rfl) (fun _ _ _ h => h) (Or.inl ⟨by rfl, fun w' h => by go_simp⟩) (by assumption) ?_
  try simp only [Act.put, List.getElem_toArray, List.getElem_cons_zero, List.getElem_cons_succ, List.setIfInBounds_toArray, List.set_cons_zero, List.set_cons_succ]
  refine wpAnyH_ready (rs := [9]) (by kernel_rfl) (by simp) ?_
  refine AllReadyH.cons rfl (fun K hK => ?_) AllReadyH.nil
  refine if_wanted rfl ?_
  refine wp_assign0 (x := .tmp 11) (v := .string (da ++ ⟨#[64]⟩ ++ db)) rfl (by go_simp) ?_
  refine hK.out _ _ hHeld (fun hHeld => ?_)
  clear hK K
  try simp only [Act.put, List.getElem_toArray, List.getElem_cons_zero, List.getElem_cons_succ, List.setIfInBounds_toArray, List.set_cons_zero, List.set_cons_succ]
  refine wpAnyH_done (by kernel_rfl) ?_ _
  try simp only [Act.put, List.getElem_toArray, List.getElem_cons_zero, List.getElem_cons_succ, List.setIfInBounds_toArray, List.set_cons_zero, List.set_cons_succ]
  have hb := hHeld
  clear hHeld
  have HB6 := Lib.hid (HB0.out.trans (hb.mono HB0.out.size))
  clear hb
  go_wp2
  first | go_ret | skip
  exact ⟨by (rw [HD1.out, HD2.out]; first | done | rfl), HB6.out⟩

set_option maxRecDepth 100000 in
set_option maxHeartbeats 8000000 in
theorem implRackText_any (m : List (List Wnt)) (A : Option Addr) (c : Nat) (ad : Nat → Addr) (w : World) (hl : m.length ≤ 1048576) (hx : ∀ xs ∈ m, xs.length ≤ 1048576) (hr : RdN w w.heap.size wcells A m) (hE : I5 w ad) (ht : Tab w) :
    Calls Tryd.prog 14 #[.slice A m.length c] w fun e w' => e = .returned (.string (rxA m)) ∧ Below w.heap.size w w' := by
  obtain ⟨i0, hi, hz0, hz1, hz2⟩ := info_parts Tryd.infoSt
  have HI := Lib.hid hi
  have HZ0 := Lib.hid hz0
  have HZ1 := Lib.hid hz1
  have HZ2 := Lib.hid hz2
  clear hi hz0 hz1 hz2
  have HC := Lib.hid (validRack_any m A c ad w hl hx hr hE)
  have HR := Lib.hid hr
  have HT := Lib.hid ht
  clear hr hx hE ht
  go_enter Tryd.func14, Tryd.ntmps14
  go_wp2_with fail
  refine HC.out.mono ?_
  rintro e w1 ⟨rfl, hb⟩
  have HB := Lib.hid hb
  clear HC hb
  cases h0 : rkOk m
  · have E := Lib.hid (rxA_no h0)
    clear h0
    go_wp2
    first | go_ret | skip
    exact ⟨by (rw [E.out]; first | done | rfl), HB.out⟩
  have E := Lib.hid (rxA_yes h0)
  have HM : Hid (∀ xs ∈ m, xs.length ≤ 6 ∧ ∀ x ∈ xs, sV x = true) := fun xs h => rkOk_lane h0 h
  have hm8 := rkOk_len h0
  have HSz : Hid (∀ t, t ≤ m.length → (rxT m t).size ≤ 25000 * t) := rxT_size h0
  have HBu := Lib.hid (builder_new w1 w1.heap.size (Nat.le_refl _))
  have HB1 : Hid (Below w1.heap.size w1 (w1.alloc (.cells #[.pointer none, .slice none 0 0] 67))) := (Below.refl _ _).alloc (Nat.le_refl _) _
  have HR1 := Lib.hid (HR.out.keep HB.out)
  have HTb := Lib.hid (HT.out.on HB.out (Nat.le_refl _))
  clear h0
  go_wp2_with fail
  go_loopw [14] (fun i wr => ∃ (t : Nat), t ≤ m.length ∧ i = .int .i64 t ∧ Lib.IsBuilder 67 5 w1.heap.size w1.heap.size (Lib.byteCells (rxT m t).data.toList) wr ∧ Below w1.heap.size w1 wr) (fun i _ => m.length - (intOf i).toNat)
  case atStart => exact ⟨0, by omega, rfl, HBu.out, HB1.out⟩
  case round =>
    clear HBu HB1
    obtain ⟨t, ht, rfl, hBu, hB⟩ := hrel
    obtain ⟨wa, rfl⟩ : ∃ u, u = wr := ⟨_, rfl⟩
    have HBu := Lib.hid hBu
    have HB2 := Lib.hid hB
    have hsz := HSz.out t ht
    clear hB hBu
    have ht0 : (0 : Int) ≤ (t : Int) := Int.natCast_nonneg _
    by_cases hlt : t < m.length
    · have ht8 : (t : Int) < m.length := by omega
      obtain ⟨xs, hxs⟩ : ∃ xs, m[t]? = some xs := ⟨_, List.getElem?_eq_getElem hlt⟩
      have hx8 := HM.out xs (List.mem_of_getElem? hxs)
      have HMc := Lib.hid (rx_cells hxs)
      have HXb := Lib.hid hx8.2
      have hx8l := hx8.1
      obtain ⟨b, o9, a, c', rfl, hb, hc, hrd⟩ := (HR1.out.keep HB2.out).at_ hxs
      have HRd := Lib.hid hrd
      have HO0 : Hid (wa.ownsRow wa.heap.size 9 1 (.slice none 0 0) 0 ((rxL xs 0).flatMap stc)) := ⟨rfl, .inl ⟨rfl, rfl⟩⟩
      obtain ⟨tx, htx⟩ : ∃ tx, rxT m t = tx := ⟨_, rfl⟩
      rw [htx] at HBu hsz HMc
      clear hxs hx8 hrd htx
      go_wp2_with fail
      clear hc hb
      go_loopw [6, 20] (fun v i wr => ∃ (k : Nat) (A2 : Option Addr) (c2 : Nat), k ≤ xs.length ∧ i = .int .i64 k ∧ v = .slice A2 k c2 ∧ wr.ownsRow wa.heap.size 9 1 (.slice A2 k c2) k ((rxL xs k).flatMap stc) ∧ Below wa.heap.size wa wr) (fun _ i _ => xs.length - (intOf i).toNat)
      case atStart => exact ⟨0, _, _, by omega, rfl, rfl, HO0.out, Below.refl _ _⟩
      case round =>
        clear HO0
        obtain ⟨k, A2, c2, hk, rfl, rfl, hO, hB⟩ := hrel
        obtain ⟨wb, rfl⟩ : ∃ u, u = wr := ⟨_, rfl⟩
        have HO := Lib.hid hO
        have HB3 := Lib.hid hB
        clear hO hB
        have hk0 : (0 : Int) ≤ (k : Int) := Int.natCast_nonneg _
        by_cases hlt2 : k < xs.length
        · have hk8 : (k : Int) < xs.length := by omega
          obtain ⟨x, hx⟩ : ∃ x, xs[k]? = some x := ⟨_, List.getElem?_eq_getElem hlt2⟩
          obtain ⟨p, q, n, rfl, hp, hq, hn, hvb⟩ := sV_nat (HXb.out x (List.mem_of_getElem? hx))
          obtain ⟨b2, o2, rfl, hb2, hrow⟩ := (HRd.out.keep HB3.out).at_ wcells_length hx
          obtain ⟨e1, e2, e3⟩ := rowW hrow
          have HSt := Lib.hid (rxL_succ hx)
          have HAx : Hid (Below wb.heap.size wb (wb.alloc (.cells #[.int .u8 p, .int .i16 q, .int .i16 n] 69))) := (Below.refl _ _).alloc (Nat.le_refl _) _
          have HD := Lib.hid (storedText_any p q n hp hq hn hvb (wb.alloc (.cells #[.int .u8 p, .int .i16 q, .int .i16 n] 69)) (HTb.out.on (HB2.out.trans ((HB3.out.trans (HAx.out.mono HB3.out.size)).mono HB2.out.size)) (Nat.le_refl _)))
          obtain ⟨d, hd⟩ : ∃ d, rxW (((p : Int), (q : Int)), (n : Int)) = d := ⟨_, rfl⟩
          rw [hd] at HSt HD
          clear hx hrow hd
          go_wp2_with fail
          refine HD.out.mono ?_
          rintro e w5 ⟨rfl, hb5⟩
          have HB5 := Lib.hid (HB3.out.trans ((HAx.out.trans (hb5.mono HAx.out.size)).mono HB3.out.size))
          have HO5 : Hid (w5.ownsRow wa.heap.size 9 1 (.slice A2 k c2) k ((rxL xs k).flatMap stc)) := own_keep' (own_keep' HO.out HAx.out) hb5
          clear HD e1 e2 e3 hb5
          go_wp2_with (at_builtin; refine wpList_append_own _ rfl (.tmp 24) (.tmp 27) 54 rfl wa.heap.size 9 i0 (.string ⟨#[]⟩) 1 16 Tryd.underlying54 HI.out HZ0.out HZ1.out HZ2.out rfl (by decide) _ _ _ rfl (HO5.out.alloc _) ⟨w5.heap.size, 0, none⟩ 1 1 [.string d] rfl rfl ?f1 ?f2 ?f3 ?f4 ?f5 ?_)
          case f1 => exact cell_str_new _ _ _
          case f2 => simp [Value.oneCell']
          case f3 => unfold maxLen; omega
          case f4 => omega
          case f5 => have := HB5.out.size; simp; omega
          intro v' w8 hown' hgrow _
          have hown8 : w8.ownsRow wa.heap.size 9 1 v' (k + 1) ((rxL xs (k + 1)).flatMap stc) := by rw [HSt.out, List.flatMap_append]; exact hown'
          obtain ⟨A8, c8, rfl⟩ : ∃ A8 c8, v' = .slice A8 (k + 1) c8 := by
            rcases hown8.2 with ⟨h1, h2⟩ | ⟨g, cap, cur, h1, -⟩
            · exact ⟨_, _, by rw [h1, h2]⟩
            · exact ⟨_, _, h1⟩
          have HO8 := Lib.hid hown8
          have HB8 : Hid (Below wa.heap.size wa w8) := (HB5.out.alloc HB5.out.size _).grown hgrow (by have := HB5.out.size; simp; omega) (fun r e => (HO5.out.lt r e).1)
          clear hown' hown8 hgrow
          go_wp2
          go_roundw
          case rel => exact ⟨k + 1, A8, c8, by omega, by go_num, rfl, HO8.out, HB8.out⟩
          case measure => first | (simp [intOf]; done) | (simp [intOf]; omega)
        · obtain rfl : k = xs.length := by omega
          have HBu3 := Lib.hid (builder_keep HBu.out HB3.out)
          have HB4 := Lib.hid (HB2.out.trans (HB3.out.mono HB2.out.size))
          have hjz := rxS_size HXb.out
          have HJ : Hid (Calls Tryd.prog 27 #[.slice A2 xs.length c2, .string ⟨#[32]⟩] wb fun e w' => e = .returned (.string (jnS ⟨#[32]⟩ (xs.map rxW))) ∧ Below wb.heap.size wb w') := by
            have := joinO_any (xs.map rxW) ⟨#[32]⟩ (by omega) (by rw [List.length_map]; omega) wa.heap.size A2 c2 wb (by
              have hl9 : (rxL xs xs.length).length = xs.length := by rw [rxL_all, List.length_map]
              rw [← rxL_all, hl9]; exact HO.out)
            rwa [List.length_map] at this
          obtain ⟨js, hjs⟩ : ∃ js, jnS ⟨#[32]⟩ (xs.map rxW) = js := ⟨_, rfl⟩
          rw [hjs] at HJ HMc hjz
          have hn1 : ¬ (9223372036854775807 < js.size + 1) := by omega
          have HTx : Hid ((Lib.byteCells tx.data.toList).length = tx.size) := by show _ = _; rw [Lib.byteCells, List.length_map]; rfl
          have HJs1 : Hid ((js ++ ⟨#[10]⟩).size = js.size + 1) := by show _ = _; rw [ByteArray.size_append]; rfl
          have hszs : tx.size + (js.size + 1) ≤ 140737488355328 := by omega
          clear hjs hjz
          go_wp2_with fail
          refine HJ.out.mono ?_
          rintro e w3 ⟨rfl, hb3⟩
          have HBu5 := Lib.hid (builder_keep HBu3.out hb3)
          have HB5 := Lib.hid (HB4.out.trans (hb3.mono HB4.out.size))
          have HWs := Lib.hid (writeString_any w1.heap.size w1.heap.size (Lib.byteCells tx.data.toList) (js ++ ⟨#[10]⟩) w3 HBu5.out (by rw [HTx.out, HJs1.out]; exact hszs) HB5.out.size)
          rw [HMc.out] at HWs
          clear hb3 HJ HBu5 HBu3
          go_wp2_with fail
          refine HWs.out.mono ?_
          rintro e w4 ⟨rfl, hBu, hb4⟩
          have HBu6 : Hid (Lib.IsBuilder 67 5 w1.heap.size w1.heap.size (Lib.byteCells (rxT m (t + 1)).data.toList) w4) := Or.inr hBu
          have HB6 := Lib.hid (HB5.out.trans hb4)
          clear hBu hb4 HWs
          go_wp2
          go_roundw
          case rel => exact ⟨t + 1, by omega, by go_num, HBu6.out, HB6.out⟩
          case measure => first | (simp [intOf]; done) | (simp [intOf]; omega)
    · obtain rfl : t = m.length := by omega
      have HSt := Lib.hid (Tryd.Builder_String_any w1.heap.size w1.heap.size (rxT m m.length).data.toList wa HBu.out HB2.out.size)
      go_wp2_with fail
      refine HSt.out.mono ?_
      rintro e w4 ⟨rfl, hb4⟩
      have HB6 := Lib.hid (HB.out.trans ((HB2.out.trans hb4).mono HB.out.size))
      clear hb4 HSt
      go_wp2
      go_ret
      exact ⟨by (rw [E.out]; first | done | rfl), HB6.out⟩
end Go.Proofs.YtjjdehnpnfdjcabDoor
