/-
  MarksText: the program's contract, over the library's contracts of Join, FormatInt and the strings.Builder. Condition: the sentinel errors lie as the row lists them.
-/
import Derived.Test.YtfmfgpipklmecabDoorMt0
import Derived.Test.YtfmfgpipklmecabDoorTv
import Derived.Test.YtfmfgpipklmecabDoorShelf
import Derived.Test.YtfmfgpipklmecabDoorFlb
import Derived.Test.YtfmfgpipklmecabDoorGk
namespace Go.Proofs.YtfmfgpipklmecabDoor
open Go.ChangeShapes Go.WideShapes Go.ChangeAt Go.RowKit Go.Deep

def stc (s : ByteArray) : List Value := [.string s]
theorem stc_length (s : ByteArray) : (stc s).length = 1 := rfl
theorem Tryd.infoSt : (Tryd.prog.info? 9).map (fun i => (i.zero, i.size, i.bytes)) = some (some (.string ⟨#[]⟩), 1, 16) := by kernel_rfl
theorem joinTail_snoc (sep : List UInt8) (r : List (List UInt8)) (y : List UInt8) : Lib.joinTail sep (r ++ [y]) = Lib.joinTail sep r ++ (sep ++ y) := by simp [Lib.joinTail]
theorem join_snoc (x : List UInt8) (r : List (List UInt8)) (y sep : List UInt8) : Lib.join ((x :: r) ++ [y]) sep = Lib.join (x :: r) sep ++ (sep ++ y) := by
  rw [List.cons_append, Lib.join_cons, Lib.join_cons, joinTail_snoc, List.append_assoc]
def jnL (xs : List Int) (k : Nat) : List UInt8 := Lib.join ((wrd xs k).map (·.data.toList)) [32]
theorem jn_mtI (o : ByteArray) {xs : List Int} (h : ∀ x ∈ xs, 0 ≤ x) : ∀ k, k ≤ xs.length → (mtI o xs k).data.toList = o.data.toList ++ jnL xs k
  | 0, _ => by simp [mtI, jnL, wrd, Lib.join_nil]
  | k + 1, hk => by
    have ih := jn_mtI o h k (by omega)
    obtain ⟨x, hx⟩ : ∃ x, xs[k]? = some x := ⟨_, List.getElem?_eq_getElem (by omega)⟩
    have h0 := h x (List.mem_of_getElem? hx)
    obtain ⟨q, rfl⟩ : ∃ q : Nat, x = (q : Int) := ⟨x.toNat, by omega⟩
    by_cases hz : k = 0
    · subst hz
      rw [mtI_first hx (by omega), jnL, wrd_succ hx]
      simp [mtI, wrd, Lib.join_one]
    · obtain ⟨z, r, hzr⟩ : ∃ z r, wrd xs k = z :: r := by
        cases hw : wrd xs k with
        | nil => have := wrd_len (xs := xs) (k := k) (by omega); rw [hw] at this; simp at this; omega
        | cons z r => exact ⟨z, r, rfl⟩
      rw [mtI_next hx (by omega), jnL, wrd_succ hx, hzr, List.map_append, List.map_cons, List.map_cons, List.map_nil, join_snoc]
      have e : jnL xs k = Lib.join (z.data.toList :: r.map (·.data.toList)) [32] := by rw [jnL, hzr]; rfl
      rw [← e]
      simp [ByteArray.data_append, ih]
theorem jn_size {xs : List Int} (h : ∀ x ∈ xs, 0 ≤ x ∧ x ≤ 20) {k : Nat} (hk : k ≤ xs.length) : (jnL xs k).length ≤ 22 * k := by
  have h1 := jn_mtI ⟨#[]⟩ (fun x hx => (h x hx).1) k hk
  have h2 := mtI_size ⟨#[]⟩ h k hk
  have h3 : (mtI ⟨#[]⟩ xs k).data.toList.length = (mtI ⟨#[]⟩ xs k).size := rfl
  have h4 : (⟨#[]⟩ : ByteArray).size = 0 := rfl
  rw [h1] at h3
  simp at h3
  omega
theorem mt_cells {m : List (List Int)} {t : Nat} {xs : List Int} (hx : m[t]? = some xs) (h : ∀ x ∈ xs, 0 ≤ x) :
    Lib.byteCells (mtT m t).data.toList ++ Lib.strCells (⟨(jnL xs xs.length).toArray⟩ ++ ⟨#[10]⟩) = Lib.byteCells (mtT m (t + 1)).data.toList := by
  rw [mtT_succ hx, ByteArray.data_append, Array.toList_append, jn_mtI (mtT m t) h xs.length (Nat.le_refl _)]
  simp [Lib.byteCells, Lib.strCells, ByteArray.data_append]
theorem Tryd.bldT : (Tryd.prog.info? 82).map (fun i => (i.zero, i.size)) = some (some (.agg #[.pointer none, .slice none 0 0]), 2) := by kernel_rfl
theorem flat_st (l : List ByteArray) : l.flatMap stc = l.map Value.string := by induction l with
  | nil => rfl
  | cons a l ih => rw [List.flatMap_cons, ih]; rfl
theorem writeString_any (B b : Nat) (bs : List Value) (s : ByteArray) (w : World) (h : Lib.IsBuilder 82 5 B b bs w) (hlen : bs.length + s.size ≤ 140737488355328) (hBw : B ≤ w.heap.size) :
    Calls Tryd.prog 54 #[.pointer (some ⟨b, 0, none⟩), .string s] w fun e w' => e = .returned (.tuple #[.int .i64 s.size, .nilIface]) ∧ (Lib.BuilderAt 82 5 B b (.pointer (some ⟨b, 0, none⟩)) (bs ++ Lib.strCells s) w' ∧ Below B w w') :=
  Any.Builder_WriteString { Tryd.lays156 with } Tryd.Builder_Extra_156 B b bs s w h hlen hBw
theorem formatS_any (q : Nat) (hq : q < 100) (w : World) : Calls Tryd.prog 53 #[.int .i64 q, .int .i64 10] w fun e w' => e = .returned (.string (decS q)) ∧ w = w' :=
  (Tryd.strconv_FormatInt_10_small q hq w).mono fun e w' ⟨he, hw⟩ => ⟨he, hw.symm⟩
theorem cell_str_new (W : World) (s : ByteArray) (t : TypeId) : ∀ j u, [Value.string s][j]? = some u → (W.alloc (.cells #[.string s] t)).cell? ((⟨W.heap.size, 0, none⟩ : Addr).add j) = some u := by
  intro j u hj
  match j, hj with
  | 0, hj => simp at hj; subst hj; simp [Addr.add]
theorem builder_new (W : World) (B : Nat) (hB : B ≤ W.heap.size) : Lib.IsBuilder 82 5 B W.heap.size (Lib.byteCells ([] : List UInt8)) (W.alloc (.cells #[.pointer none, .slice none 0 0] 82)) :=
  Or.inl ⟨hB, .slice none 0 0, heap_alloc_new W _, ⟨rfl, .inl ⟨rfl, rfl⟩⟩, by simp [Value.ownBlock]⟩
theorem builder_keep {T e : TypeId} {B b : Nat} {bs : List Value} {w w' : World} (h : Lib.IsBuilder T e B b bs w) (hb : Below w.heap.size w w') : Lib.IsBuilder T e B b bs w' := by
  have key : ∀ p, Lib.BuilderAt T e B b p bs w → Lib.BuilderAt T e B b p bs w' := fun p ⟨h1, v, h2, h3, h4⟩ => ⟨h1, v, (hb.block b (by
    rcases Nat.lt_or_ge b w.heap.size with h' | h'
    · exact h'
    · simp [Array.getElem?_eq_none h'] at h2)).trans h2, own_keep' h3 hb, h4⟩
  exact h.imp (key _) (key _)

set_option maxRecDepth 100000 in
set_option maxHeartbeats 8000000 in
theorem implMarksText_any (n : Int) (m : List (List Int)) (A : Option Addr) (c : Nat) (ad : Nat → Addr) (w : World) (hl : m.length ≤ 1048576) (hx : ∀ xs ∈ m, xs.length ≤ 1048576) (hr : RdN w w.heap.size icells A m) (hE : I05 w ad) :
    Calls Tryd.prog 27 #[.int .i64 n, .slice A m.length c] w fun e w' => e = .returned (.string (mtA n m)) ∧ Below w.heap.size w w' := by
  obtain ⟨i0, hi, hz0, hz1, hz2⟩ := info_parts Tryd.infoSt
  have HI := Lib.hid hi
  have HZ0 := Lib.hid hz0
  have HZ1 := Lib.hid hz1
  have HZ2 := Lib.hid hz2
  clear hi hz0 hz1 hz2
  have HC := Lib.hid (implValidMarks_any n m A c ad w hl hx hr hE)
  have HR := Lib.hid hr
  clear hr hx hE
  go_enter Tryd.func27, Tryd.ntmps27
  go_wp2_with fail
  refine HC.out.mono ?_
  rintro e w1 ⟨rfl, hb⟩
  have HB := Lib.hid hb
  clear HC hb
  cases h0 : mkOk n m
  · have E := Lib.hid (mtA_no h0)
    clear h0
    go_wp2
    first | go_ret | skip
    exact ⟨by (rw [E.out]; first | done | rfl), HB.out⟩
  have E := Lib.hid (mtA_yes h0)
  obtain ⟨⟨hn1, hn8⟩, hm12, hrows⟩ := mkOk_iff.1 h0
  have HM : Hid (∀ xs ∈ m, xs.length ≤ 8 ∧ ∀ x ∈ xs, 0 ≤ x ∧ x ≤ 20) := fun xs h => by have := mkRow_iff.1 (hrows xs h); exact ⟨by omega, this.2⟩
  have HSz : Hid (∀ t, t ≤ m.length → (mtT m t).size ≤ 200 * t) := mtT_size HM.out
  have HBu := Lib.hid (builder_new w1 w1.heap.size (Nat.le_refl _))
  have HB1 : Hid (Below w1.heap.size w1 (w1.alloc (.cells #[.pointer none, .slice none 0 0] 82))) := (Below.refl _ _).alloc (Nat.le_refl _) _
  have HR1 := Lib.hid (HR.out.keep HB.out)
  clear h0 hrows
  go_wp2_with fail
  go_loopw [17] (fun i wr => ∃ (t : Nat), t ≤ m.length ∧ i = .int .i64 t ∧ Lib.IsBuilder 82 5 w1.heap.size w1.heap.size (Lib.byteCells (mtT m t).data.toList) wr ∧ Below w1.heap.size w1 wr) (fun i _ => m.length - (intOf i).toNat)
  case atStart => exact ⟨0, by omega, rfl, HBu.out, HB1.out⟩
  case round =>
    clear HBu HB1
    obtain ⟨t, ht, rfl, hBu, hB⟩ := hrel
    obtain ⟨wa, rfl⟩ : ∃ u, u = wr := ⟨_, rfl⟩
    have HBu := Lib.hid hBu
    have HB2 := Lib.hid hB
    have hsz := HSz.out t ht
    clear hB hBu
    have ht0 : (0 : Int) ≤ (t : Int) := Int.natCast_nonneg _
    by_cases hlt : t < m.length
    · have ht8 : (t : Int) < m.length := by omega
      obtain ⟨xs, hxs⟩ : ∃ xs, m[t]? = some xs := ⟨_, List.getElem?_eq_getElem hlt⟩
      have hx8 := HM.out xs (List.mem_of_getElem? hxs)
      have HMc := Lib.hid (mt_cells hxs (fun x h => (hx8.2 x h).1))
      have HXb := Lib.hid hx8.2
      have hx8l := hx8.1
      have HJz : Hid (∀ k, k ≤ xs.length → (jnL xs k).length ≤ 22 * k) := fun k hk => jn_size hx8.2 hk
      obtain ⟨b, o9, a, c', rfl, hb, hc, hrd⟩ := (HR1.out.keep HB2.out).at_ hxs
      have HRd := Lib.hid hrd
      have HO0 : Hid (wa.ownsRow wa.heap.size 9 1 (.slice none 0 0) 0 ((wrd xs 0).flatMap stc)) := ⟨rfl, .inl ⟨rfl, rfl⟩⟩
      obtain ⟨tx, htx⟩ : ∃ tx, mtT m t = tx := ⟨_, rfl⟩
      rw [htx] at HBu hsz HMc
      clear hxs hx8 hrd htx
      go_wp2_with fail
      clear hc hb
      go_loopw [8, 23] (fun v i wr => ∃ (k : Nat) (A2 : Option Addr) (c2 : Nat), k ≤ xs.length ∧ i = .int .i64 k ∧ v = .slice A2 k c2 ∧ wr.ownsRow wa.heap.size 9 1 (.slice A2 k c2) k ((wrd xs k).flatMap stc) ∧ Below wa.heap.size wa wr) (fun _ i _ => xs.length - (intOf i).toNat)
      case atStart => exact ⟨0, _, _, by omega, rfl, rfl, HO0.out, Below.refl _ _⟩
      case round =>
        clear HO0
        obtain ⟨k, A2, c2, hk, rfl, rfl, hO, hB⟩ := hrel
        obtain ⟨wb, rfl⟩ : ∃ u, u = wr := ⟨_, rfl⟩
        have HO := Lib.hid hO
        have HB3 := Lib.hid hB
        clear hO hB
        have hk0 : (0 : Int) ≤ (k : Int) := Int.natCast_nonneg _
        by_cases hlt2 : k < xs.length
        · have hk8 : (k : Int) < xs.length := by omega
          obtain ⟨x, hx⟩ : ∃ x, xs[k]? = some x := ⟨_, List.getElem?_eq_getElem hlt2⟩
          have hxb := HXb.out x (List.mem_of_getElem? hx)
          obtain ⟨q, rfl⟩ : ∃ q : Nat, x = (q : Int) := ⟨x.toNat, by omega⟩
          obtain ⟨b2, o2, rfl, hb2, hrow⟩ := (HRd.out.keep HB3.out).at_ icells_length hx
          have e1 := rowI hrow
          have HSt := Lib.hid (wrd_succ hx)
          have HD : Hid (∀ W, Calls Tryd.prog 53 #[.int .i64 q, .int .i64 10] W fun e w' => e = .returned (.string (decS q)) ∧ W = w') := fun W => formatS_any q (by omega) W
          obtain ⟨d, hd⟩ : ∃ d, decS q = d := ⟨_, rfl⟩
          rw [hd] at HSt HD
          clear hx hrow hd
          go_wp2_with fail
          refine (HD.out _).mono ?_
          rintro e w3 ⟨rfl, rfl⟩
          clear HD e1
          go_wp2_with (at_builtin; refine wpList_append_own _ rfl (.tmp 27) (.tmp 30) 83 rfl wa.heap.size 9 i0 (.string ⟨#[]⟩) 1 16 Tryd.underlying83 HI.out HZ0.out HZ1.out HZ2.out rfl (by decide) _ _ _ rfl (HO.out.alloc _) ⟨wb.heap.size, 0, none⟩ 1 1 [.string d] rfl rfl ?f1 ?f2 ?f3 ?f4 ?f5 ?_)
          case f1 => exact cell_str_new _ _ _
          case f2 => simp [Value.oneCell']
          case f3 => unfold maxLen; omega
          case f4 => omega
          case f5 => have := HB3.out.size; simp; omega
          intro v' w8 hown' hgrow _
          have hown8 : w8.ownsRow wa.heap.size 9 1 v' (k + 1) ((wrd xs (k + 1)).flatMap stc) := by rw [HSt.out, List.flatMap_append]; exact hown'
          obtain ⟨A8, c8, rfl⟩ : ∃ A8 c8, v' = .slice A8 (k + 1) c8 := by
            rcases hown8.2 with ⟨h1, h2⟩ | ⟨g, cap, cur, h1, -⟩
            · exact ⟨_, _, by rw [h1, h2]⟩
            · exact ⟨_, _, h1⟩
          have HO8 := Lib.hid hown8
          have HB8 : Hid (Below wa.heap.size wa w8) := (HB3.out.alloc HB3.out.size _).grown hgrow (by have := HB3.out.size; simp; omega) (fun r e => (HO.out.lt r e).1)
          clear hown' hown8 hgrow
          go_wp2
          go_roundw
          case rel => exact ⟨k + 1, A8, c8, by omega, by go_num, rfl, HO8.out, HB8.out⟩
          case measure => simp [intOf]; omega
        · obtain rfl : k = xs.length := by omega
          have HBu3 := Lib.hid (builder_keep HBu.out HB3.out)
          have HB4 := Lib.hid (HB2.out.trans (HB3.out.mono HB2.out.size))
          have hjz := HJz.out xs.length (Nat.le_refl _)
          have HJ : Hid (∀ W : World, Below wb.heap.size wb W → Calls Tryd.prog 55 #[.slice A2 xs.length c2, .string ⟨#[32]⟩] W fun e w' => e = .returned (.string ⟨(jnL xs xs.length).toArray⟩) ∧ Below W.heap.size W w') := fun W hW => by
            have hO2 := own_keep' HO.out hW
            have hlw := wrd_len (xs := xs) (k := xs.length) (Nat.le_refl _)
            rcases hO2.2 with ⟨h1, h2⟩ | ⟨g, cap, cur, h1, h2, h3, h4, h5, h6, h7⟩
            · obtain ⟨rfl, hx0, rfl⟩ : A2 = none ∧ xs.length = 0 ∧ c2 = 0 := by simpa using h1
              have e0 : xs = [] := List.eq_nil_of_length_eq_zero hx0
              have := Tryd.strings_Join_none none 0 ⟨#[32]⟩ W
              rw [hx0]
              refine this.mono fun e w' ⟨he, hw⟩ => ⟨?_, hw ▸ Below.refl _ _⟩
              rw [he]; rfl
            · simp only [Value.slice.injEq, true_and] at h1
              obtain ⟨rfl, rfl⟩ := h1
              have := Tryd.strings_Join g 0 c2 (wrd xs xs.length) ⟨#[32]⟩ W (fun j x hj => by
                rw [Nat.zero_add, cell_of_row W g j cur _ (0, 0) h3]
                have hjl := (List.getElem?_eq_some_iff.1 hj).1
                have h8 : (cur.toList.take (xs.length * 1))[j]? = some (.string x) := by
                  rw [h7, flat_st, List.getElem?_map, hj]; rfl
                rw [List.getElem?_take] at h8
                split at h8
                · simpa using h8
                · cases h8) (Array.getElem?_eq_some_iff.1 h3).1 (by omega) (by omega) (by
                  have : Lib.join ((wrd xs xs.length).map (·.data.toList)) (⟨#[32]⟩ : ByteArray).data.toList = jnL xs xs.length := rfl
                  rw [this]; omega)
              rw [hlw] at this
              exact this
          obtain ⟨jl, hjl⟩ : ∃ jl, jnL xs xs.length = jl := ⟨_, rfl⟩
          rw [hjl] at HJ HMc hjz
          have HMs : Hid ((⟨jl.toArray⟩ : ByteArray).size = jl.length) := by show _ = _; simp [ByteArray.size]
          obtain ⟨js, hjs⟩ : ∃ js : ByteArray, (⟨jl.toArray⟩ : ByteArray) = js := ⟨_, rfl⟩
          rw [hjs] at HJ HMc HMs
          have hjsz : js.size = jl.length := HMs.out
          have hn1 : ¬ (9223372036854775807 < js.size + 1) := by omega
          have HTx : Hid ((Lib.byteCells tx.data.toList).length = tx.size) := by show _ = _; rw [Lib.byteCells, List.length_map]; rfl
          have HJs1 : Hid ((js ++ ⟨#[10]⟩).size = js.size + 1) := by show _ = _; rw [ByteArray.size_append]; rfl
          have HJ2 := Lib.hid (HJ.out wb (Below.refl _ _))
          have hszs : tx.size + (js.size + 1) ≤ 140737488355328 := by omega
          clear hjl hjs hjz hjsz HJ
          go_wp2_with fail
          refine HJ2.out.mono ?_
          rintro e w3 ⟨rfl, hb3⟩
          have HBu5 := Lib.hid (builder_keep HBu3.out hb3)
          have HB5 := Lib.hid (HB4.out.trans (hb3.mono HB4.out.size))
          have HWs := Lib.hid (writeString_any w1.heap.size w1.heap.size (Lib.byteCells tx.data.toList) (js ++ ⟨#[10]⟩) w3 HBu5.out (by rw [HTx.out, HJs1.out]; exact hszs) HB5.out.size)
          rw [HMc.out] at HWs
          clear hb3 HJ2 HBu5 HBu3
          go_wp2_with fail
          refine HWs.out.mono ?_
          rintro e w4 ⟨rfl, hBu, hb4⟩
          have HBu6 : Hid (Lib.IsBuilder 82 5 w1.heap.size w1.heap.size (Lib.byteCells (mtT m (t + 1)).data.toList) w4) := Or.inr hBu
          have HB6 := Lib.hid (HB5.out.trans hb4)
          clear hBu hb4 HWs
          go_wp2
          go_roundw
          case rel => exact ⟨t + 1, by omega, by go_num, HBu6.out, HB6.out⟩
          case measure => simp [intOf]; omega
    · obtain rfl : t = m.length := by omega
      have HSt := Lib.hid (Tryd.Builder_String_any w1.heap.size w1.heap.size (mtT m m.length).data.toList wa HBu.out HB2.out.size)
      go_wp2_with fail
      refine HSt.out.mono ?_
      rintro e w4 ⟨rfl, hb4⟩
      have HB6 := Lib.hid (HB.out.trans ((HB2.out.trans hb4).mono HB.out.size))
      clear hb4 HSt
      go_wp2
      go_ret
      exact ⟨by (rw [E.out]; first | done | rfl), HB6.out⟩
end Go.Proofs.YtfmfgpipklmecabDoor
