/-
  WalkerText: the program's contract, over the library's contracts of Itoa and Join. Condition: the library's table lies as the row lists it.
-/
import Derived.Test.YtjjdehnpnfdjcaaDoorWt0
namespace Go.Proofs.YtjjdehnpnfdjcaaDoor
open Go.ChangeShapes Go.WideShapes Go.ChangeAt Go.RowKit Go.Deep

theorem wkN_in {x : Wal} (h : vOk 60 x = true) : ∀ n ∈ wkN x, -7 ≤ n ∧ n ≤ 10000 := by
  have := vOk_out h
  intro n hn
  simp only [wkN, List.mem_cons, List.not_mem_nil, or_false] at hn
  rcases hn with rfl | rfl | rfl | rfl | rfl | rfl <;> omega
theorem itW_size (n : Int) (h : -7 ≤ n ∧ n ≤ 10000) : (itW n).size ≤ 10002 := by
  by_cases h0 : n < 0
  · obtain ⟨k, rfl⟩ : ∃ k : Nat, n = -(k : Int) := ⟨(-n).toNat, by omega⟩
    have := decS_size k
    have h1 : (⟨#[45]⟩ : ByteArray).size = 1 := rfl
    rw [itW_neg k (by omega), ByteArray.size_append]; omega
  · obtain ⟨k, rfl⟩ : ∃ k : Nat, n = (k : Int) := ⟨n.toNat, by omega⟩
    have := decS_size k
    rw [itW_nat]; omega
def wkT (x : Wal) (k : Nat) : List ByteArray := ((wkN x).take k).map itW
theorem wkT_succ {x : Wal} {k : Nat} {n : Int} (h : (wkN x)[k]? = some n) : wkT x (k + 1) = wkT x k ++ [itW n] := by
  obtain ⟨h1, e⟩ := List.getElem?_eq_some_iff.1 h
  rw [wkT, List.take_succ_eq_append_getElem h1, List.map_append, e]; rfl
theorem wkT_len {x : Wal} {k : Nat} (h : k ≤ 6) : (wkT x k).length = k := by
  have : (wkN x).length = 6 := rfl
  simp [wkT]; omega
theorem wkT_all (x : Wal) : wkT x 6 = wkW x := rfl

set_option maxRecDepth 100000 in
set_option maxHeartbeats 1600000 in
theorem implWalkerText_any (x : Wal) (hx : wfV x) (w : World) (ht : Tab w) :
    Calls Tryd.prog 7 #[.agg (vcells x).toArray] w fun e w' => e = .returned (.string (wkA x)) ∧ Below w.heap.size w w' := by
  obtain ⟨i0, hi, hz0, hz1, hz2⟩ := info_parts Tryd.infoSt
  have HI := Lib.hid hi
  have HZ0 := Lib.hid hz0
  have HZ1 := Lib.hid hz1
  have HZ2 := Lib.hid hz2
  clear hi hz0 hz1 hz2
  have hK0 : Blk (w.alloc (.cells (vcells x).toArray 27)) w.heap.size 27 (vcells x).toArray := Blk.new w _ _
  have hB0 : Below w.heap.size w (w.alloc (.cells (vcells x).toArray 27)) := (Below.refl _ w).alloc (Nat.le_refl _) _
  have hC0 : (w.alloc (.cells (vcells x).toArray 27)).cell? ⟨w.heap.size, 0, none⟩ = some (.int .i16 x.fi) ∧ (w.alloc (.cells (vcells x).toArray 27)).cell? ⟨w.heap.size, 1, none⟩ = some (.int .i16 x.ev) ∧ (w.alloc (.cells (vcells x).toArray 27)).cell? ⟨w.heap.size, 2, none⟩ = some (.int .i16 x.st) ∧ (w.alloc (.cells (vcells x).toArray 27)).cell? ⟨w.heap.size, 3, none⟩ = some (.int .i16 x.sp) ∧ (w.alloc (.cells (vcells x).toArray 27)).cell? ⟨w.heap.size, 4, none⟩ = some (.int .i16 x.co) ∧ (w.alloc (.cells (vcells x).toArray 27)).cell? ⟨w.heap.size, 5, none⟩ = some (.int .i8 x.tu) := by
    simp [vcells]
  have hs1 : w.heap.size < (w.alloc (.cells (vcells x).toArray 27)).heap.size := by simp
  obtain ⟨W1, hW1⟩ : ∃ W1, w.alloc (.cells (vcells x).toArray 27) = W1 := ⟨_, rfl⟩
  rw [hW1] at hK0 hB0 hC0 hs1
  have HK0 := Lib.hid hK0
  have HB0 := Lib.hid hB0
  have HX := Lib.hid hx
  have HC0 := Lib.hid hC0
  have HT := Lib.hid ht
  clear hK0 hB0 hx hC0 ht
  go_enter Tryd.func7, Tryd.ntmps7
  go_wp2_with (first | (refine wpList_load_row rfl 27 (.tmp 1) rfl w.heap.size rfl 27 (vcells x).toArray (0, 0) _ HK0.out Tryd.underlying27 rfl (Tryd.sizeVIx x) ?_) | (refine wpList_oneWal rfl (.tmp 6) rfl x rfl ?_))
  clear hW1
  refine (implValidWalkers_any 60 (by unfold wfI6; omega) [x] (fun y hy => by simp at hy; subst hy; exact HX.out) _ 1 _ (by simp) (rd_one x W1)).mono ?_
  rintro e w2 ⟨rfl, hb⟩
  have hbA : Below W1.heap.size W1 w2 := ((Below.refl _ W1).alloc (Nat.le_refl _) _).trans (hb.mono (by simp))
  have HB2 := Lib.hid (HB0.out.trans (hbA.mono HB0.out.size))
  have hv1 : vsOk 60 [x] = vOk 60 x := by simp [vsOk]
  rw [hv1]
  clear hv1 hb
  cases h0 : vOk 60 x
  · have E := Lib.hid (wkA_no h0)
    clear h0 hbA
    go_wp2
    first | go_ret | skip
    exact ⟨by (rw [E.out]; first | done | rfl), HB2.out⟩
  have E := Lib.hid (wkA_yes h0)
  have HIn := Lib.hid (wkN_in h0)
  obtain ⟨p0, p1, p2, p3, p4, p5⟩ := HC0.out
  have q0 := (hbA.cell (p := ⟨w.heap.size, 0, none⟩) hs1).trans p0
  have q1 := (hbA.cell (p := ⟨w.heap.size, 1, none⟩) hs1).trans p1
  have q2 := (hbA.cell (p := ⟨w.heap.size, 2, none⟩) hs1).trans p2
  have q3 := (hbA.cell (p := ⟨w.heap.size, 3, none⟩) hs1).trans p3
  have q4 := (hbA.cell (p := ⟨w.heap.size, 4, none⟩) hs1).trans p4
  have q5 := (hbA.cell (p := ⟨w.heap.size, 5, none⟩) hs1).trans p5
  have htu := HIn.out x.tu (by simp [wkN])
  have hwt : IntKind.i16.wrap x.tu = x.tu := IntWalk.i16_in _ ⟨by omega, by omega⟩
  have HCl : Hid (∀ (j : Nat) (n : Int), (wkN x)[j]? = some n → (w2.alloc (.cells #[.int .i16 x.fi, .int .i16 x.ev, .int .i16 x.st, .int .i16 x.sp, .int .i16 x.co, .int .i16 x.tu] 22)).cell? ⟨w2.heap.size, j, none⟩ = some (.int .i16 n)) := by
    intro j n hj
    match j, hj with
    | 0, hj => simp only [wkN, List.getElem?_cons_zero, Option.some.injEq] at hj; subst hj; simp
    | 1, hj => simp only [wkN, List.getElem?_cons_succ, List.getElem?_cons_zero, Option.some.injEq] at hj; subst hj; simp
    | 2, hj => simp only [wkN, List.getElem?_cons_succ, List.getElem?_cons_zero, Option.some.injEq] at hj; subst hj; simp
    | 3, hj => simp only [wkN, List.getElem?_cons_succ, List.getElem?_cons_zero, Option.some.injEq] at hj; subst hj; simp
    | 4, hj => simp only [wkN, List.getElem?_cons_succ, List.getElem?_cons_zero, Option.some.injEq] at hj; subst hj; simp
    | 5, hj => simp only [wkN, List.getElem?_cons_succ, List.getElem?_cons_zero, Option.some.injEq] at hj; subst hj; simp
    | j + 6, hj => simp [wkN] at hj
  have HBn : Hid (Below w2.heap.size w2 (w2.alloc (.cells #[.int .i16 x.fi, .int .i16 x.ev, .int .i16 x.st, .int .i16 x.sp, .int .i16 x.co, .int .i16 x.tu] 22))) := (Below.refl _ _).alloc (Nat.le_refl _) _
  have hsn : w2.heap.size < (w2.alloc (.cells #[.int .i16 x.fi, .int .i16 x.ev, .int .i16 x.st, .int .i16 x.sp, .int .i16 x.co, .int .i16 x.tu] 22)).heap.size := by simp
  obtain ⟨W3, hW3⟩ : ∃ W, w2.alloc (.cells #[.int .i16 x.fi, .int .i16 x.ev, .int .i16 x.st, .int .i16 x.sp, .int .i16 x.co, .int .i16 x.tu] 22) = W := ⟨_, rfl⟩
  rw [hW3] at HCl HBn hsn
  have HB3 := Lib.hid (HB2.out.trans (HBn.out.mono HB2.out.size))
  have HTb := Lib.hid (HT.out.on HB3.out (Nat.le_refl _))
  have HO0 : Hid (W3.ownsRow W3.heap.size 9 1 (.slice none 0 0) 0 ((wkT x 0).flatMap stc)) := ⟨rfl, .inl ⟨rfl, rfl⟩⟩
  clear h0 hbA p0 p1 p2 p3 p4 p5 HC0 HK0 HX
  go_wp2_with fail
  clear q0 q1 q2 q3 q4 q5 hwt htu hW3
  go_loopw [3, 25] (fun v i wr => ∃ (k : Nat) (A2 : Option Addr) (c2 : Nat), k ≤ 6 ∧ i = .int .i64 k ∧ v = .slice A2 k c2 ∧ wr.ownsRow W3.heap.size 9 1 (.slice A2 k c2) k ((wkT x k).flatMap stc) ∧ Below W3.heap.size W3 wr) (fun _ i _ => 6 - (intOf i).toNat)
  case atStart => exact ⟨0, _, _, by omega, rfl, rfl, HO0.out, Below.refl _ _⟩
  case round =>
    clear HO0
    obtain ⟨k, A2, c2, hk, rfl, rfl, hO, hB⟩ := hrel
    obtain ⟨wb, rfl⟩ : ∃ u, u = wr := ⟨_, rfl⟩
    have HO := Lib.hid hO
    have HB4 := Lib.hid hB
    clear hO hB
    have hk0 : (0 : Int) ≤ (k : Int) := Int.natCast_nonneg _
    by_cases hlt2 : k < 6
    · have hk8 : (k : Int) < 6 := by omega
      obtain ⟨n, hx⟩ : ∃ n, (wkN x)[k]? = some n := ⟨_, List.getElem?_eq_getElem (show k < (wkN x).length from hlt2)⟩
      have hnb := HIn.out n (List.mem_of_getElem? hx)
      have e1 := (HB4.out.cell (p := ⟨w2.heap.size, k, none⟩) hsn).trans (HCl.out k n hx)
      have hwn : IntKind.i64.wrap n = n := IntWalk.i64_in _ ⟨by omega, by omega⟩
      have HSt := Lib.hid (wkT_succ hx)
      have HD := Lib.hid (itoaI n (by omega) wb (HTb.out.on HB4.out (Nat.le_refl _)))
      obtain ⟨d, hd⟩ : ∃ d, itW n = d := ⟨_, rfl⟩
      rw [hd] at HSt HD
      clear hx hd
      go_wp2_with fail
      refine HD.out.mono ?_
      rintro e w5 ⟨rfl, hb5⟩
      have HB5 := Lib.hid (HB4.out.trans (hb5.mono HB4.out.size))
      have HO5 : Hid (w5.ownsRow W3.heap.size 9 1 (.slice A2 k c2) k ((wkT x k).flatMap stc)) := own_keep' HO.out hb5
      clear HD e1 hb5
      go_wp2_with (at_builtin; refine wpList_append_own _ rfl (.tmp 29) (.tmp 33) 41 rfl W3.heap.size 9 i0 (.string ⟨#[]⟩) 1 16 Tryd.underlying41 HI.out HZ0.out HZ1.out HZ2.out rfl (by decide) _ _ _ rfl (HO5.out.alloc _) ⟨w5.heap.size, 0, none⟩ 1 1 [.string d] rfl rfl ?f1 ?f2 ?f3 ?f4 ?f5 ?_)
      case f1 => exact cell_str_new _ _ _
      case f2 => simp [Value.oneCell']
      case f3 => unfold maxLen; omega
      case f4 => omega
      case f5 => have := HB5.out.size; simp; omega
      intro v' w8 hown' hgrow _
      have hown8 : w8.ownsRow W3.heap.size 9 1 v' (k + 1) ((wkT x (k + 1)).flatMap stc) := by rw [HSt.out, List.flatMap_append]; exact hown'
      obtain ⟨A8, c8, rfl⟩ : ∃ A8 c8, v' = .slice A8 (k + 1) c8 := by
        rcases hown8.2 with ⟨h1, h2⟩ | ⟨g, cap, cur, h1, -⟩
        · exact ⟨_, _, by rw [h1, h2]⟩
        · exact ⟨_, _, h1⟩
      have HO8 := Lib.hid hown8
      have HB8 : Hid (Below W3.heap.size W3 w8) := (HB5.out.alloc HB5.out.size _).grown hgrow (by have := HB5.out.size; simp; omega) (fun r e => (HO5.out.lt r e).1)
      clear hown' hown8 hgrow
      go_wp2
      go_roundw
      case rel => exact ⟨k + 1, A8, c8, by omega, by go_num, rfl, HO8.out, HB8.out⟩
      case measure => first | (simp [intOf]; done) | (simp [intOf]; omega)
    · obtain rfl : k = 6 := by omega
      have HSz : Hid ((jnS ⟨#[47]⟩ (wkW x)).size ≤ 1000000000) := by
        have := jnS_size (sp := ⟨#[47]⟩) (ws := wkW x) (b := 10002) rfl (fun d hd => by
          obtain ⟨n, hn, rfl⟩ := List.mem_map.1 hd
          exact itW_size n (HIn.out n hn))
        have h6 : (wkW x).length = 6 := rfl
        rw [h6] at this
        show _ ≤ _
        omega
      have HJ := Lib.hid (joinO_any (wkW x) ⟨#[47]⟩ HSz.out (by show 6 ≤ _; omega) W3.heap.size A2 c2 wb (by rw [← wkT_all]; exact HO.out))
      have h6 : (wkW x).length = 6 := rfl
      rw [h6] at HJ
      clear h6 HSz
      go_wp2_with fail
      refine HJ.out.mono ?_
      rintro e w5 ⟨rfl, hb5⟩
      have HB6 := Lib.hid (HB3.out.trans ((HB4.out.trans (hb5.mono HB4.out.size)).mono HB3.out.size))
      clear hb5 HJ
      go_wp2
      first | go_ret | skip
      exact ⟨by (rw [E.out]; first | done | rfl), HB6.out⟩
end Go.Proofs.YtjjdehnpnfdjcaaDoor
