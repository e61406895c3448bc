/-
  The contracts of MixedIn, of the model and of the program. Condition: the list reads as crates whose numbers fit their kinds; the sentinel errors lie as the row lists them (the program's).
-/
import Derived.Test.YtidfddemcjjgdaaDoorIp
import Derived.Test.YtidfddemcjjgdaaDoorCk2
namespace Go.Proofs.YtidfddemcjjgdaaDoor
open Go.ChangeShapes Go.WideShapes Go.ChangeAt Go.RowKit Go.Deep

/-- How many of the first k crates are mixed. -/
def mixN (xs : List Crt) (k : Nat) : Nat := ((xs.take k).filter fun x => !purB (allB x.1 12)).length
theorem mixN_succ {xs : List Crt} {k : Nat} {x : Crt} (h : xs[k]? = some x) : mixN xs (k + 1) = mixN xs k + (if purB (allB x.1 12) = true then 0 else 1) := by
  obtain ⟨hlt, he⟩ := List.getElem?_eq_some_iff.1 h
  rw [mixN, mixN, List.take_succ_eq_append_getElem hlt, he, List.filter_append]
  cases hp : purB (allB x.1 12) <;> simp [hp]
theorem mixN_le (xs : List Crt) (k : Nat) : mixN xs k ≤ k := Nat.le_trans (List.length_filter_le _ _) (by rw [List.length_take]; omega)
def miN (xs : List Crt) : Int := if okS xs = true then (mixN xs xs.length : Nat) else 0
def miC (xs : List Crt) : Int := if okS xs = true then 0 else 1
def miV (xs : List Crt) : Value := .tuple #[.int .i64 (miN xs), .int .i64 (miC xs)]
theorem mi_bad {xs : List Crt} (h : okS xs = false) : miV xs = .tuple #[.int .i64 0, .int .i64 1] := by simp [miV, miN, miC, h]
theorem mi_ok {xs : List Crt} (h : okS xs = true) : miV xs = .tuple #[.int .i64 (mixN xs xs.length : Nat), .int .i64 0] := by simp [miV, miN, miC, h]
theorem okS_all {xs : List Crt} (h : okS xs = true) : xs.length ≤ 12 ∧ ∀ x ∈ xs, okC x.1 = true := by
  simp only [okS, Bool.and_eq_true, decide_eq_true_eq, List.all_eq_true] at h
  exact ⟨h.2, h.1⟩

set_option maxRecDepth 100000 in
set_option maxHeartbeats 4000000 in
theorem specMixed_any (xs : List Crt) (A : Option Addr) (c : Nat) (w : World) (hl : xs.length ≤ 1048576) (hr : Rd w w.heap.size kcells A xs) :
    Calls Tryd.prog 37 #[.slice A xs.length c] w fun e w' => e = .returned (miV xs) ∧ Below w.heap.size w w' := by
  have HR := Lib.hid hr
  clear hr
  go_enter Tryd.func37, Tryd.ntmps37
  go_wp2_with fail
  refine (l01Stack_any xs A c _ hl HR.out).mono ?_
  rintro e w1 ⟨rfl, hb⟩
  have HB1 := Lib.hid hb
  clear hb
  cases hok : okS xs
  · have HN := Lib.hid (mi_bad hok)
    clear hok
    go_wp2
    go_ret2
    exact ⟨by rw [HN.out]; first | done | rfl, HB1.out⟩
  have HN := Lib.hid (mi_ok hok)
  clear hok
  go_wp2_with fail
  go_loopw [4, 5] (fun s i wr => ∃ k : Nat, k ≤ xs.length ∧ i = .int .i64 k ∧ s = .int .i64 (mixN xs k : Nat) ∧ Below w.heap.size w wr) (fun _ i _ => xs.length - (intOf i).toNat)
  case atStart => exact ⟨0, by omega, rfl, rfl, HB1.out⟩
  case round =>
    clear HB1
    obtain ⟨k, hk, rfl, rfl, q1⟩ := hrel
    have Q1 := Lib.hid q1
    clear q1
    by_cases hlt : k < xs.length
    · obtain ⟨x, hx⟩ : ∃ x, xs[k]? = some x := ⟨_, List.getElem?_eq_getElem hlt⟩
      obtain ⟨b, o, rfl, hbl, hrow⟩ := (HR.out.below (Nat.le_refl _) Q1.out).at_ kcells_length hx
      have hk0 : (0 : Int) ≤ (k : Int) := Int.natCast_nonneg _
      have hk8 : (k : Int) < xs.length := by omega
      have HX := Lib.hid (mixN_succ hx)
      have HRow := Lib.hid hrow
      have HBl : Hid (b < wr.heap.size) := Nat.lt_of_lt_of_le hbl Q1.out.size
      have hbd := mixN_le xs k
      have hs1 : IntKind.i64.wrap ((mixN xs k : Nat) + 1 : Int) = (mixN xs k : Nat) + 1 := IntWalk.i64_in _ ⟨by omega, by omega⟩
      have hs2 : wrap64 ((mixN xs k : Nat) + 1 : Int) = (mixN xs k : Nat) + 1 := IntWalk.wrap64_in _ ⟨by omega, by omega⟩
      clear hx hbl hrow hbd
      go_wp2_with fail
      refine (l01Pure_any x.1 x.2 b (o + k * 24) _ HBl.out HRow.out).mono ?_
      rintro e w2 ⟨rfl, hb⟩
      have Q2 : Hid (Below w.heap.size w w2) := Q1.out.trans (hb.mono Q1.out.size)
      clear hb
      cases hp : purB (allB x.1 12)
      · rw [hp] at HX
        go_wp2
        go_roundw
        case rel => exact ⟨k + 1, by omega, by go_num, by rw [HX.out]; rfl, Q2.out⟩
        case measure => simp [intOf]; omega
      · rw [hp] at HX
        go_wp2
        go_roundw
        case rel => exact ⟨k + 1, by omega, by go_num, by rw [HX.out]; rfl, Q2.out⟩
        case measure => simp [intOf]; omega
    · obtain rfl : k = xs.length := by omega
      go_wp2
      go_ret2
      exact ⟨by rw [HN.out]; first | done | rfl, Q1.out⟩

set_option maxRecDepth 100000 in
set_option maxHeartbeats 4000000 in
theorem implMixed_any (xs : List Crt) (A : Option Addr) (c : Nat) (ad : Nat → Addr) (w : World) (hl : xs.length ≤ 1048576) (hr : Rd w w.heap.size kcells A xs) (hE : EW 7 w ad) :
    Calls Tryd.prog 39 #[.slice A xs.length c] w fun e w' => e = .returned (miV xs) ∧ Below w.heap.size w w' := by
  have HR := Lib.hid hr
  have HE := Lib.hid hE
  clear hr hE
  go_enter Tryd.func39, Tryd.ntmps39
  go_wp2_with fail
  refine (checkStack_any xs A c ad _ hl HR.out HE.out).mono ?_
  rintro e w1 ⟨rfl, hb⟩
  have HB1 := Lib.hid hb
  clear hb
  cases hok : okS xs
  · have HN := Lib.hid (mi_bad hok)
    have e1 : erV ad 5 false = .iface 202 (.pointer (some (ad 5))) := rfl
    rw [e1]
    clear hok e1
    go_wp2_with fail
    refine (codeOf_5 (HE.out.below HB1.out (Nat.le_refl _))).mono ?_
    rintro e w2 ⟨rfl, rfl⟩
    go_wp2
    go_ret2
    exact ⟨by rw [HN.out]; first | done | rfl, HB1.out⟩
  have HN := Lib.hid (mi_ok hok)
  have HOk := Lib.hid (okS_all hok).2
  have e1 : erV ad 5 true = .nilIface := rfl
  rw [e1]
  clear hok e1
  go_wp2_with fail
  go_loopw [5, 18] (fun s i wr => ∃ k : Nat, k ≤ xs.length ∧ i = .int .i64 k ∧ s = .int .i64 (mixN xs k : Nat) ∧ Below w.heap.size w wr) (fun _ i _ => xs.length - (intOf i).toNat)
  case atStart => exact ⟨0, by omega, rfl, rfl, HB1.out⟩
  case round =>
    clear HB1
    obtain ⟨k, hk, rfl, rfl, q1⟩ := hrel
    have Q1 := Lib.hid q1
    clear q1
    by_cases hlt : k < xs.length
    · obtain ⟨x, hx⟩ : ∃ x, xs[k]? = some x := ⟨_, List.getElem?_eq_getElem hlt⟩
      obtain ⟨b, o, rfl, hbl, hrow⟩ := (HR.out.below (Nat.le_refl _) Q1.out).at_ kcells_length hx
      have hk0 : (0 : Int) ≤ (k : Int) := Int.natCast_nonneg _
      have hk8 : (k : Int) < xs.length := by omega
      have HX := Lib.hid (mixN_succ hx)
      have HXo := Lib.hid (HOk.out x (List.mem_of_getElem? hx))
      have HRow := Lib.hid hrow
      have hbd := mixN_le xs k
      have hs1 : IntKind.i64.wrap ((mixN xs k : Nat) + 1 : Int) = (mixN xs k : Nat) + 1 := IntWalk.i64_in _ ⟨by omega, by omega⟩
      have hs2 : wrap64 ((mixN xs k : Nat) + 1 : Int) = (mixN xs k : Nat) + 1 := IntWalk.wrap64_in _ ⟨by omega, by omega⟩
      clear hx hbl hrow hbd
      have H1 : Hid (CBlk (wr.alloc (.cells #[.int .u8 0, .int .i16 0, .int .u8 0, .int .i16 0, .int .u8 0, .int .i16 0, .int .u8 0, .int .i16 0, .int .u8 0, .int .i16 0, .int .u8 0, .int .i16 0, .int .u8 0, .int .i16 0, .int .u8 0, .int .i16 0, .int .u8 0, .int .i16 0, .int .u8 0, .int .i16 0, .int .u8 0, .int .i16 0, .int .u8 0, .int .i16 0] 31)) wr.heap.size 31 noB) := CBlk.new' rfl rfl
      have H2 : Hid (CBlk ((wr.alloc (.cells #[.int .u8 0, .int .i16 0, .int .u8 0, .int .i16 0, .int .u8 0, .int .i16 0, .int .u8 0, .int .i16 0, .int .u8 0, .int .i16 0, .int .u8 0, .int .i16 0, .int .u8 0, .int .i16 0, .int .u8 0, .int .i16 0, .int .u8 0, .int .i16 0, .int .u8 0, .int .i16 0, .int .u8 0, .int .i16 0, .int .u8 0, .int .i16 0] 31)).setRow wr.heap.size (ccells x.1).toArray) wr.heap.size 31 x.1) := CBlk.setRow H1.out
      have H3 : Hid (Below w.heap.size w ((wr.alloc (.cells #[.int .u8 0, .int .i16 0, .int .u8 0, .int .i16 0, .int .u8 0, .int .i16 0, .int .u8 0, .int .i16 0, .int .u8 0, .int .i16 0, .int .u8 0, .int .i16 0, .int .u8 0, .int .i16 0, .int .u8 0, .int .i16 0, .int .u8 0, .int .i16 0, .int .u8 0, .int .i16 0, .int .u8 0, .int .i16 0, .int .u8 0, .int .i16 0] 31)).setRow wr.heap.size (ccells x.1).toArray)) := Below.setRow (Q1.out.alloc Q1.out.size _) _ _ Q1.out.size
      go_wp2_with (first
        | (refine wpList_load_mid rfl 31 (.tmp 20) rfl b (o + k * 24) rfl (kcells x) _ HRow.out Tryd.underlying31 rfl (size_k Tryd.sizeCr x) ?_)
        | (refine wpList_store_row rfl 31 (.tmp 7) (.tmp 21) rfl wr.heap.size (ccells x.1).toArray rfl rfl 31 _ H1.out (size_of_crate Tryd.sizeCr _ x.2.1) (by rw [ccells_size _ x.2.1]; rfl) (ccells_one _) ?_)
        | (refine wpList_load_row rfl 31 (.tmp 7) rfl wr.heap.size rfl 31 _ (0, 0) _ H2.out Tryd.underlying31 rfl (size_of_crate Tryd.sizeCr _ x.2.1) ?_))
      refine (implPure_any x ad _ (HE.out.below H3.out (Nat.le_refl _))).mono ?_
      rintro e w2 ⟨rfl, hb⟩
      have Q2 : Hid (Below w.heap.size w w2) := H3.out.trans (hb.mono H3.out.size)
      rw [ip_ok HXo.out]
      clear hb H1 H2 H3
      cases hp : purB (allB x.1 12)
      · rw [hp] at HX
        go_wp2
        go_roundw
        case rel => exact ⟨k + 1, by omega, by go_num, by rw [HX.out]; rfl, Q2.out⟩
        case measure => simp [intOf]; omega
      · rw [hp] at HX
        go_wp2
        go_roundw
        case rel => exact ⟨k + 1, by omega, by go_num, by rw [HX.out]; rfl, Q2.out⟩
        case measure => simp [intOf]; omega
    · obtain rfl : k = xs.length := by omega
      go_wp2
      go_ret2
      exact ⟨by rw [HN.out]; first | done | rfl, Q1.out⟩
end Go.Proofs.YtidfddemcjjgdaaDoor
