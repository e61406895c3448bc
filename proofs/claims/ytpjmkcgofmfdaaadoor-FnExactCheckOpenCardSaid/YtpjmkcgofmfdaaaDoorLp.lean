/-
  The contracts of checkFilling, checkIndices and eachOnce. Condition: the lists read as crates, wants and numbers, which fit their kinds; the sentinel errors lie as the row lists them.
-/
import Derived.Test.YtpjmkcgofmfdaaaDoorLm
import Derived.Test.YtpjmkcgofmfdaaaDoorWi
import Derived.Test.YtpjmkcgofmfdaaaDoorCk2
import Derived.Test.YtpjmkcgofmfdaaaDoorIp
import Derived.Maps.OwnSet
namespace Go.Proofs.YtpjmkcgofmfdaaaDoor
open Go.ChangeShapes Go.WideShapes Go.ChangeAt Go.RowKit Go.Deep
open Go.Maps (Keyed)

theorem firstV_both (ad : Nat → Addr) (k : Nat) (a b : Bool) : firstV (erV ad k a) (erV ad k b) = erV ad k (a && b) := by cases a <;> rfl
theorem chkV_erV (ad : Nat → Addr) (b : Bool) : chkV ad b = erV ad 5 b := rfl
set_option maxHeartbeats 1000000 in
theorem checkFilling_any (xs : List Crt) (ord : List Wnt) (hw : ∀ x ∈ ord, wfW x) (A A2 : Option Addr) (c c2 : Nat) (ad : Nat → Addr) (w : World) (hl : xs.length ≤ 1048576) (hl2 : ord.length ≤ 1048576) (hr : Rd w w.heap.size kcells A xs) (hr2 : Rd w w.heap.size wcells A2 ord) (hE : EW 7 w ad) :
    Calls Tryd.prog 35 #[.slice A xs.length c, .slice A2 ord.length c2] w fun e w' => e = .returned (erV ad 5 (askOk xs ord)) ∧ Below w.heap.size w w' := by
  have HR := Lib.hid hr
  have HR2 := Lib.hid hr2
  have HW := Lib.hid hw
  have HE := Lib.hid hE
  clear hr hr2 hw hE
  go_enter Tryd.func35, Tryd.ntmps35
  go_wp2_with fail
  refine (checkStack_any xs A c ad w hl HR.out HE.out).mono ?_
  rintro e w1 ⟨rfl, hb⟩
  have HB := Lib.hid hb
  clear hb
  obtain ⟨v0, hv0⟩ : ∃ v, erV ad 5 (okS xs) = v := ⟨_, rfl⟩
  have hp0 := erV_isE ad 5 (okS xs)
  rw [hv0] at hp0 ⊢
  have V0 := Lib.hid hv0
  have P0 := Lib.hid hp0
  clear hv0 hp0
  go_wp2_with fail
  have hA : Below w.heap.size w (w1.alloc (.cells #[.slice A2 ord.length c2] 26)) := HB.out.alloc HB.out.size _
  refine (checkOrd_any ord HW.out A2 c2 w1.heap.size _ ad _ hl2 (HR2.out.keep hA) (new_cell w1 _ _).1 (HE.out.below hA (Nat.le_refl _))).mono ?_
  rintro e w2 ⟨rfl, hb⟩
  have HB2 : Hid (Below w.heap.size w w2) := hA.trans (hb.mono hA.size)
  clear hb hA HB
  rw [chkV_erV]
  obtain ⟨v1, hv1⟩ : ∃ v, erV ad 5 (ordOk ord) = v := ⟨_, rfl⟩
  have hp1 := erV_isE ad 5 (ordOk ord)
  rw [hv1] at hp1 ⊢
  have V1 := Lib.hid hv1
  have P1 := Lib.hid hp1
  clear hv1 hp1
  go_wp2_with (refine wpList_twoErrs rfl (.tmp 6) (.tmp 9) rfl P0.out P1.out rfl rfl ?_)
  have q0 := new_cell2 w2 v0 v1 66
  refine (first2_any P0.out P1.out _ _ _ q0.1 q0.2).mono ?_
  rintro e w9 ⟨rfl, rfl⟩
  have HV : Hid (firstV v0 v1 = erV ad 5 (askOk xs ord)) := by show firstV v0 v1 = erV ad 5 (askOk xs ord); rw [← V0.out, ← V1.out, firstV_both]; rfl
  clear q0
  obtain ⟨v2, hv2⟩ : ∃ v, firstV v0 v1 = v := ⟨_, rfl⟩
  have HV2 := Lib.hid hv2
  rw [hv2]
  clear hv2
  go_wp2
  go_ret
  exact ⟨by (rw [← HV.out, HV2.out]; first | done | rfl), HB2.out.alloc HB2.out.size _⟩

set_option maxHeartbeats 1000000 in
theorem checkIndices_any (cr : List Int) (n : Nat) (A : Option Addr) (c : Nat) (ad : Nat → Addr) (w : World) (hl : cr.length ≤ 1048576) (hn : n ≤ 1048576) (hr : Rd w w.heap.size icells A cr) (hE : EW 7 w ad) :
    Calls Tryd.prog 49 #[.slice A cr.length c, .int .i64 n] w fun e w' => e = .returned (erV ad 0 (inR n cr)) ∧ Below w.heap.size w w' := by
  have HR := Lib.hid hr
  have c0 : w.cell? ⟨0, 0, none⟩ = some (.iface 128 (.pointer (some (ad 0)))) := hE.cell 0 (by omega)
  have C0 := Lib.hid c0
  clear hr hE c0
  go_enter Tryd.func49, Tryd.ntmps49
  go_wp2_with fail
  go_loop [9] (fun i => ∃ k : Nat, k ≤ cr.length ∧ i = .int .i64 k ∧ ∀ j i, j < k → cr[j]? = some i → 0 ≤ i ∧ i < (n : Int)) (fun i => cr.length - (intOf i).toNat)
  case atStart => exact ⟨0, by omega, rfl, fun j i h => by omega⟩
  case round =>
    obtain ⟨k, hk, rfl, hT⟩ := hrel
    have HT := Lib.hid hT
    clear hT
    by_cases hlt : k < cr.length
    · obtain ⟨i, hi⟩ : ∃ x, cr[k]? = some x := ⟨_, List.getElem?_eq_getElem hlt⟩
      obtain ⟨g, o, rfl, hg, hc⟩ := HR.out.at_ icells_length hi
      have e1 := rowI hc
      have HX := Lib.hid hi
      have hk0 : (0 : Int) ≤ (k : Int) := Int.natCast_nonneg _
      have hk8 : (k : Int) < cr.length := by omega
      have c0 := C0.out
      clear hi hc
      by_cases h0 : i < 0
      · go_wp2
        go_ret
        exact ⟨by rw [inR_no HX.out (by omega)]; rfl, Below.refl _ _⟩
      · have h0d : decide (i < 0) = false := decide_eq_false h0
        by_cases h1 : (n : Int) ≤ i
        · go_wp2
          go_ret
          exact ⟨by rw [inR_no HX.out (by omega)]; rfl, Below.refl _ _⟩
        · have h1d : decide ((n : Int) ≤ i) = false := decide_eq_false h1
          go_wp2
          go_round
          case rel =>
            refine ⟨k + 1, by omega, by go_num, fun j i' hj hi' => ?_⟩
            by_cases e : j = k
            · subst e
              rw [HX.out] at hi'
              simp only [Option.some.injEq] at hi'
              subst hi'
              omega
            · exact HT.out j i' (by omega) hi'
          case measure => simp [intOf]; omega
    · obtain rfl : k = cr.length := by omega
      go_wp2
      go_ret
      exact ⟨by rw [inR_all HT.out]; rfl, Below.refl _ _⟩

/-- A set of numbers, as a map to yes and no. -/
abbrev OwnsI (w : World) (b n : Nat) (D : DataW Unit) : Prop := w.ownsMap Tryd.prog 2 (plainElem Tryd.prog 4) b n D
def kI (c : Int) : Lit := .int .i64 c
def HasI (D : DataW Unit) (ys : List Int) : Prop := ∀ c, D.atKey (kI c) (.lit (.bool false)) = .lit (.bool (decide (c ∈ ys)))
theorem Tryd.keyedI : Keyed Tryd.prog 2 := Maps.int_keyed Tryd.underlying2
theorem keyI {c : Int} (hc : wfI c) : keyOf Tryd.prog 2 (.int .i64 c) = some (kI c) := by
  rw [keyOf_int Tryd.underlying2]
  have : (Lit.int .i64 c).wf = true := WalkArith.wf_i64 hc
  simp [mapKey, Tryd.underlying2, this, kI]
theorem HasI.empty : HasI (.map []) [] := fun c => by simp [DataW.atKey]
theorem HasI.put {D : DataW Unit} {ys : List Int} (h : HasI D ys) (hm : Maps.IsMap D) (x : Int) : HasI (D.put (kI x) (.lit (.bool true))) (ys ++ [x]) := by
  intro c
  by_cases e : c = x
  · subst e
    rw [Maps.atKey_put_same hm (by trivial)]
    simp
  · rw [Maps.atKey_put_other (fun h' => e (by simpa [kI] using h')), h c]
    simp [e]
theorem HasI.same {D : DataW Unit} {ys zs : List Int} (h : HasI D ys) (e : ∀ c, c ∈ ys ↔ c ∈ zs) : HasI D zs := fun c => by rw [h c]; simp [e c]
theorem Tryd.zeroB (w : World) : (zeroValue 4).run Tryd.prog w = .ok (.bool false) w := by kernel_rfl
theorem isMap_owns {w : World} {b n : Nat} {D : DataW Unit} (h : OwnsI w b n D) : Maps.IsMap D := by
  obtain ⟨es, clock, hb, F, hs, rfl⟩ := h
  exact ⟨_, rfl⟩
theorem plainElem_bool_inv {P : Program} {e : TypeId} (he : P.underlying e = some .bool) {v : Value} {z : DataW Unit × List MemPlace} (h : plainElem P e v = some z) : ∃ a, v = .bool a ∧ z = (.lit (.bool a), []) := by
  unfold plainElem at h
  rw [he] at h
  cases v <;> simp at h
  exact ⟨_, rfl, h.symm⟩
theorem look_I {w : World} {b n : Nat} {D : DataW Unit} {ys : List Int} (h : OwnsI w b n D) (hh : HasI D ys) {c : Int} (hc : wfI c) : (Instr.lookup 98 (.map (some b)) (.int .i64 c) false).run Tryd.prog w = .ok (.bool (decide (c ∈ ys))) w := by
  obtain ⟨v, ps, hrun, hv⟩ := h.lookup Tryd.keyedI Tryd.underlying98 (Tryd.zeroB w) (plainElem_bool Tryd.underlying4 false) (keyI hc)
  obtain ⟨a, rfl, hz⟩ := plainElem_bool_inv Tryd.underlying4 hv
  rw [hh c] at hz
  simp only [Prod.mk.injEq, DataW.lit.injEq, Lit.bool.injEq] at hz
  rw [hrun, hz.1]
theorem take_mem {cr : List Int} {k : Nat} {c : Int} (h : cr[k]? = some c) (d : Int) : d ∈ cr.take (k + 1) ↔ d ∈ cr.take k ∨ d = c := by
  obtain ⟨h1, h2⟩ := List.getElem?_eq_some_iff.1 h
  rw [List.take_succ_eq_append_getElem h1, h2, List.mem_append, List.mem_singleton]

set_option maxRecDepth 100000 in
set_option maxHeartbeats 4000000 in
theorem eachOnce_any (cr : List Int) (hwf : ∀ c ∈ cr, wfI c) (A : Option Addr) (c : Nat) (w : World) (hl : cr.length ≤ 1048576) (hr : Rd w w.heap.size icells A cr) :
    Calls Tryd.prog 50 #[.slice A cr.length c] w fun e w' => ∃ v, e = .returned v ∧ w'.ownsRow w.heap.size 2 1 v (onceTo cr cr.length).length ((onceTo cr cr.length).flatMap icells) ∧ Below w.heap.size w w' := by
  have HR := Lib.hid hr
  have HW := Lib.hid hwf
  clear hr hwf
  obtain ⟨i0, hi, hz0, hz1, hz2⟩ := info_parts Tryd.info64
  have HI := Lib.hid hi
  have HZ0 := Lib.hid hz0
  have HZ1 := Lib.hid hz1
  have HZ2 := Lib.hid hz2
  clear hi hz0 hz1 hz2
  have hmm := @run_makeMap Tryd.prog
  go_enter Tryd.func50, Tryd.ntmps50
  go_wp2_with fail
  clear hmm
  have hlt0 : w.heap.size < (w.alloc (.map #[] 0)).heap.size := by simp
  go_loopw [4, 10] (fun v i wr => ∃ k : Nat, k ≤ cr.length ∧ i = .int .i64 k ∧ ∃ n D, n ≤ k ∧ OwnsI wr w.heap.size n D ∧ HasI D (cr.take k) ∧ wr.ownsRow (w.heap.size + 1) 2 1 v (onceTo cr k).length ((onceTo cr k).flatMap icells) ∧ Below w.heap.size w wr) (fun _ i _ => cr.length - (intOf i).toNat)
  case atStart => exact ⟨0, by omega, rfl, 0, .map [], Nat.le_refl _, World.ownsMap_made _ _ _ _, HasI.empty, ⟨rfl, .inl ⟨rfl, rfl⟩⟩, (Below.refl _ _).alloc (Nat.le_refl _) _⟩
  case round =>
    obtain ⟨k, hk, rfl, n, D, hn, q1, q2, q3, q4⟩ := hrel
    have Q1 := Lib.hid q1
    have Q2 := Lib.hid q2
    have Q3 := Lib.hid q3
    have Q4 := Lib.hid q4
    clear q1 q2 q3 q4
    by_cases hlt : k < cr.length
    · obtain ⟨i, hi⟩ : ∃ x, cr[k]? = some x := ⟨_, List.getElem?_eq_getElem hlt⟩
      obtain ⟨g, o, rfl, hg, hc⟩ := (HR.out.below (Nat.le_refl _) Q4.out).at_ icells_length hi
      have e1 := rowI hc
      have HX := Lib.hid hi
      have hwi := HW.out i (List.mem_of_getElem? hi)
      have hk0 : (0 : Int) ≤ (k : Int) := Int.natCast_nonneg _
      have hk8 : (k : Int) < cr.length := by omega
      have hrun := look_I Q1.out Q2.out hwi
      have HWi := Lib.hid hwi
      have hfresh : w.heap.size < wr.heap.size := Q1.out.lt
      have hol := onceTo_length cr k
      clear hi hc hwi
      obtain ⟨ob, hob⟩ : ∃ b, decide (i ∈ cr.take k) = b := ⟨_, rfl⟩
      rw [hob] at hrun
      have HD := Lib.hid hob
      clear hob
      cases ob
      · have hnew : i ∉ cr.take k := of_decide_eq_false HD.out
        have HNew := Lib.hid hnew
        clear hnew
        go_wp2_with (first
          | (at_mapUpdate; refine wpList_mapUpdate_own _ rfl _ _ _ 98 rfl 2 4 Tryd.keyedI Tryd.underlying98 (plainElem Tryd.prog 4) w.heap.size n D rfl Q1.out (by unfold maxLen; omega) _ _ _ rfl rfl (keyI HWi.out) _ _ (plainElem_bool Tryd.underlying4 true) ?_
             intro w2 hown2 hg2
             have O2 := Lib.hid hown2
             have R2 := Lib.hid (Q3.out.kept hg2 (.inr (fun h => by have := (Q3.out.lt _ h).1; omega)))
             have B2 := Lib.hid (Below.growMap Q4.out hg2 Q4.out.size (Nat.le_refl _))
             have P2 := Lib.hid (Q2.out.put (isMap_owns Q1.out) i)
             have hfresh2 : w.heap.size < w2.heap.size := O2.out.lt
             clear hown2 hg2 Q1 Q2 Q3 Q4)
          | (at_builtin; refine wpList_append_own _ rfl (.tmp 20) (.tmp 22) 50 rfl (w.heap.size + 1) 2 i0 (.int .i64 0) 1 8 Tryd.underlying50 HI.out HZ0.out HZ1.out HZ2.out rfl (by decide) _ _ _ rfl (R2.out.alloc _) ⟨w2.heap.size, 0, none⟩ 1 1 [.int .i64 i] rfl rfl ?c1 ?c2 ?c3 ?c4 ?c5 ?_))
        case c1 => exact cell_one_new _ _ _
        case c2 => simp [Value.oneCell']
        case c3 => unfold maxLen; omega
        case c4 => omega
        case c5 => simp; omega
        intro v' w3 hown' hgrow _
        have R3 := Lib.hid hown'
        have B3 : Hid (Below w.heap.size w w3) := (B2.out.alloc B2.out.size _).grown hgrow (by have := B2.out.size; simp; omega) (fun r e => by have := (R2.out.lt r e).1; omega)
        have O3 : Hid (OwnsI w3 w.heap.size (n + 1) (D.put (kI i) (.lit (.bool true)))) := (O2.out.alloc _).kept hgrow (fun h => by have := (R2.out.lt _ h.symm).1; omega)
        have M3 : Hid (HasI (D.put (kI i) (.lit (.bool true))) (cr.take (k + 1))) := P2.out.same (fun c => by rw [take_mem HX.out, List.mem_append, List.mem_singleton])
        clear hown' hgrow O2 R2 B2 P2
        go_wp2
        go_roundw
        case rel => exact ⟨k + 1, by omega, by go_num, n + 1, _, by omega, O3.out, M3.out, by rw [onceTo_new HX.out HNew.out, List.flatMap_append, List.length_append]; exact R3.out, B3.out⟩
        case measure => simp [intOf]; omega
      · have hold : i ∈ cr.take k := of_decide_eq_true HD.out
        have HOld := Lib.hid hold
        clear hold
        have M3 : Hid (HasI D (cr.take (k + 1))) := Q2.out.same (fun c => by
          rw [take_mem HX.out]
          exact ⟨.inl, fun h => h.elim id (fun e => by subst e; exact HOld.out)⟩)
        go_wp2
        go_roundw
        case rel => exact ⟨k + 1, by omega, by go_num, n, _, by omega, Q1.out, M3.out, by rw [onceTo_old HX.out HOld.out]; exact Q3.out, Q4.out⟩
        case measure => simp [intOf]; omega
    · obtain rfl : k = cr.length := by omega
      go_wp2
      go_ret
      exact ⟨_, rfl, own_base Q3.out (by omega), Q4.out⟩
end Go.Proofs.YtpjmkcgofmfdaaaDoor
