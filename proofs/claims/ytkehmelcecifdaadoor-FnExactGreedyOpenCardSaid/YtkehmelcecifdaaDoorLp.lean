/-
  The contracts of checkFilling, checkIndices and eachOnce. Condition: the lists read as crates, wants and numbers, which fit their kinds; the sentinel errors lie as the row lists them.
-/
import Derived.Test.YtkehmelcecifdaaDoorLm
import Derived.Test.YtkehmelcecifdaaDoorWi
import Derived.Test.YtkehmelcecifdaaDoorMg7
import Derived.Test.YtkehmelcecifdaaDoorIp
import Derived.Maps.OwnSet
namespace Go.Proofs.YtkehmelcecifdaaDoor
open Go.ChangeShapes Go.WideShapes Go.ChangeAt Go.RowKit Go.Deep
open Go.Maps (Keyed)

theorem firstV_both (ad : Nat → Addr) (k : Nat) (a b : Bool) : firstV (erV ad k a) (erV ad k b) = erV ad k (a && b) := by cases a <;> rfl
theorem chkV_erV (ad : Nat → Addr) (b : Bool) : chkV ad b = erV ad 5 b := rfl
set_option maxHeartbeats 1000000 in
theorem checkFilling_any (xs : List Crt) (ord : List Wnt) (hw : ∀ x ∈ ord, wfW x) (A A2 : Option Addr) (c c2 : Nat) (ad : Nat → Addr) (w : World) (hl : xs.length ≤ 1048576) (hl2 : ord.length ≤ 1048576) (hr : Rd w w.heap.size kcells A xs) (hr2 : Rd w w.heap.size wcells A2 ord) (hE : EW 7 w ad) :
    Calls Tryd.prog 65 #[.slice A xs.length c, .slice A2 ord.length c2] w fun e w' => e = .returned (erV ad 5 (askOk xs ord)) ∧ Below w.heap.size w w' := by
  have HR := Lib.hid hr
  have HR2 := Lib.hid hr2
  have HW := Lib.hid hw
  have HE := Lib.hid hE
  clear hr hr2 hw hE
  go_enter Tryd.func65, Tryd.ntmps65
  go_wp2_with fail
  refine (checkStack_any xs A c ad w hl HR.out HE.out).mono ?_
  rintro e w1 ⟨rfl, hb⟩
  have HB := Lib.hid hb
  clear hb
  obtain ⟨v0, hv0⟩ : ∃ v, erV ad 5 (okS xs) = v := ⟨_, rfl⟩
  have hp0 := erV_isE ad 5 (okS xs)
  rw [hv0] at hp0 ⊢
  have V0 := Lib.hid hv0
  have P0 := Lib.hid hp0
  clear hv0 hp0
  go_wp2_with fail
  have hA : Below w.heap.size w (w1.alloc (.cells #[.slice A2 ord.length c2] 46)) := HB.out.alloc HB.out.size _
  refine (checkOrd_any ord HW.out A2 c2 w1.heap.size _ ad _ hl2 (HR2.out.keep hA) (new_cell w1 _ _).1 (HE.out.below hA (Nat.le_refl _))).mono ?_
  rintro e w2 ⟨rfl, hb⟩
  have HB2 : Hid (Below w.heap.size w w2) := hA.trans (hb.mono hA.size)
  clear hb hA HB
  rw [chkV_erV]
  obtain ⟨v1, hv1⟩ : ∃ v, erV ad 5 (ordOk ord) = v := ⟨_, rfl⟩
  have hp1 := erV_isE ad 5 (ordOk ord)
  rw [hv1] at hp1 ⊢
  have V1 := Lib.hid hv1
  have P1 := Lib.hid hp1
  clear hv1 hp1
  go_wp2_with (refine wpList_twoErrs rfl (.tmp 6) (.tmp 9) rfl P0.out P1.out rfl rfl ?_)
  have q0 := new_cell2 w2 v0 v1 80
  refine (first2_any P0.out P1.out _ _ _ q0.1 q0.2).mono ?_
  rintro e w9 ⟨rfl, rfl⟩
  have HV : Hid (firstV v0 v1 = erV ad 5 (askOk xs ord)) := by show firstV v0 v1 = erV ad 5 (askOk xs ord); rw [← V0.out, ← V1.out, firstV_both]; rfl
  clear q0
  obtain ⟨v2, hv2⟩ : ∃ v, firstV v0 v1 = v := ⟨_, rfl⟩
  have HV2 := Lib.hid hv2
  rw [hv2]
  clear hv2
  go_wp2
  go_ret
  exact ⟨by (rw [← HV.out, HV2.out]; first | done | rfl), HB2.out.alloc HB2.out.size _⟩

/-- A set of numbers, as a map to yes and no. -/
abbrev OwnsI (w : World) (b n : Nat) (D : DataW Unit) : Prop := w.ownsMap Tryd.prog 2 (plainElem Tryd.prog 4) b n D
def kI (c : Int) : Lit := .int .i64 c
def HasI (D : DataW Unit) (ys : List Int) : Prop := ∀ c, D.atKey (kI c) (.lit (.bool false)) = .lit (.bool (decide (c ∈ ys)))
theorem Tryd.keyedI : Keyed Tryd.prog 2 := Maps.int_keyed Tryd.underlying2
theorem keyI {c : Int} (hc : wfI c) : keyOf Tryd.prog 2 (.int .i64 c) = some (kI c) := by
  rw [keyOf_int Tryd.underlying2]
  have : (Lit.int .i64 c).wf = true := WalkArith.wf_i64 hc
  simp [mapKey, Tryd.underlying2, this, kI]
theorem HasI.empty : HasI (.map []) [] := fun c => by simp [DataW.atKey]
theorem HasI.put {D : DataW Unit} {ys : List Int} (h : HasI D ys) (hm : Maps.IsMap D) (x : Int) : HasI (D.put (kI x) (.lit (.bool true))) (ys ++ [x]) := by
  intro c
  by_cases e : c = x
  · subst e
    rw [Maps.atKey_put_same hm (by trivial)]
    simp
  · rw [Maps.atKey_put_other (fun h' => e (by simpa [kI] using h')), h c]
    simp [e]
theorem HasI.same {D : DataW Unit} {ys zs : List Int} (h : HasI D ys) (e : ∀ c, c ∈ ys ↔ c ∈ zs) : HasI D zs := fun c => by rw [h c]; simp [e c]
theorem Tryd.zeroB (w : World) : (zeroValue 4).run Tryd.prog w = .ok (.bool false) w := by kernel_rfl
theorem isMap_owns {w : World} {b n : Nat} {D : DataW Unit} (h : OwnsI w b n D) : Maps.IsMap D := by
  obtain ⟨es, clock, hb, F, hs, rfl⟩ := h
  exact ⟨_, rfl⟩
theorem plainElem_bool_inv {P : Program} {e : TypeId} (he : P.underlying e = some .bool) {v : Value} {z : DataW Unit × List MemPlace} (h : plainElem P e v = some z) : ∃ a, v = .bool a ∧ z = (.lit (.bool a), []) := by
  unfold plainElem at h
  rw [he] at h
  cases v <;> simp at h
  exact ⟨_, rfl, h.symm⟩
theorem take_mem {cr : List Int} {k : Nat} {c : Int} (h : cr[k]? = some c) (d : Int) : d ∈ cr.take (k + 1) ↔ d ∈ cr.take k ∨ d = c := by
  obtain ⟨h1, h2⟩ := List.getElem?_eq_some_iff.1 h
  rw [List.take_succ_eq_append_getElem h1, h2, List.mem_append, List.mem_singleton]

end Go.Proofs.YtkehmelcecifdaaDoor
