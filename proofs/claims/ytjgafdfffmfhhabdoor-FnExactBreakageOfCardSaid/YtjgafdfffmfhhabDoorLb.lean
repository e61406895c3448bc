/-
  What entries tell: the program's tells, taken, cratesTo. Condition: entries fit their kinds.
-/
import Derived.Test.YtjgafdfffmfhhabDoorPt
import Derived.Test.YtjgafdfffmfhhabDoorAm
namespace Go.Proofs.YtjgafdfffmfhhabDoor
open Go.ChangeShapes Go.WideShapes Go.ChangeAt Go.RowKit Go.Deep

/-- What an entry tells, as a value of an interface. -/
def hapV (x : Ent) : Value :=
  if x.wh = 0 then .iface 97 (.agg #[.int .i64 (nmE x), .int .i64 0, .int .i64 0, .int .i64 0, .int .i64 0])
  else if x.wh = 1 then .iface 97 (.agg #[.int .i64 0, .int .i64 (nmE x), .int .i64 0, .int .i64 0, .int .i64 0])
  else if x.wh = 2 then .iface 97 (.agg #[.int .i64 0, .int .i64 0, .int .i64 (nmE x), .int .i64 0, .int .i64 0])
  else if x.wh = 3 then .iface 98 (.int .i64 (nmE x))
  else if x.wh = 4 then .iface 99 (.int .i64 (nmE x))
  else .iface 97 (.agg #[.int .i64 0, .int .i64 0, .int .i64 0, .int .i64 0, .int .i64 0])
theorem Tryd.methGoing (a b c d e : Int) (w : World) : (method 262 97 (.agg #[.int .i64 a, .int .i64 b, .int .i64 c, .int .i64 d, .int .i64 e]) "loop.example/g01353/impl.taken").run Tryd.prog w = .ok (83, .agg #[.int .i64 a, .int .i64 b, .int .i64 c, .int .i64 d, .int .i64 e]) w := by kernel_rfl
theorem Tryd.methDrinking (a : Int) (w : World) : (method 262 98 (.int .i64 a) "loop.example/g01353/impl.taken").run Tryd.prog w = .ok (84, .int .i64 a) w := by kernel_rfl
theorem Tryd.methBreaking (a : Int) (w : World) : (method 262 99 (.int .i64 a) "loop.example/g01353/impl.taken").run Tryd.prog w = .ok (85, .int .i64 a) w := by kernel_rfl
theorem Tryd.fieldCrates (a b c d e : Int) (w : World) : (Instr.field 31 (.agg #[.int .i64 a, .int .i64 b, .int .i64 c, .int .i64 d, .int .i64 e]) 2).run Tryd.prog w = .ok (.int .i64 c) w := by kernel_rfl
theorem takenG_any (a b c d e : Int) (w : World) : Calls Tryd.prog 83 #[.agg #[.int .i64 a, .int .i64 b, .int .i64 c, .int .i64 d, .int .i64 e]] w fun x w' => x = .returned (.agg #[.int .i64 a, .int .i64 b, .int .i64 c, .int .i64 d, .int .i64 e]) ∧ Below w.heap.size w w' := by
  go_enter Tryd.func83, Tryd.ntmps83
  go_wp2
  refine bodyPost_ret (v := .agg #[.int .i64 a, .int .i64 b, .int .i64 c, .int .i64 d, .int .i64 e]) (by simp [results, Tryd.results83, go_sem]) rfl ⟨rfl, (by repeat (first | exact Below.refl _ _ | refine Below.drew ?_ | refine Below.alloc ?_ (by simp <;> omega) _ | refine Below.setCell ?_ (by simp <;> omega) _))⟩
theorem takenD_any (n : Int) (w : World) : Calls Tryd.prog 84 #[.int .i64 n] w fun x w' => x = .returned (.agg #[.int .i64 n, .int .i64 0, .int .i64 0, .int .i64 0, .int .i64 0]) ∧ Below w.heap.size w w' := by
  go_enter Tryd.func84, Tryd.ntmps84
  go_wp2
  refine bodyPost_ret (v := .agg #[.int .i64 n, .int .i64 0, .int .i64 0, .int .i64 0, .int .i64 0]) (by simp [results, Tryd.results84, go_sem]) rfl ⟨rfl, (by repeat (first | exact Below.refl _ _ | refine Below.drew ?_ | refine Below.alloc ?_ (by simp <;> omega) _ | refine Below.setCell ?_ (by simp <;> omega) _))⟩
theorem takenB_any (n : Int) (w : World) : Calls Tryd.prog 85 #[.int .i64 n] w fun x w' => x = .returned (.agg #[.int .i64 n, .int .i64 0, .int .i64 0, .int .i64 0, .int .i64 0]) ∧ Below w.heap.size w w' := by
  go_enter Tryd.func85, Tryd.ntmps85
  go_wp2
  refine bodyPost_ret (v := .agg #[.int .i64 n, .int .i64 0, .int .i64 0, .int .i64 0, .int .i64 0]) (by simp [results, Tryd.results85, go_sem]) rfl ⟨rfl, (by repeat (first | exact Below.refl _ _ | refine Below.drew ?_ | refine Below.alloc ?_ (by simp <;> omega) _ | refine Below.setCell ?_ (by simp <;> omega) _))⟩
set_option maxRecDepth 100000 in
set_option maxHeartbeats 4000000 in
theorem tells_any (x : Ent) (hx : wfE x) (w : World) :
    Calls Tryd.prog 41 #[.agg (ecells x).toArray] w fun e w' => e = .returned (hapV x) ∧ Below w.heap.size w w' := by
  obtain ⟨dy, fr, to, wh, nu⟩ := x
  obtain ⟨⟨a0, a1⟩, ⟨b0, b1⟩, ⟨c0, c1⟩, ⟨d0, d1⟩, f0, f1⟩ := hx
  simp only at a0 a1 b0 b1 c0 c1 d0 d1 f0 f1
  have x5 : IntKind.i64.wrap nu = nu := IntWalk.i64_in _ ⟨by omega, by omega⟩
  have x6 : wrap64 nu = nu := IntWalk.wrap64_in _ ⟨by omega, by omega⟩
  obtain ⟨V, hV⟩ : ∃ V, hapV ⟨dy, fr, to, wh, nu⟩ = V := ⟨_, rfl⟩
  have HV := Lib.hid hV
  obtain ⟨N, hN⟩ : ∃ N, (if nu > 0 then nu else 0) = N := ⟨_, rfl⟩
  have HN : Hid (nmE ⟨dy, fr, to, wh, nu⟩ = N) := by show nmE _ = N; unfold nmE; rw [← hN]; simp only; split <;> omega
  rw [hV]
  clear hV
  show Calls Tryd.prog 41 #[.agg #[.int .i16 dy, .int .i8 fr, .int .i8 to, .int .u8 wh, .int .i16 nu]] w fun e w' => e = .returned V ∧ Below w.heap.size w w'
  go_enter Tryd.func41, Tryd.ntmps41
  go_wp2
  all_goals (go_ret; exact ⟨by ((try simp only [beq_iff_eq, beq_eq_false_iff_ne, ne_eq] at *); rw [← HV.out]; unfold hapV; rw [HN.out]; simp [*]), (by repeat (first | exact Below.refl _ _ | refine Below.drew ?_ | refine Below.alloc ?_ (by simp <;> omega) _ | refine Below.setCell ?_ (by simp <;> omega) _))⟩)
def ctN (x : Ent) (a b : Int) : Int := if x.fr = a ∧ x.to = b then (if x.wh = 2 then nmE x else 0) else 0
/-- The ways of what an entry tells. -/
theorem hap_ways (x : Ent) : (hapV x = .iface 97 (.agg #[.int .i64 (gds x).fu, .int .i64 (gds x).em, .int .i64 (gds x).cr, .int .i64 (gds x).br, .int .i64 (gds x).mo]) ∧ x.wh ≠ 3 ∧ x.wh ≠ 4) ∨ (hapV x = .iface 98 (.int .i64 (nmE x)) ∧ x.wh = 3) ∨ (hapV x = .iface 99 (.int .i64 (nmE x)) ∧ x.wh = 4) := by
  unfold hapV gds hzero
  by_cases h0 : x.wh = 0
  · left; simp [h0]
  by_cases h1 : x.wh = 1
  · left; simp [h1]
  by_cases h2 : x.wh = 2
  · left; simp [h2]
  by_cases h3 : x.wh = 3
  · right; left; simp [h3]
  by_cases h4 : x.wh = 4
  · right; right; simp [h4]
  · left; simp [h0, h1, h2, h3, h4]
theorem gds_cr (x : Ent) : (gds x).cr = if x.wh = 2 then nmE x else 0 := by
  unfold gds hzero
  by_cases h0 : x.wh = 0
  · simp [h0]
  by_cases h1 : x.wh = 1
  · simp [h1]
  by_cases h2 : x.wh = 2
  · simp [h2]
  · simp [h0, h1, h2]
set_option maxRecDepth 100000 in
set_option maxHeartbeats 4000000 in
theorem cratesTo_any (x : Ent) (hx : wfE x) (a b : Int) (w : World) :
    Calls Tryd.prog 48 #[.agg (ecells x).toArray, .int .i64 a, .int .i64 b] w fun e w' => e = .returned (.int .i64 (ctN x a b)) ∧ Below w.heap.size w w' := by
  have HT : Hid (∀ z, Calls Tryd.prog 41 #[.agg (ecells x).toArray] z fun e w' => e = .returned (hapV x) ∧ Below z.heap.size z w') := fun z => tells_any x hx z
  have HWays := Lib.hid (hap_ways x)
  have HG := Lib.hid (gds_cr x)
  have HC : Hid (ctN x a b = if x.fr = a ∧ x.to = b then (gds x).cr else 0) := by show _ = _; rw [gds_cr]; rfl
  obtain ⟨v, hv⟩ : ∃ v, hapV x = v := ⟨_, rfl⟩
  rw [hv] at HT HWays
  clear hv
  obtain ⟨C, hC⟩ : ∃ C, ctN x a b = C := ⟨_, rfl⟩
  rw [hC] at HC ⊢
  clear hC
  obtain ⟨G, hG⟩ : ∃ G, gds x = G := ⟨_, rfl⟩
  rw [hG] at HWays HG HC
  obtain ⟨g0, g1, g2, g3, g4⟩ := G
  obtain ⟨n, hn⟩ : ∃ n, nmE x = n := ⟨_, rfl⟩
  rw [hn] at HWays HG
  clear hG hn
  obtain ⟨dy, fr, to, wh, nu⟩ := x
  obtain ⟨⟨a0, a1⟩, ⟨b0, b1⟩, ⟨c0, c1⟩, ⟨d0, d1⟩, f0, f1⟩ := hx
  simp only at a0 a1 b0 b1 c0 c1 d0 d1 f0 f1 HWays HC HG
  have x1 : IntKind.i64.wrap fr = fr := IntWalk.i64_in _ ⟨by omega, by omega⟩
  have x2 : wrap64 fr = fr := IntWalk.wrap64_in _ ⟨by omega, by omega⟩
  have x3 : IntKind.i64.wrap to = to := IntWalk.i64_in _ ⟨by omega, by omega⟩
  have x4 : wrap64 to = to := IntWalk.wrap64_in _ ⟨by omega, by omega⟩
  rw [show (ecells ⟨dy, fr, to, wh, nu⟩).toArray = #[.int .i16 dy, .int .i8 fr, .int .i8 to, .int .u8 wh, .int .i16 nu] from rfl] at HT ⊢
  clear a0 a1 b0 b1 c0 c1 d0 d1 f0 f1
  by_cases hfr : fr = a
  rotate_left
  · have E : Hid (C = 0) := by show C = 0; rw [HC.out, if_neg (fun h => hfr h.1)]
    have hb1 : (fr == a) = false := by simpa using hfr
    clear hfr
    go_enter Tryd.func48, Tryd.ntmps48
    go_wp2
    go_ret
    exact ⟨by (rw [E.out]; first | done | rfl), (by repeat (first | exact Below.refl _ _ | refine Below.drew ?_ | refine Below.alloc ?_ (by simp <;> omega) _ | refine Below.setCell ?_ (by simp <;> omega) _))⟩
  by_cases hto : to = b
  rotate_left
  · have E : Hid (C = 0) := by show C = 0; rw [HC.out, if_neg (fun h => hto h.2)]
    have hb2 : (to == b) = false := by simpa using hto
    clear hto HC
    subst hfr
    go_enter Tryd.func48, Tryd.ntmps48
    go_wp2
    go_ret
    exact ⟨by (rw [E.out]; first | done | rfl), (by repeat (first | exact Below.refl _ _ | refine Below.drew ?_ | refine Below.alloc ?_ (by simp <;> omega) _ | refine Below.setCell ?_ (by simp <;> omega) _))⟩
  have E : Hid (C = g2) := by show C = g2; rw [HC.out, if_pos ⟨hfr, hto⟩]
  have HA : Hid (Below w.heap.size w (w.alloc (.cells #[.int .i16 dy, .int .i8 fr, .int .i8 to, .int .u8 wh, .int .i16 nu] 71))) := (Below.refl _ w).alloc (Nat.le_refl _) _
  clear HC
  subst hfr
  subst hto
  go_enter Tryd.func48, Tryd.ntmps48
  go_wp2_with fail
  refine (HT.out _).mono ?_
  rintro e w1 ⟨rfl, hb⟩
  have HB1 : Hid (Below w.heap.size w w1) := HA.out.trans (hb.mono HA.out.size)
  clear hb HA HT
  rcases HWays.out with ⟨hv, -, -⟩ | ⟨hv, h3⟩ | ⟨hv, h4⟩
  · rw [hv]
    have m1 := Tryd.methGoing g0 g1 g2 g3 g4
    have m2 := Tryd.fieldCrates g0 g1 g2 g3 g4
    clear hv HWays
    go_wp2_with fail
    refine (takenG_any g0 g1 g2 g3 g4 _).mono ?_
    rintro e w2 ⟨rfl, hb⟩
    have HB2 : Hid (Below w.heap.size w w2) := HB1.out.trans (hb.mono HB1.out.size)
    clear hb
    go_wp2
    go_ret
    exact ⟨by (rw [E.out]; first | done | rfl), HB2.out⟩
  · have hg : g2 = 0 := by have := HG.out; rw [h3] at this; simpa using this
    have E2 : Hid (C = 0) := by show C = 0; rw [E.out, hg]
    rw [hv]
    have m1 := Tryd.methDrinking n
    have m2 := Tryd.fieldCrates n 0 0 0 0
    clear hv HWays h3 hg HG E
    go_wp2_with fail
    refine (takenD_any n _).mono ?_
    rintro e w2 ⟨rfl, hb⟩
    have HB2 : Hid (Below w.heap.size w w2) := HB1.out.trans (hb.mono HB1.out.size)
    clear hb
    go_wp2
    go_ret
    exact ⟨by (rw [E2.out]; first | done | rfl), HB2.out⟩
  · have hg : g2 = 0 := by have := HG.out; rw [h4] at this; simpa using this
    have E2 : Hid (C = 0) := by show C = 0; rw [E.out, hg]
    rw [hv]
    have m1 := Tryd.methBreaking n
    have m2 := Tryd.fieldCrates n 0 0 0 0
    clear hv HWays h4 hg HG E
    go_wp2_with fail
    refine (takenB_any n _).mono ?_
    rintro e w2 ⟨rfl, hb⟩
    have HB2 : Hid (Below w.heap.size w w2) := HB1.out.trans (hb.mono HB1.out.size)
    clear hb
    go_wp2
    go_ret
    exact ⟨by (rw [E2.out]; first | done | rfl), HB2.out⟩
end Go.Proofs.YtjgafdfffmfhhabDoor
