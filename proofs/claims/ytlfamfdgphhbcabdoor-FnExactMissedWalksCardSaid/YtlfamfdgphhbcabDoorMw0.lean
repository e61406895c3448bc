/-
  MissedWalks: what it answers; the days counted one by one and those told by number; mathematics. No condition.
-/
import Derived.Test.YtlfamfdgphhbcabDoorDs0
import Derived.Test.YtlfamfdgphhbcabDoorYk
namespace Go.Proofs.YtlfamfdgphhbcabDoor
open Go.ChangeShapes Go.WideShapes Go.ChangeAt Go.RowKit Go.Deep

abbrev P2 := Int × Int
def p2cells (p : P2) : List Value := [.int .i64 p.1, .int .i64 p.2]
theorem p2cells_length (p : P2) : (p2cells p).length = 2 := rfl
theorem p2cells_one (p : P2) : (p2cells p).toArray.all (·.oneCell') = true := by simp [p2cells, Value.oneCell']
/-- The errors in their order. -/
def mwO (r : List Int) (l : List Wal) (d : Int) (s : List Int) : Option Nat := firstO [rwO r l, chk 5 (yOk s), chk 5 (decide (r.length = s.length)), chk 0 (decide (0 ≤ d) && decide (d ≤ 400))]
theorem mwO_lt {r : List Int} {l : List Wal} {d : Int} {s : List Int} : ∀ i, mwO r l d s = some i → i < 7 := by
  refine firstO_lt ?_
  simp only [List.mem_cons, List.not_mem_nil, or_false]
  rintro o (rfl | rfl | rfl | rfl)
  · exact rwO_lt
  · exact chk_lt (by omega)
  · exact chk_lt (by omega)
  · exact chk_lt (by omega)
def mwC (r : List Int) (l : List Wal) (d : Int) (s : List Int) : Int := cdO (mwO r l d s)
/-- The days of a walker ahead of a day, one by one; by number. -/
def dnX (x : Wal) : Nat → List Int
  | 0 => []
  | k + 1 => dnX x k ++ if onD x k = true then [(k : Int)] else []
def dkX (x : Wal) : Nat → List Int
  | 0 => []
  | k + 1 => dkX x k ++ [x.fi + k * x.ev]
theorem dnX_le (x : Wal) : ∀ k, (dnX x k).length ≤ k
  | 0 => by simp [dnX]
  | k + 1 => by
    have := dnX_le x k
    rw [dnX, List.length_append]
    split <;> simp <;> omega
theorem dkX_len (x : Wal) : ∀ k, (dkX x k).length = k
  | 0 => rfl
  | k + 1 => by rw [dkX, List.length_append, dkX_len x k]; rfl
theorem on_un {x : Wal} (he : 1 ≤ x.ev) {d : Int} (h : onD x d = true) : x.fi + unD x (d - 1) * x.ev = d := by
  obtain ⟨h1, h2⟩ := onD_iff.1 h
  have h3 := un_step he d
  rw [show onB d x = 1 from by rw [onB, if_pos h]] at h3
  rw [unD, if_neg (by omega)] at h3
  obtain ⟨u, hu⟩ : ∃ u, unD x (d - 1) = u := ⟨_, rfl⟩
  rw [hu] at h3 ⊢
  have h4 := Int.emod_add_mul_ediv (d - x.fi) x.ev
  rw [h2] at h4
  have h5 : (d - x.fi) / x.ev = u := by omega
  rw [h5, Int.mul_comm] at h4
  omega
theorem dn_dk {x : Wal} (hf : 0 ≤ x.fi) (he : 1 ≤ x.ev) : ∀ k : Nat, dnX x k = dkX x (unD x ((k : Int) - 1)).toNat
  | 0 => by
    rw [show ((0 : Nat) : Int) - 1 = 0 - 1 from rfl, unD_m1 hf]; rfl
  | k + 1 => by
    have h1 := un_step he (k : Int)
    have h2 := unD_in hf he (show -1 ≤ (k : Int) - 1 by omega)
    rw [show ((k + 1 : Nat) : Int) - 1 = (k : Int) from by omega, dnX, dn_dk hf he k]
    by_cases ho : onD x (k : Int) = true
    · rw [if_pos ho]
      have h3 := on_un he ho
      rw [show onB (k : Int) x = 1 from by rw [onB, if_pos ho]] at h1
      obtain ⟨u, hu⟩ : ∃ u : Nat, unD x ((k : Int) - 1) = u := ⟨(unD x ((k : Int) - 1)).toNat, by omega⟩
      rw [hu] at h1 h3 ⊢
      rw [h1, show ((u : Int) + 1).toNat = u + 1 from by omega, Int.toNat_natCast, dkX, h3]
    · rw [if_neg ho]
      rw [show onB (k : Int) x = 0 from by rw [onB, if_neg ho], Int.add_zero] at h1
      rw [h1, List.append_nil]
def bkW (x : Wal) : Wal := ⟨x.fi, x.ev, x.st, x.sp, x.co, -x.tu⟩
theorem bkW_ok {n : Int} {x : Wal} (h : vOk n x = true) : vOk n (bkW x) = true := by
  have h6 := (vOk_out h).2.2.2.2.2
  have e : (decide (-7 ≤ -x.tu) && decide (-x.tu ≤ 7)) = (decide (-7 ≤ x.tu) && decide (x.tu ≤ 7)) := by
    rw [decide_eq_true (by omega : -7 ≤ -x.tu), decide_eq_true (by omega : -x.tu ≤ 7), decide_eq_true h6.1, decide_eq_true h6.2]
  rw [← h]
  show (_ && (_ && (decide (-7 ≤ -x.tu) && decide (-x.tu ≤ 7)))) = _
  rw [e]; rfl
theorem byW_bk (n : Nat) (x : Wal) : byW n (bkW x) 1 = byW n x (-1) := by
  funext i
  show (vis n x).getD i 0 * 1 * (-x.tu) = (vis n x).getD i 0 * (-1) * x.tu
  rw [Int.mul_one, Int.mul_neg, Int.mul_neg, Int.mul_one, Int.neg_mul]
/-- The pairs of a walker; of the first walkers. -/
def prD (i : Nat) (ds : List Int) : List P2 := ds.map (fun e => ((i : Int), e))
theorem prD_len (i : Nat) (ds : List Int) : (prD i ds).length = ds.length := List.length_map ..
def mwT (n : Nat) (R s : List Int) (l : List Wal) (d : Int) : Nat → List P2
  | 0 => []
  | k + 1 => mwT n R s l d k ++ if tnR R (byW n (l.getD k ⟨0, 1, 0, 0, 0, 0⟩) (-1)) = s then prD k (dnX (l.getD k ⟨0, 1, 0, 0, 0, 0⟩) (d + 1).toNat) else []
theorem mwT_no {n : Nat} {R s : List Int} {l : List Wal} {d : Int} {k : Nat} {x : Wal} (h : l[k]? = some x) (hs : ¬ tnR R (byW n x (-1)) = s) : mwT n R s l d (k + 1) = mwT n R s l d k := by
  rw [mwT]; simp [h, hs]
theorem mwT_yes {n : Nat} {R s : List Int} {l : List Wal} {d : Int} {k : Nat} {x : Wal} (h : l[k]? = some x) (hs : tnR R (byW n x (-1)) = s) : mwT n R s l d (k + 1) = mwT n R s l d k ++ prD k (dnX x (d + 1).toNat) := by
  rw [mwT]; simp [h, hs]
theorem mwT_len (n : Nat) (R s : List Int) (l : List Wal) (d : Int) (hd : d ≤ 400) : ∀ k, (mwT n R s l d k).length ≤ 401 * k
  | 0 => by simp [mwT]
  | k + 1 => by
    have h1 := mwT_len n R s l d hd k
    have h2 := dnX_le (l.getD k ⟨0, 1, 0, 0, 0, 0⟩) (d + 1).toNat
    rw [mwT, List.length_append]
    split
    · rw [prD_len]; omega
    · simp; omega
def mwL (r : List Int) (l : List Wal) (d : Int) (s : List Int) : List P2 := if mwC r l d s = 0 then mwT r.length (tnA r.length l (fun x => unD x d) r l.length) s l d l.length else []
theorem mw_bad {r : List Int} {l : List Wal} {d : Int} {s : List Int} {i : Nat} (h : mwO r l d s = some i) : mwC r l d s = cdN i ∧ mwL r l d s = [] := by
  have h1 : mwC r l d s = cdN i := by rw [mwC, h]; rfl
  exact ⟨h1, by rw [mwL, if_neg (by rw [h1]; exact cdN_ne)]⟩
theorem mw_ok {r : List Int} {l : List Wal} {d : Int} {s : List Int} (h : mwO r l d s = none) : mwC r l d s = 0 ∧ mwL r l d s = mwT r.length (tnA r.length l (fun x => unD x d) r l.length) s l d l.length ∧ yOk r = true ∧ vsOk r.length l = true ∧ yOk s = true ∧ r.length = s.length ∧ 0 ≤ d ∧ d ≤ 400 := by
  have h1 : mwC r l d s = 0 := by rw [mwC, h]; rfl
  have hy : yOk r = true := by
    cases hy : yOk r
    · rw [mwO, rwO, hy] at h; cases h
    · rfl
  have hv : vsOk r.length l = true := by
    cases hv : vsOk r.length l
    · rw [mwO, rwO, hy, hv] at h; cases h
    · rfl
  have hs : yOk s = true := by
    cases hs : yOk s
    · rw [mwO, rwO, hy, hv, hs] at h; cases h
    · rfl
  have hn : decide (r.length = s.length) = true := by
    cases hn : decide (r.length = s.length)
    · rw [mwO, rwO, hy, hv, hs, hn] at h; cases h
    · rfl
  have hd : (decide (0 ≤ d) && decide (d ≤ 400)) = true := by
    cases hd : (decide (0 ≤ d) && decide (d ≤ 400))
    · rw [mwO, rwO, hy, hv, hs, hn, hd] at h; cases h
    · rfl
  simp only [Bool.and_eq_true, decide_eq_true_eq] at hn hd
  exact ⟨h1, by rw [mwL, if_pos h1], hy, hv, hs, hn, hd.1, hd.2⟩
theorem mw_seen {r : List Int} {l : List Wal} {d : Int} {s : List Int} (h : yOk s = false ∨ r.length ≠ s.length) : mwC r l d s = 1 ∧ mwL r l d s = [] := by
  have h1 : mwC r l d s = 1 := by
    cases hy : yOk r
    · rw [mwC, mwO, rwO, hy]; rfl
    cases hv : vsOk r.length l
    · rw [mwC, mwO, rwO, hy, hv]; rfl
    cases hs : yOk s
    · rw [mwC, mwO, rwO, hy, hv, hs]; rfl
    rcases h with h | h
    · rw [hs] at h; cases h
    · rw [mwC, mwO, rwO, hy, hv, hs, decide_eq_false h]; rfl
  exact ⟨h1, by rw [mwL, if_neg (by rw [h1]; decide)]⟩
theorem mw_code {r : List Int} {l : List Wal} {d : Int} {s : List Int} (hs : yOk s = true) (hn : r.length = s.length) : (if yOk r = true then akV r.length l (inS d && decide (d ≤ 400)) else 1) = mwC r l d s := by
  have e : (inS d && decide (d ≤ 400)) = (decide (0 ≤ d) && decide (d ≤ 400)) := by
    by_cases h : d ≤ 400
    · rw [inS, decide_eq_true h, decide_eq_true (by omega : d ≤ 10000)]; simp
    · rw [decide_eq_false h]; simp
  rw [e]
  cases hy : yOk r
  · rw [if_neg (by decide), mwC, mwO, rwO, hy]; rfl
  rw [if_pos rfl]
  cases hv : vsOk r.length l
  · rw [akV, if_neg (by rw [hv]; decide), mwC, mwO, rwO, hy, hv]; rfl
  rw [akV, if_pos hv]
  cases hd : (decide (0 ≤ d) && decide (d ≤ 400))
  · rw [if_neg (by decide), mwC, mwO, rwO, hy, hv, hs, decide_eq_true hn, hd]; rfl
  · rw [if_pos rfl, mwC, mwO, rwO, hy, hv, hs, decide_eq_true hn, hd]; rfl
end Go.Proofs.YtlfamfdgphhbcabDoor
