/-
  The contracts of the laws' szMarks, toMarks and eqMarks, eqInt64SS at equal arguments. Condition: marks of at most 1048576 lists and numbers.
-/
import Derived.Test.YtlagnocglkoomaaDoorLi
import Derived.Test.YtlagnocglkoomaaDoorNs
import Derived.Deep.RegionHeld3
import Derived.WalkSmall
namespace Go.Proofs.YtlagnocglkoomaaDoor
open Go.ChangeShapes Go.WideShapes Go.ChangeAt Go.RowKit Go.Deep

theorem Tryd.infoLN : (Tryd.prog.info? 30).map (fun i => (i.zero, i.size, i.bytes)) = some (some (.slice none 0 0), 1, 24) := by kernel_rfl

/-- What stands between two rounds of toMarks. -/
def TMk (xss : List (List Int)) (w : World) (k : Nat) (gs : List Nat) (hs : List Hd) (wr : World) : Prop :=
  hs.length = xss.length ∧ gs.length = k ∧ Rs wr w.heap.size 30 hcells hs ∧ (∀ (i g : Nat) (xs : List Int), gs[i]? = some g → xss[i]? = some xs → hs[i]? = some (hdOf g xs) ∧ Rs wr g 2 icells xs) ∧
    (w.heap.size :: gs).Pairwise (· < ·) ∧ (∀ g ∈ gs, g < wr.heap.size) ∧ Below w.heap.size w wr
theorem rs_set1 {w : World} {g : Nat} {t : TypeId} {hs : List Hd} (h : Rs w g t hcells hs) {k : Nat} (hk : k < hs.length) (x : Hd) : Rs (w.setCell ⟨g, k, none⟩ (.slice x.1 x.2.1 x.2.2)) g t hcells (hs.set k x) := by
  have := Rs.set_ hcells_length h hk x
  simpa [hcells, World.setCells] using this
theorem TMk.step {xss : List (List Int)} {w wr w2 : World} {k : Nat} {gs : List Nat} {hs : List Hd} {xs : List Int} (h : TMk xss w k gs hs wr) (hk : xss[k]? = some xs) (hR : Rs w2 wr.heap.size 2 icells xs) (hb : Below wr.heap.size wr w2) :
    TMk xss w (k + 1) (gs ++ [wr.heap.size]) (hs.set k (hdOf wr.heap.size xs)) (w2.setCell ⟨w.heap.size, k, none⟩ (.slice (some ⟨wr.heap.size, 0, none⟩) xs.length xs.length)) := by
  obtain ⟨h1, h2, h3, h4, h5, h6, h7⟩ := h
  have hkl := (List.getElem?_eq_some_iff.1 hk).1
  have hsz : w.heap.size < wr.heap.size := Blk.lt h3
  have hsz2 : wr.heap.size < w2.heap.size := Blk.lt hR
  refine ⟨by simp [h1], by simp [h2], rs_set1 (Blk.keep h3 hb) (by omega) (hdOf wr.heap.size xs), ?_, ?_, ?_, (h7.trans (hb.mono (Nat.le_of_lt hsz))).setCell (p := ⟨w.heap.size, k, none⟩) (Nat.le_refl _) _⟩
  · intro i g ys hg hy
    by_cases e : i = k
    · subst e
      rw [List.getElem?_append_right (by omega), h2] at hg
      obtain rfl : wr.heap.size = g := by simpa using hg
      obtain rfl : xs = ys := Option.some.inj (hk.symm.trans hy)
      exact ⟨by rw [List.getElem?_set_self (by omega)], hR.far (p := ⟨w.heap.size, i, none⟩) (by show wr.heap.size ≠ w.heap.size; omega) _⟩
    · have hi : i < gs.length := by
        have := (List.getElem?_eq_some_iff.1 hg).1
        simp at this; omega
      rw [List.getElem?_append_left hi] at hg
      obtain ⟨q1, q2⟩ := h4 i g ys hg hy
      have hgl : g ≠ w.heap.size := by
        have := (List.pairwise_cons.1 h5).1 g (List.mem_of_getElem? hg)
        omega
      exact ⟨by rw [List.getElem?_set_ne (by omega)]; exact q1, (Blk.keep q2 hb).far (p := ⟨w.heap.size, k, none⟩) hgl _⟩
  · rw [List.pairwise_cons] at h5 ⊢
    refine ⟨fun g hg => ?_, ?_⟩
    · rcases List.mem_append.1 hg with hg | hg
      · exact h5.1 g hg
      · obtain rfl : g = wr.heap.size := by simpa using hg
        exact hsz
    · rw [List.pairwise_append]
      refine ⟨h5.2, by simp, fun a ha b hb' => ?_⟩
      obtain rfl : b = wr.heap.size := by simpa using hb'
      exact h6 a ha
  · intro g hg
    rcases List.mem_append.1 hg with hg | hg
    · have := h6 g hg; simp [World.setCell]; omega
    · obtain rfl : g = wr.heap.size := by simpa using hg
      simpa [World.setCell] using hsz2
theorem TMk.done {xss : List (List Int)} {w wr : World} {gs : List Nat} {hs : List Hd} (h : TMk xss w xss.length gs hs wr) : RsN wr w.heap.size 30 2 icells xss gs := by
  obtain ⟨h1, h2, h3, h4, h5, h6, h7⟩ := h
  refine ⟨h2, ?_, fun i g xs hg hx => (h4 i g xs hg hx).2, h5⟩
  have e : hs = List.zipWith hdOf gs xss := by
    apply List.ext_getElem?
    intro i
    by_cases hi : i < xss.length
    · have hx : xss[i]? = some (xss[i]'hi) := List.getElem?_eq_getElem hi
      have hg : gs[i]? = some (gs[i]'(by omega)) := List.getElem?_eq_getElem (by omega)
      rw [(h4 i _ _ hg hx).1, List.getElem?_zipWith, hg, hx]
    · rw [List.getElem?_eq_none (by omega), List.getElem?_eq_none (by simp; omega)]
  rw [← e]; exact h3

theorem keptH {W0 w1 w2 : World} {b o b' o' : Nat} {v v' : Value} (hg : b < W0.heap.size) (hg' : b' < W0.heap.size) (h : Below W0.heap.size W0 w1) (hb : Below w1.heap.size w1 w2)
    (a0 : w1.cell? ⟨b, o, none⟩ = some v) (b0 : w1.cell? ⟨b', o', none⟩ = some v') : w2.cell? ⟨b, o, none⟩ = some v ∧ w2.cell? ⟨b', o', none⟩ = some v' ∧ Below W0.heap.size W0 w2 := by
  have hs := h.size
  exact ⟨(hb.cell (p := ⟨b, o, none⟩) (by show b < _; omega)).trans a0, (hb.cell (p := ⟨b', o', none⟩) (by show b' < _; omega)).trans b0, h.trans (hb.mono hs)⟩

end Go.Proofs.YtlagnocglkoomaaDoor
