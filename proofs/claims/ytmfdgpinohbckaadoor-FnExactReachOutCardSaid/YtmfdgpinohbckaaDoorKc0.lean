/-
  Lists of lists that are read, with what capacities they have; lists of one's own and new ones are such. No condition of its own.
-/
import Derived.Test.YtmfdgpinohbckaaDoorNo
import Derived.Test.YtmfdgpinohbckaaDoorNp
namespace Go.Proofs.YtmfdgpinohbckaaDoor
open Go.ChangeShapes Go.WideShapes Go.ChangeAt Go.RowKit Go.Deep

/-- A slice reads as these lists; each one's capacity is no less than its length. -/
def RdK {T : Type} (w : World) (B : Nat) (cells : T → List Value) (A : Option Addr) (xss : List (List T)) : Prop :=
  ∃ hs : List Hd, hs.length = xss.length ∧ Rd w B hcells A hs ∧ ∀ (i : Nat) (h : Hd) (xs : List T), hs[i]? = some h → xss[i]? = some xs → h.2.1 = xs.length ∧ xs.length ≤ h.2.2 ∧ Rd w B cells h.1 xs
theorem RdK.below {T : Type} {w w' : World} {B : Nat} {cells : T → List Value} {A : Option Addr} {xss : List (List T)} (h : RdK w B cells A xss) {B' : Nat} (hB : B ≤ B') (hb : Below B' w w') : RdK w' B cells A xss := by
  obtain ⟨hs, hl, hr, hx⟩ := h
  exact ⟨hs, hl, hr.below hB hb, fun i h xs h1 h2 => ⟨(hx i h xs h1 h2).1, (hx i h xs h1 h2).2.1, (hx i h xs h1 h2).2.2.below hB hb⟩⟩
theorem RdK.more {T : Type} {w : World} {B B' : Nat} {cells : T → List Value} {A : Option Addr} {xss : List (List T)} (h : RdK w B cells A xss) (hB : B ≤ B') : RdK w B' cells A xss := by
  obtain ⟨hs, hl, hr, hx⟩ := h
  exact ⟨hs, hl, hr.more hB, fun i h xs h1 h2 => ⟨(hx i h xs h1 h2).1, (hx i h xs h1 h2).2.1, (hx i h xs h1 h2).2.2.more hB⟩⟩
theorem RdK.keep {T : Type} {w w' : World} {cells : T → List Value} {A : Option Addr} {xss : List (List T)} (h : RdK w w.heap.size cells A xss) (hb : Below w.heap.size w w') : RdK w' w'.heap.size cells A xss := (h.below (Nat.le_refl _) hb).more hb.size
theorem RdK.rd {T : Type} {w : World} {B : Nat} {cells : T → List Value} {A : Option Addr} {xss : List (List T)} (h : RdK w B cells A xss) : RdN w B cells A xss := by
  obtain ⟨hs, hl, hr, hx⟩ := h
  exact ⟨hs, hl, hr, fun i h xs h1 h2 => ⟨(hx i h xs h1 h2).1, (hx i h xs h1 h2).2.2⟩⟩
theorem RdK.at_ {T : Type} {w : World} {B : Nat} {cells : T → List Value} {A : Option Addr} {xss : List (List T)} (h : RdK w B cells A xss) {k : Nat} {xs : List T} (hk : xss[k]? = some xs) :
    ∃ b o a c, A = some ⟨b, o, none⟩ ∧ b < B ∧ w.cell? ⟨b, o + k, none⟩ = some (.slice a xs.length c) ∧ xs.length ≤ c ∧ Rd w B cells a xs := by
  obtain ⟨hs, hl, hr, hx⟩ := h
  have hkl := (List.getElem?_eq_some_iff.1 hk).1
  obtain ⟨⟨a, n, c⟩, hh⟩ : ∃ h, hs[k]? = some h := ⟨_, List.getElem?_eq_getElem (by omega)⟩
  obtain ⟨b, o, e, hb, hrow⟩ := hr.at_ hcells_length hh
  obtain ⟨hn, hnc, hrd⟩ := hx k _ xs hh hk
  have hc := rowH hrow
  dsimp only at hn hc
  rw [hn] at hc
  exact ⟨b, o, a, c, e, hb, hc, hnc, hrd⟩
theorem RsN.rdK {T : Type} {w : World} {g : Nat} {te t : TypeId} {cells : T → List Value} {xss : List (List T)} {gs : List Nat} (h : RsN w g te t cells xss gs) : RdK w w.heap.size cells (some ⟨g, 0, none⟩) xss := by
  obtain ⟨hl, ho, hi, -⟩ := h
  refine ⟨List.zipWith hdOf gs xss, by simp [hl], ho.rd (Blk.lt ho), fun i h xs h1 h2 => ?_⟩
  have hil := (List.getElem?_eq_some_iff.1 h2).1
  have hg : gs[i]? = some (gs[i]'(by omega)) := List.getElem?_eq_getElem (by omega)
  rw [List.getElem?_zipWith, hg, h2] at h1
  obtain rfl := Option.some.inj h1
  have hr := hi i _ xs hg h2
  exact ⟨rfl, Nat.le_refl _, hr.rd (Blk.lt hr)⟩
theorem own_cap {w : World} {b size n c : Nat} {e : TypeId} {A : Option Addr} {xs : List Value} (h : w.ownsRow b e size (.slice A n c) n xs) : n ≤ c := by
  obtain ⟨-, ⟨h1, h2⟩ | ⟨g, cap, cur, h1, h2, h3, h4, h5, h6⟩⟩ := h
  · omega
  · cases h1; exact h4
theorem OwnN.rdK {T : Type} {w : World} {b : Nat} {te t : TypeId} {size : Nat} {cells : T → List Value} {A : Option Addr} {c : Nat} {hs : List Hd} {xss : List (List T)} (hs1 : ∀ x, (cells x).length = size) (h : OwnN w b te t size cells A c hs xss) : RdK w w.heap.size cells A xss := by
  obtain ⟨h1, h2, h3, -, -⟩ := h
  refine ⟨hs, h2, own_rd2 hcells_length h1, fun i hd xs hi hx => ?_⟩
  obtain ⟨e, ho⟩ := h3 i hd xs hi hx
  rw [e] at ho
  exact ⟨e, own_cap ho, own_rd2 hs1 ho⟩
end Go.Proofs.YtmfdgpinohbckaaDoor
