/-
  LedgerText: mathematics; a drawn region's invariant made stronger midway. No condition.
-/
import Derived.Test.YtjjdehnpnfdjcabDoorHl
import Derived.Test.YtjjdehnpnfdjcabDoorDc9
import Derived.Deep.RegionHeld3
namespace Go.Proofs.YtjjdehnpnfdjcabDoor
open Go.ChangeShapes Go.WideShapes Go.ChangeAt Go.RowKit Go.Deep

/-- Behind a stronger invariant stands the weaker one. -/
theorem wpAnyH_sub {P : Program} {md : Region.Mode} {ops : Array Oper} {Q : Exit → Act → World → Prop} {S S' : World → Prop} (hss : ∀ w, S' w → S w) : ∀ (fuel : Nat) (listed : Array Bool) (a : Act) (w : World), wpAnyH P md ops Q S' fuel listed a w → wpAnyH P md ops Q S fuel listed a w
  | 0, _, _, _, h => h
  | fuel + 1, _, _, _, h => ⟨h.1, fun i hi => wpOp_mono (fun a' w' h' => ⟨hss _ h'.1, wpAnyH_sub hss fuel _ a' w' h'.2⟩) (h.2 i hi)⟩
/-- The word of what is done. -/
def wdS : Nat → ByteArray
  | 0 => ⟨#[102, 117, 108, 108]⟩
  | 1 => ⟨#[101, 109, 112, 116, 121]⟩
  | 2 => ⟨#[99, 114, 97, 116, 101]⟩
  | 3 => ⟨#[100, 114, 105, 110, 107]⟩
  | _ => ⟨#[98, 114, 101, 97, 107]⟩
theorem wdS_size (w : Nat) : (wdS w).size ≤ 5 := by
  match w with
  | 0 => decide
  | 1 => decide
  | 2 => decide
  | 3 => decide
  | n + 4 => exact Nat.le_refl 5
/-- The line of an entry, in its two halves. -/
def lt1 (d f t : Nat) : ByteArray := decS d ++ ⟨#[32]⟩ ++ decS f ++ ⟨#[62]⟩ ++ decS t
def lt2 (k n : Nat) : ByteArray := ⟨#[32]⟩ ++ wdS k ++ ⟨#[32]⟩ ++ decS n ++ ⟨#[10]⟩
def ltW (x : Ent) : ByteArray := lt1 x.dy.toNat x.fr.toNat x.to.toNat ++ lt2 x.wh.toNat x.nu.toNat
theorem ltW_nat (d f t k n : Nat) : ltW ⟨d, f, t, k, n⟩ = lt1 d f t ++ lt2 k n := rfl
theorem en_nat {x : Ent} (h : enOk 6 x = true) (hw : wfE x) : ∃ d f t k n : Nat, x = ⟨d, f, t, k, n⟩ ∧ d ≤ 10000 ∧ f ≤ 5 ∧ t ≤ 5 ∧ k ≤ 4 ∧ n ≤ 1000 := by
  obtain ⟨dy, fr, to, wh, nu⟩ := x
  obtain ⟨-, h1, h2, h3, h4, h5, -⟩ := enOk_iff.1 h
  have h6 : 0 ≤ wh := hw.2.2.2.1.1
  simp only at h1 h2 h3 h4 h5
  exact ⟨dy.toNat, fr.toNat, to.toNat, wh.toNat, nu.toNat, by rw [Int.toNat_of_nonneg h1.1, Int.toNat_of_nonneg h2.1, Int.toNat_of_nonneg h3.1, Int.toNat_of_nonneg h6, Int.toNat_of_nonneg (by omega)], by omega, by omega, by omega, by omega, by omega⟩
theorem lt1_size {d f t : Nat} (hd : d ≤ 10000) (hf : f ≤ 5) (ht : t ≤ 5) : (lt1 d f t).size ≤ 10020 := by
  have h1 := decS_size d
  have h2 := decS_size f
  have h3 := decS_size t
  have h4 : (⟨#[32]⟩ : ByteArray).size = 1 := rfl
  have h5 : (⟨#[62]⟩ : ByteArray).size = 1 := rfl
  simp only [lt1, ByteArray.size_append]; omega
theorem lt2_size {k n : Nat} (hn : n ≤ 1000) : (lt2 k n).size ≤ 1020 := by
  have h1 := decS_size n
  have h2 := wdS_size k
  have h4 : (⟨#[32]⟩ : ByteArray).size = 1 := rfl
  have h5 : (⟨#[10]⟩ : ByteArray).size = 1 := rfl
  simp only [lt2, ByteArray.size_append]; omega
def ltT (l : List Ent) : Nat → ByteArray
  | 0 => ⟨#[]⟩
  | k + 1 => match l[k]? with | some x => ltT l k ++ ltW x | none => ltT l k
theorem ltT_succ {l : List Ent} {k : Nat} {x : Ent} (h : l[k]? = some x) : ltT l (k + 1) = ltT l k ++ ltW x := by simp [ltT, h]
theorem ltT_size {l : List Ent} (h : ∀ x ∈ l, enOk 6 x = true) (hw : ∀ x ∈ l, wfE x) : ∀ k, (ltT l k).size ≤ 11040 * k
  | 0 => Nat.le_refl 0
  | k + 1 => by
    have ih := ltT_size h hw k
    cases hx : l[k]? with
    | none => simp only [ltT, hx]; omega
    | some x =>
      have hm := List.mem_of_getElem? hx
      obtain ⟨d, f, t, j, n, rfl, hd, hf, ht, -, hn⟩ := en_nat (h _ hm) (hw _ hm)
      have h1 := lt1_size hd hf ht
      have h2 := lt2_size (k := j) hn
      rw [ltT_succ hx, ltW_nat, ByteArray.size_append, ByteArray.size_append]; omega
def ltA (l : List Ent) : ByteArray := if leOk 6 l = true then ltT l l.length else ⟨#[]⟩
theorem ltA_no {l : List Ent} (h : leOk 6 l = false) : ltA l = ⟨#[]⟩ := by simp [ltA, h]
theorem ltA_yes {l : List Ent} (h : leOk 6 l = true) : ltA l = ltT l l.length := if_pos h
end Go.Proofs.YtjjdehnpnfdjcabDoor
