/-
  What Bytes does to the world, at a tag and at none.
-/
import Derived.Test.YtnahkonklkcbeabGreatDoorTagC
namespace Go.Proofs.YtnahkonklkcbeabGreatDoor.TagA
open Go.RowKit TagM
set_option maxRecDepth 100000

/-- The number of a tag. -/
def n3 (K F k : Nat) : Nat := pk (pk (pk 0 8 (K + 47)) 3 F) 3 k
def num (K F k C R S : Nat) : Nat := pk (pk (pk (n3 K F k) (cbits k) C) (rbits k) R) 24 S

theorem boxed6 {w w1 : World} {a b c d e f : Value} {t : TypeId} (hb : Below (w.alloc (.cells #[a, b, c, d, e, f] t)).heap.size (w.alloc (.cells #[a, b, c, d, e, f] t)) w1) :
    w.heap.size < w1.heap.size ∧ Below w.heap.size w w1 ∧ w1.cell? ⟨w.heap.size, 0, none⟩ = some a ∧ w1.cell? ⟨w.heap.size, 1, none⟩ = some b ∧ w1.cell? ⟨w.heap.size, 2, none⟩ = some c ∧ w1.cell? ⟨w.heap.size, 3, none⟩ = some d ∧ w1.cell? ⟨w.heap.size, 4, none⟩ = some e ∧ w1.cell? ⟨w.heap.size, 5, none⟩ = some f := by
  have hs : w.heap.size < (w.alloc (.cells #[a, b, c, d, e, f] t)).heap.size := by simp
  refine ⟨Nat.lt_of_lt_of_le hs hb.size, ((Below.refl _ w).alloc (Nat.le_refl _) _).trans (hb.mono (Nat.le_of_lt hs)), ?_, ?_, ?_, ?_, ?_, ?_⟩ <;> (rw [hb.cell hs]; go_simp)

theorem okN {K F k C R S : Nat} (h : okB K F k C R S = true) : 1 ≤ K ∧ K ≤ 3 ∧ F ≤ 7 ∧ k ≤ 5 ∧ S ≤ 16777215 ∧ C < 10 ^ cdig k ∧ R < 10 ^ rdig k := by
  simp only [okB, Bool.and_eq_true, btw_true, dig_true, Int.toNat_natCast] at h
  obtain ⟨⟨⟨⟨⟨h1, h2⟩, h3⟩, h4⟩, h5⟩, h6⟩ := h
  have h5' : (C : Int) < ((10 ^ cdig k : Nat) : Int) := by simpa using h5.2
  have h6' : (R : Int) < ((10 ^ rdig k : Nat) : Int) := by simpa using h6.2
  omega
theorem cpow {k : Nat} (h : k ≤ 5) : 10 ^ cdig k ≤ 2 ^ cbits k := by
  match k, h with
  | 0, _ | 1, _ | 2, _ | 3, _ | 4, _ | 5, _ => decide
theorem rpow {k : Nat} (h : k ≤ 5) : 10 ^ rdig k ≤ 2 ^ rbits k := by
  match k, h with
  | 0, _ | 1, _ | 2, _ | 3, _ | 4, _ | 5, _ => decide

theorem num_lt {K F k C R S : Nat} (hK : K ≤ 3) (hF : F ≤ 7) (hk : k ≤ 5) (hC : C < 2 ^ cbits k) (hR : R < 2 ^ rbits k) (hS : S ≤ 16777215) :
    pk 0 8 (K + 47) < 2 ^ 8 ∧ pk (pk 0 8 (K + 47)) 3 F < 2 ^ 11 ∧ n3 K F k < 2 ^ 14 ∧ pk (n3 K F k) (cbits k) C < 2 ^ (14 + cbits k) ∧ pk (pk (n3 K F k) (cbits k) C) (rbits k) R < 2 ^ 40 ∧ num K F k C R S < 2 ^ 64 := by
  have a1 : pk 0 8 (K + 47) < 2 ^ 8 := by unfold pk; omega
  have a2 : pk (pk 0 8 (K + 47)) 3 F < 2 ^ 11 := pk_lt (m := 8) a1 (by omega)
  have a3 : n3 K F k < 2 ^ 14 := pk_lt (m := 11) a2 (by omega)
  have a4 := pk_lt (m := 14) a3 hC
  have a5 : pk (pk (n3 K F k) (cbits k) C) (rbits k) R < 2 ^ 40 := by
    have := pk_lt a4 hR
    rwa [show 14 + cbits k + rbits k = 40 by have := bits_sum k; omega] at this
  exact ⟨a1, a2, a3, a4, a5, pk_lt (m := 40) a5 (by omega)⟩

end Go.Proofs.YtnahkonklkcbeabGreatDoor.TagA
