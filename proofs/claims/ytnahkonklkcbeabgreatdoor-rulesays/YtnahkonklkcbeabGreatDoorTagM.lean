/-
  Plain mathematics of tags: what may be, bits and digits by Part.
-/
namespace Go.Proofs.YtnahkonklkcbeabGreatDoor.TagM

def cbits : Nat → Nat | 0 => 20 | 1 => 17 | 2 => 14 | 3 => 10 | 4 => 7 | _ => 4
def cdig : Nat → Nat | 0 => 6 | 1 => 5 | 2 => 4 | 3 => 3 | 4 => 2 | _ => 1
def rbits : Nat → Nat | 0 => 6 | 1 => 9 | 2 => 12 | 3 => 16 | 4 => 19 | _ => 22
def rdig : Nat → Nat | 0 => 1 | 1 => 2 | 2 => 3 | 3 => 4 | 4 => 5 | _ => 6

def btw (n lo hi : Int) : Bool := decide (lo ≤ n) && decide (n ≤ hi)
def dig (n : Int) (d : Nat) : Bool := decide (0 ≤ n) && decide (n < (10 : Int) ^ d)

theorem btw_true {n lo hi : Int} : btw n lo hi = true ↔ lo ≤ n ∧ n ≤ hi := by simp [btw]
theorem dig_true {n : Int} {d : Nat} : dig n d = true ↔ 0 ≤ n ∧ n < (10 : Int) ^ d := by simp [dig]

/-- What A1 says: a tag. -/
def okB (K F P C R S : Int) : Bool := btw K 1 3 && btw F 0 7 && btw P 0 5 && btw S 0 16777215 && dig C (cdig P.toNat) && dig R (rdig P.toNat)

theorem pow10_le {d : Nat} (h : d ≤ 6) : 1 ≤ (10 : Int) ^ d ∧ (10 : Int) ^ d ≤ 1000000 := by
  match d, h with
  | 0, _ | 1, _ | 2, _ | 3, _ | 4, _ | 5, _ | 6, _ => decide
  | _ + 7, h => omega

theorem dig_btw {n : Int} {d : Nat} : dig n d = btw n 0 ((10 : Int) ^ d - 1) := by
  unfold dig btw
  congr 1
  rw [Bool.eq_iff_iff]; simp; omega
theorem cdig_le (k : Nat) : 1 ≤ cdig k ∧ cdig k ≤ 6 := by unfold cdig; split <;> omega
theorem rdig_le (k : Nat) : 1 ≤ rdig k ∧ rdig k ≤ 6 := by unfold rdig; split <;> omega
theorem cbits_le (k : Nat) : 4 ≤ cbits k ∧ cbits k ≤ 20 := by unfold cbits; split <;> omega
theorem rbits_le (k : Nat) : 6 ≤ rbits k ∧ rbits k ≤ 22 := by unfold rbits; split <;> omega
theorem bits_sum (k : Nat) : cbits k + rbits k = 26 := by unfold cbits rbits; split <;> rfl
theorem dig_sum (k : Nat) : cdig k + rdig k = 7 := by unfold cdig rdig; split <;> rfl

end Go.Proofs.YtnahkonklkcbeabGreatDoor.TagM
