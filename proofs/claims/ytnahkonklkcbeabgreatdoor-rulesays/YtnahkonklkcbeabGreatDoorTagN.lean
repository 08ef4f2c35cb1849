/-
  Plain mathematics of a tag's number: fields of bits packed and taken out again.
-/
import Derived.Laws.BitsAllLaws
import Derived.Laws.Bits64
import Derived.Test.YtnahkonklkcbeabGreatDoorTagM
namespace Go.Proofs.YtnahkonklkcbeabGreatDoor.TagM
open Go

/-- A number with so many bits put behind it. -/
def pk (n b v : Nat) : Nat := n * 2 ^ b + v

theorem pk_lt {n b v m : Nat} (hn : n < 2 ^ m) (hv : v < 2 ^ b) : pk n b v < 2 ^ (m + b) := by
  unfold pk
  have : (n + 1) * 2 ^ b ≤ 2 ^ m * 2 ^ b := Nat.mul_le_mul_right _ hn
  rw [Nat.pow_add]
  rw [Nat.add_mul] at this
  omega
theorem pk_div {n b v : Nat} (hv : v < 2 ^ b) : pk n b v / 2 ^ b = n := by
  unfold pk
  rw [Nat.mul_comm, Nat.mul_add_div (Nat.two_pow_pos b), Nat.div_eq_of_lt hv]; rfl
theorem pk_mod {n b v : Nat} (hv : v < 2 ^ b) : pk n b v % 2 ^ b = v := by
  unfold pk
  rw [Nat.mul_comm, Nat.mul_add_mod, Nat.mod_eq_of_lt hv]
theorem pk_split (n b : Nat) : pk (n / 2 ^ b) b (n % 2 ^ b) = n := by
  unfold pk; rw [Nat.mul_comm]; exact Nat.div_add_mod n _

theorem or_val {n b v : Nat} {nI vI bI : Int} (hn : nI = n) (hvI : vI = v) (hbI : bI = b) (hv : v < 2 ^ b) (h : pk n b v < 2 ^ 64) :
    bits .or .u64 (IntKind.u64.wrap (nI * 2 ^ bI.toNat)) vI = ((pk n b v : Nat) : Int) := by
  subst hn hvI hbI
  have h2 : n * 2 ^ b + v < 18446744073709551616 := h
  have e1 : IntKind.u64.wrap ((n : Int) * 2 ^ ((b : Int).toNat)) = ((n * 2 ^ b : Nat) : Int) := by
    rw [IntKind.wrap_u64, Int.toNat_natCast]
    have : ((n : Int) * 2 ^ b) = ((n * 2 ^ b : Nat) : Int) := by simp
    rw [this]
    omega
  rw [e1, u64_or_nat _ _ (by omega) (by omega)]
  congr 1
  unfold pk
  rw [← Nat.shiftLeft_eq, Nat.shiftLeft_add_eq_or_of_lt hv]

end Go.Proofs.YtnahkonklkcbeabGreatDoor.TagM
