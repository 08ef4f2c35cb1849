/-
  What numberOf and take do to the world.
-/
import Derived.Test.YtnahkonklkcbeabGreatDoorTagD
namespace Go.Proofs.YtnahkonklkcbeabGreatDoor.TagA
open Go.RowKit TagM
set_option maxRecDepth 100000

def numU (l : List UInt8) : Nat := l.foldl (fun n c => pk n 8 c.toNat) 0
theorem numU_snoc (l : List UInt8) (c : UInt8) : numU (l ++ [c]) = pk (numU l) 8 c.toNat := by simp [numU]
theorem fold_lt : ∀ (l : List UInt8) (n m : Nat), n < 2 ^ m → l.foldl (fun n c => pk n 8 c.toNat) n < 2 ^ (m + 8 * l.length)
  | [], n, m, h => by simpa using h
  | c :: l, n, m, h => by
    have h2 : pk n 8 c.toNat < 2 ^ (m + 8) := pk_lt h (UInt8.toNat_lt c)
    have := fold_lt l _ _ h2
    simp only [List.foldl_cons, List.length_cons]
    rw [show m + 8 * (l.length + 1) = m + 8 + 8 * l.length by omega]
    exact this
theorem numU_lt (l : List UInt8) : numU l < 2 ^ (8 * l.length) := by
  have := fold_lt l 0 0 (by decide)
  simpa [numU] using this
theorem or8 {n : Nat} {c : UInt8} (h : pk n 8 c.toNat < 2 ^ 64) : bits .or .u64 (IntKind.u64.wrap ((n : Int) * 256)) (IntKind.u64.wrap (c.toNat : Int)) = ((pk n 8 c.toNat : Nat) : Int) := by
  have e := or_val (n := n) (b := 8) (v := c.toNat) rfl rfl rfl (UInt8.toNat_lt c) h
  have : IntKind.u64.wrap (c.toNat : Int) = (c.toNat : Int) := by
    rw [IntKind.wrap_u64]; have := UInt8.toNat_lt c; omega
  rw [this, ← e]; rfl
theorem take_snoc (s : ByteArray) (k : Nat) (h : k < s.size) : s.data.toList.take (k + 1) = s.data.toList.take k ++ [s[k]] := by
  rw [List.take_succ_eq_append_getElem (by simpa using h)]; rfl

set_option maxHeartbeats 400000 in
theorem numberOf_any (s : ByteArray) (w : World) (hs : s.size = 8) :
    Calls Tryz.prog 64 #[.string s] w fun e w' => e = .returned (.int .u64 (numU s.data.toList : Nat)) ∧ w' = w := by
  have HS : Hid (s.size = 8) := hs
  have hs' : 8 ≤ s.size := by omega
  clear hs
  go_enter Tryz.func64, Tryz.ntmps64
  go_wp2
  go_loop [3, 4, 5] (fun n _ i => ∃ k : Nat, k ≤ 8 ∧ i = .int .i64 k ∧ n = .int .u64 (numU (s.data.toList.take k) : Nat)) (fun _ _ i => 8 - (intOf i).toNat)
  case atStart => exact ⟨0, Nat.zero_le _, rfl, rfl⟩
  case round =>
    obtain ⟨k, hk, rfl, rfl⟩ := hrel
    by_cases hlt : k < 8
    · have hlt' : (k : Int) < 8 := by omega
      have hlts : k < s.size := by omega
      have hE : Hid (bits .or .u64 (IntKind.u64.wrap ((numU (s.data.toList.take k) : Nat) * 256)) (IntKind.u64.wrap (s[k].toNat : Int)) = ((numU (s.data.toList.take (k + 1)) : Nat) : Int)) := by
        rw [take_snoc s k hlts, numU_snoc]
        refine or8 (Nat.lt_of_lt_of_le (m := 2 ^ (8 * (k + 1))) ?_ (Nat.pow_le_pow_right (by omega) (by omega)))
        rw [← numU_snoc, ← take_snoc s k hlts]
        refine Nat.lt_of_lt_of_le (numU_lt _) (Nat.pow_le_pow_right (by omega) ?_)
        have := List.length_take_le (k + 1) s.data.toList
        omega
      go_wp2
      go_round
      case rel => exact ⟨k + 1, by omega, by go_num, by rw [hE.out]⟩
      case measure => simp [intOf]; omega
    · obtain rfl : k = 8 := by omega
      go_wp2
      go_ret
      exact ⟨by rw [List.take_of_length_le (by simp; have := HS.out; omega)]; rfl, rfl⟩

/-- A field of bits of a number. -/
def fld (n p b : Nat) : Nat := n / 2 ^ p % 2 ^ b
theorem fld_lt (n p b : Nat) : fld n p b < 2 ^ b := Nat.mod_lt _ (Nat.two_pow_pos b)
theorem and_val {n p b : Nat} (hn : n < 2 ^ 64) (hb : b ≤ 24) : wrap64 (bits .and .u64 ((n : Int) / 2 ^ p) (IntKind.u64.wrap (IntKind.u64.wrap (2 ^ b) - 1))) = ((fld n p b : Nat) : Int) := by
  have h24 : 2 ^ b ≤ 2 ^ 24 := Nat.pow_le_pow_right (by omega) hb
  have h1 : 1 ≤ 2 ^ b := Nat.two_pow_pos b
  have e0 : ((2 : Int) ^ b) = ((2 ^ b : Nat) : Int) := by simp
  have e1 : IntKind.u64.wrap (IntKind.u64.wrap ((2 : Int) ^ b) - 1) = ((2 ^ b - 1 : Nat) : Int) := by
    rw [e0, IntKind.wrap_u64, IntKind.wrap_u64]; omega
  have e2 : ((n : Int) / 2 ^ p) = ((n / 2 ^ p : Nat) : Int) := by simp
  have hd : n / 2 ^ p ≤ n := Nat.div_le_self _ _
  rw [e1, e2, u64_and_nat _ _ (by omega) (by omega), Nat.and_two_pow_sub_one_eq_mod]
  have hl := fld_lt n p b
  unfold fld at *
  unfold wrap64
  generalize n / 2 ^ p % 2 ^ b = z at *
  omega

set_option maxHeartbeats 400000 in
theorem take_any (n L b p : Nat) (bI LI : Int) (w : World) (lb nb : Nat) (hl : w.cell? ⟨lb, 0, none⟩ = some (.int .i64 LI)) (hf : w.frozen? ⟨lb, 0, none⟩ = false)
    (hn : w.cell? ⟨nb, 0, none⟩ = some (.int .u64 n)) (hne : lb ≠ nb) (hbI : Hid (bI = b)) (hLI : Hid (LI = L)) (hp : Hid (p + b = L)) (hL : L ≤ 64) (hb2 : b ≤ 24) (hn64 : Hid (n < 2 ^ 64)) :
    Calls Tryz.prog 65 #[.int .i64 bI, .pointer (some ⟨lb, 0, none⟩), .pointer (some ⟨nb, 0, none⟩)] w fun e w' => e = .returned (.int .i64 ((fld n p b : Nat) : Int)) ∧ ∃ d, w' = (w.setCell ⟨lb, 0, none⟩ (.int .i64 (p : Int))).drewN d := by
  obtain rfl := hbI.out
  obtain rfl := hLI.out
  have hb : b ≤ L := by have := hp.out; omega
  have hpI : (p : Int) = (L : Int) - (b : Int) := by have := hp.out; omega
  have hpN : p = L - b := by have := hp.out; omega
  rw [hpI, hpN]
  have hn1 : (0 : Int) ≤ n := by omega
  have hA : Hid _ := and_val (p := L - b) hn64.out hb2
  clear hbI hLI hp hpI hpN
  go_enter Tryz.func65, Tryz.ntmps65
  go_wp2
  go_quiet (fail)
  go_wp2
  rw [hA.out]
  go_ret
  exact ⟨rfl, _, rfl⟩
end Go.Proofs.YtnahkonklkcbeabGreatDoor.TagA
