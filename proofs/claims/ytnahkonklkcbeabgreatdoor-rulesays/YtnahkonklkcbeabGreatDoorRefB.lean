/-
  What the document's own answer does to the world: TagFault.
-/
import Derived.Test.YtnahkonklkcbeabGreatDoorRefA
import Derived.Lib.QuietBelow
namespace Go.Proofs.YtnahkonklkcbeabGreatDoor.TagA
open Go.RowKit TagM
open Go.Sort (grow)
set_option maxRecDepth 100000

theorem len_iff {n d : Nat} (hd : 1 ≤ d) : (dec n).length ≤ d ↔ n < 10 ^ d := by
  constructor
  · intro h
    have := Lib.lt_pow_nDigits n
    rw [← Lib.decDigits_length] at this
    exact Nat.lt_of_lt_of_le this (Nat.pow_le_pow_right (by omega) h)
  · exact fun h => dec_len h hd
theorem dig_nat (n d : Nat) : dig (n : Int) d = decide (n < 10 ^ d) := by
  unfold dig
  rw [Bool.eq_iff_iff]
  have e : ((10 : Int) ^ d) = ((10 ^ d : Nat) : Int) := by simp
  rw [e]
  simp only [Bool.and_eq_true, decide_eq_true_eq]
  omega
/-- What TagFault answers. -/
def faultV (K F P C R S : Int) : Int := if okB K F P C R S then 0 else 1

set_option maxHeartbeats 2000000 in
theorem fault_head (K F P C R S : Int) (w : World) (h : ¬ (btw K 1 3 = true ∧ btw F 0 7 = true ∧ btw P 0 5 = true ∧ btw S 0 16777215 = true)) :
    Calls Tryz.prog 71 #[.agg #[.int .i64 K, .int .i64 F, .int .i64 P, .int .i64 C, .int .i64 R, .int .i64 S]] w fun e w' => e = .returned (.int .i64 1) ∧ Below w.heap.size w w' := by
  by_cases hP : btw P 0 5 = true
  case neg =>
    have hP' : P < 0 ∨ 5 < P := by rw [btw_true] at hP; omega
    clear h hP
    go_enter Tryz.func71, Tryz.ntmps71
    go_wp2_with fail
    refine (parts_no P _ hP').mono ?_
    rintro e w1 ⟨rfl, hb1⟩
    obtain ⟨s1, hb2, d0, d1, d2, d3, d4, d5⟩ := boxed6 hb1
    have HB : Hid _ := hb2
    clear hb1 hb2 hP'
    go_wp2
    go_ret
    exact ⟨rfl, HB.out.alloc (Nat.le_of_lt s1) _⟩
  obtain ⟨p1, p2⟩ := btw_true.1 hP
  obtain ⟨k, rfl⟩ : ∃ k : Nat, P = k := ⟨P.toNat, by omega⟩
  have hk : k < 6 := by omega
  rw [btw_true, btw_true, btw_true, btw_true] at h
  clear hP
  by_cases h1 : K < 1
  · go_enter Tryz.func71, Tryz.ntmps71
    go_wp2_with fail
    refine (parts_ok k _ hk).mono ?_
    rintro e w1 ⟨rfl, hb1⟩
    obtain ⟨s1, hb2, d0, d1, d2, d3, d4, d5⟩ := boxed6 hb1
    have HB : Hid _ := hb2
    clear hb1 hb2 h p1 p2
    go_wp2
    go_ret
    exact ⟨rfl, HB.out.alloc (Nat.le_of_lt s1) _⟩
  have h1d : decide (K < 1) = false := by simpa using h1
  by_cases h2 : 3 < K
  · go_enter Tryz.func71, Tryz.ntmps71
    go_wp2_with fail
    refine (parts_ok k _ hk).mono ?_
    rintro e w1 ⟨rfl, hb1⟩
    obtain ⟨s1, hb2, d0, d1, d2, d3, d4, d5⟩ := boxed6 hb1
    have HB : Hid _ := hb2
    clear hb1 hb2 h p1 p2
    go_wp2
    go_ret
    exact ⟨rfl, HB.out.alloc (Nat.le_of_lt s1) _⟩
  have h2d : decide (3 < K) = false := by simpa using h2
  by_cases h3 : F < 0
  · go_enter Tryz.func71, Tryz.ntmps71
    go_wp2_with fail
    refine (parts_ok k _ hk).mono ?_
    rintro e w1 ⟨rfl, hb1⟩
    obtain ⟨s1, hb2, d0, d1, d2, d3, d4, d5⟩ := boxed6 hb1
    have HB : Hid _ := hb2
    clear hb1 hb2 h p1 p2
    go_wp2
    go_ret
    exact ⟨rfl, HB.out.alloc (Nat.le_of_lt s1) _⟩
  have h3d : decide (F < 0) = false := by simpa using h3
  by_cases h4 : 7 < F
  · go_enter Tryz.func71, Tryz.ntmps71
    go_wp2_with fail
    refine (parts_ok k _ hk).mono ?_
    rintro e w1 ⟨rfl, hb1⟩
    obtain ⟨s1, hb2, d0, d1, d2, d3, d4, d5⟩ := boxed6 hb1
    have HB : Hid _ := hb2
    clear hb1 hb2 h p1 p2
    go_wp2
    go_ret
    exact ⟨rfl, HB.out.alloc (Nat.le_of_lt s1) _⟩
  have h4d : decide (7 < F) = false := by simpa using h4
  by_cases h5 : S < 0
  · go_enter Tryz.func71, Tryz.ntmps71
    go_wp2_with fail
    refine (parts_ok k _ hk).mono ?_
    rintro e w1 ⟨rfl, hb1⟩
    obtain ⟨s1, hb2, d0, d1, d2, d3, d4, d5⟩ := boxed6 hb1
    have HB : Hid _ := hb2
    clear hb1 hb2 h p1 p2
    go_wp2
    go_ret
    exact ⟨rfl, HB.out.alloc (Nat.le_of_lt s1) _⟩
  have h5d : decide (S < 0) = false := by simpa using h5
  have h6 : 16777215 < S := by omega
  go_enter Tryz.func71, Tryz.ntmps71
  go_wp2_with fail
  refine (parts_ok k _ hk).mono ?_
  rintro e w1 ⟨rfl, hb1⟩
  obtain ⟨s1, hb2, d0, d1, d2, d3, d4, d5⟩ := boxed6 hb1
  have HB : Hid _ := hb2
  clear hb1 hb2 h p1 p2
  go_wp2
  go_ret
  exact ⟨rfl, HB.out.alloc (Nat.le_of_lt s1) _⟩
end Go.Proofs.YtnahkonklkcbeabGreatDoor.TagA
