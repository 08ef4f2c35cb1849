/-
  What TopEpochs does to the world, where there is no desk or too many acts.
-/
import Derived.Test.YtllhfbnafemoeaaTpA
namespace Go.Proofs.Ytllhfbnafemoeaa.EpA
open Go.RowKit EpM EpW Go.Maps
set_option maxRecDepth 100000

set_option maxHeartbeats 400000 in
theorem top_bad (size late : Int) (p : Option Addr) (n cap : Nat) (w : World) (h : ¬ (1 ≤ size ∧ size ≤ 50 ∧ 0 ≤ late ∧ late ≤ 50)) :
    Calls Try.prog 7 #[.int .i64 size, .int .i64 late, .slice p n cap] w fun e w' => e = .returned (.bool true) ∧ Below w.heap.size w w' := by
  have hcs : decide (size < 1) = true ∨ (decide (size < 1) = false ∧ decide (50 < size) = true) ∨ (decide (size < 1) = false ∧ decide (50 < size) = false ∧ decide (late < 0) = true) ∨ (decide (size < 1) = false ∧ decide (50 < size) = false ∧ decide (late < 0) = false ∧ decide (50 < late) = true) := by
    simp
    omega
  have HN : Hid (¬ (1 ≤ size ∧ size ≤ 50 ∧ 0 ≤ late ∧ late ≤ 50)) := h
  clear h
  rcases hcs with h1 | ⟨h1, h2⟩ | ⟨h1, h2, h3⟩ | ⟨h1, h2, h3, h4⟩
  all_goals
    go_enter Try.func7, Try.ntmps7
    go_wp2_with fail
    refine (new_bad size late w HN.out).mono ?_
    rintro e w2 ⟨rfl, hw2⟩
    subst hw2
    go_wp2_with fail
    refine (new_bad size late _ HN.out).mono ?_
    rintro e w3 ⟨rfl, hw3⟩
    subst hw3
    go_wp2
    go_ret
    exact ⟨rfl, Below.refl _ _⟩
set_option maxHeartbeats 400000 in
theorem top_long (size late : Nat) (p : Option Addr) (n cap : Nat) (w : World) (hn : 80 < n) (h0 : 1 ≤ size) (h1 : size ≤ 50) (h2 : late ≤ 50) :
    Calls Try.prog 7 #[.int .i64 (size : Int), .int .i64 (late : Int), .slice p n cap] w fun e w' => e = .returned (.bool true) ∧ Below w.heap.size w w' := by
  have hI : decide ((80 : Int) < n) = true := by simp; omega
  have i1 : decide ((size : Int) < 1) = false := by simp; omega
  have i2 : decide ((50 : Int) < size) = false := by simp; omega
  have i3 : decide ((late : Int) < 0) = false := by simp
  have i4 : decide ((50 : Int) < late) = false := by simp; omega
  go_enter Try.func7, Try.ntmps7
  go_wp2_with fail
  refine (new_ok size late w h0 h1 h2).mono ?_
  rintro e w1 ⟨rfl, hs1, hd1, hb1⟩
  have HB1 : Hid (Below w.heap.size w w1) := hb1
  clear hs1 hd1 hb1
  go_wp2_with fail
  refine (new_ok size late w1 h0 h1 h2).mono ?_
  rintro e w2 ⟨rfl, hs2, hd2, hb2⟩
  have HB2 : Hid (Below w.heap.size w w2) := HB1.out.trans (hb2.mono HB1.out.size)
  clear hs2 hd2 hb2
  go_wp2
  go_ret
  exact ⟨rfl, HB2.out⟩
end Go.Proofs.Ytllhfbnafemoeaa.EpA
