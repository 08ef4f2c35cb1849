/-
  What between, hasDigits and Check do to the world.
-/
import Derived.Test.YtnahkonklkcbeabGreatDoorProg
import Derived.Test.YtnahkonklkcbeabGreatDoorTagM
import Derived.WalkKit
import Derived.WalkSpells
import Derived.WalkLawsBesides
import Derived.Deep.QuietTactic
import Derived.BigQuiet
namespace Go.Proofs.YtnahkonklkcbeabGreatDoor.TagA
open Go.RowKit TagM
set_option maxRecDepth 100000

/-- A row of the table of splits lies where it should. -/
structure Tabs (w : World) : Prop where
  size : 7 ≤ w.heap.size
  c0 : ∀ k : Nat, k < 6 → w.cell? ⟨1, k * 4, none⟩ = some (.int .i64 (cbits k))
  c1 : ∀ k : Nat, k < 6 → w.cell? ⟨1, k * 4 + 1, none⟩ = some (.int .i64 (cdig k))
  c2 : ∀ k : Nat, k < 6 → w.cell? ⟨1, k * 4 + 1 + 1, none⟩ = some (.int .i64 (rbits k))
  c3 : ∀ k : Nat, k < 6 → w.cell? ⟨1, k * 4 + 1 + 1 + 1, none⟩ = some (.int .i64 (rdig k))

theorem Tabs.below {w w' : World} {B : Nat} (h : Tabs w) (hb : Below B w w') (hB : 7 ≤ B) : Tabs w' where
  size := Nat.le_trans h.size hb.size
  c0 := fun k hk => by rw [hb.cell (by show 1 < B; omega)]; exact h.c0 k hk
  c1 := fun k hk => by rw [hb.cell (by show 1 < B; omega)]; exact h.c1 k hk
  c2 := fun k hk => by rw [hb.cell (by show 1 < B; omega)]; exact h.c2 k hk
  c3 := fun k hk => by rw [hb.cell (by show 1 < B; omega)]; exact h.c3 k hk

set_option maxHeartbeats 400000 in
theorem between_any (n lo hi : Int) (w : World) :
    Calls Tryz.prog 87 #[.int .i64 n, .int .i64 lo, .int .i64 hi] w fun e w' => e = .returned (.bool (btw n lo hi)) ∧ w' = w := by
  by_cases h1 : lo ≤ n
  · by_cases h2 : n ≤ hi
    · have hb : btw n lo hi = true := by simp [btw, h1, h2]
      rw [hb]
      clear hb
      go_enter Tryz.func87, Tryz.ntmps87
      go_wp2
      go_ret
      exact ⟨rfl, rfl⟩
    · have hb : btw n lo hi = false := by simp [btw]; omega
      rw [hb]
      clear hb
      go_enter Tryz.func87, Tryz.ntmps87
      go_wp2
      go_ret
      exact ⟨by simp, rfl⟩
  · have hb : btw n lo hi = false := by simp [btw]; omega
    rw [hb]
    clear hb
    have h1' : decide (lo ≤ n) = false := by simpa using h1
    go_enter Tryz.func87, Tryz.ntmps87
    go_wp2
    go_ret
    exact ⟨rfl, rfl⟩

set_option maxHeartbeats 400000 in
theorem hasDigits_any (n : Int) (d : Nat) (w : World) (hd : d ≤ 6) :
    Calls Tryz.prog 88 #[.int .i64 n, .int .i64 d] w fun e w' => e = .returned (.bool (dig n d)) ∧ w' = w := by
  rw [dig_btw]
  go_enter Tryz.func88, Tryz.ntmps88
  go_wp2
  go_loop [5, 7] (fun l i => ∃ k : Nat, k ≤ d ∧ i = .int .i64 k ∧ l = .int .i64 ((10 : Int) ^ k)) (fun _ i => d - (intOf i).toNat)
  case atStart => exact ⟨0, Nat.zero_le _, rfl, rfl⟩
  case round =>
    obtain ⟨k, hk, rfl, rfl⟩ := hrel
    by_cases hlt : k < d
    · have hp := pow10_le (d := k) (by omega)
      have hlt' : (k : Int) < d := by omega
      have HP : Hid ((10 : Int) ^ (k + 1) = 10 ^ k * 10) := Int.pow_succ _ _
      go_wp2
      go_round
      case rel => exact ⟨k + 1, by omega, by go_num, by rw [HP.out]⟩
      case measure => simp [intOf]; omega
    · obtain rfl : k = d := by omega
      have hp := pow10_le (d := k) (by omega)
      go_wp2_with (go_at_call 87; refine (between_any _ _ _ _).mono ?_; rintro e w' ⟨rfl, rfl⟩)
      go_ret
      exact ⟨rfl, rfl⟩
end Go.Proofs.YtnahkonklkcbeabGreatDoor.TagA
