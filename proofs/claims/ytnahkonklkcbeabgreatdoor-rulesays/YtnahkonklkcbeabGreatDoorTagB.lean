/-
  What Check does to the world.
-/
import Derived.Test.YtnahkonklkcbeabGreatDoorTagA
namespace Go.Proofs.YtnahkonklkcbeabGreatDoor.TagA
open Go.RowKit TagM
set_option maxRecDepth 100000

/-- The error that Check answers. -/
def checkV (K F P C R S : Int) : Value := if okB K F P C R S then .nilIface else .iface 57 (.int .i64 1)

set_option maxHeartbeats 1000000 in
theorem check_any (K F P C R S : Int) (w : World) (hT : Tabs w) :
    Calls Tryz.prog 66 #[.agg #[.int .i64 K, .int .i64 F, .int .i64 P, .int .i64 C, .int .i64 R, .int .i64 S]] w fun e w' => e = .returned (checkV K F P C R S) ∧ Below w.heap.size w w' := by
  by_cases h1 : btw K 1 3 = true
  case neg =>
    have h1 : btw K 1 3 = false := by simpa using h1
    have hr : checkV K F P C R S = .iface 57 (.int .i64 1) := by simp [checkV, okB, h1]
    rw [hr]
    clear hr hT
    go_enter Tryz.func66, Tryz.ntmps66
    go_wp2_with (first | (go_at_call 87; refine (between_any _ _ _ _).mono ?_; rintro e w' ⟨rfl, rfl⟩))
    go_ret
    exact ⟨rfl, (Below.refl _ _).alloc (Nat.le_refl _) _⟩
  by_cases h2 : btw F 0 7 = true
  case neg =>
    have h2 : btw F 0 7 = false := by simpa using h2
    have hr : checkV K F P C R S = .iface 57 (.int .i64 1) := by simp [checkV, okB, h2]
    rw [hr]
    clear hr hT
    go_enter Tryz.func66, Tryz.ntmps66
    go_wp2_with (first | (go_at_call 87; refine (between_any _ _ _ _).mono ?_; rintro e w' ⟨rfl, rfl⟩))
    go_ret
    exact ⟨rfl, (Below.refl _ _).alloc (Nat.le_refl _) _⟩
  by_cases h3 : btw P 0 5 = true
  case neg =>
    have h3 : btw P 0 5 = false := by simpa using h3
    have hr : checkV K F P C R S = .iface 57 (.int .i64 1) := by simp [checkV, okB, h3]
    rw [hr]
    clear hr hT
    go_enter Tryz.func66, Tryz.ntmps66
    go_wp2_with (first | (go_at_call 87; refine (between_any _ _ _ _).mono ?_; rintro e w' ⟨rfl, rfl⟩))
    go_ret
    exact ⟨rfl, (Below.refl _ _).alloc (Nat.le_refl _) _⟩
  by_cases h4 : btw S 0 16777215 = true
  case neg =>
    have h4 : btw S 0 16777215 = false := by simpa using h4
    have hr : checkV K F P C R S = .iface 57 (.int .i64 1) := by simp [checkV, okB, h4]
    rw [hr]
    clear hr hT
    go_enter Tryz.func66, Tryz.ntmps66
    go_wp2_with (first | (go_at_call 87; refine (between_any _ _ _ _).mono ?_; rintro e w' ⟨rfl, rfl⟩))
    go_ret
    exact ⟨rfl, (Below.refl _ _).alloc (Nat.le_refl _) _⟩
  have h3' := btw_true.1 h3
  obtain ⟨k, rfl⟩ : ∃ k : Nat, P = k := ⟨P.toNat, by omega⟩
  have hk : k < 6 := by omega
  have hkI : (k : Int) < 6 := by omega
  have hkI0 : (0 : Int) ≤ k := by omega
  have q0 := fun o : Obj => (hT.below ((Below.refl _ w).alloc (Nat.le_refl _) o) hT.size).c0 k hk
  have q1 := fun o : Obj => (hT.below ((Below.refl _ w).alloc (Nat.le_refl _) o) hT.size).c1 k hk
  have q2 := fun o : Obj => (hT.below ((Below.refl _ w).alloc (Nat.le_refl _) o) hT.size).c2 k hk
  have q3 := fun o : Obj => (hT.below ((Below.refl _ w).alloc (Nat.le_refl _) o) hT.size).c3 k hk
  have hsz := hT.size
  have hcd := cdig_le k
  have hrd := rdig_le k
  clear hT h3'
  by_cases h5 : dig C (cdig k) = true
  case neg =>
    have h5 : dig C (cdig k) = false := by simpa using h5
    have hr : checkV K F k C R S = .iface 57 (.int .i64 1) := by simp [checkV, okB, h5]
    rw [hr]
    clear hr
    go_enter Tryz.func66, Tryz.ntmps66
    go_wp2_with (first | (go_at_call 87; refine (between_any _ _ _ _).mono ?_; rintro e w' ⟨rfl, rfl⟩) | (go_at_call 88; refine (hasDigits_any _ _ _ (by omega)).mono ?_; rintro e w' ⟨rfl, rfl⟩))
    go_ret
    exact ⟨rfl, ((Below.refl _ _).alloc (Nat.le_refl _) _).alloc (by simp) _⟩
  by_cases h6 : dig R (rdig k) = true
  case neg =>
    have h6 : dig R (rdig k) = false := by simpa using h6
    have hr : checkV K F k C R S = .iface 57 (.int .i64 1) := by simp [checkV, okB, h6]
    rw [hr]
    clear hr
    go_enter Tryz.func66, Tryz.ntmps66
    go_wp2_with (first | (go_at_call 87; refine (between_any _ _ _ _).mono ?_; rintro e w' ⟨rfl, rfl⟩) | (go_at_call 88; refine (hasDigits_any _ _ _ (by omega)).mono ?_; rintro e w' ⟨rfl, rfl⟩))
    go_ret
    exact ⟨rfl, ((Below.refl _ _).alloc (Nat.le_refl _) _).alloc (by simp) _⟩
  · have hr : checkV K F k C R S = .nilIface := by simp [checkV, okB, h1, h2, h3, h4, h5, h6]
    rw [hr]
    clear hr
    go_enter Tryz.func66, Tryz.ntmps66
    go_wp2_with (first | (go_at_call 87; refine (between_any _ _ _ _).mono ?_; rintro e w' ⟨rfl, rfl⟩) | (go_at_call 88; refine (hasDigits_any _ _ _ (by omega)).mono ?_; rintro e w' ⟨rfl, rfl⟩))
    go_ret
    exact ⟨rfl, ((Below.refl _ _).alloc (Nat.le_refl _) _).alloc (by simp) _⟩
end Go.Proofs.YtnahkonklkcbeabGreatDoor.TagA
