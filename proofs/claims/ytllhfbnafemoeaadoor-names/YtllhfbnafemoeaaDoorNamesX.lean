/-
  What Names does to the world: it returns true, and lays new blocks alone.
-/
import Derived.Test.YtllhfbnafemoeaaDoorNamesW
import Derived.RowKit3
namespace Go.Proofs.YtllhfbnafemoeaaDoor.NamesW
open Go.RowKit
set_option maxRecDepth 100000

def nums : List Int := [8, 11, 4, 4, 4, 8, 12, 1000, 50, 50, 8, 6, 12, 50, 2000, 100, 300, 1, 2, 3, 1, 2, 3]
def numCells : Array Value := #[.int .i64 8, .int .i64 11, .int .i64 4, .int .i64 4, .int .i64 4, .int .i64 8, .int .i64 12, .int .i64 1000, .int .i64 50, .int .i64 50, .int .i64 8, .int .i64 6, .int .i64 12, .int .i64 50, .int .i64 2000, .int .i64 100, .int .i64 300, .int .i64 1, .int .i64 2, .int .i64 3, .int .i64 1, .int .i64 2, .int .i64 3]
def errCells : Array Value := #[.iface 23 (.int .i64 1), .iface 23 (.int .i64 2), .iface 23 (.int .i64 3), .iface 23 (.int .i64 4), .iface 23 (.int .i64 5), .iface 23 (.int .i64 6), .iface 23 (.int .i64 7)]

theorem num_at : ∀ k : Nat, k < 23 → numCells[k]? = some (.int .i64 (nums.getD k 0)) := by
  intro k h
  match k, h with
  | 0, _ | 1, _ | 2, _ | 3, _ | 4, _ | 5, _ | 6, _ | 7, _ | 8, _ | 9, _ | 10, _ | 11, _ | 12, _ | 13, _ | 14, _ | 15, _ | 16, _ | 17, _ | 18, _ | 19, _ | 20, _ | 21, _ | 22, _ => rfl
  | _ + 23, h => exact absurd h (by omega)
theorem err_at : ∀ k : Nat, k < 7 → errCells[k]? = some (.iface 23 (.int .i64 ((k : Int) + 1))) := by
  intro k h
  match k, h with
  | 0, _ | 1, _ | 2, _ | 3, _ | 4, _ | 5, _ | 6, _ => rfl
  | _ + 7, h => exact absurd h (by omega)

theorem world3 (w : World) : ∃ W, W = ((w.alloc (.cells numCells 3)).alloc (.cells numCells 3)).alloc (.cells errCells 27) ∧ Grown w W
    ∧ (∀ k : Nat, k < 23 → W.cell? ⟨w.heap.size, k, none⟩ = some (.int .i64 (nums.getD k 0)))
    ∧ (∀ k : Nat, k < 23 → W.cell? ⟨w.heap.size + 1, k, none⟩ = some (.int .i64 (nums.getD k 0)))
    ∧ (∀ k : Nat, k < 7 → W.cell? ⟨w.heap.size + 1 + 1, k, none⟩ = some (.iface 23 (.int .i64 ((k : Int) + 1)))) := by
  refine ⟨_, rfl, (((Grown.refl _).alloc _ _).alloc _ _).alloc _ _, ?_, ?_, ?_⟩
  · intro k h; have := num_at k h; go_simp
  · intro k h; have := num_at k h; go_simp
  · intro k h; have := err_at k h; go_simp

set_option maxHeartbeats 1000000 in
theorem names_any (w : World) :
    Calls Tryd.prog 3 #[] w fun e w' => e = .returned (.bool true) ∧ Grown w w' := by
  obtain ⟨W, hW, hbel, h1, h2, h3⟩ := world3 w
  unfold numCells errCells at hW
  have HB : Hid _ := hbel
  have H1 : Hid _ := h1
  have H2 : Hid _ := h2
  have H3 : Hid _ := h3
  clear hbel h1 h2 h3
  have hW' := hW.symm
  clear hW
  have HW' : Hid _ := hW'
  clear hW'
  go_enter Tryd.func3, Tryd.ntmps3
  go_wp2
  rw [HW'.out]
  clear HW'
  go_loop [4] (fun i => ∃ k : Nat, k ≤ 7 ∧ i = .int .i64 k) (fun i => 7 - (intOf i).toNat)
  case atStart => exact ⟨0, Nat.zero_le _, rfl⟩
  case round =>
    obtain ⟨k, hk, rfl⟩ := hrel
    by_cases hlt : k < 7
    · have hc := H3.out k hlt
      have hlt' : (k : Int) < 7 := by omega
      go_wp2_with (go_at_call 6; refine (same_errno _ _ (by omega)).mono ?_; rintro e w' ⟨rfl, rfl⟩)
      go_round
      case rel => exact ⟨k + 1, by omega, by go_num⟩
      case measure => simp [intOf]; omega
    · go_wp2_with (first | (go_at_call 7; refine (same_numbers _ _ _ 23 nums rfl (by omega) H1.out H2.out).mono ?_; rintro e w' ⟨rfl, d, rfl⟩) | (go_at_call 8; refine (error7 _).mono ?_; rintro e w' ⟨rfl, rfl⟩))
      go_ret
      exact ⟨rfl, HB.out⟩
end Go.Proofs.YtllhfbnafemoeaaDoor.NamesW
