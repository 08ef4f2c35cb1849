/-
  What the functions on the road of Names do to the world: same, SameNumbers, Error.
-/
import Derived.Test.YtllhfbnafemoeaaDoorProg
import Derived.WalkKit
import Derived.WalkSpells
import Derived.WalkLawsBesides
import Derived.Deep.QuietTactic
import Derived.BigQuiet
namespace Go.Proofs.YtllhfbnafemoeaaDoor.NamesW
open Go.RowKit
set_option maxRecDepth 100000

theorem assert_errno (n : Int) (w : World) : (Instr.typeAssert (.iface 23 (.int .i64 n)) 27 23 true).run Tryd.prog w = .ok (.tuple #[.int .i64 n, .bool true]) w := by kernel_rfl

set_option maxHeartbeats 400000 in
theorem same_errno (n : Int) (w : World) (h0 : 0 < n) :
    Calls Tryd.prog 6 #[.iface 23 (.int .i64 n), .int .i64 n] w fun e w' => e = .returned (.bool true) ∧ w' = w := by
  have hta := assert_errno
  go_enter Tryd.func6, Tryd.ntmps6
  go_wp2
  go_ret
  exact ⟨rfl, rfl⟩

set_option maxHeartbeats 400000 in
theorem error7 (w : World) :
    Calls Tryd.prog 8 #[.int .i64 7] w fun e w' => e = .returned (.string ⟨#[99, 114, 97, 116, 101, 119, 97, 116, 99, 104, 58, 32, 101, 114, 114, 111, 114, 32, 55]⟩) ∧ w' = w := by
  go_enter Tryd.func8, Tryd.ntmps8
  go_wp2
  go_ret
  exact ⟨rfl, rfl⟩

/- Two rows of the same numbers, wherever they lie: the same. -/
set_option maxHeartbeats 400000 in
theorem same_numbers (w : World) (b c n : Nat) (zs : List Int) (hn : zs.length = n) (hm : n ≤ 1000)
    (hb : ∀ k : Nat, k < n → w.cell? ⟨b, k, none⟩ = some (.int .i64 (zs.getD k 0)))
    (hc : ∀ k : Nat, k < n → w.cell? ⟨c, k, none⟩ = some (.int .i64 (zs.getD k 0))) :
    Calls Tryd.prog 7 #[.slice (some ⟨b, 0, none⟩) n n, .slice (some ⟨c, 0, none⟩) n n] w fun e w' => e = .returned (.bool true) ∧ ∃ k, w' = w.drewN k := by
  go_enter Tryd.func7, Tryd.ntmps7
  go_wp2
  go_loopw [5] (fun i w' => ∃ k : Nat, k ≤ n ∧ i = .int .i64 k ∧ ∃ d, w' = w.drewN d) (fun i _ => n - (intOf i).toNat)
  case atStart => exact ⟨0, Nat.zero_le _, rfl, 0, rfl⟩
  case round =>
    obtain ⟨k, hk, rfl, d, rfl⟩ := hrel
    by_cases hlt : k < n
    · have hb1 := hb k hlt
      have hc1 := hc k hlt
      clear hb hc
      have hlt' : (k : Int) < n := by omega
      go_wp2
      go_quiet (fail)
      go_wp2
      go_roundw
      case rel => exact ⟨k + 1, by omega, by go_num, _, rfl⟩
      case measure => simp [intOf]; omega
    · go_wp2
      go_ret
      exact ⟨rfl, d, rfl⟩

end Go.Proofs.YtllhfbnafemoeaaDoor.NamesW
