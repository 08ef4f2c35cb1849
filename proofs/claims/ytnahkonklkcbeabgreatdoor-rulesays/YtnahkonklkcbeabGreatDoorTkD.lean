/-
  What beats, best, count and Where do to the world.
-/
import Derived.Test.YtnahkonklkcbeabGreatDoorTkC
import Derived.Deep.OwnRows
namespace Go.Proofs.YtnahkonklkcbeabGreatDoor.TkA
open Go.RowKit TkM TkW Go.Maps
set_option maxRecDepth 100000

set_option maxHeartbeats 400000 in
theorem beats_any (c c' : Nat) (s s' : Int) (w : World) :
    Calls Tryz.prog 89 #[.agg #[.int .i64 (c : Int), .int .i64 s], .agg #[.int .i64 (c' : Int), .int .i64 s']] w fun e w' => e = .returned (.bool (beats c s c' s')) ∧ Below w.heap.size w w' := by
  have hb : ∀ o o' : Obj, Below w.heap.size w ((w.alloc o).alloc o') := fun o o' => ((Below.refl _ w).alloc (Nat.le_refl _) o).alloc (by simp) o'
  have HB : Hid (∀ o o' : Obj, Below w.heap.size w ((w.alloc o).alloc o')) := hb
  clear hb
  unfold beats
  by_cases h : c = c'
  · subst h
    rw [if_pos rfl]
    have he : (!((c : Int) == (c : Int))) = false := by simp
    go_enter Tryz.func89, Tryz.ntmps89
    go_wp2
    go_ret
    exact ⟨rfl, HB.out _ _⟩
  · rw [if_neg h]
    have he : (!((c : Int) == (c' : Int))) = true := by simp; omega
    go_enter Tryz.func89, Tryz.ntmps89
    go_wp2
    go_ret
    exact ⟨rfl, HB.out _ _⟩
end Go.Proofs.YtnahkonklkcbeabGreatDoor.TkA
