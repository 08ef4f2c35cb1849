/-
  What between, same, Clone, New and Epochs do to the world.
-/
import Derived.Test.YtnahkonklkcbeabGreatDoorTkW
import Derived.Test.YtnahkonklkcbeabGreatDoorShelf
namespace Go.Proofs.YtnahkonklkcbeabGreatDoor.TkA
open Go.RowKit TkM TkW Go.Maps
set_option maxRecDepth 100000

def btw (n lo hi : Int) : Bool := decide (lo ≤ n) && decide (n ≤ hi)
set_option maxHeartbeats 400000 in
theorem between_any (n lo hi : Int) (w : World) :
    Calls Tryz.prog 49 #[.int .i64 n, .int .i64 lo, .int .i64 hi] w fun e w' => e = .returned (.bool (btw n lo hi)) ∧ w' = w := by
  by_cases h1 : lo ≤ n
  · by_cases h2 : n ≤ hi
    · have hb : btw n lo hi = true := by simp [btw, h1, h2]
      rw [hb]
      clear hb
      go_enter Tryz.func49, Tryz.ntmps49
      go_wp2
      go_ret
      exact ⟨rfl, rfl⟩
    · have hb : btw n lo hi = false := by simp [btw]; omega
      rw [hb]
      clear hb
      go_enter Tryz.func49, Tryz.ntmps49
      go_wp2
      go_ret
      exact ⟨by simp, rfl⟩
  · have hb : btw n lo hi = false := by simp [btw]; omega
    rw [hb]
    clear hb
    have h1' : decide (lo ≤ n) = false := by simpa using h1
    go_enter Tryz.func49, Tryz.ntmps49
    go_wp2
    go_ret
    exact ⟨rfl, rfl⟩
theorem between_is {n lo hi : Int} {r : Bool} (h : btw n lo hi = r) (w : World) :
    Calls Tryz.prog 49 #[.int .i64 n, .int .i64 lo, .int .i64 hi] w fun e w' => e = .returned (.bool r) ∧ w' = w := h ▸ between_any n lo hi w
def errV (n : Nat) : Value := if n = 0 then .nilIface else .iface 57 (.int .i64 n)
theorem errV_pos {n : Nat} (h : n ≠ 0) : errV n = .iface 57 (.int .i64 n) := by simp [errV, h]
theorem drewN_below (w : World) (n : Nat) : Below w.heap.size w (w.drewN n) := ⟨rfl, rfl, rfl, Nat.le_refl _, fun _ _ => rfl⟩
set_option maxHeartbeats 400000 in
theorem same_nil (w : World) :
    Calls Tryz.prog 8 #[.nilIface, .int .i64 0] w fun e w' => e = .returned (.bool true) ∧ w' = w := by
  go_enter Tryz.func8, Tryz.ntmps8
  go_wp2
  go_ret
  exact ⟨rfl, rfl⟩
theorem assert_errno (n : Int) (w : World) : (Instr.typeAssert (.iface 57 (.int .i64 n)) 29 57 true).run Tryz.prog w = .ok (.tuple #[.int .i64 n, .bool true]) w := by kernel_rfl
set_option maxHeartbeats 400000 in
theorem same_err (n : Nat) (w : World) (hn : 0 < n) :
    Calls Tryz.prog 8 #[.iface 57 (.int .i64 n), .int .i64 n] w fun e w' => e = .returned (.bool true) ∧ w' = w := by
  have hta := assert_errno n
  have hI : decide ((0 : Int) < n) = true := by simp; omega
  have hE : ((n : Int) == n) = true := by simp
  go_enter Tryz.func8, Tryz.ntmps8
  go_wp2
  go_ret
  exact ⟨rfl, rfl⟩
theorem same_any (n : Nat) (w : World) :
    Calls Tryz.prog 8 #[errV n, .int .i64 n] w fun e w' => e = .returned (.bool true) ∧ w' = w := by
  by_cases h : n = 0
  · subst h
    exact same_nil w
  · rw [errV_pos h]
    exact same_err n w (by omega)
set_option maxHeartbeats 400000 in
theorem clone_any (s : ByteArray) (w : World) (h : s.size ≤ 100000) :
    Calls Tryz.prog 24 #[.string s] w fun e w' => e = .returned (.string s) ∧ Below w.heap.size w w' := by
  go_enter Tryz.func24, Tryz.ntmps24
  go_wp2_with fail
  refine (Tryz.stringslite_Clone s w (by omega)).mono ?_
  rintro e w' ⟨rfl, hb⟩
  have HB : Hid (Below w.heap.size w w') := hb
  clear hb
  go_wp2
  go_ret
  exact ⟨rfl, HB.out⟩

/-- Who owns what in a new track. -/
def who0 (M T : Nat) (b : Nat) : Nat × ByteArray × Nat := if b = M then (2, ⟨#[]⟩, 0) else if b = T then (1, ⟨#[]⟩, 0) else (0, ⟨#[]⟩, 0)
theorem of_who0 {M T b : Nat} (h : of (who0 M T) b) : b = M ∨ b = T := by
  unfold of who0 at h
  by_cases h1 : b = M
  · exact Or.inl h1
  · by_cases h2 : b = T
    · exact Or.inr h2
    · rw [if_neg h1, if_neg h2] at h
      exact absurd rfl h
theorem newTrack (w : World) (W need : Nat) : TrAt ((w.alloc (.map #[] 0)).alloc (.cells #[.int .i64 (W : Int), .int .i64 (need : Int), .int .i64 0, .map (some w.heap.size)] 91)) (w.heap.size + 1) (who0 w.heap.size (w.heap.size + 1)) W need 0 0 (epOf []) := by
  refine ⟨w.heap.size, 0, .map [], fun _ => none, fun _ _ => none, ?_⟩
  have he : ∀ e, epOf [] e = [] := fun e => epOf_past [] (Nat.zero_le _)
  refine ⟨?_, ?_, Nat.le_refl _, fun g zd => rfl, fun g b h => by simp at h, fun g e b h => by simp at h, fun g => ?_, fun g e => ?_, ?_, ?_, fun g b h => by simp at h, fun g e b h => by simp at h, fun b hb => ?_, fun e => ?_, fun e x hx => ?_⟩
  · have := Go.heap_alloc_new (w.alloc (.map #[] 0)) (.cells #[.int .i64 (W : Int), .int .i64 (need : Int), .int .i64 0, .map (some w.heap.size)] 91)
    simpa using this
  · exact (World.ownsMap_made w Tryz.prog 9 heldV).alloc _
  · constructor
    · intro h; simp at h
    · rintro ⟨e, h⟩; rw [he] at h; cases h
  · rw [he]; rfl
  · unfold who0; rw [if_neg (by omega), if_pos rfl]
  · unfold who0; rw [if_pos rfl]
  · rcases of_who0 hb with h | h <;> rw [h] <;> simp <;> omega
  · rw [he]; simp
  · rw [he] at hx; simp at hx
set_option maxHeartbeats 400000 in
theorem new_ok (W need : Nat) (w : World) (h0 : 1 ≤ W) (h1 : W ≤ 8) (h2 : 1 ≤ need) (h3 : need ≤ W) :
    Calls Tryz.prog 27 #[.int .i64 (W : Int), .int .i64 (need : Int)] w fun e w' => e = .returned (.tuple #[.pointer (some ⟨w.heap.size + 1, 0, none⟩), .nilIface]) ∧ w'.heap.size = w.heap.size + 2 ∧ TrAt w' (w.heap.size + 1) (who0 w.heap.size (w.heap.size + 1)) W need 0 0 (epOf []) ∧ Below w.heap.size w w' := by
  have hmm := @run_makeMap Tryz.prog
  have b1 : btw (W : Int) 1 8 = true := by simp [btw]; omega
  have b2 : btw (need : Int) 1 W = true := by simp [btw]; omega
  have HD : Hid _ := newTrack w W need
  go_enter Tryz.func27, Tryz.ntmps27
  go_wp2_with fail
  refine (between_is b1 _).mono ?_
  rintro e w' ⟨rfl, rfl⟩
  go_wp2_with fail
  refine (between_is b2 _).mono ?_
  rintro e w' ⟨rfl, rfl⟩
  go_wp2
  go_ret2
  exact ⟨rfl, by simp, HD.out, ((Below.refl _ _).alloc (Nat.le_refl _) _).alloc (by simp) _⟩
theorem new_bad (W need : Int) (w : World) (h : ¬ (1 ≤ W ∧ W ≤ 8 ∧ 1 ≤ need ∧ need ≤ W)) :
    Calls Tryz.prog 27 #[.int .i64 W, .int .i64 need] w fun e w' => e = .returned (.tuple #[.pointer none, .iface 57 (.int .i64 1)]) ∧ w' = w := by
  cases b1 : btw W 1 8 with
  | false =>
    go_enter Tryz.func27, Tryz.ntmps27
    go_wp2_with fail
    refine (between_is b1 _).mono ?_
    rintro e w' ⟨rfl, rfl⟩
    go_wp2
    go_ret2
    exact ⟨rfl, rfl⟩
  | true =>
    have b2 : btw need 1 W = false := by simp [btw] at b1 ⊢; omega
    go_enter Tryz.func27, Tryz.ntmps27
    go_wp2_with fail
    refine (between_is b1 _).mono ?_
    rintro e w' ⟨rfl, rfl⟩
    go_wp2_with fail
    refine (between_is b2 _).mono ?_
    rintro e w' ⟨rfl, rfl⟩
    go_wp2
    go_ret2
    exact ⟨rfl, rfl⟩
section
variable {w : World} {tb : Nat} {who : Nat → Nat × ByteArray × Nat} {W need n r : Nat} {ep : Nat → List Sg}
theorem epochs_any (d : TrAt w tb who W need n r ep) :
    Calls Tryz.prog 31 #[.pointer (some ⟨tb, 0, none⟩)] w fun e w' => e = .returned (.int .i64 (n : Int)) ∧ w' = w := by
  obtain ⟨mb, m, D, tr, sp, d⟩ := d.out
  have c2 := d.c2
  clear d
  go_enter Tryz.func31, Tryz.ntmps31
  go_wp2
  go_ret
  exact ⟨rfl, rfl⟩
end
end Go.Proofs.YtnahkonklkcbeabGreatDoor.TkA
