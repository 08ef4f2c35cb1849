/-
  What between, same, Clone, New, Now, Closed and isSight do to the world.
-/
import Derived.Test.YtllhfbnafemoeaaEpB
namespace Go.Proofs.Ytllhfbnafemoeaa.EpA
open Go.RowKit EpM EpW
set_option maxRecDepth 100000

def btw (n lo hi : Int) : Bool := decide (lo ≤ n) && decide (n ≤ hi)
set_option maxHeartbeats 400000 in
theorem between_any (n lo hi : Int) (w : World) :
    Calls Try.prog 39 #[.int .i64 n, .int .i64 lo, .int .i64 hi] w fun e w' => e = .returned (.bool (btw n lo hi)) ∧ w' = w := by
  by_cases h1 : lo ≤ n
  · by_cases h2 : n ≤ hi
    · have hb : btw n lo hi = true := by simp [btw, h1, h2]
      rw [hb]
      clear hb
      go_enter Try.func39, Try.ntmps39
      go_wp2
      go_ret
      exact ⟨rfl, rfl⟩
    · have hb : btw n lo hi = false := by simp [btw]; omega
      rw [hb]
      clear hb
      go_enter Try.func39, Try.ntmps39
      go_wp2
      go_ret
      exact ⟨by simp, rfl⟩
  · have hb : btw n lo hi = false := by simp [btw]; omega
    rw [hb]
    clear hb
    have h1' : decide (lo ≤ n) = false := by simpa using h1
    go_enter Try.func39, Try.ntmps39
    go_wp2
    go_ret
    exact ⟨rfl, rfl⟩

theorem between_is {n lo hi : Int} {r : Bool} (h : btw n lo hi = r) (w : World) :
    Calls Try.prog 39 #[.int .i64 n, .int .i64 lo, .int .i64 hi] w fun e w' => e = .returned (.bool r) ∧ w' = w := h ▸ between_any n lo hi w
def errV (n : Nat) : Value := if n = 0 then .nilIface else .iface 79 (.int .i64 n)
theorem errV_pos {n : Nat} (h : n ≠ 0) : errV n = .iface 79 (.int .i64 n) := by simp [errV, h]
theorem drewN_below (w : World) (n : Nat) : Below w.heap.size w (w.drewN n) := ⟨rfl, rfl, rfl, Nat.le_refl _, fun _ _ => rfl⟩
set_option maxHeartbeats 400000 in
theorem same_nil (w : World) :
    Calls Try.prog 11 #[.nilIface, .int .i64 0] w fun e w' => e = .returned (.bool true) ∧ w' = w := by
  go_enter Try.func11, Try.ntmps11
  go_wp2
  go_ret
  exact ⟨rfl, rfl⟩
theorem assert_errno (n : Int) (w : World) : (Instr.typeAssert (.iface 79 (.int .i64 n)) 30 79 true).run Try.prog w = .ok (.tuple #[.int .i64 n, .bool true]) w := by kernel_rfl
set_option maxHeartbeats 400000 in
theorem same_err (n : Nat) (w : World) (hn : 0 < n) :
    Calls Try.prog 11 #[.iface 79 (.int .i64 n), .int .i64 n] w fun e w' => e = .returned (.bool true) ∧ w' = w := by
  have hta := assert_errno n
  have hI : decide ((0 : Int) < n) = true := by simp; omega
  have hE : ((n : Int) == n) = true := by simp
  go_enter Try.func11, Try.ntmps11
  go_wp2
  go_ret
  exact ⟨rfl, rfl⟩
theorem same_any (n : Nat) (w : World) :
    Calls Try.prog 11 #[errV n, .int .i64 n] w fun e w' => e = .returned (.bool true) ∧ w' = w := by
  by_cases h : n = 0
  · subst h
    exact same_nil w
  · rw [errV_pos h]
    exact same_err n w (by omega)

set_option maxHeartbeats 400000 in
theorem clone_any (s : ByteArray) (w : World) (h : s.size ≤ 100000) :
    Calls Try.prog 36 #[.string s] w fun e w' => e = .returned (.string s) ∧ Below w.heap.size w w' := by
  go_enter Try.func36, Try.ntmps36
  go_wp2_with fail
  refine (Try.stringslite_Clone s w (by omega)).mono ?_
  rintro e w' ⟨rfl, hb⟩
  have HB : Hid (Below w.heap.size w w') := hb
  clear hb
  go_wp2
  go_ret
  exact ⟨rfl, HB.out⟩

section
variable {w : World} {db : Nat} {F : Nat → Prop} {size late now : Nat} {all : List Sg} {lo : Nat}
set_option maxHeartbeats 400000 in
theorem now_any (d : DeskAt w db F size late now all lo) :
    Calls Try.prog 27 #[.pointer (some ⟨db, 0, none⟩)] w fun e w' => e = .returned (.int .i64 (now : Int)) ∧ w' = w := by
  obtain ⟨mb, n, D, h, d⟩ := d.out
  have c2 := d.c2
  clear d
  go_enter Try.func27, Try.ntmps27
  go_wp2
  go_ret
  exact ⟨rfl, rfl⟩
theorem max_div {size late now : Nat} : max 0 ((now : Int) - late) / size = ((closedN size late now : Nat) : Int) := by
  unfold closedN
  have : max 0 ((now : Int) - late) = ((now - late : Nat) : Int) := by omega
  rw [this]
  exact (Int.natCast_ediv _ _).symm
set_option maxHeartbeats 1000000 in
theorem closed_any (d : DeskAt w db F size late now all lo) (h0 : 0 < size) (h1 : size ≤ 50) (h2 : late ≤ 50) (h3 : now ≤ 1000) :
    Calls Try.prog 28 #[.pointer (some ⟨db, 0, none⟩)] w fun e w' => e = .returned (.int .i64 (closedN size late now : Int)) ∧ ∃ q, w' = w.drewN q := by
  obtain ⟨mb, n, D, h, d⟩ := d.out
  have mixed : Try.prog.follows .mixedOrders = true := by kernel_rfl
  rw [← max_div]
  have c0 := d.c0
  have c1 := d.c1
  have c2 := d.c2
  clear d
  have hn : ((size : Int) == 0) = false := by simp; omega
  go_enter Try.func28, Try.ntmps28
  go_wp2
  go_quiet (fail)
  go_wp2
  go_ret
  exact ⟨rfl, _, rfl⟩

theorem closed_is {c : Nat} (hc : c = closedN size late now) (d : DeskAt w db F size late now all lo) (h0 : 0 < size) (h1 : size ≤ 50) (h2 : late ≤ 50) (h3 : now ≤ 1000) :
    Calls Try.prog 28 #[.pointer (some ⟨db, 0, none⟩)] w fun e w' => e = .returned (.int .i64 (c : Int)) ∧ ∃ q, w' = w.drewN q := hc ▸ closed_any d h0 h1 h2 h3

set_option maxHeartbeats 1000000 in
theorem isSight_any (x : Sg) (d : DeskAt w db F size late now all lo) (ht : x.g.size ≤ maxLen) :
    Calls Try.prog 42 #[.pointer (some ⟨db, 0, none⟩), .agg #[.int .i64 x.p, .int .i64 x.s, .int .i64 x.t, .string x.g]] w fun e w' => e = .returned (.bool (okS now x)) ∧ Below w.heap.size w w' := by
  obtain ⟨mb, n, D, h, d⟩ := d.out
  have mixed : Try.prog.follows .mixedOrders = true := by kernel_rfl
  have c2 := d.c2
  have hdb := d.lt
  clear d
  obtain ⟨R, hR⟩ : ∃ R, R = okS now x := ⟨_, rfl⟩
  have HR : Hid (R = okS now x) := hR
  rw [← hR]
  clear hR
  obtain ⟨p, s, t, g⟩ := x
  have ht' : g.size ≤ maxLen := ht
  clear ht
  have HB : Hid (∀ q, Below w.heap.size w ((w.alloc (.cells #[.int .i64 p, .int .i64 s, .int .i64 t, .string g] 61)).drewN q)) := fun q => ((Below.refl _ w).alloc (Nat.le_refl _) _).trans ((drewN_below _ q).mono (by simp))
  cases h1 : btw p 0 7
  case false =>
    go_enter Try.func42, Try.ntmps42
    go_wp2
    go_big_quiet (first | with_reducible exact (between_is h1 _).mono fun _ _ h => ⟨h.1, _, h.2⟩ | with_reducible exact (between_is h2 _).mono fun _ _ h => ⟨h.1, _, h.2⟩ | with_reducible exact (between_is h3 _).mono fun _ _ h => ⟨h.1, _, h.2⟩)
    go_wp2
    go_ret
    exact ⟨by rw [HR.out]; simp [okS, btw] at h1 ⊢; omega, HB.out _⟩
  cases h2 : btw s 0 255
  case false =>
    go_enter Try.func42, Try.ntmps42
    go_wp2
    go_big_quiet (first | with_reducible exact (between_is h1 _).mono fun _ _ h => ⟨h.1, _, h.2⟩ | with_reducible exact (between_is h2 _).mono fun _ _ h => ⟨h.1, _, h.2⟩ | with_reducible exact (between_is h3 _).mono fun _ _ h => ⟨h.1, _, h.2⟩)
    go_wp2
    go_ret
    exact ⟨by rw [HR.out]; simp [okS, btw] at h2 ⊢; omega, HB.out _⟩
  cases h3 : btw t 0 now
  case false =>
    go_enter Try.func42, Try.ntmps42
    go_wp2
    go_big_quiet (first | with_reducible exact (between_is h1 _).mono fun _ _ h => ⟨h.1, _, h.2⟩ | with_reducible exact (between_is h2 _).mono fun _ _ h => ⟨h.1, _, h.2⟩ | with_reducible exact (between_is h3 _).mono fun _ _ h => ⟨h.1, _, h.2⟩)
    go_wp2
    go_ret
    exact ⟨by rw [HR.out]; simp [okS, btw] at h3 ⊢; omega, HB.out _⟩
  go_enter Try.func42, Try.ntmps42
  go_wp2
  go_big_quiet (first | with_reducible exact (between_is h1 _).mono fun _ _ h => ⟨h.1, _, h.2⟩ | with_reducible exact (between_is h2 _).mono fun _ _ h => ⟨h.1, _, h.2⟩ | with_reducible exact (between_is h3 _).mono fun _ _ h => ⟨h.1, _, h.2⟩)
  go_wp2
  go_ret
  refine ⟨?_, HB.out _⟩
  rw [HR.out]
  simp [okS, btw] at h1 h2 h3 ⊢
  rw [Bool.eq_iff_iff]
  simp
  omega
end
end Go.Proofs.Ytllhfbnafemoeaa.EpA
