/-
  What between, isRead and Check do to the world.
-/
import Derived.Test.YtjdfllocngkjpaaProg
import Derived.Test.YtjdfllocngkjpaaFrmM
import Derived.WalkKit
import Derived.WalkSpells
import Derived.WalkLawsBesides
import Derived.Deep.QuietTactic
import Derived.BigQuiet
namespace Go.Proofs.Ytjdfllocngkjpaa.FrmA
open Go.RowKit FrmM
set_option maxRecDepth 100000

/-- A cell that a block below B holds is held on. -/
theorem keepCell {B : Nat} {w w' : World} {a : Addr} {v : Value} (hb : Below B w w') (ha : a.block < B) (h : w.cell? a = some v) : w'.cell? a = some v := by rw [hb.cell ha]; exact h
/-- The cells of a read. -/
structure RdAt (w : World) (b o : Nat) (r : Rd) : Prop where
  c0 : w.cell? ⟨b, o, none⟩ = some (.int .i64 r.a)
  c1 : w.cell? ⟨b, o + 1, none⟩ = some (.int .i64 r.s)
  c2 : w.cell? ⟨b, o + 1 + 1, none⟩ = some (.int .i64 r.g)
  c3 : w.cell? ⟨b, o + 1 + 1 + 1, none⟩ = some (.string r.t)
theorem RdAt.keep {w w' : World} {b o : Nat} {r : Rd} (h : RdAt w b o r) (e : w'.heap[b]? = w.heap[b]?) : RdAt w' b o r where
  c0 := by rw [World.cell?_of_block (w := w) e]; exact h.c0
  c1 := by rw [World.cell?_of_block (w := w) e]; exact h.c1
  c2 := by rw [World.cell?_of_block (w := w) e]; exact h.c2
  c3 := by rw [World.cell?_of_block (w := w) e]; exact h.c3
/-- A list of reads, wherever it lies: of its slice's address. -/
structure ReadsOn (w : World) (p : Option Addr) (rs : List Rd) : Prop where
  tags : ∀ r ∈ rs, r.t.size ≤ maxLen
  at_ : rs ≠ [] → ∃ b o, p = some ⟨b, o, none⟩ ∧ b < w.heap.size ∧ ∀ k r, rs[k]? = some r → RdAt w b (o + k * 4) r
theorem ReadsOn.below {B : Nat} {w w' : World} {p : Option Addr} {rs : List Rd} (h : ReadsOn w p rs) (hb : Below B w w') (hB : w.heap.size ≤ B) : ReadsOn w' p rs where
  tags := h.tags
  at_ := fun hne => by
    obtain ⟨b, o, rfl, hlt, hc⟩ := h.at_ hne
    exact ⟨b, o, rfl, Nat.lt_of_lt_of_le hlt hb.size, fun k r hr => (hc k r hr).keep (hb.block b (by omega))⟩

set_option maxHeartbeats 400000 in
theorem between_any (n lo hi : Int) (w : World) :
    Calls Try.prog 20 #[.int .i64 n, .int .i64 lo, .int .i64 hi] w fun e w' => e = .returned (.bool (btw n lo hi)) ∧ w' = w := by
  by_cases h1 : lo ≤ n
  · by_cases h2 : n ≤ hi
    · have hb : btw n lo hi = true := by simp [btw, h1, h2]
      rw [hb]
      clear hb
      go_enter Try.func20, Try.ntmps20
      go_wp2
      go_ret
      exact ⟨rfl, rfl⟩
    · have hb : btw n lo hi = false := by simp [btw]; omega
      rw [hb]
      clear hb
      go_enter Try.func20, Try.ntmps20
      go_wp2
      go_ret
      exact ⟨by simp, rfl⟩
  · have hb : btw n lo hi = false := by simp [btw]; omega
    rw [hb]
    clear hb
    have h1' : decide (lo ≤ n) = false := by simpa using h1
    go_enter Try.func20, Try.ntmps20
    go_wp2
    go_ret
    exact ⟨rfl, rfl⟩

set_option maxHeartbeats 1000000 in
theorem isRead_any (r : Rd) (w : World) (ht : r.t.size ≤ maxLen) :
    Calls Try.prog 21 #[.agg #[.int .i64 r.a, .int .i64 r.s, .int .i64 r.g, .string r.t]] w fun e w' => e = .returned (.bool (rdOk r)) ∧ Below w.heap.size w w' := by
  obtain ⟨R, hR⟩ : ∃ R, R = rdOk r := ⟨_, rfl⟩
  have HR : Hid (R = rdOk r) := hR
  rw [← hR]
  clear hR
  obtain ⟨a, s, g, t⟩ := r
  have ht' : t.size ≤ maxLen := ht
  clear ht
  cases h1 : btw a 0 3
  case false =>
    go_enter Try.func21, Try.ntmps21
    go_wp2_with (go_at_call 20; refine (between_any _ _ _ _).mono ?_; rintro e w' ⟨rfl, rfl⟩)
    go_ret
    exact ⟨by rw [HR.out]; simp [rdOk, h1], (Below.refl _ _).alloc (Nat.le_refl _) _⟩
  cases h2 : btw s 0 255
  case false =>
    go_enter Try.func21, Try.ntmps21
    go_wp2_with (go_at_call 20; refine (between_any _ _ _ _).mono ?_; rintro e w' ⟨rfl, rfl⟩)
    go_ret
    exact ⟨by rw [HR.out]; simp [rdOk, h2], (Below.refl _ _).alloc (Nat.le_refl _) _⟩
  cases h3 : btw g 0 255
  case false =>
    go_enter Try.func21, Try.ntmps21
    go_wp2_with (go_at_call 20; refine (between_any _ _ _ _).mono ?_; rintro e w' ⟨rfl, rfl⟩)
    go_ret
    exact ⟨by rw [HR.out]; simp [rdOk, h3], (Below.refl _ _).alloc (Nat.le_refl _) _⟩
  go_enter Try.func21, Try.ntmps21
  go_wp2_with (go_at_call 20; refine (between_any _ _ _ _).mono ?_; rintro e w' ⟨rfl, rfl⟩)
  go_ret
  refine ⟨?_, (Below.refl _ _).alloc (Nat.le_refl _) _⟩
  rw [HR.out]
  simp [rdOk, h1, h2, h3]
  rw [Bool.eq_iff_iff]
  simp
  omega
end Go.Proofs.Ytjdfllocngkjpaa.FrmA
