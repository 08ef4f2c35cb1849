/-
  What TopTrack does to the world: the short ways.
-/
import Derived.Test.YtbmaioklmcgkbaaTkI
import Derived.Test.YtbmaioklmcgkbaaTtM
namespace Go.Proofs.Ytbmaioklmcgkbaa.TkA
open Go.RowKit TkM TkW Go.Maps
set_option maxRecDepth 100000

section
variable (E : List (List Sg)) (a : Option Addr) (cap : Nat) (w : World)
set_option maxHeartbeats 1000000 in
theorem top_long (W need : Int) (hE : EsOn w a E) (hb : ∀ l, l ∈ E → l.length ≤ 9223372036854775807 ∧ ∀ x, x ∈ l → x.g.size ≤ 9223372036854775807) (h : light E = false ∨ (light E = true ∧ 12 < E.length)) :
    Calls Try.prog 9 #[.int .i64 W, .int .i64 need, .slice a E.length cap] w fun e w' => e = .returned (.bool true) ∧ Below w.heap.size w w' := by
  have HB : Hid (∀ l, l ∈ E → l.length ≤ 9223372036854775807 ∧ ∀ x, x ∈ l → x.g.size ≤ 9223372036854775807) := hb
  have HE : Hid (EsOn w a E) := hE
  clear hb hE
  go_enter Try.func9, Try.ntmps9
  go_wp2_with fail
  refine (light_any E a cap _ HE.out HB.out).mono ?_
  rintro e w2 ⟨rfl, hw2⟩
  subst hw2
  rcases h with h | ⟨h, h20⟩
  · rw [h]
    go_wp2
    exact bodyPost_ret (v := .bool true) (by simp [results, Try.results9, go_sem]) rfl ⟨rfl, Below.refl _ _⟩
  · rw [h]
    have h20I : (12 : Int) < E.length := by omega
    go_wp2
    exact bodyPost_ret (v := .bool true) (by simp [results, Try.results9, go_sem]) rfl ⟨rfl, Below.refl _ _⟩
set_option maxHeartbeats 1000000 in
theorem top_bad (W need : Int) (hE : EsOn w a E) (hl : light E = true) (h12 : E.length ≤ 12) (h : ¬ (1 ≤ W ∧ W ≤ 8 ∧ 1 ≤ need ∧ need ≤ W)) :
    Calls Try.prog 9 #[.int .i64 W, .int .i64 need, .slice a E.length cap] w fun e w' => e = .returned (.bool true) ∧ Below w.heap.size w w' := by
  have HB : Hid (∀ l, l ∈ E → l.length ≤ 9223372036854775807 ∧ ∀ x, x ∈ l → x.g.size ≤ 9223372036854775807) := fun l hlE => by
    have h := goodL_iff.1 ((light_iff.1 hl).2 l hlE)
    exact ⟨by omega, fun x hx => by have := h.2 x hx; omega⟩
  have HE : Hid (EsOn w a E) := hE
  have hcs : decide (W < 1) = true ∨ (decide (W < 1) = false ∧ decide (8 < W) = true) ∨ (decide (W < 1) = false ∧ decide (8 < W) = false ∧ decide (need < 1) = true) ∨ (decide (W < 1) = false ∧ decide (8 < W) = false ∧ decide (need < 1) = false ∧ decide (W < need) = true) := by
    simp
    omega
  have HN : Hid (¬ (1 ≤ W ∧ W ≤ 8 ∧ 1 ≤ need ∧ need ≤ W)) := h
  have h12I : ¬ (12 : Int) < E.length := by omega
  clear h hE
  rcases hcs with h1 | ⟨h1, h2⟩ | ⟨h1, h2, h3⟩ | ⟨h1, h2, h3, h4⟩
  all_goals
    go_enter Try.func9, Try.ntmps9
    go_wp2_with fail
    refine (light_any E a cap _ HE.out HB.out).mono ?_
    rintro e w2 ⟨rfl, hw2⟩
    subst hw2
    rw [hl]
    go_wp2_with fail
    refine (new_bad W need _ HN.out).mono ?_
    rintro e w3 ⟨rfl, hw3⟩
    subst hw3
    go_wp2_with fail
    refine (new_bad W need _ HN.out).mono ?_
    rintro e w4 ⟨rfl, hw4⟩
    subst hw4
    go_wp2
    exact bodyPost_ret (v := .bool true) (by simp [results, Try.results9, go_sem]) rfl ⟨rfl, Below.refl _ _⟩
end
end Go.Proofs.Ytbmaioklmcgkbaa.TkA
