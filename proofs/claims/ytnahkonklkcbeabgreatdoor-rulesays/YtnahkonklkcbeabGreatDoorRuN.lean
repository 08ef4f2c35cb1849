/-
  Plain mathematics of a rule that looks back: from the last epoch down, and from the first one up.
-/
namespace Go.Proofs.YtnahkonklkcbeabGreatDoor.RuN

/-- There is an epoch ahead in which it came, and in none between was it where it may not be. -/
def Back (c ws : Int → Bool) (lo hi : Int) : Prop := ∃ e, lo ≤ e ∧ e < hi ∧ c e = true ∧ ∀ x, e < x → x < hi → ws x = false
/-- Down to e: nothing so far. -/
def Down (c ws : Int → Bool) (hi e : Int) : Prop := ∀ x, e < x → x < hi → c x = false ∧ ws x = false
theorem down_start (c ws : Int → Bool) (hi : Int) : Down c ws hi (hi - 1) := fun x h1 h2 => by omega
theorem down_step {c ws : Int → Bool} {hi e : Int} (h : Down c ws hi e) (hc : c e = false) (hw : ws e = false) : Down c ws hi (e - 1) := fun x h1 h2 => by
  by_cases hx : x = e
  · subst hx; exact ⟨hc, hw⟩
  · exact h x (by omega) h2
theorem down_yes {c ws : Int → Bool} {lo hi e : Int} (h : Down c ws hi e) (h1 : lo ≤ e) (h2 : e < hi) (hc : c e = true) : Back c ws lo hi := ⟨e, h1, h2, hc, fun x a b => (h x a b).2⟩
theorem down_no {c ws : Int → Bool} {lo hi e : Int} (h : Down c ws hi e) (he : e < hi) (hc : c e = false) (hw : ws e = true) : ¬ Back c ws lo hi := by
  rintro ⟨y, h1, h2, h3, h4⟩
  by_cases hy : y = e
  · subst hy; rw [hc] at h3; cases h3
  · by_cases hy2 : y < e
    · have := h4 e hy2 he
      rw [hw] at this; cases this
    · have := (h y (by omega) h2).1
      rw [h3] at this; cases this
theorem down_end {c ws : Int → Bool} {lo hi e : Int} (h : Down c ws hi e) (he : e < lo) : ¬ Back c ws lo hi := by
  rintro ⟨y, h1, h2, h3, _⟩
  have := (h y (by omega) h2).1
  rw [h3] at this; cases this
/-- Up to e: none so far. -/
def Up (c ws : Int → Bool) (lo hi e : Int) : Prop := ∀ y, lo ≤ y → y < e → ¬ (c y = true ∧ ∀ x, y < x → x < hi → ws x = false)
theorem up_start (c ws : Int → Bool) (lo hi : Int) : Up c ws lo hi lo := fun y h1 h2 => by omega
theorem up_step {c ws : Int → Bool} {lo hi e : Int} (h : Up c ws lo hi e) (hn : ¬ (c e = true ∧ ∀ x, e < x → x < hi → ws x = false)) : Up c ws lo hi (e + 1) := fun y h1 h2 => by
  by_cases hy : y = e
  · subst hy; exact hn
  · exact h y h1 (by omega)
theorem up_end {c ws : Int → Bool} {lo hi e : Int} (h : Up c ws lo hi e) (he : hi ≤ e) : ¬ Back c ws lo hi := by
  rintro ⟨y, h1, h2, h3, h4⟩
  exact h y h1 (by omega) ⟨h3, h4⟩
theorem bool_same {a b : Bool} {P : Prop} (h : a = true ↔ P) (h' : b = true ↔ P) : a = b := by
  rw [Bool.eq_iff_iff, h, h']
end Go.Proofs.YtnahkonklkcbeabGreatDoor.RuN
