/-
  Sights, epochs of them, and where a tag is.
-/
import Derived.WalkKit
import Derived.OpenShut
namespace Go.Proofs.YtnahkonklkcbeabGreatDoor.TkM
open Go

structure Sg where
  p : Int
  s : Int
  t : Int
  g : ByteArray
def Sg.none : Sg := ⟨0, 0, 0, ⟨#[]⟩⟩
/-- May a sight be told? -/
def okS (x : Sg) : Bool := decide (0 ≤ x.p) && decide (x.p ≤ 7) && decide (0 ≤ x.s) && decide (x.s ≤ 255)
theorem okS_iff {x : Sg} : okS x = true ↔ (0 ≤ x.p ∧ x.p ≤ 7) ∧ 0 ≤ x.s ∧ x.s ≤ 255 := by
  simp only [okS, Bool.and_eq_true, decide_eq_true_eq]
  constructor
  · rintro ⟨⟨⟨a, b⟩, c⟩, d⟩; exact ⟨⟨a, b⟩, c, d⟩
  · rintro ⟨⟨a, b⟩, c, d⟩; exact ⟨⟨⟨a, b⟩, c⟩, d⟩
def at1 (g : ByteArray) (p : Int) (x : Sg) : Bool := decide (x.g = g) && decide (x.p = p)
theorem at1_iff {g : ByteArray} {p : Int} {x : Sg} : at1 g p x = true ↔ x.g = g ∧ x.p = p := by simp [at1]
def seenG (g : ByteArray) (l : List Sg) : Bool := l.any (fun x => decide (x.g = g))
def seenAt (g : ByteArray) (p : Int) (l : List Sg) : Bool := l.any (at1 g p)
def sumAt (g : ByteArray) (p : Int) : List Sg → Int
  | [] => 0
  | x :: l => (if at1 g p x = true then x.s else 0) + sumAt g p l
theorem seen_iff {g : ByteArray} {l : List Sg} : seenG g l = true ↔ ∃ x, x ∈ l ∧ x.g = g := by simp [seenG]
theorem seenAt_iff {g : ByteArray} {p : Int} {l : List Sg} : seenAt g p l = true ↔ ∃ x, x ∈ l ∧ x.g = g ∧ x.p = p := by simp [seenAt, at1]
theorem seenAt_seen {g : ByteArray} {p : Int} {l : List Sg} (h : seenAt g p l = true) : seenG g l = true := by
  obtain ⟨x, h1, h2, _⟩ := seenAt_iff.1 h
  exact seen_iff.2 ⟨x, h1, h2⟩
theorem seen_nil (g : ByteArray) : seenG g [] = false := rfl
theorem seenAt_nil (g : ByteArray) (p : Int) : seenAt g p [] = false := rfl
theorem seen_snoc (g : ByteArray) (l : List Sg) (x : Sg) : seenG g (l ++ [x]) = (seenG g l || decide (x.g = g)) := by simp [seenG]
theorem seenAt_snoc (g : ByteArray) (p : Int) (l : List Sg) (x : Sg) : seenAt g p (l ++ [x]) = (seenAt g p l || at1 g p x) := by simp [seenAt]
theorem sumAt_append (g : ByteArray) (p : Int) : ∀ l m : List Sg, sumAt g p (l ++ m) = sumAt g p l + sumAt g p m
  | [], m => by simp [sumAt]
  | x :: l, m => by
    show (if at1 g p x = true then x.s else 0) + sumAt g p (l ++ m) = _
    rw [sumAt_append g p l m]
    show _ = ((if at1 g p x = true then x.s else 0) + sumAt g p l) + _
    omega
theorem sumAt_snoc (g : ByteArray) (p : Int) (l : List Sg) (x : Sg) : sumAt g p (l ++ [x]) = sumAt g p l + (if at1 g p x = true then x.s else 0) := by
  rw [sumAt_append]
  simp [sumAt]
theorem sumAt_none {g : ByteArray} {p : Int} : ∀ {l : List Sg}, seenAt g p l = false → sumAt g p l = 0
  | [], _ => rfl
  | x :: l, h => by
    have h' : (at1 g p x || seenAt g p l) = false := h
    rw [Bool.or_eq_false_iff] at h'
    show (if at1 g p x = true then x.s else 0) + sumAt g p l = 0
    rw [h'.1, sumAt_none h'.2]
    simp
theorem sumAt_bound (g : ByteArray) (p : Int) : ∀ l : List Sg, (∀ x, x ∈ l → 0 ≤ x.s ∧ x.s ≤ 255) → 0 ≤ sumAt g p l ∧ sumAt g p l ≤ 255 * (l.length : Int)
  | [], _ => by simp [sumAt]
  | x :: l, h => by
    obtain ⟨h1, h2⟩ := sumAt_bound g p l (fun y hy => h y (List.mem_cons_of_mem _ hy))
    have h3 := h x List.mem_cons_self
    have e : sumAt g p (x :: l) = (if at1 g p x = true then x.s else 0) + sumAt g p l := rfl
    rw [e, List.length_cons]
    split <;> constructor <;> push_cast <;> omega
/-- The sights of one tag alone, in whichever order. -/
theorem seenAt_own (g : ByteArray) (p : Int) (l : List Sg) : seenAt g p (l.reverse.filter (fun x => decide (x.g = g))) = seenAt g p l := by
  rw [Bool.eq_iff_iff, seenAt_iff, seenAt_iff]
  constructor
  · rintro ⟨x, h1, h2⟩
    exact ⟨x, by simpa using (List.mem_filter.1 h1).1, h2⟩
  · rintro ⟨x, h1, h2⟩
    exact ⟨x, List.mem_filter.2 ⟨by simpa using h1, by simpa using h2.1⟩, h2⟩
theorem sumAt_filter (g : ByteArray) (p : Int) : ∀ l : List Sg, sumAt g p (l.filter (fun x => decide (x.g = g))) = sumAt g p l
  | [] => rfl
  | x :: l => by
    have e : sumAt g p (x :: l) = (if at1 g p x = true then x.s else 0) + sumAt g p l := rfl
    rw [List.filter_cons, e, ← sumAt_filter g p l]
    split
    · rfl
    · rename_i h
      have : at1 g p x = false := by
        cases h1 : at1 g p x
        · rfl
        · exact absurd (by simpa using (at1_iff.1 h1).1) h
      rw [this]
      simp
theorem sumAt_reverse (g : ByteArray) (p : Int) : ∀ l : List Sg, sumAt g p l.reverse = sumAt g p l
  | [] => rfl
  | x :: l => by
    rw [List.reverse_cons, sumAt_snoc, sumAt_reverse g p l]
    have e : sumAt g p (x :: l) = (if at1 g p x = true then x.s else 0) + sumAt g p l := rfl
    omega
theorem sumAt_own (g : ByteArray) (p : Int) (l : List Sg) : sumAt g p (l.reverse.filter (fun x => decide (x.g = g))) = sumAt g p l := by rw [sumAt_filter, sumAt_reverse]
theorem seen_own (g : ByteArray) (l : List Sg) : seenG g (l.reverse.filter (fun x => decide (x.g = g))) = seenG g l := by
  rw [Bool.eq_iff_iff, seen_iff, seen_iff]
  constructor
  · rintro ⟨x, h1, h2⟩
    exact ⟨x, by simpa using (List.mem_filter.1 h1).1, h2⟩
  · rintro ⟨x, h1, h2⟩
    exact ⟨x, List.mem_filter.2 ⟨by simpa using h1, by simpa using h2⟩, h2⟩

/-! ### Over epochs -/
/-- Of the k epochs from lo on, in how many was it seenG there? -/
def cnt (g : ByteArray) (p : Int) (ep : Nat → List Sg) (lo : Nat) : Nat → Nat
  | 0 => 0
  | k + 1 => cnt g p ep lo k + (if seenAt g p (ep (lo + k)) = true then 1 else 0)
def sm (g : ByteArray) (p : Int) (ep : Nat → List Sg) (lo : Nat) : Nat → Int
  | 0 => 0
  | k + 1 => sm g p ep lo k + sumAt g p (ep (lo + k))
theorem cnt_le (g : ByteArray) (p : Int) (ep : Nat → List Sg) (lo : Nat) : ∀ k, cnt g p ep lo k ≤ k
  | 0 => Nat.le_refl _
  | k + 1 => by
    have := cnt_le g p ep lo k
    unfold cnt
    split <;> omega
theorem sm_bound (g : ByteArray) (p : Int) (ep : Nat → List Sg) (lo : Nat) (hl : ∀ e, (ep e).length ≤ 25) (ho : ∀ e x, x ∈ ep e → 0 ≤ x.s ∧ x.s ≤ 255) : ∀ k, 0 ≤ sm g p ep lo k ∧ sm g p ep lo k ≤ 6375 * (k : Int)
  | 0 => by simp [sm]
  | k + 1 => by
    have h1 := sm_bound g p ep lo hl ho k
    have h2 := sumAt_bound g p (ep (lo + k)) (ho _)
    have h3 := hl (lo + k)
    unfold sm
    constructor <;> push_cast <;> omega
theorem cnt_congr {g : ByteArray} {p : Int} {ep ep' : Nat → List Sg} {lo : Nat} : ∀ {k}, (∀ j, j < k → seenAt g p (ep (lo + j)) = seenAt g p (ep' (lo + j))) → cnt g p ep lo k = cnt g p ep' lo k
  | 0, _ => rfl
  | k + 1, h => by
    unfold cnt
    rw [h k (by omega), cnt_congr (fun j hj => h j (by omega))]
theorem sm_congr {g : ByteArray} {p : Int} {ep ep' : Nat → List Sg} {lo : Nat} : ∀ {k}, (∀ j, j < k → sumAt g p (ep (lo + j)) = sumAt g p (ep' (lo + j))) → sm g p ep lo k = sm g p ep' lo k
  | 0, _ => rfl
  | k + 1, h => by
    unfold sm
    rw [h k (by omega), sm_congr (fun j hj => h j (by omega))]

/-! ### The best of places -/
def beats (c : Nat) (s : Int) (c' : Nat) (s' : Int) : Bool := if c = c' then decide (s' < s) else decide (c' < c)
def bst (need : Nat) (c : Nat → Nat) (s : Nat → Int) : Nat → Int
  | 0 => -1
  | k + 1 => if c k < need then bst need c s k else if bst need c s k = -1 ∨ beats (c k) (s k) (c (bst need c s k).toNat) (s (bst need c s k).toNat) = true then (k : Int) else bst need c s k
/-- b is the best of those places of which A tells. -/
def Bst (need : Nat) (c : Nat → Nat) (s : Nat → Int) (A : Nat → Prop) (b : Int) : Prop :=
  (b = -1 ∧ ∀ p, A p → c p < need) ∨ ∃ q : Nat, b = (q : Int) ∧ A q ∧ need ≤ c q ∧ ∀ p, A p → need ≤ c p → c p < c q ∨ (c p = c q ∧ (s p < s q ∨ (s p = s q ∧ q ≤ p)))
theorem Bst.unique {need : Nat} {c : Nat → Nat} {s : Nat → Int} {A : Nat → Prop} {b b' : Int} (h : Bst need c s A b) (h' : Bst need c s A b') : b = b' := by
  rcases h with ⟨rfl, h⟩ | ⟨q, rfl, hq, hn, hb⟩ <;> rcases h' with ⟨rfl, h'⟩ | ⟨q', rfl, hq', hn', hb'⟩
  · rfl
  · have := h q' hq'; omega
  · have := h' q hq; omega
  · have h1 := hb q' hq' hn'
    have h2 := hb' q hq hn
    omega
theorem bst_is (need : Nat) (c : Nat → Nat) (s : Nat → Int) : ∀ k, Bst need c s (fun p => p < k) (bst need c s k)
  | 0 => Or.inl ⟨rfl, fun p hp => by omega⟩
  | k + 1 => by
    have ih := bst_is need c s k
    unfold bst
    by_cases h1 : c k < need
    · rw [if_pos h1]
      rcases ih with ⟨hb, ih⟩ | ⟨q, hb, hq, hn, ih⟩
      · refine Or.inl ⟨hb, fun p hp => ?_⟩
        by_cases e : p = k
        · rw [e]; exact h1
        · exact ih p (by omega)
      · refine Or.inr ⟨q, hb, by omega, hn, fun p hp hnp => ?_⟩
        by_cases e : p = k
        · rw [e] at hnp; omega
        · exact ih p (by omega) hnp
    · rw [if_neg h1]
      rcases ih with ⟨hb, ih⟩ | ⟨q, hb, hq, hn, ih⟩
      · rw [if_pos (Or.inl hb)]
        refine Or.inr ⟨k, rfl, by omega, by omega, fun p hp hnp => ?_⟩
        by_cases e : p = k
        · rw [e]; omega
        · have := ih p (by omega); omega
      · have hq0 : (bst need c s k).toNat = q := by rw [hb]; rfl
        have hne : bst need c s k ≠ -1 := by rw [hb]; omega
        rw [hq0]
        by_cases h2 : beats (c k) (s k) (c q) (s q) = true
        · rw [if_pos (Or.inr h2)]
          refine Or.inr ⟨k, rfl, by omega, by omega, fun p hp hnp => ?_⟩
          have h3 : c q < c k ∨ (c k = c q ∧ s q < s k) := by
            unfold beats at h2
            split at h2 <;> simp at h2
            · right; exact ⟨by assumption, h2⟩
            · left; exact h2
          by_cases e : p = k
          · rw [e]; omega
          · have := ih p (by omega) hnp; omega
        · rw [if_neg (fun h => by rcases h with h | h; exact hne h; exact h2 h)]
          refine Or.inr ⟨q, hb, by omega, hn, fun p hp hnp => ?_⟩
          have h3 : c k < c q ∨ (c k = c q ∧ s k ≤ s q) := by
            unfold beats at h2
            split at h2 <;> simp at h2
            · right; exact ⟨by assumption, h2⟩
            · left; omega
          by_cases e : p = k
          · rw [e]; omega
          · exact ih p (by omega) hnp
theorem bst_congr {need : Nat} {c c' : Nat → Nat} {s s' : Nat → Int} {k : Nat} (hc : ∀ p, p < k → c p = c' p) (hs : ∀ p, p < k → s p = s' p) : bst need c s k = bst need c' s' k := by
  refine (bst_is need c s k).unique ?_
  rcases bst_is need c' s' k with ⟨hb, h⟩ | ⟨q, hb, hq, hn, h⟩
  · exact Or.inl ⟨hb, fun p hp => by rw [hc p hp]; exact h p hp⟩
  · refine Or.inr ⟨q, hb, hq, by rw [hc q hq]; exact hn, fun p hp hnp => ?_⟩
    rw [hc p hp, hc q hq, hs p hp, hs q hq]
    exact h p hp (by rw [← hc p hp]; exact hnp)
theorem bst_range {need : Nat} {c : Nat → Nat} {s : Nat → Int} {k : Nat} : -1 ≤ bst need c s k ∧ bst need c s k < k ∧ (bst need c s k = -1 ∨ 0 ≤ bst need c s k) := by
  rcases bst_is need c s k with ⟨hb, _⟩ | ⟨q, hb, hq, _⟩ <;> rw [hb] <;> omega

/-- The first of the epochs that are looked at. -/
def lo (W e : Nat) : Nat := e + 1 - W
def cW (g : ByteArray) (ep : Nat → List Sg) (W e : Nat) (p : Nat) : Nat := cnt g (p : Int) ep (lo W e) (e + 1 - lo W e)
def sW (g : ByteArray) (ep : Nat → List Sg) (W e : Nat) (p : Nat) : Int := sm g (p : Int) ep (lo W e) (e + 1 - lo W e)
/-- Where a tag is. -/
def whr (g : ByteArray) (ep : Nat → List Sg) (W need e : Nat) : Int := bst need (cW g ep W e) (sW g ep W e) 8
theorem whr_congr {g : ByteArray} {ep ep' : Nat → List Sg} {W need e : Nat} (h1 : ∀ p k, k ≤ e → seenAt g p (ep k) = seenAt g p (ep' k)) (h2 : ∀ p k, k ≤ e → sumAt g p (ep k) = sumAt g p (ep' k)) : whr g ep W need e = whr g ep' W need e := by
  refine bst_congr (fun p _ => cnt_congr fun j hj => h1 _ _ ?_) (fun p _ => sm_congr fun j hj => h2 _ _ ?_) <;> omega

/-! ### Epochs that were told -/
def epOf (E : List (List Sg)) (e : Nat) : List Sg := E.getD e []
def told (g : ByteArray) (E : List (List Sg)) : Bool := E.any (seenG g)
theorem told_iff {g : ByteArray} {E : List (List Sg)} : told g E = true ↔ ∃ e, seenG g (epOf E e) = true := by
  simp only [told, List.any_eq_true]
  constructor
  · rintro ⟨l, hl, h⟩
    obtain ⟨e, he, rfl⟩ := List.mem_iff_getElem.1 hl
    refine ⟨e, ?_⟩
    unfold epOf
    rw [List.getD_eq_getElem?_getD, List.getElem?_eq_getElem he]
    exact h
  · rintro ⟨e, h⟩
    by_cases he : e < E.length
    · refine ⟨E[e], List.getElem_mem he, ?_⟩
      unfold epOf at h
      rw [List.getD_eq_getElem?_getD, List.getElem?_eq_getElem he] at h
      exact h
    · unfold epOf at h
      rw [List.getD_eq_getElem?_getD, List.getElem?_eq_none (by omega)] at h
      cases h
theorem epOf_snoc (E : List (List Sg)) (l : List Sg) (e : Nat) : epOf (E ++ [l]) e = if e = E.length then l else epOf E e := by
  unfold epOf
  rw [List.getD_eq_getElem?_getD, List.getD_eq_getElem?_getD]
  rcases Nat.lt_trichotomy e E.length with h | h | h
  · rw [if_neg (by omega), List.getElem?_append_left h]
  · rw [if_pos h, h, List.getElem?_append_right (Nat.le_refl _)]
    simp
  · rw [if_neg (by omega), List.getElem?_append_right (by omega), List.getElem?_eq_none (by simp; omega), List.getElem?_eq_none (by omega)]
theorem epOf_past (E : List (List Sg)) {e : Nat} (h : E.length ≤ e) : epOf E e = [] := by
  unfold epOf
  rw [List.getD_eq_getElem?_getD, List.getElem?_eq_none h]
  rfl
theorem epOf_mem {E : List (List Sg)} {e : Nat} (h : e < E.length) : epOf E e ∈ E := by
  unfold epOf
  rw [List.getD_eq_getElem?_getD, List.getElem?_eq_getElem h]
  exact List.getElem_mem h
end Go.Proofs.YtnahkonklkcbeabGreatDoor.TkM
