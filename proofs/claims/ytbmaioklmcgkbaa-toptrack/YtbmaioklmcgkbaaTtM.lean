/-
  Mathematics of TopTrack: a tag's own sights alone; what a look at a window tells of where the tag is.
-/
import Derived.Test.YtbmaioklmcgkbaaTkM
namespace Go.Proofs.Ytbmaioklmcgkbaa.TkM
/-- A tag's own sights, backwards. -/
def own (g : ByteArray) (l : List Sg) : List Sg := l.reverse.filter (fun x => decide (x.g = g))
theorem own_tag {g : ByteArray} {l : List Sg} {x : Sg} (h : x ∈ own g l) : x.g = g ∧ x ∈ l := by
  unfold own at h
  rw [List.mem_filter] at h
  exact ⟨by simpa using h.2, by simpa using h.1⟩
theorem own_len (g : ByteArray) (l : List Sg) : (own g l).length ≤ l.length := by
  unfold own
  have := List.length_filter_le (fun x : Sg => decide (x.g = g)) l.reverse
  rw [List.length_reverse] at this
  exact this
theorem epOf_own (g : ByteArray) (E : List (List Sg)) (e : Nat) : epOf (E.map (own g)) e = own g (epOf E e) := by
  unfold epOf
  by_cases h : e < E.length
  · rw [List.getD_eq_getElem?_getD, List.getD_eq_getElem?_getD, List.getElem?_map, List.getElem?_eq_getElem h]
    rfl
  · rw [List.getD_eq_getElem?_getD, List.getD_eq_getElem?_getD, List.getElem?_map, List.getElem?_eq_none (by omega)]
    rfl
theorem whr_own (g : ByteArray) (E : List (List Sg)) (W need e : Nat) : whr g (epOf (E.map (own g))) W need e = whr g (epOf E) W need e :=
  whr_congr (fun p k _ => by rw [epOf_own]; exact seenAt_own g p _) (fun p k _ => by rw [epOf_own]; exact sumAt_own g p _)
theorem told_own (g : ByteArray) (E : List (List Sg)) : told g (E.map (own g)) = told g E := by
  unfold told
  rw [List.any_map]
  congr 1
  funext l
  exact seen_own g l
theorem own_all {g : ByteArray} {l : List Sg} (h : l.all okS = true) : (own g l).all okS = true := by
  rw [List.all_eq_true] at h ⊢
  exact fun x hx => h x (own_tag hx).2
/-- Were all that were looked at at one place, and which was the last? -/
structure St (l : List Sg) (b : Bool) (o : Int) : Prop where
  nil : l = [] → o = -1
  last : l ≠ [] → ∃ x, x ∈ l ∧ x.p = o
  all : b = true → ∀ x, x ∈ l → x.p = o
theorem St.zero : St [] true (-1) := ⟨fun _ => rfl, fun h => absurd rfl h, fun _ _ hx => absurd hx List.not_mem_nil⟩
theorem St.step {l : List Sg} {b : Bool} {o : Int} {x : Sg} (h : St l b o) (hp : ∀ x, x ∈ l → 0 ≤ x.p) : St (l ++ [x]) (b && (decide (o < 0) || decide (o = x.p))) x.p where
  nil := fun e => by simp at e
  last := fun _ => ⟨x, by simp, rfl⟩
  all := fun hb y hy => by
    simp at hb
    rcases List.mem_append.1 hy with hy | hy
    · have h1 := h.all hb.1 y hy
      have h2 := hp y hy
      rcases hb.2 with h3 | h3 <;> omega
    · simp at hy
      rw [hy]
/-- All sights of a window. -/
def fl (ep : Nat → List Sg) (lo : Nat) : Nat → List Sg
  | 0 => []
  | k + 1 => fl ep lo k ++ ep (lo + k)
/-- In how many epochs anything was seen. -/
def ne (ep : Nat → List Sg) (lo : Nat) : Nat → Nat
  | 0 => 0
  | k + 1 => ne ep lo k + (if 0 < (ep (lo + k)).length then 1 else 0)
theorem ne_le (ep : Nat → List Sg) (lo : Nat) : ∀ k, ne ep lo k ≤ k
  | 0 => Nat.le_refl _
  | k + 1 => by
    have := ne_le ep lo k
    unfold ne
    split <;> omega
theorem mem_fl {ep : Nat → List Sg} {lo : Nat} {x : Sg} : ∀ {k}, x ∈ fl ep lo k → ∃ j, x ∈ ep j
  | 0, h => absurd h List.not_mem_nil
  | k + 1, h => by
    rcases List.mem_append.1 h with h | h
    · exact mem_fl h
    · exact ⟨_, h⟩
theorem cnt_le_ne (g : ByteArray) (p : Int) (ep : Nat → List Sg) (lo : Nat) : ∀ k, cnt g p ep lo k ≤ ne ep lo k
  | 0 => Nat.le_refl _
  | k + 1 => by
    have h := cnt_le_ne g p ep lo k
    unfold cnt ne
    by_cases h1 : seenAt g p (ep (lo + k)) = true
    · obtain ⟨x, hx, _⟩ := seenAt_iff.1 h1
      rw [if_pos h1, if_pos (List.length_pos_of_mem hx)]
      omega
    · rw [if_neg h1]
      omega
theorem cnt_eq_ne {g : ByteArray} {p : Int} {ep : Nat → List Sg} {lo : Nat} (hg : ∀ k x, x ∈ ep k → x.g = g) : ∀ {k}, (∀ x, x ∈ fl ep lo k → x.p = p) → cnt g p ep lo k = ne ep lo k
  | 0, _ => rfl
  | k + 1, h => by
    have ih := cnt_eq_ne (lo := lo) (p := p) hg (k := k) (fun x hx => h x (List.mem_append.2 (Or.inl hx)))
    unfold cnt ne
    rw [ih]
    by_cases h1 : 0 < (ep (lo + k)).length
    · obtain ⟨x, hx⟩ := List.length_pos_iff_exists_mem.1 h1
      have h2 : seenAt g p (ep (lo + k)) = true := seenAt_iff.2 ⟨x, hx, hg _ x hx, h x (List.mem_append.2 (Or.inr hx))⟩
      rw [if_pos h1, if_pos h2]
    · have h2 : ¬ seenAt g p (ep (lo + k)) = true := fun h2 => by
        obtain ⟨x, hx, _⟩ := seenAt_iff.1 h2
        exact h1 (List.length_pos_of_mem hx)
      rw [if_neg h1, if_neg h2]
theorem cnt_pos {g : ByteArray} {p : Int} {ep : Nat → List Sg} {lo : Nat} : ∀ {k}, 0 < cnt g p ep lo k → ∃ x, x ∈ fl ep lo k ∧ x.p = p
  | 0, h => absurd h (by unfold cnt; omega)
  | k + 1, h => by
    unfold cnt at h
    by_cases h1 : seenAt g p (ep (lo + k)) = true
    · obtain ⟨x, hx, _, hp⟩ := seenAt_iff.1 h1
      exact ⟨x, List.mem_append.2 (Or.inr hx), hp⟩
    · rw [if_neg h1] at h
      obtain ⟨x, hx, hp⟩ := cnt_pos (k := k) (by omega)
      exact ⟨x, List.mem_append.2 (Or.inl hx), hp⟩
theorem ne_pos {ep : Nat → List Sg} {lo : Nat} : ∀ {k}, 0 < ne ep lo k → fl ep lo k ≠ []
  | 0, h => absurd h (by unfold ne; omega)
  | k + 1, h => by
    unfold ne at h
    unfold fl
    by_cases h1 : 0 < (ep (lo + k)).length
    · intro e
      have := (List.append_eq_nil_iff.1 e).2
      rw [this] at h1
      simp at h1
    · rw [if_neg h1] at h
      have := ne_pos (ep := ep) (lo := lo) (k := k) (by omega)
      intro e
      exact this (List.append_eq_nil_iff.1 e).1
/-- What TopTrack holds against each answer. -/
theorem top_ok {g : ByteArray} {ep : Nat → List Sg} {W need e : Nat} {b : Bool} {o : Int} (hn : 1 ≤ need) (hg : ∀ k x, x ∈ ep k → x.g = g) (hp : ∀ k x, x ∈ ep k → 0 ≤ x.p ∧ x.p < 8) (hs : St (fl ep (lo W e) (e + 1 - lo W e)) b o) :
    ¬ (0 ≤ whr g ep W need e ∧ cnt g (whr g ep W need e) ep (lo W e) (e + 1 - lo W e) < need) ∧ ¬ (b = true ∧ need ≤ ne ep (lo W e) (e + 1 - lo W e) ∧ whr g ep W need e ≠ o) ∧ ¬ (b = true ∧ ne ep (lo W e) (e + 1 - lo W e) < need ∧ 0 ≤ whr g ep W need e) := by
  have hB : Bst need (cW g ep W e) (sW g ep W e) (fun p => p < 8) (whr g ep W need e) := bst_is need _ _ 8
  generalize whr g ep W need e = p at *
  rcases hB with ⟨rfl, h⟩ | ⟨q, rfl, hq, hnq, h⟩
  · refine ⟨fun h => by omega, fun ⟨hb, h1, _⟩ => ?_, fun h => by omega⟩
    obtain ⟨x, hx, hxo⟩ := hs.last (ne_pos (by omega))
    obtain ⟨j, hj⟩ := mem_fl hx
    have h2 := hp j x hj
    have h3 := h x.p.toNat (by omega)
    unfold cW at h3
    have h4 : ((x.p.toNat : Nat) : Int) = x.p := by omega
    rw [h4, cnt_eq_ne hg (fun y hy => by rw [hs.all hb y hy, hxo])] at h3
    omega
  · have hnq' : need ≤ cnt g (q : Int) ep (lo W e) (e + 1 - lo W e) := hnq
    refine ⟨fun h => by omega, fun ⟨hb, h1, h2⟩ => ?_, fun ⟨_, h1, _⟩ => ?_⟩
    · obtain ⟨x, hx, hxp⟩ := cnt_pos (Nat.lt_of_lt_of_le (by omega) hnq')
      have := hs.all hb x hx
      omega
    · have := cnt_le_ne g (q : Int) ep (lo W e) (e + 1 - lo W e)
      omega
end Go.Proofs.Ytbmaioklmcgkbaa.TkM
