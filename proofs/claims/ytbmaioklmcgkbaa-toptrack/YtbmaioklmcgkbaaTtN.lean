/-
  TopTrack: steps of its loops, and what lies in memory there.
-/
import Derived.Test.YtbmaioklmcgkbaaTtB
namespace Go.Proofs.Ytbmaioklmcgkbaa.TkA
open Go.RowKit TkM TkW Go.Maps
set_option maxRecDepth 100000

theorem own_zero (g : ByteArray) (l : List Sg) : own g (l.drop l.length) = [] := by rw [List.drop_length]; rfl
theorem own_one {g : ByteArray} {l : List Sg} {k : Nat} {x : Sg} (hx : l[k]? = some x) : own g (l.drop k) = own g (l.drop (k + 1)) ++ (if x.g = g then [x] else []) := by
  have hk : k < l.length := by
    rcases Nat.lt_or_ge k l.length with h | h
    · exact h
    · rw [List.getElem?_eq_none h] at hx; cases hx
  rw [List.getElem?_eq_getElem hk] at hx
  have hx' : l[k] = x := by simpa using hx
  rw [List.drop_eq_getElem_cons hk, hx']
  unfold own
  rw [List.reverse_cons, List.filter_append]
  congr 1
  by_cases h : x.g = g
  · simp [h]
  · simp [h]
theorem own_yes {g : ByteArray} {l : List Sg} {k : Nat} {x : Sg} (hx : l[k]? = some x) (h : x.g = g) : own g (l.drop k) = own g (l.drop (k + 1)) ++ [x] := by rw [own_one hx, if_pos h]
theorem own_no {g : ByteArray} {l : List Sg} {k : Nat} {x : Sg} (hx : l[k]? = some x) (h : ¬ x.g = g) : own g (l.drop k) = own g (l.drop (k + 1)) := by rw [own_one hx, if_neg h, List.append_nil]
theorem Kpt.form {V : World} {B : Nat} {v : Value} {ps : List (Option Addr × Nat)} {K : List (List Sg)} (h : Kpt V B v ps K) : ∃ p c, v = .slice p K.length c := by
  rcases h.row.2 with ⟨h', hn⟩ | ⟨g, cap', cur, h', _⟩
  · exact ⟨none, 0, by rw [h', hn]⟩
  · exact ⟨_, cap', h'⟩
theorem Two.below {B : Nat} {V V1 : World} {tb ob : Nat} {ht ho : Nat → Nat × ByteArray × Nat} {W need r s : Nat} {g : ByteArray} {v : Value} {ps : List (Option Addr × Nat)} {E : List (List Sg)} (h : Two B V tb ob ht ho W need r s g v ps E) (hb : Below V.heap.size V V1) : Two B V1 tb ob ht ho W need r s g v ps E :=
  ⟨h.t.below hb, h.o.below hb, h.k.below hb, h.lt_, h.lo_, h.ato, h.atk, h.aok⟩
theorem Two.form {B : Nat} {V : World} {tb ob : Nat} {ht ho : Nat → Nat × ByteArray × Nat} {W need r s : Nat} {g : ByteArray} {v : Value} {ps : List (Option Addr × Nat)} {E : List (List Sg)} (h : Two B V tb ob ht ho W need r s g v ps E) : ∃ p c, v = .slice p E.length c := by
  obtain ⟨p, c, e⟩ := h.k.form
  rw [List.length_map] at e
  exact ⟨p, c, e⟩
theorem Two.get {B : Nat} {V : World} {tb ob : Nat} {ht ho : Nat → Nat × ByteArray × Nat} {W need r s : Nat} {g : ByteArray} {p : Option Addr} {n c k : Nat} {ps : List (Option Addr × Nat)} {E : List (List Sg)} (h : Two B V tb ob ht ho W need r s g (.slice p n c) ps E) (hk : k < E.length) : ∃ b q cp, p = some ⟨b, 0, none⟩ ∧ V.cell? ⟨b, k, none⟩ = some (.slice q (epOf (E.map (own g)) k).length cp) ∧ SgsOn V q (epOf (E.map (own g)) k) := by
  refine h.k.get ?_
  unfold epOf
  rw [List.getD_eq_getElem?_getD, List.getElem?_map, List.getElem?_eq_getElem hk]
  rfl
theorem take_next {α : Type} {l : List α} {k : Nat} (h : k < l.length) : l.take (k + 1) = l.take k ++ [l[k]] := by
  rw [List.take_add_one, List.getElem?_eq_getElem h]
  rfl
theorem fl_next (ep : Nat → List Sg) (lo k : Nat) : fl ep lo k ++ ep (lo + k) = fl ep lo (k + 1) := rfl
/-- What is held against one answer. -/
def TopOk (g : ByteArray) (ep : Nat → List Sg) (L n need : Nat) (p : Int) : Prop := ∀ b o, St (fl ep L n) b o → ¬ (0 ≤ p ∧ cnt g p ep L n < need) ∧ ¬ (b = true ∧ need ≤ ne ep L n ∧ p ≠ o) ∧ ¬ (b = true ∧ ne ep L n < need ∧ 0 ≤ p)
theorem topOk {g : ByteArray} {E : List (List Sg)} {W need e : Nat} (hn : 1 ≤ need) (hp : ∀ k x, x ∈ epOf (E.map (own g)) k → 0 ≤ x.p ∧ x.p < 8) : TopOk g (epOf (E.map (own g))) (lo W e) (e + 1 - lo W e) need (whr g (epOf E) W need e) := fun b o hs => by
  have h := top_ok (g := g) (ep := epOf (E.map (own g))) (W := W) (need := need) (e := e) hn (fun k x hx => by rw [epOf_own] at hx; exact (own_tag hx).1) hp hs
  rw [whr_own] at h
  exact h
theorem ne_yes {ep : Nat → List Sg} {L m : Nat} (h : 0 < (ep (L + m)).length) : ne ep L (m + 1) = ne ep L m + 1 := by
  show ne ep L m + (if 0 < (ep (L + m)).length then 1 else 0) = _
  rw [if_pos h]
theorem ne_no {ep : Nat → List Sg} {L m : Nat} (h : ¬ 0 < (ep (L + m)).length) : ne ep L (m + 1) = ne ep L m := by
  show ne ep L m + (if 0 < (ep (L + m)).length then 1 else 0) = _
  rw [if_neg h, Nat.add_zero]
theorem cnt_yes {g : ByteArray} {p : Int} {ep : Nat → List Sg} {L m : Nat} (h : seenAt g p (ep (L + m)) = true) : cnt g p ep L (m + 1) = cnt g p ep L m + 1 := by
  show cnt g p ep L m + (if seenAt g p (ep (L + m)) = true then 1 else 0) = _
  rw [if_pos h]
theorem cnt_no {g : ByteArray} {p : Int} {ep : Nat → List Sg} {L m : Nat} (h : seenAt g p (ep (L + m)) = false) : cnt g p ep L (m + 1) = cnt g p ep L m := by
  show cnt g p ep L m + (if seenAt g p (ep (L + m)) = true then 1 else 0) = _
  rw [if_neg (by rw [h]; decide), Nat.add_zero]
end Go.Proofs.Ytbmaioklmcgkbaa.TkA
