/-
  What TrackSays does to the world.
-/
import Derived.Test.YtnahkonklkcbeabGreatDoorTkX
import Derived.Test.YtnahkonklkcbeabGreatDoorTkR2
namespace Go.Proofs.YtnahkonklkcbeabGreatDoor.TkA
open Go.RowKit TkM TkW Go.Maps
set_option maxRecDepth 100000

theorem told_small {g : ByteArray} {E : List (List Sg)} (hl : light E = true) (h : told g E = true) : g.size ≤ 20 := by
  simp only [told, List.any_eq_true, seenG] at h
  obtain ⟨l, hE, x, hx, e⟩ := h
  have := (goodL_iff.1 ((light_iff.1 hl).2 l hE)).2 x hx
  have e : x.g = g := by simpa using e
  rw [← e]
  exact this
theorem new1 {V : World} {g : Nat} {s : ByteArray} (h : V.heap[g]? = some (.cells #[.string s] 9)) : ∀ (j : Nat) (u : Value), ([.string s] : List Value)[j]? = some u → V.cell? ((⟨g, 0, none⟩ : Addr).add j) = some u := by
  intro j u hj
  rw [addr_add]
  match j, hj with
  | 0, hj => simp at hj; subst hj; simp [World.cell?, h]
theorem ts_of {V w3 : World} {B g c : Nat} {F : Nat → Prop} {L : List ByteArray} {s : ByteArray} (ho : V.ownsRow B 9 1 (.slice (some ⟨g, 0, none⟩) (L.length + 1) c) (L.length + 1) (L.map sv ++ [.string s])) (hB : w3.heap.size ≤ B) (hF : ∀ b, F b → b < w3.heap.size) : TsOn V F (some ⟨g, 0, none⟩) (L ++ [s]) where
  at_ := fun i x hx => by
    have hlt := ho.lt g rfl
    refine ⟨g, 0, rfl, ?_, fun h => by have := hF g h; omega, hlt.2⟩
    have hi : i < L.length + 1 := by
      rcases Nat.lt_or_ge i (L ++ [s]).length with h | h
      · simpa using h
      · rw [List.getElem?_eq_none h] at hx; cases hx
    rw [Nat.zero_add, ho.cellAt i (by omega)]
    have e : L.map sv ++ [.string s] = (L ++ [s]).map sv := by simp [sv]
    rw [e, List.getElem?_map, hx]
    rfl
theorem light_bounds {E : List (List Sg)} (hl : light E = true) : ∀ l, l ∈ E → l.length ≤ 9223372036854775807 ∧ ∀ x, x ∈ l → x.g.size ≤ 9223372036854775807 := fun l hlE => by
  have h := goodL_iff.1 ((light_iff.1 hl).2 l hlE)
  exact ⟨by omega, fun x hx => by have := h.2 x hx; omega⟩
end Go.Proofs.YtnahkonklkcbeabGreatDoor.TkA
