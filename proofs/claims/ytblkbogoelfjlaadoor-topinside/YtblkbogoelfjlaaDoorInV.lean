/-
  What TopInside does to the world.
-/
import Derived.Test.YtblkbogoelfjlaaDoorInU
namespace Go.Proofs.YtblkbogoelfjlaaDoor.InA
open Go.RowKit TkM TkW TkA InM Go.Maps Go.Shelf
set_option maxRecDepth 100000

/-- The boxes. -/
def isBx (s b11 b13 b : Nat) : Prop := b = s ∨ b = s + 1 ∨ b = s + 1 + 1 ∨ b = s + 1 + 1 + 1 ∨ b = b11 ∨ b = b13
structure Bx (V : World) (s b11 b13 tb xb span score : Nat) (a : Option Addr) (N cap : Nat) : Prop where
  b7 : V.heap[s]? = some (.cells #[.int .i64 (span : Int)] 3)
  b8 : V.heap[s + 1]? = some (.cells #[.int .i64 (score : Int)] 3)
  b9 : V.heap[s + 1 + 1]? = some (.cells #[.slice a N cap] 44)
  b10 : V.heap[s + 1 + 1 + 1]? = some (.cells #[.bool false] 4)
  bt : V.heap[b11]? = some (.cells #[.pointer (some ⟨tb, 0, none⟩)] 47)
  bx : V.heap[b13]? = some (.cells #[.pointer (some ⟨xb, 0, none⟩)] 51)
theorem Bx.move {V V' : World} {s b11 b13 tb xb span score : Nat} {a : Option Addr} {N cap : Nat} (h : Bx V s b11 b13 tb xb span score a N cap) (hk : ∀ b, isBx s b11 b13 b → b < V.heap.size → V'.heap[b]? = V.heap[b]?) : Bx V' s b11 b13 tb xb span score a N cap where
  b7 := (hk _ (by unfold isBx; omega) (Array.getElem?_eq_some_iff.1 h.b7).1).trans h.b7
  b8 := (hk _ (by unfold isBx; omega) (Array.getElem?_eq_some_iff.1 h.b8).1).trans h.b8
  b9 := (hk _ (by unfold isBx; omega) (Array.getElem?_eq_some_iff.1 h.b9).1).trans h.b9
  b10 := (hk _ (by unfold isBx; omega) (Array.getElem?_eq_some_iff.1 h.b10).1).trans h.b10
  bt := (hk _ (by unfold isBx; omega) (Array.getElem?_eq_some_iff.1 h.bt).1).trans h.bt
  bx := (hk _ (by unfold isBx; omega) (Array.getElem?_eq_some_iff.1 h.bx).1).trans h.bx
theorem Bx.below {V V' : World} {s b11 b13 tb xb span score : Nat} {a : Option Addr} {N cap : Nat} (h : Bx V s b11 b13 tb xb span score a N cap) (hb : Below V.heap.size V V') : Bx V' s b11 b13 tb xb span score a N cap := h.move (fun b _ hlt => hb.block b hlt)
/-- What stands in the loop over the epochs. -/
structure T1 (w V : World) (b11 b13 tb xb : Nat) (W need span score : Nat) (a : Option Addr) (N cap : Nat) (K : List (List Sg)) : Prop where
  out : ∃ who F f r, TX V tb xb who F (fun b => isBx w.heap.size b11 b13 b ∨ b < w.heap.size) W need span score r K.length K f ∧ r ≤ 25 * K.length
  bx : Bx V w.heap.size b11 b13 tb xb span score a N cap
  kp : Below w.heap.size w V
theorem T1.below {w V V' : World} {b11 b13 tb xb W need span score : Nat} {a : Option Addr} {N cap : Nat} {K : List (List Sg)} (h : T1 w V b11 b13 tb xb W need span score a N cap K) (hb : Below V.heap.size V V') : T1 w V' b11 b13 tb xb W need span score a N cap K where
  out := by
    obtain ⟨who, F, f, r, h1, h2⟩ := h.out
    exact ⟨who, F, f, r, h1.below hb, h2⟩
  bx := h.bx.below hb
  kp := h.kp.trans (hb.mono h.kp.size)
section
variable {w V V1 : World} {b11 b13 tb xb W need span score : Nat} {a : Option Addr} {N cap : Nat} {K : List (List Sg)} {l : List Sg}
/-- What Tell leaves behind, of an epoch that may be told. -/
structure T2 (w V : World) (b11 b13 tb xb : Nat) (W need span score : Nat) (a : Option Addr) (N cap : Nat) (K : List (List Sg)) (l : List Sg) : Prop where
  out : ∃ who F f r, TX V tb xb who F (fun b => isBx w.heap.size b11 b13 b ∨ b < w.heap.size) W need span score r K.length (K ++ [l]) f ∧ r ≤ 25 * (K.length + 1)
  bx : Bx V w.heap.size b11 b13 tb xb span score a N cap
  kp : Below w.heap.size w V
theorem T2.below {V' : World} (h : T2 w V b11 b13 tb xb W need span score a N cap K l) (hb : Below V.heap.size V V') : T2 w V' b11 b13 tb xb W need span score a N cap K l where
  out := by
    obtain ⟨who, F, f, r, h1, h2⟩ := h.out
    exact ⟨who, F, f, r, h1.below hb, h2⟩
  bx := h.bx.below hb
  kp := h.kp.trans (hb.mono h.kp.size)
theorem T1.tell (h : T1 w V b11 b13 tb xb W need span score a N cap K) (p : Option Addr) (cp : Nat) (hg : goodL l = true) (hs : SgsOn V p l) (hap : l ≠ [] → ∀ b o, p = some ⟨b, o, none⟩ → b < w.heap.size) (hK : K.length ≤ 14) :
    Calls Tryd.prog 28 #[.pointer (some ⟨tb, 0, none⟩), .slice p l.length cp] V fun e w' => (l.all okS = true → e = .returned .nilIface ∧ T2 w w' b11 b13 tb xb W need span score a N cap K l) ∧ (l.all okS = false → e = .returned (.iface 23 (.int .i64 1)) ∧ T1 w w' b11 b13 tb xb W need span score a N cap K) := by
  obtain ⟨who, F, f, r, hX, hr⟩ := h.out
  have hgl := goodL_iff.1 hg
  refine (tell_any0 l p cp hX.t hgl.1 hs (fun hne b o hp => (hX.nt b (Or.inr (hap hne b o hp))).2) (fun x hx => by have := hgl.2 x hx; omega) (by omega) (by omega) (epOf_past K (Nat.le_refl _))).mono ?_
  rintro e w' ⟨rfl, who', t', k1, s1⟩
  have hbx : Bx w' w.heap.size b11 b13 tb xb span score a N cap := h.bx.move (fun b hb hlt => k1.block b hlt (hX.nt b (Or.inl hb)).2)
  have hkp : Below w.heap.size w w' := h.kp.trans (k1.below h.kp.size (fun b hb => (hX.nt b (Or.inr hb)).2))
  refine ⟨fun hok => ?_, fun hok => ?_⟩
  · simp only [if_pos hok] at t' ⊢
    exact ⟨rfl, ⟨who', F, f, _, hX.tell (Nat.le_refl _) t' k1 s1, by omega⟩, hbx, hkp⟩
  · have hne : ¬ l.all okS = true := by rw [hok]; simp
    simp only [if_neg hne] at t' ⊢
    exact ⟨rfl, ⟨who', F, f, _, hX.told t' k1 s1, hr⟩, hbx, hkp⟩
theorem T2.next (h : T2 w V b11 b13 tb xb W need span score a N cap K l) (hT : TagA.Tabs w) (hW : W ≤ 8) (hne : 1 ≤ need) (hs : ∀ g, (∃ e, seenG g (epOf (K ++ [l]) e) = true) → g.size ≤ 100000) (h8 : span ≤ 8) (h1 : 1 ≤ score) (h2 : score ≤ 8) (hK : K.length ≤ 14) :
    Calls Tryd.prog 29 #[.pointer (some ⟨xb, 0, none⟩)] V fun e w' => e = .returned (.bool true) ∧ T1 w w' b11 b13 tb xb W need span score a N cap (K ++ [l]) := by
  obtain ⟨who, F, f, r, hX, hr⟩ := h.out
  refine (next_yes hX.t hX.x (hT.below h.kp hT.size) hX.p (by simp) hW hne (by simp; omega) (by omega) hs h8 h1 h2).mono ?_
  rintro e w' ⟨rfl, hnp⟩
  obtain ⟨F', f', hX', k1, s1⟩ := hX.next hnp
  refine ⟨rfl, ⟨who, F', f', r, by rw [List.length_append]; exact hX', by simp; omega⟩, h.bx.move (fun b hb hlt => k1.block b hlt (hX.nx b (Or.inl hb))), h.kp.trans (k1.below h.kp.size (fun b hb => hX.nx b (Or.inr hb)))⟩
end
end Go.Proofs.YtblkbogoelfjlaaDoor.InA
