/-
  What TopFrames needs: frames put behind frames; numbers in memory; texts of frames.
-/
import Derived.Test.YtjdfllocngkjpaaFrmS
import Derived.Deep.Cut
namespace Go.Proofs.Ytjdfllocngkjpaa.FrmA
open Go.RowKit FrmM
set_option maxRecDepth 100000

/-- A list of numbers, wherever it lies: of its slice's address. -/
structure IntsOn (w : World) (p : Option Addr) (zs : List Int) : Prop where
  at_ : zs ≠ [] → ∃ b o, p = some ⟨b, o, none⟩ ∧ b < w.heap.size ∧ ∀ (k : Nat) (z : Int), zs[k]? = some z → w.cell? ⟨b, o + k, none⟩ = some (.int .i64 z)
/-- Frames are put behind frames. -/
theorem FramesOwn.cat {V V1 : World} {base rb g cap : Nat} {v : Value} {fs gs : List Fr} {ps qs : List (Option Addr × Nat)} (hl : ps.length = fs.length)
    (hr : ∀ (k : Nat) (f : Fr) (pc : Option Addr × Nat), fs[k]? = some f → ps[k]? = some pc → ReadsOn V pc.1 f.rs ∧ (f.rs ≠ [] → ∃ b o, pc.1 = some ⟨b, o, none⟩ ∧ rb ≤ b ∧ v.ownBlock ≠ some b))
    (hl2 : qs.length = gs.length)
    (hr2 : ∀ (k : Nat) (f : Fr) (pc : Option Addr × Nat), gs[k]? = some f → qs[k]? = some pc → ReadsOn V pc.1 f.rs ∧ (f.rs ≠ [] → ∃ b o, pc.1 = some ⟨b, o, none⟩ ∧ rb ≤ b ∧ v.ownBlock ≠ some b))
    (ho : V1.ownsRow base 24 3 (.slice (some ⟨g, 0, none⟩) (fs.length + gs.length) cap) (fs.length + gs.length) (frCells fs ps ++ frCells gs qs)) (hg : V.grownBy V1 v.ownBlock) (hat : v.ownBlock = some g ∨ g = V.heap.size) :
    FramesOwn V1 base rb (.slice (some ⟨g, 0, none⟩) (fs.length + gs.length) cap) (fs ++ gs) := by
  have key : ∀ (q : Option Addr) (rs : List Rd), ReadsOn V q rs → (rs ≠ [] → ∃ b o, q = some ⟨b, o, none⟩ ∧ rb ≤ b ∧ v.ownBlock ≠ some b) → ReadsOn V1 q rs ∧ (rs ≠ [] → ∃ b o, q = some ⟨b, o, none⟩ ∧ rb ≤ b ∧ (Value.slice (some ⟨g, 0, none⟩) (fs.length + gs.length) cap).ownBlock ≠ some b) := by
    intro q rs h1 h2
    by_cases hne : rs = []
    · subst hne
      exact ⟨h1.empty, fun h => absurd rfl h⟩
    · obtain ⟨b, o, rfl, h3, h4⟩ := h2 hne
      obtain ⟨b', o', hq, hlt, _⟩ := h1.at_ hne
      simp at hq
      obtain ⟨rfl, rfl⟩ := hq
      refine ⟨h1.move hg.size (fun b' o' hp hlt => ?_), fun _ => ⟨b, o, rfl, h3, ?_⟩⟩
      · simp at hp
        obtain ⟨rfl, rfl⟩ := hp
        exact hg.block b hlt (fun e => h4 e.symm)
      · show some g ≠ some b
        rcases hat with hat | hat
        · rw [← hat]; exact h4
        · intro e
          simp at e
          omega
  refine ⟨ps ++ qs, by simp [hl, hl2], ?_, ?_⟩
  · rw [List.length_append, frCells_append fs ps gs qs hl]
    exact ho
  · intro k x pc hx hp
    rcases Nat.lt_or_ge k fs.length with hk | hk
    · rw [List.getElem?_append_left hk] at hx
      rw [List.getElem?_append_left (by omega)] at hp
      obtain ⟨h1, h2⟩ := hr k x pc hx hp
      exact key pc.1 x.rs h1 h2
    · rw [List.getElem?_append_right hk] at hx
      rw [List.getElem?_append_right (by omega), hl] at hp
      obtain ⟨h1, h2⟩ := hr2 _ x pc hx hp
      exact key pc.1 x.rs h1 h2
/-- The frames of a list that may be. -/
def oks (fs : List Fr) : List Fr := fs.filter fun f => decide (fault f = 0)
theorem oks_ok (fs : List Fr) : ∀ f ∈ oks fs, Ok f := fun f hf => by
  have := (List.mem_filter.1 hf).2
  exact fault_zero.1 (by simpa using this)
theorem oks_snoc_yes {fs : List Fr} {f : Fr} (h : fault f = 0) : oks (fs ++ [f]) = oks fs ++ [f] := by
  unfold oks; rw [List.filter_append]; simp [h]
theorem oks_snoc_no {fs : List Fr} {f : Fr} (h : fault f ≠ 0) : oks (fs ++ [f]) = oks fs := by
  unfold oks; rw [List.filter_append]; simp [h]
theorem oks_len (fs : List Fr) : (oks fs).length ≤ fs.length := List.length_filter_le _ _
theorem enc_le {f : Fr} (h : Ok f) : (enc f).length ≤ 48 := by rw [enc_len]; have := body_le h; omega
theorem flat_le (fs : List Fr) (h : ∀ f ∈ fs, Ok f) : (fs.flatMap enc).length ≤ 48 * fs.length := by
  induction fs with
  | nil => simp
  | cons f fs ih =>
    have e : (f :: fs).flatMap enc = enc f ++ fs.flatMap enc := rfl
    rw [e, List.length_append, List.length_cons]
    have := enc_le (h f (by simp))
    have := ih (fun g hg => h g (by simp [hg]))
    omega
theorem bytesOfAll_take {fs : List Fr} {k : Nat} (hk : k < fs.length) : bytesOfAll (fs.take (k + 1)) = bytesOfAll (fs.take k) + (enc fs[k]).length := by
  unfold bytesOfAll
  rw [List.take_succ_eq_append_getElem hk, List.map_append]
  simp only [List.map_cons, List.map_nil, List.sum_append, List.sum_cons, List.sum_nil]
  omega
/-- The bytes of a frame that says that its reader is alive. -/
theorem alive_feed : (feed [165, 0, 2, 88]).1.length = 1 := by
  have h : [(⟨2, [], 0⟩ : Fr)].flatMap enc = [165, 0, 2, 88] := by decide
  have h2 := feed_whole [(⟨2, [], 0⟩ : Fr)] (fun f hf => by simp at hf; subst hf; exact fault_zero.1 (by decide))
  rw [h] at h2
  rw [h2]
  rfl
end Go.Proofs.Ytjdfllocngkjpaa.FrmA
