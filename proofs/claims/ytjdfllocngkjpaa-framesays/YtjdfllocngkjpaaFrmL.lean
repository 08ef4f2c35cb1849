/-
  What the document's own answer does to the world: FrameAt, where no frame stands or one without reads.
-/
import Derived.Test.YtjdfllocngkjpaaFrmK
import Derived.Lib.QuietBelow
namespace Go.Proofs.Ytjdfllocngkjpaa.FrmA
open Go.RowKit FrmM
set_option maxRecDepth 100000

theorem cell_regrown {w : World} {a : Addr} {v : Value} (h : w.cell? a = some v) (d : Nat) (os : Array Obj) : (Go.Sort.grow (redrawn w d) os).cell? a = some v := by
  have hlt : a.block < w.heap.size := by
    rcases Nat.lt_or_ge a.block w.heap.size with h1 | h1
    · exact h1
    · simp [World.cell?, Array.getElem?_eq_none h1] at h
  rw [(below_regrown w d os).cell hlt]; exact h
/-- What FrameAt answers. -/
def AtPost (s : ByteArray) (w : World) (e : Ending) (w' : World) : Prop :=
  ∃ v, e = .returned (.tuple #[.agg #[.int .i64 (frontF s.data.toList).ty, v, .int .i64 (frontF s.data.toList).wm], .int .i64 (frontN s.data.toList : Int)]) ∧ ReadsOwn w' w.heap.size v (frontF s.data.toList).rs ∧ Below w.heap.size w w'
theorem atPost_none {s : ByteArray} {w w' : World} {e : Ending} (h : front s.data.toList = none) (he : e = .returned (.tuple #[.agg #[.int .i64 0, .slice none 0 0, .int .i64 0], .int .i64 0])) (hb : Below w.heap.size w w') : AtPost s w e w' := by
  unfold AtPost frontF frontN
  rw [h]
  exact ⟨_, he, ReadsOwn.nil _ _, hb⟩
theorem atPost_some {s : ByteArray} {w w' : World} {e : Ending} {f : Fr} {v : Value} {N : Int} (h : front s.data.toList = some f) (he : e = .returned (.tuple #[.agg #[.int .i64 f.ty, v, .int .i64 f.wm], .int .i64 N])) (hN : N = (enc f).length) (hr : ReadsOwn w' w.heap.size v f.rs) (hb : Below w.heap.size w w') : AtPost s w e w' := by
  unfold AtPost frontF frontN
  rw [h]
  subst hN
  exact ⟨_, he, hr, hb⟩

/-- Where no frame begins so. -/
def NoFront (s : ByteArray) : Prop :=
  (s.size : Int) < 4
  ∨ (∃ _h4 : 4 ≤ s.size, ((s[0].toNat : Int) != 165) = true)
  ∨ (∃ _h4 : 4 ≤ s.size, ((s[0].toNat : Int) != 165) = false ∧ (44 : Int) < s[1].toNat)
  ∨ (∃ _h4 : 4 ≤ s.size, ((s[0].toNat : Int) != 165) = false ∧ decide ((44 : Int) < s[1].toNat) = false ∧ (s.size : Int) < 4 + s[1].toNat)
theorem span_of {s : ByteArray} (h2 : 2 ≤ s.size) : span s.data.toList = if s.data.toList.length < 2 ∨ s[0] ≠ 165 ∨ 44 < s[1].toNat then 0 else 4 + s[1].toNat := by
  unfold span
  rw [byte_at (by omega), byte_at (by omega)]
theorem fronts (s : ByteArray) : (NoFront s ∧ front s.data.toList = none) ∨ ∃ h4 : 4 ≤ s.size, ((s[0].toNat : Int) != 165) = false ∧ s[1].toNat ≤ 44 ∧ 4 + s[1].toNat ≤ s.size ∧ span s.data.toList = 4 + s[1].toNat := by
  by_cases h4 : 4 ≤ s.size
  case neg =>
    refine Or.inl ⟨Or.inl (by omega), ?_⟩
    unfold front
    rw [if_pos]
    rw [len_list]
    by_cases h2 : 2 ≤ s.size
    · rw [span_of h2]
      split
      · exact Or.inl rfl
      · right; omega
    · left
      unfold span
      rw [len_list, if_pos (Or.inl (by omega))]
  have hsp := span_of (s := s) (by omega)
  by_cases h0 : s[0] = 165
  case neg =>
    refine Or.inl ⟨Or.inr (Or.inl ⟨h4, ?_⟩), ?_⟩
    · have : s[0].toNat ≠ 165 := fun h => h0 (UInt8.toNat_inj.1 h)
      simp; omega
    · unfold front
      rw [if_pos]
      left
      rw [hsp, if_pos (Or.inr (Or.inl h0))]
  have h0I : ((s[0].toNat : Int) != 165) = false := by rw [h0]; rfl
  by_cases h1 : 44 < s[1].toNat
  case pos =>
    refine Or.inl ⟨Or.inr (Or.inr (Or.inl ⟨h4, h0I, by omega⟩)), ?_⟩
    unfold front
    rw [if_pos]
    left
    rw [hsp, if_pos (Or.inr (Or.inr h1))]
  have hsp2 : span s.data.toList = 4 + s[1].toNat := by
    rw [hsp, if_neg]
    rw [len_list]
    rintro (h | h | h)
    · omega
    · exact h h0
    · omega
  by_cases h5 : 4 + s[1].toNat ≤ s.size
  · exact Or.inr ⟨h4, h0I, by omega, h5, hsp2⟩
  · refine Or.inl ⟨Or.inr (Or.inr (Or.inr ⟨h4, h0I, by simp; omega, by omega⟩)), ?_⟩
    unfold front
    rw [if_pos]
    right
    rw [len_list, hsp2]
    omega

set_option maxHeartbeats 1000000 in
theorem fa_no (s : ByteArray) (w : World) (hs : s.size ≤ 100000) (h : NoFront s) (hf : front s.data.toList = none) :
    Calls Try.prog 25 #[.string s] w (AtPost s w) := by
  have HF : Hid (front s.data.toList = none) := hf
  clear hf
  rcases h with h | ⟨h4, h⟩ | ⟨h4, h0, h⟩ | ⟨h4, h0, h1, h⟩
  · go_enter Try.func25, Try.ntmps25
    go_wp2
    refine bodyPost_ret (v := .tuple #[.agg #[.int .i64 0, .slice none 0 0, .int .i64 0], .int .i64 0]) (by simp [results, Try.results25, go_sem]) rfl ?_
    exact atPost_none HF.out rfl ((Below.refl _ w).alloc (Nat.le_refl _) _)
  · have a0 : (0 : Int) < s.size := by omega
    have a4 : decide ((s.size : Int) < 4) = false := by simp; omega
    go_enter Try.func25, Try.ntmps25
    go_wp2
    refine bodyPost_ret (v := .tuple #[.agg #[.int .i64 0, .slice none 0 0, .int .i64 0], .int .i64 0]) (by simp [results, Try.results25, go_sem]) rfl ?_
    exact atPost_none HF.out rfl ((Below.refl _ w).alloc (Nat.le_refl _) _)
  · have a0 : (0 : Int) < s.size := by omega
    have a1 : (1 : Int) < s.size := by omega
    have a4 : decide ((s.size : Int) < 4) = false := by simp; omega
    go_enter Try.func25, Try.ntmps25
    go_wp2
    refine bodyPost_ret (v := .tuple #[.agg #[.int .i64 0, .slice none 0 0, .int .i64 0], .int .i64 0]) (by simp [results, Try.results25, go_sem]) rfl ?_
    exact atPost_none HF.out rfl ((Below.refl _ w).alloc (Nat.le_refl _) _)
  · have a0 : (0 : Int) < s.size := by omega
    have a1 : (1 : Int) < s.size := by omega
    have a4 : decide ((s.size : Int) < 4) = false := by simp; omega
    have hx := s[1].toNat_lt
    go_enter Try.func25, Try.ntmps25
    go_wp2
    refine bodyPost_ret (v := .tuple #[.agg #[.int .i64 0, .slice none 0 0, .int .i64 0], .int .i64 0]) (by simp [results, Try.results25, go_sem]) rfl ?_
    exact atPost_none HF.out rfl ((Below.refl _ w).alloc (Nat.le_refl _) _)
end Go.Proofs.Ytjdfllocngkjpaa.FrmA
