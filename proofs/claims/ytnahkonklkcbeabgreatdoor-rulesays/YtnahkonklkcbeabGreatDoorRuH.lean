/-
  What the document's own answer does to the world: RuleFault.
-/
import Derived.Test.YtnahkonklkcbeabGreatDoorRuF
namespace Go.Proofs.YtnahkonklkcbeabGreatDoor.RuA
open Go.RowKit RuM
set_option maxRecDepth 100000

section
variable (r : Rl) (w : World)
set_option maxHeartbeats 8000000 in
theorem rfault_any (hs : r.nm.size ≤ 9223372036854775807) {n : Nat} (hn : r.flt n) :
    Calls Tryz.prog 6 #[rV r] w fun e w' => e = .returned (.int .i64 (n : Int)) ∧ Below w.heap.size w w' := by
  have hbnd := bnd_iff r
  obtain ⟨nm, K, F, T, O, I⟩ := r
  simp only at hs hbnd
  unfold rV
  simp only
  have HN4 : Hid (¬ nameOk nm.data.toList → n = 4) := fun h => flt_uniq hn (Or.inl ⟨h, rfl⟩)
  have HF1 : Hid (nameOk nm.data.toList → ¬ (Rl.mk nm K F T O I).bnd → n = 1) := fun hnm h => flt_uniq hn (Or.inr (Or.inl ⟨hnm, h, rfl⟩))
  have HF3 : Hid (nameOk nm.data.toList → (Rl.mk nm K F T O I).bnd → ¬ (F ≠ T ∧ F ≠ O ∧ T ≠ O) → n = 3) := fun hnm h h' => flt_uniq hn (Or.inr (Or.inr (Or.inl ⟨hnm, h, h', rfl⟩)))
  have HF0 : Hid (nameOk nm.data.toList → (Rl.mk nm K F T O I).bnd → (F ≠ T ∧ F ≠ O ∧ T ≠ O) → n = 0) := fun hnm h h' => flt_uniq hn (Or.inr (Or.inr (Or.inr ⟨⟨hnm, h, h'⟩, rfl⟩)))
  have HBD : Hid ((Rl.mk nm K F T O I).bnd ↔ btw K 0 3 = true ∧ btw F 0 7 = true ∧ btw T 0 7 = true ∧ btw O (-1) 7 = true ∧ btw I 1 50 = true) := hbnd
  clear hn hbnd
  have hbel : Below w.heap.size w (w.alloc (.cells #[.string nm, .int .i64 K, .int .i64 F, .int .i64 T, .int .i64 O, .int .i64 I] 23)) := (Below.refl _ _).alloc (Nat.le_refl _) _
  have HBL : Hid _ := hbel
  clear hbel
  by_cases h1 : nm.size < 1
  case pos =>
    have hn4 : n = 4 := HN4.out (fun h => by have h2 := h.1; rw [size_list] at h2; omega)
    subst hn4
    have h1I : (nm.size : Int) < 1 := by omega
    have h1D : decide ((nm.size : Int) < 1) = true := by simpa using h1I
    go_enter Tryz.func6, Tryz.ntmps6
    go_wp2
    go_ret
    exact ⟨rfl, HBL.out⟩
  have h1I : ¬ (nm.size : Int) < 1 := by omega
  have h1D : decide ((nm.size : Int) < 1) = false := by simpa using h1I
  by_cases h2 : 12 < nm.size
  case pos =>
    have hn4 : n = 4 := HN4.out (fun h => by have h2 := h.2.1; rw [size_list] at h2; omega)
    subst hn4
    have h2I : (12 : Int) < nm.size := by omega
    have h2D : decide ((12 : Int) < nm.size) = true := by simpa using h2I
    go_enter Tryz.func6, Tryz.ntmps6
    go_wp2
    go_ret
    exact ⟨rfl, HBL.out⟩
  have h2I : ¬ (12 : Int) < nm.size := by omega
  have h2D : decide ((12 : Int) < nm.size) = false := by simpa using h2I
  go_enter Tryz.func6, Tryz.ntmps6
  go_wp2
  go_loop [3] (fun i => ∃ k : Nat, k ≤ nm.size ∧ i = .int .i64 k ∧ let_ nm k) (fun i => nm.size - (intOf i).toNat)
  case atStart => exact ⟨0, Nat.zero_le _, rfl, fun c hc => by simp at hc⟩
  case round =>
    obtain ⟨k, hk, rfl, hlet⟩ := hrel
    have HL : Hid (let_ nm k) := hlet
    clear hlet
    by_cases hlt : k < nm.size
    case pos =>
      have hkI : (k : Int) < nm.size := by omega
      have hb := nm[k].toNat_lt
      by_cases c1 : nm[k].toNat < 97
      · have c1I : (nm[k].toNat : Int) < 97 := by omega
        have c1D : decide ((nm[k].toNat : Int) < 97) = true := by simpa using c1I
        have hn4 : n = 4 := HN4.out (fun h => let_mono hlt (fun h => by unfold lettr at h; omega) h.2.2)
        subst hn4
        go_wp2
        go_ret
        exact ⟨rfl, HBL.out⟩
      have c1I : ¬ (nm[k].toNat : Int) < 97 := by omega
      have c1D : decide ((nm[k].toNat : Int) < 97) = false := by simpa using c1I
      by_cases c2 : 122 < nm[k].toNat
      · have c2I : 122 < (nm[k].toNat : Int) := by omega
        have c2D : decide (122 < (nm[k].toNat : Int)) = true := by simpa using c2I
        have hn4 : n = 4 := HN4.out (fun h => let_mono hlt (fun h => by unfold lettr at h; omega) h.2.2)
        subst hn4
        go_wp2
        go_ret
        exact ⟨rfl, HBL.out⟩
      have c2I : ¬ 122 < (nm[k].toNat : Int) := by omega
      have c2D : decide (122 < (nm[k].toNat : Int)) = false := by simpa using c2I
      have HL2 : Hid (let_ nm (k + 1)) := (let_snoc hlt).2 ⟨HL.out, by unfold lettr; omega⟩
      go_wp2
      go_round
      case rel => exact ⟨k + 1, by omega, by go_num, HL2.out⟩
      case measure => simp [intOf]; omega
    case neg =>
      obtain rfl : k = nm.size := by omega
      have hnm : nameOk nm.data.toList := by
        unfold nameOk
        rw [size_list]
        exact ⟨by omega, by omega, let_all.1 HL.out⟩
      have G1 : Hid (¬ (Rl.mk nm K F T O I).bnd → n = 1) := HF1.out hnm
      have G3 : Hid ((Rl.mk nm K F T O I).bnd → ¬ (F ≠ T ∧ F ≠ O ∧ T ≠ O) → n = 3) := HF3.out hnm
      have G0 : Hid ((Rl.mk nm K F T O I).bnd → (F ≠ T ∧ F ≠ O ∧ T ≠ O) → n = 0) := HF0.out hnm
      clear hnm HF1 HF3 HF0 HN4 HL
      by_cases l0 : K < 0
      case pos =>
        have hn1 : n = 1 := G1.out (fun h => by have h2 := btw_true.1 (HBD.out.1 h).1; omega)
        subst hn1
        have l0D : decide (K < 0) = true := by simpa using l0
        go_wp2
        go_ret
        exact ⟨rfl, HBL.out⟩
      have l0D : decide (K < 0) = false := by simpa using l0
      by_cases u0 : 3 < K
      case pos =>
        have hn1 : n = 1 := G1.out (fun h => by have h2 := btw_true.1 (HBD.out.1 h).1; omega)
        subst hn1
        have u0D : decide (3 < K) = true := by simpa using u0
        go_wp2
        go_ret
        exact ⟨rfl, HBL.out⟩
      have u0D : decide (3 < K) = false := by simpa using u0
      by_cases l1 : F < 0
      case pos =>
        have hn1 : n = 1 := G1.out (fun h => by have h2 := btw_true.1 (HBD.out.1 h).2.1; omega)
        subst hn1
        have l1D : decide (F < 0) = true := by simpa using l1
        go_wp2
        go_ret
        exact ⟨rfl, HBL.out⟩
      have l1D : decide (F < 0) = false := by simpa using l1
      by_cases u1 : 7 < F
      case pos =>
        have hn1 : n = 1 := G1.out (fun h => by have h2 := btw_true.1 (HBD.out.1 h).2.1; omega)
        subst hn1
        have u1D : decide (7 < F) = true := by simpa using u1
        go_wp2
        go_ret
        exact ⟨rfl, HBL.out⟩
      have u1D : decide (7 < F) = false := by simpa using u1
      by_cases l2 : T < 0
      case pos =>
        have hn1 : n = 1 := G1.out (fun h => by have h2 := btw_true.1 (HBD.out.1 h).2.2.1; omega)
        subst hn1
        have l2D : decide (T < 0) = true := by simpa using l2
        go_wp2
        go_ret
        exact ⟨rfl, HBL.out⟩
      have l2D : decide (T < 0) = false := by simpa using l2
      by_cases u2 : 7 < T
      case pos =>
        have hn1 : n = 1 := G1.out (fun h => by have h2 := btw_true.1 (HBD.out.1 h).2.2.1; omega)
        subst hn1
        have u2D : decide (7 < T) = true := by simpa using u2
        go_wp2
        go_ret
        exact ⟨rfl, HBL.out⟩
      have u2D : decide (7 < T) = false := by simpa using u2
      by_cases l3 : O < (-1)
      case pos =>
        have hn1 : n = 1 := G1.out (fun h => by have h2 := btw_true.1 (HBD.out.1 h).2.2.2.1; omega)
        subst hn1
        have l3D : decide (O < (-1 : Int)) = true := by simpa using l3
        go_wp2
        go_ret
        exact ⟨rfl, HBL.out⟩
      have l3D : decide (O < (-1 : Int)) = false := by simpa using l3
      by_cases u3 : 7 < O
      case pos =>
        have hn1 : n = 1 := G1.out (fun h => by have h2 := btw_true.1 (HBD.out.1 h).2.2.2.1; omega)
        subst hn1
        have u3D : decide (7 < O) = true := by simpa using u3
        go_wp2
        go_ret
        exact ⟨rfl, HBL.out⟩
      have u3D : decide (7 < O) = false := by simpa using u3
      by_cases l4 : I < 1
      case pos =>
        have hn1 : n = 1 := G1.out (fun h => by have h2 := btw_true.1 (HBD.out.1 h).2.2.2.2; omega)
        subst hn1
        have l4D : decide (I < 1) = true := by simpa using l4
        go_wp2
        go_ret
        exact ⟨rfl, HBL.out⟩
      have l4D : decide (I < 1) = false := by simpa using l4
      by_cases u4 : 50 < I
      case pos =>
        have hn1 : n = 1 := G1.out (fun h => by have h2 := btw_true.1 (HBD.out.1 h).2.2.2.2; omega)
        subst hn1
        have u4D : decide (50 < I) = true := by simpa using u4
        go_wp2
        go_ret
        exact ⟨rfl, HBL.out⟩
      have u4D : decide (50 < I) = false := by simpa using u4
      have hB : (Rl.mk nm K F T O I).bnd := HBD.out.2 ⟨btw_true.2 (by omega), btw_true.2 (by omega), btw_true.2 (by omega), btw_true.2 (by omega), btw_true.2 (by omega)⟩
      have J3 : Hid (¬ (F ≠ T ∧ F ≠ O ∧ T ≠ O) → n = 3) := G3.out hB
      have J0 : Hid ((F ≠ T ∧ F ≠ O ∧ T ≠ O) → n = 0) := G0.out hB
      clear hB G1 G3 G0 HBD
      by_cases e0 : F = T
      case pos =>
        have hn3 : n = 3 := J3.out (fun h => absurd e0 h.1)
        subst hn3
        have e0' : (F == T) = true := by simpa using e0
        clear e0
        go_wp2
        go_ret
        exact ⟨rfl, HBL.out⟩
      have e0' : (F == T) = false := by simpa using e0
      by_cases e1 : F = O
      case pos =>
        have hn3 : n = 3 := J3.out (fun h => absurd e1 h.2.1)
        subst hn3
        have e1' : (F == O) = true := by simpa using e1
        clear e1
        go_wp2
        go_ret
        exact ⟨rfl, HBL.out⟩
      have e1' : (F == O) = false := by simpa using e1
      by_cases e2 : T = O
      case pos =>
        have hn3 : n = 3 := J3.out (fun h => absurd e2 h.2.2)
        subst hn3
        have e2' : (T == O) = true := by simpa using e2
        clear e2
        go_wp2
        go_ret
        exact ⟨rfl, HBL.out⟩
      have e2' : (T == O) = false := by simpa using e2
      have hn0 : n = 0 := J0.out ⟨e0, e1, e2⟩
      subst hn0
      go_wp2
      go_ret
      exact ⟨rfl, HBL.out⟩
end
end Go.Proofs.YtnahkonklkcbeabGreatDoor.RuA
