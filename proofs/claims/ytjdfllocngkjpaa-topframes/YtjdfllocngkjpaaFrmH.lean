/-
  What Clone, span, isBeginning and Beginning do to the world.
-/
import Derived.Test.YtjdfllocngkjpaaFrmF
import Derived.Test.YtjdfllocngkjpaaShelf
namespace Go.Proofs.Ytjdfllocngkjpaa.FrmA
open Go.RowKit FrmM
set_option maxRecDepth 100000

set_option maxHeartbeats 400000 in
theorem clone_any (s : ByteArray) (w : World) (h : s.size ≤ 100000) :
    Calls Try.prog 24 #[.string s] w fun e w' => e = .returned (.string s) ∧ Below w.heap.size w w' := by
  go_enter Try.func24, Try.ntmps24
  go_wp2_with fail
  refine (Try.stringslite_Clone s w (by omega)).mono ?_
  rintro e w' ⟨rfl, hb⟩
  have HB : Hid (Below w.heap.size w w') := hb
  clear hb
  go_wp2
  go_ret
  exact ⟨rfl, HB.out⟩

theorem byte_at {s : ByteArray} {i : Nat} (h : i < s.size) : s.data.toList.getD i 0 = s[i] := by
  have hl : i < s.data.toList.length := by simpa using h
  rw [List.getD_eq_getElem?_getD, List.getElem?_eq_getElem hl]; rfl
theorem len_list (s : ByteArray) : s.data.toList.length = s.size := by simp

set_option maxHeartbeats 1000000 in
theorem span_any (s : ByteArray) (w : World) (hs : s.size ≤ 100000) :
    Calls Try.prog 27 #[.string s] w fun e w' => e = .returned (.int .i64 (span s.data.toList : Int)) ∧ w' = w := by
  obtain ⟨R, hR⟩ : ∃ R : Int, R = (span s.data.toList : Int) := ⟨_, rfl⟩
  rw [← hR]
  have HR : Hid (R = (span s.data.toList : Int)) := hR
  clear hR
  by_cases h2 : s.size < 2
  · have h2I : (s.size : Int) < 2 := by omega
    go_enter Try.func27, Try.ntmps27
    go_wp2
    go_ret
    refine ⟨?_, rfl⟩
    rw [HR.out]; unfold span; rw [len_list, if_pos (Or.inl h2)]; rfl
  · have h0s : 0 < s.size := by omega
    have h1s : 1 < s.size := by omega
    have h0I : (0 : Int) < s.size := by omega
    have h1I : (1 : Int) < s.size := by omega
    have h2I : decide ((s.size : Int) < 2) = false := by simp; omega
    have HS : Hid (span s.data.toList = if s.data.toList.length < 2 ∨ s[0] ≠ 165 ∨ 44 < s[1].toNat then 0 else 4 + s[1].toNat) := by
      show _ = _
      unfold span
      rw [byte_at h0s, byte_at h1s]
    by_cases h0 : s[0] = 165
    · have h0e : ((s[0].toNat : Int) != 165) = false := by rw [h0]; rfl
      by_cases h1 : 44 < s[1].toNat
      · have h1e : (44 : Int) < s[1].toNat := by omega
        clear h0
        go_enter Try.func27, Try.ntmps27
        go_wp2
        go_ret
        refine ⟨?_, rfl⟩
        rw [HR.out, HS.out, if_pos (Or.inr (Or.inr h1))]; rfl
      · have h1e : decide ((44 : Int) < s[1].toNat) = false := by simp; omega
        have h1b : (s[1].toNat : Int) ≤ 44 := by omega
        have HF : Hid (span s.data.toList = 4 + s[1].toNat) := by
          show _ = _
          rw [HS.out, if_neg]
          rw [len_list]
          rintro (h | h | h)
          · omega
          · exact h h0
          · omega
        clear h0
        go_enter Try.func27, Try.ntmps27
        go_wp2
        go_ret
        refine ⟨?_, rfl⟩
        rw [HR.out, HF.out]
        show Ending.returned (.int .i64 (3 + (s[1].toNat : Int) + 1)) = _
        congr 2
        omega
    · have h0e : ((s[0].toNat : Int) != 165) = true := by
        have : s[0].toNat ≠ 165 := fun h => h0 (UInt8.toNat_inj.1 h)
        simp; omega
      have H0 : Hid (s[0] ≠ 165) := h0
      clear h0
      go_enter Try.func27, Try.ntmps27
      go_wp2
      go_ret
      refine ⟨?_, rfl⟩
      rw [HR.out, HS.out, if_pos (Or.inr (Or.inl H0.out))]; rfl
theorem span_le (l : List UInt8) : span l ≤ 48 := by
  unfold span
  split <;> omega
theorem begins_one {s : ByteArray} (h1 : s.size = 1) : begins s.data.toList = (s[0]'(by omega) == 165) := by
  have h0 : 0 < s.size := by omega
  have e : span s.data.toList = 0 := by unfold span; rw [len_list, if_pos (Or.inl (by omega))]
  unfold begins
  rw [e, len_list, byte_at h0]
  simp [h1]
theorem begins_more {s : ByteArray} (h1 : s.size ≠ 1) : begins s.data.toList = decide (s.size < span s.data.toList) := by
  unfold begins
  rw [len_list]
  simp [h1]
set_option maxHeartbeats 1000000 in
theorem isBeginning_any (s : ByteArray) (w : World) (hs : s.size ≤ 100000) (hp : 0 < s.size) :
    Calls Try.prog 23 #[.string s] w fun e w' => e = .returned (.bool (begins s.data.toList)) ∧ w' = w := by
  obtain ⟨R, hR⟩ : ∃ R, R = begins s.data.toList := ⟨_, rfl⟩
  rw [← hR]
  have HR : Hid (R = begins s.data.toList) := hR
  clear hR
  have hpI : (0 : Int) < s.size := by omega
  have HS48 : Hid (span s.data.toList ≤ 48) := span_le _
  by_cases h1 : s.size = 1
  · have h1I : (s.size : Int) = 1 := by omega
    have hB := begins_one h1
    by_cases h0 : s[0] = 165
    · have h0e : ((s[0].toNat : Int) == 165) = true := by rw [h0]; rfl
      have hR1 : R = true := by rw [HR.out, hB]; simp [h0]
      subst hR1
      clear h0 hB
      go_enter Try.func23, Try.ntmps23
      go_wp2
      go_ret
      exact ⟨rfl, rfl⟩
    · have h0e : ((s[0].toNat : Int) == 165) = false := by
        have : s[0].toNat ≠ 165 := fun h => h0 (UInt8.toNat_inj.1 h)
        simp; omega
      have hR1 : R = false := by rw [HR.out, hB]; simpa using h0
      subst hR1
      have e : span s.data.toList = 0 := by unfold span; rw [len_list, if_pos (Or.inl (by omega))]
      clear h0 hB
      go_enter Try.func23, Try.ntmps23
      go_wp2_with (go_at_call 27; refine (span_any _ _ hs).mono ?_; rintro e w' ⟨rfl, rfl⟩)
      go_ret
      exact ⟨rfl, rfl⟩
  · have h1I : ((s.size : Int) == 1) = false := by simp; omega
    have hB := begins_more h1
    have HB : Hid (begins s.data.toList = decide (s.size < span s.data.toList)) := hB
    clear hB
    go_enter Try.func23, Try.ntmps23
    go_wp2_with (go_at_call 27; refine (span_any _ _ hs).mono ?_; rintro e w' ⟨rfl, rfl⟩)
    go_ret
    refine ⟨?_, rfl⟩
    rw [HR.out, HB.out]
    simp
set_option maxHeartbeats 1000000 in
theorem beginning_any (s : ByteArray) (w : World) (hs : s.size ≤ 100000) (hp : 0 < s.size) :
    Calls Try.prog 26 #[.string s] w fun e w' => e = .returned (.bool (begins s.data.toList)) ∧ w' = w := by
  obtain ⟨R, hR⟩ : ∃ R, R = begins s.data.toList := ⟨_, rfl⟩
  rw [← hR]
  have HR : Hid (R = begins s.data.toList) := hR
  clear hR
  have hpI : (0 : Int) < s.size := by omega
  by_cases h1 : s.size = 1
  · have h1I : ((s.size : Int) == 1) = true := by simp; omega
    have hB := begins_one h1
    have hR1 : R = ((s[0].toNat : Int) == 165) := by
      rw [HR.out, hB, Bool.eq_iff_iff]
      simp
      rw [← UInt8.toNat_inj]
      simp
      omega
    subst hR1
    clear hB HR
    go_enter Try.func26, Try.ntmps26
    go_wp2
    go_ret
    exact ⟨rfl, rfl⟩
  · have h1I : ((s.size : Int) == 1) = false := by simp; omega
    have hB := begins_more h1
    have h0s : 0 < s.size := by omega
    have h1s : 1 < s.size := by omega
    have h1s' : (1 : Int) < s.size := by omega
    have HS : Hid (span s.data.toList = if s.data.toList.length < 2 ∨ s[0] ≠ 165 ∨ 44 < s[1].toNat then 0 else 4 + s[1].toNat) := by
      show _ = _
      unfold span
      rw [byte_at h0s, byte_at h1s]
    by_cases h0 : s[0] = 165
    · have h0e : ((s[0].toNat : Int) == 165) = true := by rw [h0]; rfl
      by_cases h4 : s[1].toNat ≤ 44
      · have h4e : decide ((s[1].toNat : Int) ≤ 44) = true := by simp; omega
        have h4I : (s[1].toNat : Int) ≤ 44 := by omega
        have hR1 : R = decide ((s.size : Int) < 4 + (s[1].toNat : Int)) := by
          rw [HR.out, hB, HS.out, if_neg, Bool.eq_iff_iff]
          · simp; omega
          · rw [len_list]
            rintro (h | h | h)
            · omega
            · exact h h0
            · omega
        subst hR1
        clear hB HR h0 HS h4
        go_enter Try.func26, Try.ntmps26
        go_wp2
        go_ret
        exact ⟨rfl, rfl⟩
      · have h4e : decide ((s[1].toNat : Int) ≤ 44) = false := by simp; omega
        have hR1 : R = false := by rw [HR.out, hB, HS.out, if_pos (Or.inr (Or.inr (by omega)))]; simp
        subst hR1
        clear hB HR h0 HS h4
        go_enter Try.func26, Try.ntmps26
        go_wp2
        go_ret
        exact ⟨rfl, rfl⟩
    · have h0e : ((s[0].toNat : Int) == 165) = false := by
        have : s[0].toNat ≠ 165 := fun h => h0 (UInt8.toNat_inj.1 h)
        simp; omega
      have hR1 : R = false := by rw [HR.out, hB, HS.out, if_pos (Or.inr (Or.inl h0))]; simp
      subst hR1
      clear hB HR h0 HS
      go_enter Try.func26, Try.ntmps26
      go_wp2
      go_ret
      exact ⟨rfl, rfl⟩
end Go.Proofs.Ytjdfllocngkjpaa.FrmA
