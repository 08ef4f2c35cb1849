/-
  What tracks does to the world.
-/
import Derived.Test.YtbmaioklmcgkbaaTkH
namespace Go.Proofs.Ytbmaioklmcgkbaa.TkA
open Go.RowKit TkM TkW Go.Maps
set_option maxRecDepth 100000

def sX : Sg := ⟨3, 0, 0, ⟨#[120]⟩⟩
theorem sX_ok : okS sX = true := by decide
theorem epcX : epc (epOf []) 0 [sX] = epOf [[sX]] := by
  funext e
  unfold epc
  by_cases h : e = 0
  · rw [if_pos h, h]; rfl
  · rw [if_neg h, epOf_past [] (Nat.zero_le _), epOf_past [[sX]] (by simp; omega)]
theorem seenX : seenG ⟨#[120]⟩ (epOf [[sX]] 0) = true := by decide
theorem whrX : whr ⟨#[120]⟩ (epOf [[sX]]) 2 1 0 = 3 := by decide
set_option maxHeartbeats 1000000 in
theorem tracks_any (w : World) :
    Calls Try.prog 32 #[] w fun e w' => e = .returned (.bool true) ∧ Below w.heap.size w w' := by
  go_enter Try.func32, Try.ntmps32
  go_wp2_with fail
  refine (new_ok 2 1 w (by omega) (by omega) (by omega) (by omega)).mono ?_
  rintro e w1 ⟨rfl, hs1, hd1, hb1⟩
  have HD1 : Hid (TrAt w1 (w.heap.size + 1) (who0 w.heap.size (w.heap.size + 1)) 2 1 0 0 (epOf [])) := hd1
  have HB1 : Hid (Below w.heap.size w w1) := hb1
  have HS1 : Hid (w1.heap.size = w.heap.size + 2) := hs1
  clear hd1 hb1 hs1
  have HT : Hid (Calls Try.prog 38 #[.pointer (some ⟨w.heap.size + 1, 0, none⟩), .slice (some ⟨w1.heap.size, 0, none⟩) 1 1] (w1.alloc (.cells #[.int .i64 3, .int .i64 0, .int .i64 0, .string ⟨#[120]⟩] 61)) fun e w' => e = .returned .nilIface ∧ ∃ who', TrAt w' (w.heap.size + 1) who' 2 1 1 1 (epOf [[sX]]) ∧ Below w.heap.size w w') := by
    have hba : Below w1.heap.size w1 (w1.alloc (.cells #[.int .i64 3, .int .i64 0, .int .i64 0, .string ⟨#[120]⟩] 61)) := (Below.refl _ w1).alloc (Nat.le_refl _) _
    have hs : SgsOn (w1.alloc (.cells #[.int .i64 3, .int .i64 0, .int .i64 0, .string ⟨#[120]⟩] 61)) (some ⟨w1.heap.size, 0, none⟩) [sX] := by
      refine ⟨fun _ => ⟨w1.heap.size, 0, rfl, by simp, fun k x hx => ?_⟩⟩
      have hk : k = 0 := by
        rcases Nat.eq_zero_or_pos k with h | h
        · exact h
        · rw [List.getElem?_eq_none (by simp; omega)] at hx; cases hx
      subst hk
      simp at hx
      subst hx
      exact ⟨by simp [sX], by simp [sX], by simp [sX], by simp [sX]⟩
    refine (tell_ok [sX] _ 1 (HD1.out.below hba) (by simp) hs (fun b o hb h => ?_) (fun x hx => ?_) (fun x hx => ?_) (by omega) (by omega) (epOf_past [] (Nat.zero_le _))).mono ?_
    · simp at hb
      rcases of_who0 h with e | e <;> have := HS1.out <;> omega
    · simp at hx; rw [hx]; exact sX_ok
    · simp at hx; rw [hx]; decide
    · rintro e w' ⟨rfl, who', h1, h2, h3⟩
      rw [epcX] at h1
      refine ⟨rfl, who', h1, (HB1.out.trans (hba.mono HB1.out.size)).trans (h2.below (by have := HS1.out; simp; omega) (fun k hk h => ?_))⟩
      rcases of_who0 h with e | e <;> omega
  go_wp2_with fail
  refine HT.out.mono ?_
  rintro e w2 ⟨rfl, who', h1, h2⟩
  have HD2 : Hid (TrAt w2 (w.heap.size + 1) who' 2 1 1 1 (epOf [[sX]])) := h1
  have HB2 : Hid (Below w.heap.size w w2) := h2
  clear h1 h2 HT
  have HW : Hid (Calls Try.prog 39 #[.pointer (some ⟨w.heap.size + 1, 0, none⟩), .string ⟨#[120]⟩, .int .i64 0] w2 fun x w' => x = .returned (.tuple #[.int .i64 3, .nilIface]) ∧ Below w2.heap.size w2 w') := by
    have h := where_told (⟨#[120]⟩ : ByteArray) 0 HD2.out (by omega) (by omega) (by omega) (by decide) ⟨0, seenX⟩
    rw [whrX] at h
    exact h
  have HC : Hid (∀ V, Below w2.heap.size w2 V → Calls Try.prog 54 #[.pointer (some ⟨w.heap.size + 1, 0, none⟩), .string ⟨#[120]⟩, .int .i64 3, .int .i64 0] V fun x w' => x = .returned (.bool true) ∧ Below V.heap.size V w') := fun V hV => by
    have h := comes_any (⟨#[120]⟩ : ByteArray) 3 0 (t := true) (HD2.out.below hV) (by omega) (by omega) (by decide) ⟨fun _ => ⟨0, seenX⟩, fun _ => rfl⟩ (by omega) (by omega)
    have e1 : comesB 1 true 3 0 (fun e => whr ⟨#[120]⟩ (epOf [[sX]]) 2 1 e.toNat) = true := by
      unfold comesB isA wv
      simp [whrX]
    rw [e1] at h
    exact h
  go_wp2_with fail
  refine HW.out.mono ?_
  rintro x w3 ⟨rfl, hb3⟩
  have HB3 : Hid (Below w2.heap.size w2 w3) := hb3
  clear hb3
  go_wp2_with fail
  refine (same_nil _).mono ?_
  rintro x w4 ⟨rfl, hw4⟩
  subst hw4
  go_wp2_with fail
  refine (HC.out _ HB3.out).mono ?_
  rintro x w5 ⟨rfl, hb5⟩
  have HB5 : Hid (Below w2.heap.size w2 w5) := HB3.out.trans (hb5.mono HB3.out.size)
  clear hb5
  go_wp2_with fail
  refine (epochs_any (HD2.out.below HB5.out)).mono ?_
  rintro x w6 ⟨rfl, hw6⟩
  subst hw6
  go_wp2
  go_ret
  exact ⟨rfl, HB2.out.trans (HB5.out.mono HB2.out.size)⟩
end Go.Proofs.Ytbmaioklmcgkbaa.TkA
