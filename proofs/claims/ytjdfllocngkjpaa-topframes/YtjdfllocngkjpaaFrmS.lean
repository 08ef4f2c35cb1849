/-
  What frames, a closed fact, does to the world.
-/
import Derived.Test.YtjdfllocngkjpaaFrmQ
namespace Go.Proofs.Ytjdfllocngkjpaa.FrmA
open Go.RowKit FrmM
set_option maxRecDepth 100000

def warm21 : Fr := ⟨3, [], 21⟩
theorem warm21_fault : fault warm21 = 0 := by decide
theorem warm21_ok : Ok warm21 := fault_zero.1 warm21_fault
theorem warm21_len : (enc warm21).length = 5 := by rw [enc_len]; rfl
theorem warm21_feed : feed (120 :: enc warm21) = ([warm21], 1, []) := by
  have hsp : span (120 :: enc warm21) = 0 := by
    unfold span
    rw [if_pos]
    right; left
    show (120 : UInt8) ≠ 165
    decide
  have hfr : front (120 :: enc warm21) = none := by
    unfold front
    rw [if_pos (Or.inl hsp)]
  have hbg : begins (120 :: enc warm21) = false := by
    unfold begins
    rw [hsp, List.length_cons, warm21_len]
    simp
  have h2 := feed_whole [warm21] (fun f hf => by simp at hf; subst hf; exact warm21_ok)
  have e : [warm21].flatMap enc = enc warm21 := by simp
  rw [e] at h2
  rw [feed_lose (by simp) hfr hbg]
  show ((feed (enc warm21)).1, (feed (enc warm21)).2.1 + 1, (feed (enc warm21)).2.2) = _
  rw [h2]
theorem bytes_warm (w : World) : Calls Try.prog 8 #[.agg #[.int .i64 3, .slice none 0 0, .int .i64 21]] w fun e w' => e = .returned (.tuple #[.string (str (enc warm21)), .nilIface]) ∧ Below w.heap.size w w' :=
  bytes_ok warm21 none 0 w ⟨fun _ hr => absurd hr List.not_mem_nil, fun hn => absurd rfl hn⟩ warm21_ok
/-- A new line, as its zero value. -/
theorem line0 (w : World) (t : TypeId) : LineAt (w.alloc (.cells #[.string ⟨#[]⟩, .int .i64 0] t)) w.heap.size t ⟨#[]⟩ 0 := LineAt.made w t ⟨#[]⟩ 0
set_option maxHeartbeats 2000000 in
theorem frames_any (w : World) :
    Calls Try.prog 6 #[] w fun e w' => e = .returned (.bool true) ∧ Below w.heap.size w w' := by
  have hsz : (str (enc warm21)).size = 5 := by rw [str_size, warm21_len]
  go_enter Try.func6, Try.ntmps6
  go_wp2_with fail
  refine (bytes_warm w).mono ?_
  rintro e w1 ⟨rfl, hb1⟩
  have HB1 : Hid (Below w.heap.size w w1) := hb1
  have hw1 : w.heap.size ≤ w1.heap.size := hb1.size
  clear hb1
  obtain ⟨B, hB⟩ : ∃ B, B = str (enc warm21) := ⟨_, rfl⟩
  rw [← hB] at hsz ⊢
  have o1 : ¬ 9223372036854775807 < 1 + B.size := by omega
  have HBB : Hid (B = str (enc warm21)) := hB
  clear hB
  go_wp2_with fail
  refine (feed_any w1.heap.size ⟨#[]⟩ _ 0 _ (line0 w1 42) ?_ (by omega)).mono ?_
  · rw [ByteArray.size_append, hsz]
    exact (by decide : 0 + (1 + 5) ≤ 100000)
  rintro e w2 ⟨v, rfl, hfo, hla, hbut⟩
  have hSS : (⟨#[]⟩ : ByteArray).data.toList ++ (⟨#[120]⟩ ++ B : ByteArray).data.toList = 120 :: enc warm21 := by
    rw [HBB.out]
    simp [str]
  rw [hSS, warm21_feed] at hfo hla
  clear hSS
  obtain ⟨p, cap, rfl, hon⟩ := hfo.on
  obtain ⟨b, o, rfl, hb, hc⟩ := hon.at_ (by simp)
  obtain ⟨q, c', hfa⟩ := hc 0 warm21 rfl
  have c2 : w2.cell? ⟨b, o + 2, none⟩ = some (.int .i64 21) := by have := hfa.c2; rw [show o + 0 * 3 + 2 = o + 2 by omega] at this; exact this
  have HLA : Hid (LineAt w2 w1.heap.size 42 (str []) 1) := hla
  have HB2 : Hid (Below w.heap.size w w2) := HB1.out.trans ((((Below.refl _ w1).alloc (Nat.le_refl _) _).trans ((hbut.mono (Nat.le_of_lt (by simp))).below (Nat.le_refl _))).mono hw1)
  clear hfo hla hbut hon hc hfa
  go_wp2_with fail
  refine (same_nil _).mono ?_
  rintro e w3 ⟨rfl, rfl⟩
  go_wp2_with fail
  refine (lost_any _ _ _ _ HLA.out).mono ?_
  rintro e w4 ⟨rfl, rfl⟩
  go_wp2_with fail
  refine (waits_any _ _ _ _ HLA.out).mono ?_
  rintro e w5 ⟨rfl, rfl⟩
  go_wp2
  go_ret
  exact ⟨rfl, HB2.out⟩
end Go.Proofs.Ytjdfllocngkjpaa.FrmA
