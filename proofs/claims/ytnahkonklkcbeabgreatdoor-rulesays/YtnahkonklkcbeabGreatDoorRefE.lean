/-
  What the document's own answer does to the world: the bits that TagOf takes.
-/
import Derived.Test.YtnahkonklkcbeabGreatDoorRefC
import Derived.Sort.Walk7a
namespace Go.Proofs.YtnahkonklkcbeabGreatDoor.TagA
open Go.RowKit TagM
set_option maxRecDepth 100000

theorem mod_two_pow (m b : Nat) : m % 2 ^ (b + 1) = 2 * ((m / 2) % 2 ^ b) + m % 2 := by
  have h1 : m = 2 * (m / 2) + m % 2 := by omega
  have hp := Nat.two_pow_pos b
  have h2 : m / 2 = 2 ^ b * (m / 2 / 2 ^ b) + (m / 2) % 2 ^ b := (Nat.div_add_mod _ _).symm
  have h3 : (m / 2) % 2 ^ b < 2 ^ b := Nat.mod_lt _ hp
  have h4 : m = 2 ^ (b + 1) * (m / 2 / 2 ^ b) + (2 * ((m / 2) % 2 ^ b) + m % 2) := by
    rw [Nat.pow_succ, Nat.mul_comm (2 ^ b) 2, Nat.mul_assoc]
    generalize 2 ^ b * (m / 2 / 2 ^ b) = z at *
    omega
  have h5 : 2 * ((m / 2) % 2 ^ b) + m % 2 < 2 ^ (b + 1) := by rw [Nat.pow_succ]; omega
  conv => lhs; rw [h4]
  rw [Nat.mul_add_mod, Nat.mod_eq_of_lt h5]
theorem fld_succ (n p b : Nat) : fld n p (b + 1) = 2 * fld n (p + 1) b + n / 2 ^ p % 2 := by
  unfold fld
  rw [mod_two_pow, Nat.pow_succ, ← Nat.div_div_eq_div_mul]
theorem fld_zero (n p : Nat) : fld n p 0 = 0 := by unfold fld; rw [Nat.pow_zero, Nat.mod_one]
theorem bit_mod (m t : Nat) (h : t ≤ 7) : m / 2 ^ t % 2 = (m % 256) / 2 ^ t % 2 := by
  match t, h with
  | 0, _ | 1, _ | 2, _ | 3, _ | 4, _ | 5, _ | 6, _ | 7, _ => simp only [Nat.reducePow]; omega
theorem byt_numU {s : ByteArray} (h : s.size = 8) (q : Nat) (hq : q < 8) (hq' : q < s.size) : byt (numU s.data.toList) q = s[q].toNat := by
  have e := be8_numU h
  have : (be8 (numU s.data.toList)).data.toList[q]? = s.data.toList[q]? := by rw [e]
  have e2 : s.data.toList[q]? = some s[q] := by
    rw [List.getElem?_eq_getElem (by simpa using hq')]; rfl
  rw [e2] at this
  unfold be8 at this
  match q, hq with
  | 0, _ | 1, _ | 2, _ | 3, _ | 4, _ | 5, _ | 6, _ | 7, _ =>
    simp at this
    rw [← this]
    exact (byt_toNat _ _).symm
/-- A bit of the bytes is a bit of the number. -/
theorem bit_numU {s : ByteArray} (h : s.size = 8) (j : Nat) (hj : j < 64) (hq' : j / 8 < s.size) : numU s.data.toList / 2 ^ (63 - j) % 2 = s[j / 8].toNat / 2 ^ (7 - j % 8) % 2 := by
  rw [← byt_numU h (j / 8) (by omega) hq']
  unfold byt
  rw [← bit_mod _ _ (by omega), ← div_pow]
  rw [show 56 - 8 * (j / 8) + (7 - j % 8) = 63 - j by omega]

theorem setTwice (w : World) (blk : Nat) (v v' : Value) : (w.setCell ⟨blk, 0, none⟩ v).setCell ⟨blk, 0, none⟩ v' = w.setCell ⟨blk, 0, none⟩ v' := Go.Proofs.setCell_setCell w blk 0 v v'
theorem next_val (X bv t : Nat) (hX : X < 16777216) (hb : bv < 256) : wrap64 (2 * (X : Int) + wrap64 (bits .and .u8 ((bv : Int) / 2 ^ t) 1)) = ((2 * X + bv / 2 ^ t % 2 : Nat) : Int) := by
  have e : ((bv : Int) / 2 ^ t) = ((bv / 2 ^ t : Nat) : Int) := by simp
  have hd : bv / 2 ^ t ≤ bv := Nat.div_le_self _ _
  have h1 : bits .and .u8 ((bv / 2 ^ t : Nat) : Int) 1 = ((bv / 2 ^ t % 2 : Nat) : Int) := by
    have := u8_and_nat (bv / 2 ^ t) 1 (by omega) (by omega)
    rw [Nat.and_one_is_mod] at this
    exact this
  rw [e, h1]
  have hz : bv / 2 ^ t % 2 < 2 := Nat.mod_lt _ (by omega)
  generalize bv / 2 ^ t % 2 = z at *
  unfold wrap64
  omega
theorem wrapI (x : Int) (h0 : 0 ≤ x) (h1 : x ≤ 9223372036854775807) : IntKind.i64.wrap x = x := by
  simp [IntKind.wrap, IntKind.bits, IntKind.signed]; omega
theorem index_at (s : ByteArray) (j bv : Nat) (hq : j / 8 < s.size) (hbv : s[j / 8].toNat = bv) (w : World) : (Instr.index 9 (.string s) (.int .i64 ((j : Int) / 8))).run Tryz.prog w = .ok (.int .u8 (bv : Int)) w := by
  rw [run_index_string w 9 s .i64 _ Tryz.underlying9, dif_pos (by omega)]
  congr 3
set_option maxHeartbeats 2000000 in
theorem next_any (s : ByteArray) (hs : s.size = 8) (A m p : Nat) (mI AI : Int) (w : World) (bb ab : Nat) (hp : Hid (p + m + A = 64)) (hmI : Hid (mI = m)) (hAI : Hid (AI = A)) (hm : 1 ≤ m) (hm2 : m ≤ 24)
    (c1 : w.cell? ⟨bb, 0, none⟩ = some (.string s)) (c2 : w.cell? ⟨ab, 0, none⟩ = some (.int .i64 AI)) (hf : w.frozen? ⟨ab, 0, none⟩ = false) (hne : ab ≠ bb) :
    Calls Tryz.prog 69 #[.int .i64 mI, .pointer (some ⟨bb, 0, none⟩), .pointer (some ⟨ab, 0, none⟩)] w fun e w' => e = .returned (.int .i64 ((fld (numU s.data.toList) p m : Nat) : Int)) ∧ ∃ d, w' = (w.setCell ⟨ab, 0, none⟩ (.int .i64 ((A + m : Nat) : Int))).drewN d := by
  obtain rfl := hmI.out
  obtain rfl := hAI.out
  have HS : Hid (s.size = 8) := hs
  have hs' : 8 ≤ s.size := by omega
  clear hs hmI hAI
  have HC1 : Hid _ := c1
  have HC2 : Hid _ := c2
  have HF : Hid _ := hf
  clear c1 c2 hf
  generalize hn : numU s.data.toList = n at *
  have HN : Hid (numU s.data.toList = n) := hn
  clear hn
  go_enter Tryz.func69, Tryz.ntmps69
  go_wp2
  go_loopw [5, 6] (fun x i V => ∃ k : Nat, k ≤ m ∧ i = .int .i64 k ∧ x = .int .i64 ((fld n (64 - A - k) k : Nat) : Int) ∧ V.cell? ⟨bb, 0, none⟩ = some (.string s) ∧ V.cell? ⟨ab, 0, none⟩ = some (.int .i64 ((A + k : Nat) : Int)) ∧ V.frozen? ⟨ab, 0, none⟩ = false ∧ ((k = 0 ∧ V = w) ∨ ∃ d, V = (w.setCell ⟨ab, 0, none⟩ (.int .i64 ((A + k : Nat) : Int))).drewN d)) (fun _ i _ => m - (intOf i).toNat)
  case atStart => exact ⟨0, Nat.zero_le _, rfl, by rw [fld_zero]; rfl, HC1.out, HC2.out, HF.out, Or.inl ⟨rfl, rfl⟩⟩
  case round =>
    obtain ⟨k, hk, rfl, rfl, v1, v2, v3, v4⟩ := hrel
    have H4 : Hid _ := v4
    clear v4
    by_cases hlt : k < m
    · have hlt' : (k : Int) < m := by omega
      have hA64 : A + k < 64 := by have := hp.out; omega
      have hx : fld n (64 - A - k) k < 16777216 := Nat.lt_of_lt_of_le (fld_lt _ _ _) (Nat.pow_le_pow_right (by omega) (show k ≤ 24 by omega))
      obtain ⟨j, hj⟩ : ∃ j : Nat, j = A + k := ⟨_, rfl⟩
      have HJ : Hid (j = A + k) := hj
      rw [← hj] at v2
      have hj64 : j < 64 := by omega
      clear hj hA64
      have hq : j / 8 < s.size := by omega
      obtain ⟨bv, hbv⟩ : ∃ bv : Nat, s[j / 8].toNat = bv := ⟨_, rfl⟩
      have hbl : bv < 256 := by rw [← hbv]; exact UInt8.toNat_lt _
      have hix := index_at s j bv hq hbv
      have HBV : Hid _ := hbv
      clear hbv
      generalize hX : fld n (64 - A - k) k = X at *
      have HX : Hid _ := hX
      clear hX
      have e1 := wrapI (2 * (X : Int)) (by omega) (by omega)
      have e2 := wrapI ((j : Int) / 8) (by omega) (by omega)
      have e3 := wrapI ((j : Int) % 8) (by omega) (by omega)
      have e4 := wrapI (7 - (j : Int) % 8) (by omega) (by omega)
      have e5 : (0 : Int) ≤ 7 - (j : Int) % 8 := by omega
      have e6 : 7 - (j : Int) % 8 ≤ 8 := by omega
      go_wp2
      go_quiet (fail)
      go_wp2
      go_roundw
      case rel =>
        have hj := HJ.out
        refine ⟨k + 1, by omega, by go_num, ?_, ?_, ?_, ?_, Or.inr ?_⟩
        · have hp' := hp.out
          have hb2 := bit_numU HS.out j hj64 hq
          have hbv := HBV.out
          have hfs := fld_succ n (64 - A - (k + 1)) k
          rw [show 64 - A - (k + 1) + 1 = 64 - A - k by omega, show 64 - A - (k + 1) = 63 - j by omega] at hfs
          rw [show 64 - A - (k + 1) = 63 - j by omega, hfs, HX.out, ← HN.out, hb2, hbv]
          exact congrArg (Value.int .i64) (next_val X bv (7 - j % 8) hx hbl)
        · rw [set_drewN, show ((wr.setCell ⟨ab, 0, none⟩ (.int .i64 ((j : Int) + 1))).drewN nq).cell? ⟨bb, 0, none⟩ = (wr.setCell ⟨ab, 0, none⟩ (.int .i64 ((j : Int) + 1))).cell? ⟨bb, 0, none⟩ from rfl, World.cell?_setCell_far _ _ _ _ hne]
          exact v1
        · rw [set_drewN, show ((wr.setCell ⟨ab, 0, none⟩ (.int .i64 ((j : Int) + 1))).drewN nq).cell? ⟨ab, 0, none⟩ = (wr.setCell ⟨ab, 0, none⟩ (.int .i64 ((j : Int) + 1))).cell? ⟨ab, 0, none⟩ from rfl, World.cell?_setCell_same' _ _ _ (by rw [v2]; rfl)]
          have : (j : Int) + 1 = ((A + (k + 1) : Nat) : Int) := by omega
          rw [this]
        · rw [World.frozen?_setCell]; exact v3
        · have ej : (j : Int) + 1 = ((A + (k + 1) : Nat) : Int) := by omega
          rcases H4.out with ⟨-, h⟩ | ⟨d, h⟩
          · refine ⟨nq, ?_⟩
            rw [h, set_drewN, ej]
          · refine ⟨d + nq, ?_⟩
            rw [h, set_drewN, set_drewN, setTwice, ej]
            simp
      case measure => simp [intOf]; omega
    · obtain rfl : k = m := by omega
      go_wp2
      go_ret
      have hp' := hp.out
      refine ⟨?_, ?_⟩
      · rw [show p = 64 - A - k by omega]; rfl
      · rcases H4.out with ⟨h, -⟩ | h
        · omega
        · exact h
end Go.Proofs.YtnahkonklkcbeabGreatDoor.TagA
