/-
  What the document's own answer does to the world: the bits of a number, behind those that are there.
-/
import Derived.Test.YtblkbogoelfjlaaDoorRefF
import Derived.Deep.AppendLies
namespace Go.Proofs.YtblkbogoelfjlaaDoor.TagA
open Go.RowKit TagM
set_option maxRecDepth 100000

/-- The last L bits of a number, the highest first. -/
def bitsL (X : Nat) : Nat → List Bool
  | 0 => []
  | L + 1 => bitsL (X / 2) L ++ [decide (X % 2 = 1)]
theorem bitsL_len (L : Nat) : ∀ X, (bitsL X L).length = L := by
  induction L with
  | zero => intro X; rfl
  | succ L ih => intro X; simp [bitsL, ih]
theorem bitsL_at (L : Nat) : ∀ (X i : Nat), i < L → (bitsL X L)[i]? = some (decide (X / 2 ^ (L - 1 - i) % 2 = 1)) := by
  induction L with
  | zero => intro X i h; omega
  | succ L ih =>
    intro X i h
    unfold bitsL
    by_cases hi : i < L
    · rw [List.getElem?_append_left (by rw [bitsL_len]; exact hi), ih _ _ hi, Nat.div_div_eq_div_mul, ← Nat.pow_succ', show (L - 1 - i).succ = L + 1 - 1 - i by omega]
    · obtain rfl : i = L := by omega
      rw [List.getElem?_append_right (by rw [bitsL_len]; exact Nat.le_refl _), bitsL_len]
      simp
theorem bits_step (X N m t : Nat) (ht : t < m) : (X * 2 ^ (t + 1) + N / 2 ^ (m - (t + 1))) / 2 = X * 2 ^ t + N / 2 ^ (m - t) ∧ (X * 2 ^ (t + 1) + N / 2 ^ (m - (t + 1))) % 2 = N / 2 ^ (m - (t + 1)) % 2 := by
  have e : N / 2 ^ (m - t) = N / 2 ^ (m - (t + 1)) / 2 := by
    rw [Nat.div_div_eq_div_mul, ← Nat.pow_succ, show (m - (t + 1)).succ = m - t by omega]
  rw [e, Nat.pow_succ]
  generalize N / 2 ^ (m - (t + 1)) = z
  generalize hY : X * 2 ^ t = Y
  rw [show X * (2 ^ t * 2) = 2 * Y by rw [← hY, ← Nat.mul_assoc]; omega]
  omega
theorem i64_and1 (a : Nat) (ha : a < 16777216) : bits .and .i64 (a : Int) 1 = ((a % 2 : Nat) : Int) := by
  show IntKind.i64.wrap ((BitVec.ofInt 64 (a : Int) &&& BitVec.ofInt 64 ((1 : Nat) : Int)).toNat : Int) = _
  have e1 : (BitVec.ofInt 64 (a : Int)).toNat = a := by
    rw [BitVec.ofInt_natCast, BitVec.toNat_ofNat]; exact Nat.mod_eq_of_lt (by omega)
  have e2 : (BitVec.ofInt 64 ((1 : Nat) : Int)).toNat = 1 := by
    rw [BitVec.ofInt_natCast, BitVec.toNat_ofNat]
  rw [BitVec.toNat_and, e1, e2, Nat.and_one_is_mod]
  exact wrapI _ (by omega) (by omega)
theorem bit_val (N t : Nat) (h : N < 16777216) : (bits .and .i64 ((N : Int) / 2 ^ t) 1 == 1) = decide (N / 2 ^ t % 2 = 1) := by
  have e : ((N : Int) / 2 ^ t) = ((N / 2 ^ t : Nat) : Int) := by simp
  rw [e, i64_and1 _ (Nat.lt_of_le_of_lt (Nat.div_le_self _ _) h)]
  generalize N / 2 ^ t % 2 = z
  rw [Bool.eq_iff_iff]
  simp
  omega
theorem info4 : (Tryd.prog.info? 4).map (fun i => (i.zero, i.size, i.bytes)) = some (some (.bool false), 1, 1) := by kernel_rfl

set_option maxHeartbeats 2000000 in
theorem bits_any (v : Value) (X L N m base : Nat) (w : World) (hown : w.ownsRow base 4 1 v L ((bitsL X L).map Value.bool)) (hb : base ≤ w.heap.size) (hL : L ≤ 64) (hm : m ≤ 24) (hN : N < 2 ^ m) :
    Calls Tryd.prog 46 #[v, .int .i64 N, .int .i64 m] w fun e w' => ∃ v', e = .returned v' ∧ w'.ownsRow base 4 1 v' (L + m) ((bitsL (X * 2 ^ m + N) (L + m)).map Value.bool) ∧ Below base w w' := by
  have HO : Hid (w.ownsRow base 4 1 v L ((bitsL X L).map Value.bool)) := hown
  have HB : Hid (base ≤ w.heap.size) := hb
  have HN : Hid (N < 2 ^ m) := hN
  have hN2 : N < 16777216 := Nat.lt_of_lt_of_le hN (Nat.pow_le_pow_right (by omega) hm)
  clear hown hb hN
  obtain ⟨i0, hi, hz0, hz1, hz2⟩ := info_parts info4
  go_enter Tryd.func46, Tryd.ntmps46
  go_wp2
  go_loopw [0, 7] (fun u i V => ∃ t : Nat, t ≤ m ∧ i = .int .i64 ((m : Int) - 1 - t) ∧ V.ownsRow base 4 1 u (L + t) ((bitsL (X * 2 ^ t + N / 2 ^ (m - t)) (L + t)).map Value.bool) ∧ Below base w V) (fun _ i _ => (intOf i + 1).toNat)
  case atStart =>
    refine ⟨0, Nat.zero_le _, by go_num, ?_, Below.refl _ _⟩
    have e : N / 2 ^ (m - 0) = 0 := Nat.div_eq_of_lt HN.out
    rw [e]
    simpa using HO.out
  case round =>
    obtain ⟨t, ht, rfl, hown, hbl⟩ := hrel
    by_cases hlt : t < m
    · go_wp2_with (at_builtin; refine wpList_append_own _ rfl _ _ 89 rfl base 4 i0 (.bool false) 1 1 Tryd.underlying89 hi hz0 hz1 hz2 rfl (by decide) _ _ _ rfl (hown.alloc _) ⟨wr.heap.size, 0, none⟩ 1 1 [.bool (bits .and .i64 ((N : Int) / 2 ^ (m - 1 - t)) 1 == 1)] rfl rfl ?c1 ?c2 ?c3 ?c4 ?c5 ?_)
      case c1 =>
        intro j u hj
        match j, hj with
        | 0, hj => simp at hj; subst hj; simp [Addr.add]
      case c2 => intro u hu; simp at hu; subst hu; rfl
      case c3 => unfold maxLen; omega
      case c4 => omega
      case c5 => have := hbl.size; have := HB.out; simp; omega
      · intro v' w1 hown' hgrow _
        have hR : w1.ownsRow base 4 1 v' (L + (t + 1)) ((bitsL (X * 2 ^ (t + 1) + N / 2 ^ (m - (t + 1))) (L + (t + 1))).map Value.bool) := by
          rw [bit_val _ _ hN2, show m - 1 - t = m - (t + 1) by omega] at hown'
          have e := bits_step X N m t hlt
          have e2 : (bitsL (X * 2 ^ (t + 1) + N / 2 ^ (m - (t + 1))) (L + (t + 1))).map Value.bool = (bitsL (X * 2 ^ t + N / 2 ^ (m - t)) (L + t)).map Value.bool ++ [.bool (decide (N / 2 ^ (m - (t + 1)) % 2 = 1))] := by
            rw [show L + (t + 1) = L + t + 1 by omega]
            rw [bitsL, e.1, e.2, List.map_append]; rfl
          rw [e2]
          exact hown'
        have hB' : Below base w w1 := (hbl.alloc (Nat.le_trans HB.out hbl.size) _).grown hgrow (by have := hbl.size; have := HB.out; simp; omega) (fun k hk => (hown.lt k hk).1)
        have HR : Hid _ := hR
        have HB' : Hid _ := hB'
        clear hown' hgrow hown hbl hR hB'
        go_wp2
        go_roundw
        case rel => exact ⟨t + 1, by omega, by go_num, HR.out, HB'.out⟩
        case measure => simp [intOf]; omega
    · obtain rfl : t = m := by omega
      go_wp2
      go_ret
      refine ⟨_, rfl, ?_, hbl⟩
      simpa using hown
end Go.Proofs.YtblkbogoelfjlaaDoor.TagA
