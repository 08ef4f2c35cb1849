/-
  What the document's Closed, Add and ahead do to the world.
-/
import Derived.Test.YtllhfbnafemoeaaEpF
namespace Go.Proofs.Ytllhfbnafemoeaa.EpA
open Go.RowKit EpM EpW Go.Maps
set_option maxRecDepth 100000

theorem bytesLess_eq : ∀ a b : List UInt8, Op.bytesLess a b = decide (Lib.compareBytes a b < 0)
  | [], [] => by simp [Op.bytesLess, Lib.compareBytes]
  | [], _ :: _ => by simp [Op.bytesLess, Lib.compareBytes]
  | _ :: _, [] => by simp [Op.bytesLess, Lib.compareBytes]
  | a :: x, b :: y => by
    have ih := bytesLess_eq x y
    unfold Op.bytesLess Lib.compareBytes
    by_cases h1 : a < b
    · simp [h1]
    · by_cases h2 : b < a
      · have h3 : ¬ a = b := fun e => UInt8.lt_irrefl b (e ▸ h2)
        simp [h1, h2, h3]
      · have h3 : a = b := UInt8.le_antisymm (UInt8.not_lt.1 h2) (UInt8.not_lt.1 h1)
        simp [h3, ih, UInt8.lt_irrefl]
theorem lt_tag {x y : Sg} (h : ¬ x.g.data.toList = y.g.data.toList) : lt x y = Op.bytesLess x.g.data.toList y.g.data.toList := by
  have hz : Lib.compareBytes x.g.data.toList y.g.data.toList ≠ 0 := fun e => h (bytes_zero e)
  rw [bytesLess_eq]
  unfold lt cf lex
  simp only [if_pos hz]
theorem int_lt (a b : Int) : decide (Lib.compareInt a b < 0) = decide (a < b) := by
  unfold Lib.compareInt
  by_cases h : a < b
  · simp [h]
  · by_cases h2 : a > b <;> simp [h, h2]
theorem int_ne {a b : Int} (h : a ≠ b) : Lib.compareInt a b ≠ 0 := fun e => h (int_zero e)
theorem int_eq (a : Int) : Lib.compareInt a a = 0 := by simp [Lib.compareInt]
theorem bytes_eq (a : List UInt8) : Lib.compareBytes a a = 0 := by
  have := bytes_neg a a
  omega
theorem lt_time {x y : Sg} (h : x.g.data.toList = y.g.data.toList) (ht : x.t ≠ y.t) : lt x y = decide (x.t < y.t) := by
  rw [← int_lt]
  unfold lt cf lex
  simp only [h, bytes_eq, ne_eq, not_true_eq_false, if_false, int_ne ht, not_false_eq_true, if_true]
theorem lt_place {x y : Sg} (h : x.g.data.toList = y.g.data.toList) (ht : x.t = y.t) (hp : x.p ≠ y.p) : lt x y = decide (x.p < y.p) := by
  rw [← int_lt]
  unfold lt cf lex
  simp only [h, ht, bytes_eq, int_eq, ne_eq, not_true_eq_false, if_false, int_ne hp, not_false_eq_true, if_true]
theorem lt_strength {x y : Sg} (h : x.g.data.toList = y.g.data.toList) (ht : x.t = y.t) (hp : x.p = y.p) : lt x y = decide (x.s < y.s) := by
  rw [← int_lt]
  unfold lt cf lex
  simp only [h, ht, hp, bytes_eq, int_eq, ne_eq, not_true_eq_false, if_false]

section
variable {w : World} {rb : Nat} {F : Nat → Prop} {size late now : Nat} {all : List Sg}
set_option maxHeartbeats 1000000 in
theorem rclosed_is {c : Nat} (hc : c = closedN size late now) (d : RefAt w rb F size late now all) (h0 : 0 < size) (h1 : size ≤ 50) (h2 : late ≤ 50) (h3 : now ≤ 1000) :
    Calls Try.prog 29 #[.pointer (some ⟨rb, 0, none⟩)] w fun e w' => e = .returned (.int .i64 (c : Int)) ∧ ∃ q, w' = w.drewN q := by
  obtain ⟨v, d⟩ := d.out
  have mixed : Try.prog.follows .mixedOrders = true := by kernel_rfl
  have c0 := d.c0
  have c1 := d.c1
  have c2 := d.c2
  clear d
  have hc9 : c ≤ 1000 := by rw [hc]; exact Nat.le_trans closedN_le h3
  have HC : Hid (c = closedN size late now) := hc
  clear hc
  go_enter Try.func29, Try.ntmps29
  go_wp2
  go_loopw [3] (fun i V => ∃ k q : Nat, k ≤ c ∧ i = .int .i64 (k : Int) ∧ V = w.drewN q) (fun i _ => c - (intOf i).toNat)
  case atStart => exact ⟨0, 0, Nat.zero_le _, rfl, rfl⟩
  case round =>
    obtain ⟨k, q, hk, rfl, rfl⟩ := hrel
    have hiff : k < c ↔ (k + 1) * size + late ≤ now := by rw [HC.out]; exact closedN_lt h0
    obtain ⟨M, hM⟩ : ∃ M, M = (k + 1) * size := ⟨_, rfl⟩
    rw [← hM] at hiff
    have hM9 : M ≤ 50050 := by
      rw [hM]
      have := Nat.mul_le_mul (show k + 1 ≤ 1001 by omega) h1
      omega
    have hMI : ((k : Int) + 1) * (size : Int) = (M : Int) := by rw [hM]; simp
    clear hM
    by_cases hlt : k < c
    case pos =>
      have h1 := hiff.1 hlt
      have h2 : (M : Int) + late ≤ now := by omega
      clear hiff
      go_wp2
      go_quiet (fail)
      go_wp2
      go_roundw
      case rel => exact ⟨k + 1, _, by omega, by go_num, rfl⟩
      case measure => simp [intOf]; omega
    case neg =>
      have h1 : ¬ M + late ≤ now := fun h => hlt (hiff.2 h)
      have h2 : ¬ (M : Int) + late ≤ now := by omega
      have hkc : k = c := by omega
      subst hkc
      clear hiff hlt
      go_wp2
      go_quiet (fail)
      go_wp2
      go_ret
      exact ⟨rfl, _, World.drewN_drewN _ _ _⟩
end
set_option maxHeartbeats 1000000 in
theorem ahead_any (x y : Sg) (w : World) :
    Calls Try.prog 51 #[.agg #[.int .i64 x.p, .int .i64 x.s, .int .i64 x.t, .string x.g], .agg #[.int .i64 y.p, .int .i64 y.s, .int .i64 y.t, .string y.g]] w fun e w' => e = .returned (.bool (lt x y)) ∧ Below w.heap.size w w' := by
  have HB : Hid (∀ o o', Below w.heap.size w ((w.alloc o).alloc o')) := fun o o' => ((Below.refl _ w).alloc (Nat.le_refl _) o).alloc (by simp) o'
  obtain ⟨R, hR⟩ : ∃ R, R = lt x y := ⟨_, rfl⟩
  have HR : Hid (R = lt x y) := hR
  rw [← hR]
  clear hR
  obtain ⟨xp, xs, xt, xg⟩ := x
  obtain ⟨yp, ys, yt, yg⟩ := y
  go_enter Try.func51, Try.ntmps51
  go_wp2
  · rename_i h1
    go_ret
    refine ⟨?_, HB.out _ _⟩
    rw [HR.out, lt_tag (by simpa [ByteArray.toList_eq] using h1)]
    simp [ByteArray.toList_eq]
  · rename_i h1 _ _ h2
    go_ret
    refine ⟨?_, HB.out _ _⟩
    rw [HR.out, lt_time (by simpa [ByteArray.toList_eq] using h1) (by simpa using h2)]
    rfl
  · rename_i h1 h2 _ _ h3
    go_ret
    refine ⟨?_, HB.out _ _⟩
    rw [HR.out, lt_place (by simpa [ByteArray.toList_eq] using h1) (by simpa using h2) (by simpa using h3)]
    rfl
  · rename_i h1 h2 h3
    go_ret
    refine ⟨?_, HB.out _ _⟩
    rw [HR.out, lt_strength (by simpa [ByteArray.toList_eq] using h1) (by simpa using h2) (by simpa using h3)]
    rfl
end Go.Proofs.Ytllhfbnafemoeaa.EpA
