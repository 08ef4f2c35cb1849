/-
  What Bytes does to the world, at a tag and at none.
-/
import Derived.Test.YtblkbogoelfjlaaDoorTagC
namespace Go.Proofs.YtblkbogoelfjlaaDoor.TagA
open Go.RowKit TagM
set_option maxRecDepth 100000

/-- The number of a tag. -/
def n3 (K F k : Nat) : Nat := pk (pk (pk 0 8 (K + 47)) 3 F) 3 k
def num (K F k C R S : Nat) : Nat := pk (pk (pk (n3 K F k) (cbits k) C) (rbits k) R) 24 S

theorem boxed6 {w w1 : World} {a b c d e f : Value} {t : TypeId} (hb : Below (w.alloc (.cells #[a, b, c, d, e, f] t)).heap.size (w.alloc (.cells #[a, b, c, d, e, f] t)) w1) :
    w.heap.size < w1.heap.size ∧ Below w.heap.size w w1 ∧ w1.cell? ⟨w.heap.size, 0, none⟩ = some a ∧ w1.cell? ⟨w.heap.size, 1, none⟩ = some b ∧ w1.cell? ⟨w.heap.size, 2, none⟩ = some c ∧ w1.cell? ⟨w.heap.size, 3, none⟩ = some d ∧ w1.cell? ⟨w.heap.size, 4, none⟩ = some e ∧ w1.cell? ⟨w.heap.size, 5, none⟩ = some f := by
  have hs : w.heap.size < (w.alloc (.cells #[a, b, c, d, e, f] t)).heap.size := by simp
  refine ⟨Nat.lt_of_lt_of_le hs hb.size, ((Below.refl _ w).alloc (Nat.le_refl _) _).trans (hb.mono (Nat.le_of_lt hs)), ?_, ?_, ?_, ?_, ?_, ?_⟩ <;> (rw [hb.cell hs]; go_simp)

theorem okN {K F k C R S : Nat} (h : okB K F k C R S = true) : 1 ≤ K ∧ K ≤ 3 ∧ F ≤ 7 ∧ k ≤ 5 ∧ S ≤ 16777215 ∧ C < 10 ^ cdig k ∧ R < 10 ^ rdig k := by
  simp only [okB, Bool.and_eq_true, btw_true, dig_true, Int.toNat_natCast] at h
  obtain ⟨⟨⟨⟨⟨h1, h2⟩, h3⟩, h4⟩, h5⟩, h6⟩ := h
  have h5' : (C : Int) < ((10 ^ cdig k : Nat) : Int) := by simpa using h5.2
  have h6' : (R : Int) < ((10 ^ rdig k : Nat) : Int) := by simpa using h6.2
  omega
theorem cpow {k : Nat} (h : k ≤ 5) : 10 ^ cdig k ≤ 2 ^ cbits k := by
  match k, h with
  | 0, _ | 1, _ | 2, _ | 3, _ | 4, _ | 5, _ => decide
theorem rpow {k : Nat} (h : k ≤ 5) : 10 ^ rdig k ≤ 2 ^ rbits k := by
  match k, h with
  | 0, _ | 1, _ | 2, _ | 3, _ | 4, _ | 5, _ => decide

theorem num_lt {K F k C R S : Nat} (hK : K ≤ 3) (hF : F ≤ 7) (hk : k ≤ 5) (hC : C < 2 ^ cbits k) (hR : R < 2 ^ rbits k) (hS : S ≤ 16777215) :
    pk 0 8 (K + 47) < 2 ^ 8 ∧ pk (pk 0 8 (K + 47)) 3 F < 2 ^ 11 ∧ n3 K F k < 2 ^ 14 ∧ pk (n3 K F k) (cbits k) C < 2 ^ (14 + cbits k) ∧ pk (pk (n3 K F k) (cbits k) C) (rbits k) R < 2 ^ 40 ∧ num K F k C R S < 2 ^ 64 := by
  have a1 : pk 0 8 (K + 47) < 2 ^ 8 := by unfold pk; omega
  have a2 : pk (pk 0 8 (K + 47)) 3 F < 2 ^ 11 := pk_lt (m := 8) a1 (by omega)
  have a3 : n3 K F k < 2 ^ 14 := pk_lt (m := 11) a2 (by omega)
  have a4 := pk_lt (m := 14) a3 hC
  have a5 : pk (pk (n3 K F k) (cbits k) C) (rbits k) R < 2 ^ 40 := by
    have := pk_lt a4 hR
    rwa [show 14 + cbits k + rbits k = 40 by have := bits_sum k; omega] at this
  exact ⟨a1, a2, a3, a4, a5, pk_lt (m := 40) a5 (by omega)⟩

set_option maxHeartbeats 1000000 in
theorem bytes_ok (K F k C R S : Nat) (w : World) (hT : Tabs w) (hok : okB K F k C R S = true) :
    Calls Tryd.prog 13 #[.agg #[.int .i64 K, .int .i64 F, .int .i64 k, .int .i64 C, .int .i64 R, .int .i64 S]] w fun e w' => e = .returned (.tuple #[.string (be8 (num K F k C R S)), .nilIface]) ∧ Below w.heap.size w w' := by
  obtain ⟨o1, o2, o3, o4, o5, o6, o7⟩ := okN hok
  have hC : C < 2 ^ cbits k := Nat.lt_of_lt_of_le o6 (cpow o4)
  have hR : R < 2 ^ rbits k := Nat.lt_of_lt_of_le o7 (rpow o4)
  obtain ⟨a1, a2, a3, a4, a5, a6⟩ := num_lt o2 o3 o4 hC hR o5
  have A : Hid (pk 0 8 (K + 47) < 2 ^ 64 ∧ pk (pk 0 8 (K + 47)) 3 F < 2 ^ 64 ∧ n3 K F k < 2 ^ 64 ∧ pk (n3 K F k) (cbits k) C < 2 ^ 64 ∧ pk (pk (n3 K F k) (cbits k) C) (rbits k) R < 2 ^ 64 ∧ num K F k C R S < 2 ^ 64 ∧ C < 2 ^ cbits k ∧ R < 2 ^ rbits k ∧ S < 2 ^ 24 ∧ F < 2 ^ 3 ∧ k < 2 ^ 3 ∧ K + 47 < 2 ^ 8) := by
    have : 2 ^ (14 + cbits k) ≤ 2 ^ 34 := Nat.pow_le_pow_right (by omega) (by have := cbits_le k; omega)
    refine ⟨by omega, by omega, by omega, by omega, by omega, by omega, hC, hR, by omega, by omega, by omega, by omega⟩
  have hcb := cbits_le k
  have hrb := rbits_le k
  clear a1 a2 a3 a4 a5 a6 hC hR o6 o7
  have hkI : (k : Int) < 6 := by omega
  have hcv : checkV K F k C R S = .nilIface := by simp [checkV, hok]
  clear hok
  go_enter Tryd.func13, Tryd.ntmps13
  go_wp2_with fail
  refine (check_any K F k C R S _ (hT.below ((Below.refl _ w).alloc (Nat.le_refl _) _) hT.size)).mono ?_
  rintro e w1 ⟨rfl, hb1⟩
  rw [hcv]
  obtain ⟨s1, hb2, d0, d1, d2, d3, d4, d5⟩ := boxed6 hb1
  have hT1 := hT.below hb2 hT.size
  have q0 := hT1.c0 k (by omega)
  have q1 := hT1.c1 k (by omega)
  have q2 := hT1.c2 k (by omega)
  have q3 := hT1.c3 k (by omega)
  clear hT1 hT hcv
  have HB : Hid _ := hb2
  clear hb1 hb2
  go_wp2_with fail
  refine (put_any 0 (K + 47) 8 0 _ 8 _ _ (by simp) rfl (Int.natCast_add K 47).symm rfl A.out.2.2.2.2.2.2.2.2.2.2.2 (by omega) A.out.1).mono ?_
  rintro e w2 ⟨rfl, rfl⟩
  go_wp2_with fail
  refine (put_any (pk 0 8 (K + 47)) F 3 _ _ 3 _ _ (by simp) rfl rfl rfl A.out.2.2.2.2.2.2.2.2.2.1 (by omega) A.out.2.1).mono ?_
  rintro e w2 ⟨rfl, rfl⟩
  go_wp2_with fail
  refine (put_any (pk (pk 0 8 (K + 47)) 3 F) k 3 _ _ 3 _ _ (by simp) rfl rfl rfl A.out.2.2.2.2.2.2.2.2.2.2.1 (by omega) A.out.2.2.1).mono ?_
  rintro e w2 ⟨rfl, rfl⟩
  go_wp2_with fail
  refine (put_any (n3 K F k) C (cbits k) _ _ _ _ _ (by simp) rfl rfl rfl A.out.2.2.2.2.2.2.1 (by omega) A.out.2.2.2.1).mono ?_
  rintro e w2 ⟨rfl, rfl⟩
  go_wp2_with fail
  refine (put_any (pk (n3 K F k) (cbits k) C) R (rbits k) _ _ _ _ _ (by simp) rfl rfl rfl A.out.2.2.2.2.2.2.2.1 (by omega) A.out.2.2.2.2.1).mono ?_
  rintro e w2 ⟨rfl, rfl⟩
  go_wp2_with fail
  refine (put_any (pk (pk (n3 K F k) (cbits k) C) (rbits k) R) S 24 _ _ 24 _ _ (by simp) rfl rfl rfl A.out.2.2.2.2.2.2.2.2.1 (by omega) A.out.2.2.2.2.2.1).mono ?_
  rintro e w2 ⟨rfl, rfl⟩
  go_wp2_with fail
  refine (bytesOf_any (num K F k C R S) _).mono ?_
  rintro e w2 ⟨rfl, hb3⟩
  go_wp2
  go_ret2
  refine ⟨rfl, ?_⟩
  exact (((HB.out.alloc (Nat.le_of_lt s1) _).alloc (by simp; omega) _).trans (hb3.mono (by simp; omega)))

set_option maxHeartbeats 400000 in
theorem bytes_no (K F P C R S : Int) (w : World) (hT : Tabs w) (hno : okB K F P C R S = false) :
    Calls Tryd.prog 13 #[.agg #[.int .i64 K, .int .i64 F, .int .i64 P, .int .i64 C, .int .i64 R, .int .i64 S]] w fun e w' => e = .returned (.tuple #[.string ⟨#[]⟩, .iface 23 (.int .i64 1)]) ∧ Below w.heap.size w w' := by
  have hcv : checkV K F P C R S = .iface 23 (.int .i64 1) := by simp [checkV, hno]
  clear hno
  go_enter Tryd.func13, Tryd.ntmps13
  go_wp2_with fail
  refine (check_any K F P C R S _ (hT.below ((Below.refl _ w).alloc (Nat.le_refl _) _) hT.size)).mono ?_
  rintro e w1 ⟨rfl, hb1⟩
  rw [hcv]
  obtain ⟨s1, hb2, d0, d1, d2, d3, d4, d5⟩ := boxed6 hb1
  clear hcv hT hb1
  have HB : Hid _ := hb2
  clear hb2
  go_wp2
  go_ret2
  exact ⟨rfl, HB.out⟩
end Go.Proofs.YtblkbogoelfjlaaDoor.TagA
