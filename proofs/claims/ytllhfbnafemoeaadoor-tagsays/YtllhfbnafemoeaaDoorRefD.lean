/-
  What the document's own answer does to the world: TagText.
-/
import Derived.Test.YtllhfbnafemoeaaDoorRefC
namespace Go.Proofs.YtllhfbnafemoeaaDoor.TagA
open Go.RowKit TagM
open Go.Sort (grow)
set_option maxRecDepth 100000

theorem textW {w w1 : World} {K F P C R S : Int} {k : Nat} (hb1 : Below (w.alloc (.cells #[.int .i64 K, .int .i64 F, .int .i64 P, .int .i64 C, .int .i64 R, .int .i64 S] 32)).heap.size (w.alloc (.cells #[.int .i64 K, .int .i64 F, .int .i64 P, .int .i64 C, .int .i64 R, .int .i64 S] 32)) w1) {W : World}
    (hW : W = w1.alloc (.cells #[.int .i64 (cbits k), .int .i64 (cdig k), .int .i64 (rbits k), .int .i64 (rdig k)] 46)) :
    Below w.heap.size w W ∧ W.cell? ⟨w.heap.size, 1, none⟩ = some (.int .i64 F) ∧ W.cell? ⟨w.heap.size, 3, none⟩ = some (.int .i64 C) ∧ W.cell? ⟨w.heap.size, 4, none⟩ = some (.int .i64 R) ∧ W.cell? ⟨w.heap.size, 5, none⟩ = some (.int .i64 S) ∧ W.cell? ⟨w1.heap.size, 1, none⟩ = some (.int .i64 (cdig k)) ∧ W.cell? ⟨w1.heap.size, 3, none⟩ = some (.int .i64 (rdig k)) := by
  subst hW
  obtain ⟨s1, hb2, d0, d1, d2, d3, d4, d5⟩ := boxed6 hb1
  have hB := (Below.refl w1.heap.size w1).alloc (Nat.le_refl _) (.cells #[.int .i64 (cbits k), .int .i64 (cdig k), .int .i64 (rbits k), .int .i64 (rdig k)] 46)
  exact ⟨hb2.trans (hB.mono (Nat.le_of_lt s1)), keepCell hB d1, keepCell hB d3, keepCell hB d4, keepCell hB d5, by go_simp, by go_simp⟩

set_option maxHeartbeats 4000000 in
theorem reftext_0 (F k C R S : Nat) (w : World) (hk : k < 6) (hF : F ≤ 7) (hC : C < 9223372036854775808) (hR : R < 9223372036854775808) (hS : S ≤ 16777215) (lC : (dec C).length ≤ cdig k) (lR : (dec R).length ≤ rdig k) :
    Calls Tryd.prog 15 #[.agg #[.int .i64 1, .int .i64 F, .int .i64 k, .int .i64 C, .int .i64 R, .int .i64 S]] w fun e w' => e = .returned (.string (textB 0 F k C R S)) ∧ Below w.heap.size w w' := by
  have HT : Hid (textB 0 F k C R S = ⟨#[105, 116, 101, 109]⟩ ++ ⟨#[58]⟩ ++ ⟨(dec F).toArray⟩ ++ ⟨#[46]⟩ ++ ⟨(padL C (cdig k)).toArray⟩ ++ ⟨#[46]⟩ ++ ⟨(padL R (rdig k)).toArray⟩ ++ ⟨#[46]⟩ ++ ⟨(dec S).toArray⟩) := bytes_inj (by rw [text_list]; simp [kwL, jn])
  have HC : Hid _ := hC
  have HR : Hid _ := hR
  have l1 := dec_len (n := F) (d := 1) (by omega) (by omega)
  have l2 := dec_len (n := S) (d := 8) (by omega) (by omega)
  have l3 : (padL C (cdig k)).length ≤ 6 := by rw [padL_len lC]; exact (cdig_le k).2
  have l4 : (padL R (rdig k)).length ≤ 6 := by rw [padL_len lR]; exact (rdig_le k).2
  have hcd := cdig_le k
  have hrd := rdig_le k
  have n2 : ¬ 9223372036854775807 < 5 + (dec F).length := by omega
  have n3 : ¬ 9223372036854775807 < 5 + (dec F).length + 1 := by omega
  have n4 : ¬ 9223372036854775807 < 5 + (dec F).length + 1 + (padL C (cdig k)).length := by omega
  have n5 : ¬ 9223372036854775807 < 5 + (dec F).length + 1 + (padL C (cdig k)).length + 1 := by omega
  have n6 : ¬ 9223372036854775807 < 5 + (dec F).length + 1 + (padL C (cdig k)).length + 1 + (padL R (rdig k)).length := by omega
  have n7 : ¬ 9223372036854775807 < 5 + (dec F).length + 1 + (padL C (cdig k)).length + 1 + (padL R (rdig k)).length + 1 := by omega
  have n8 : ¬ 9223372036854775807 < 5 + (dec F).length + 1 + (padL C (cdig k)).length + 1 + (padL R (rdig k)).length + 1 + (dec S).length := by omega
  clear hC hR lC lR
  go_enter Tryd.func15, Tryd.ntmps15
  go_wp2_with fail
  refine (parts_ok k _ hk).mono ?_
  rintro e w1 ⟨rfl, hb1⟩
  have hF' := textW (k := k) hb1 rfl
  obtain ⟨s1, hb2, d0, d1, d2, d3, d4, d5⟩ := boxed6 hb1
  clear hb1 hb2
  go_upto_region 7 with fail
  clear d0 d1 d2 d3 d4 d5
  generalize w1.alloc (.cells #[.int .i64 (cbits k), .int .i64 (cdig k), .int .i64 (rbits k), .int .i64 (rdig k)] 46) = W at *
  obtain ⟨hBW, c1, c3, c4, c5, c6, c7⟩ := hF'
  have HB : Hid _ := hBW
  clear hBW
  have k1 := cell_regrown c1
  have k3 := cell_regrown c3
  have k4 := cell_regrown c4
  have k5 := cell_regrown c5
  have k6 := cell_regrown c6
  have k7 := cell_regrown c7
  refine wp_region_quiet_below (by kernel_rfl) (by kernel_rfl) ?_
  repeat (go_big_quiet_step (first | with_reducible exact Calls.regrown_of (decimal_any F _ (by omega)) | with_reducible exact Calls.regrown_of (wide_any C (cdig k) _ HC.out (by omega)) | with_reducible exact Calls.regrown_of (wide_any R (rdig k) _ HR.out (by omega)) | with_reducible exact Calls.regrown_of (decimal_any S _ (by omega))))
  refine wpQuiet_nil ?_
  intro _ hw'
  obtain ⟨⟨dq, osq⟩, hw''⟩ := hw'
  subst hw''
  go_wp2
  go_ret
  refine ⟨ret_str ?_, HB.out.trans ((below_regrown W dq osq).mono HB.out.size)⟩
  rw [HT.out]
set_option maxHeartbeats 4000000 in
theorem reftext_1 (F k C R S : Nat) (w : World) (hk : k < 6) (hF : F ≤ 7) (hC : C < 9223372036854775808) (hR : R < 9223372036854775808) (hS : S ≤ 16777215) (lC : (dec C).length ≤ cdig k) (lR : (dec R).length ≤ rdig k) :
    Calls Tryd.prog 15 #[.agg #[.int .i64 2, .int .i64 F, .int .i64 k, .int .i64 C, .int .i64 R, .int .i64 S]] w fun e w' => e = .returned (.string (textB 1 F k C R S)) ∧ Below w.heap.size w w' := by
  have HT : Hid (textB 1 F k C R S = ⟨#[99, 97, 115, 101]⟩ ++ ⟨#[58]⟩ ++ ⟨(dec F).toArray⟩ ++ ⟨#[46]⟩ ++ ⟨(padL C (cdig k)).toArray⟩ ++ ⟨#[46]⟩ ++ ⟨(padL R (rdig k)).toArray⟩ ++ ⟨#[46]⟩ ++ ⟨(dec S).toArray⟩) := bytes_inj (by rw [text_list]; simp [kwL, jn])
  have HC : Hid _ := hC
  have HR : Hid _ := hR
  have l1 := dec_len (n := F) (d := 1) (by omega) (by omega)
  have l2 := dec_len (n := S) (d := 8) (by omega) (by omega)
  have l3 : (padL C (cdig k)).length ≤ 6 := by rw [padL_len lC]; exact (cdig_le k).2
  have l4 : (padL R (rdig k)).length ≤ 6 := by rw [padL_len lR]; exact (rdig_le k).2
  have hcd := cdig_le k
  have hrd := rdig_le k
  have n2 : ¬ 9223372036854775807 < 5 + (dec F).length := by omega
  have n3 : ¬ 9223372036854775807 < 5 + (dec F).length + 1 := by omega
  have n4 : ¬ 9223372036854775807 < 5 + (dec F).length + 1 + (padL C (cdig k)).length := by omega
  have n5 : ¬ 9223372036854775807 < 5 + (dec F).length + 1 + (padL C (cdig k)).length + 1 := by omega
  have n6 : ¬ 9223372036854775807 < 5 + (dec F).length + 1 + (padL C (cdig k)).length + 1 + (padL R (rdig k)).length := by omega
  have n7 : ¬ 9223372036854775807 < 5 + (dec F).length + 1 + (padL C (cdig k)).length + 1 + (padL R (rdig k)).length + 1 := by omega
  have n8 : ¬ 9223372036854775807 < 5 + (dec F).length + 1 + (padL C (cdig k)).length + 1 + (padL R (rdig k)).length + 1 + (dec S).length := by omega
  clear hC hR lC lR
  go_enter Tryd.func15, Tryd.ntmps15
  go_wp2_with fail
  refine (parts_ok k _ hk).mono ?_
  rintro e w1 ⟨rfl, hb1⟩
  have hF' := textW (k := k) hb1 rfl
  obtain ⟨s1, hb2, d0, d1, d2, d3, d4, d5⟩ := boxed6 hb1
  clear hb1 hb2
  go_upto_region 7 with fail
  clear d0 d1 d2 d3 d4 d5
  generalize w1.alloc (.cells #[.int .i64 (cbits k), .int .i64 (cdig k), .int .i64 (rbits k), .int .i64 (rdig k)] 46) = W at *
  obtain ⟨hBW, c1, c3, c4, c5, c6, c7⟩ := hF'
  have HB : Hid _ := hBW
  clear hBW
  have k1 := cell_regrown c1
  have k3 := cell_regrown c3
  have k4 := cell_regrown c4
  have k5 := cell_regrown c5
  have k6 := cell_regrown c6
  have k7 := cell_regrown c7
  refine wp_region_quiet_below (by kernel_rfl) (by kernel_rfl) ?_
  repeat (go_big_quiet_step (first | with_reducible exact Calls.regrown_of (decimal_any F _ (by omega)) | with_reducible exact Calls.regrown_of (wide_any C (cdig k) _ HC.out (by omega)) | with_reducible exact Calls.regrown_of (wide_any R (rdig k) _ HR.out (by omega)) | with_reducible exact Calls.regrown_of (decimal_any S _ (by omega))))
  refine wpQuiet_nil ?_
  intro _ hw'
  obtain ⟨⟨dq, osq⟩, hw''⟩ := hw'
  subst hw''
  go_wp2
  go_ret
  refine ⟨ret_str ?_, HB.out.trans ((below_regrown W dq osq).mono HB.out.size)⟩
  rw [HT.out]
set_option maxHeartbeats 4000000 in
theorem reftext_2 (F k C R S : Nat) (w : World) (hk : k < 6) (hF : F ≤ 7) (hC : C < 9223372036854775808) (hR : R < 9223372036854775808) (hS : S ≤ 16777215) (lC : (dec C).length ≤ cdig k) (lR : (dec R).length ≤ rdig k) :
    Calls Tryd.prog 15 #[.agg #[.int .i64 3, .int .i64 F, .int .i64 k, .int .i64 C, .int .i64 R, .int .i64 S]] w fun e w' => e = .returned (.string (textB 2 F k C R S)) ∧ Below w.heap.size w w' := by
  have HT : Hid (textB 2 F k C R S = ⟨#[112, 97, 108, 108, 101, 116]⟩ ++ ⟨#[58]⟩ ++ ⟨(dec F).toArray⟩ ++ ⟨#[46]⟩ ++ ⟨(padL C (cdig k)).toArray⟩ ++ ⟨#[46]⟩ ++ ⟨(padL R (rdig k)).toArray⟩ ++ ⟨#[46]⟩ ++ ⟨(dec S).toArray⟩) := bytes_inj (by rw [text_list]; simp [kwL, jn])
  have HC : Hid _ := hC
  have HR : Hid _ := hR
  have l1 := dec_len (n := F) (d := 1) (by omega) (by omega)
  have l2 := dec_len (n := S) (d := 8) (by omega) (by omega)
  have l3 : (padL C (cdig k)).length ≤ 6 := by rw [padL_len lC]; exact (cdig_le k).2
  have l4 : (padL R (rdig k)).length ≤ 6 := by rw [padL_len lR]; exact (rdig_le k).2
  have hcd := cdig_le k
  have hrd := rdig_le k
  have n2 : ¬ 9223372036854775807 < 7 + (dec F).length := by omega
  have n3 : ¬ 9223372036854775807 < 7 + (dec F).length + 1 := by omega
  have n4 : ¬ 9223372036854775807 < 7 + (dec F).length + 1 + (padL C (cdig k)).length := by omega
  have n5 : ¬ 9223372036854775807 < 7 + (dec F).length + 1 + (padL C (cdig k)).length + 1 := by omega
  have n6 : ¬ 9223372036854775807 < 7 + (dec F).length + 1 + (padL C (cdig k)).length + 1 + (padL R (rdig k)).length := by omega
  have n7 : ¬ 9223372036854775807 < 7 + (dec F).length + 1 + (padL C (cdig k)).length + 1 + (padL R (rdig k)).length + 1 := by omega
  have n8 : ¬ 9223372036854775807 < 7 + (dec F).length + 1 + (padL C (cdig k)).length + 1 + (padL R (rdig k)).length + 1 + (dec S).length := by omega
  clear hC hR lC lR
  go_enter Tryd.func15, Tryd.ntmps15
  go_wp2_with fail
  refine (parts_ok k _ hk).mono ?_
  rintro e w1 ⟨rfl, hb1⟩
  have hF' := textW (k := k) hb1 rfl
  obtain ⟨s1, hb2, d0, d1, d2, d3, d4, d5⟩ := boxed6 hb1
  clear hb1 hb2
  go_upto_region 7 with fail
  clear d0 d1 d2 d3 d4 d5
  generalize w1.alloc (.cells #[.int .i64 (cbits k), .int .i64 (cdig k), .int .i64 (rbits k), .int .i64 (rdig k)] 46) = W at *
  obtain ⟨hBW, c1, c3, c4, c5, c6, c7⟩ := hF'
  have HB : Hid _ := hBW
  clear hBW
  have k1 := cell_regrown c1
  have k3 := cell_regrown c3
  have k4 := cell_regrown c4
  have k5 := cell_regrown c5
  have k6 := cell_regrown c6
  have k7 := cell_regrown c7
  refine wp_region_quiet_below (by kernel_rfl) (by kernel_rfl) ?_
  repeat (go_big_quiet_step (first | with_reducible exact Calls.regrown_of (decimal_any F _ (by omega)) | with_reducible exact Calls.regrown_of (wide_any C (cdig k) _ HC.out (by omega)) | with_reducible exact Calls.regrown_of (wide_any R (rdig k) _ HR.out (by omega)) | with_reducible exact Calls.regrown_of (decimal_any S _ (by omega))))
  refine wpQuiet_nil ?_
  intro _ hw'
  obtain ⟨⟨dq, osq⟩, hw''⟩ := hw'
  subst hw''
  go_wp2
  go_ret
  refine ⟨ret_str ?_, HB.out.trans ((below_regrown W dq osq).mono HB.out.size)⟩
  rw [HT.out]
theorem reftext_any (K F P C R S : Int) (w : World) (hok : okB K F P C R S = true) :
    Calls Tryd.prog 15 #[.agg #[.int .i64 K, .int .i64 F, .int .i64 P, .int .i64 C, .int .i64 R, .int .i64 S]] w fun e w' => e = .returned (.string (textI K F P C R S)) ∧ Below w.heap.size w w' := by
  obtain ⟨j, f, p, c, r, s, rfl, rfl, rfl, rfl, rfl, rfl⟩ := ok_nat hok
  obtain ⟨o1, o2, o3, o4, o5, o6, o7⟩ := okN hok
  have hcd := cdig_le p
  have hrd := rdig_le p
  have lC : (dec c).length ≤ cdig p := dec_len o6 hcd.1
  have lR : (dec r).length ≤ rdig p := dec_len o7 hrd.1
  have hC : c < 9223372036854775808 := Nat.lt_of_lt_of_le o6 (Nat.le_trans (Nat.pow_le_pow_right (by omega) hcd.2) (by decide))
  have hR : r < 9223372036854775808 := Nat.lt_of_lt_of_le o7 (Nat.le_trans (Nat.pow_le_pow_right (by omega) hrd.2) (by decide))
  match j, o2 with
  | 0, _ => exact reftext_0 f p c r s w (by omega) o3 hC hR o5 lC lR
  | 1, _ => exact reftext_1 f p c r s w (by omega) o3 hC hR o5 lC lR
  | 2, _ => exact reftext_2 f p c r s w (by omega) o3 hC hR o5 lC lR
end Go.Proofs.YtllhfbnafemoeaaDoor.TagA
