/-
  What TopTag does to the world.
-/
import Derived.Test.YtllhfbnafemoeaaDoorTagT
namespace Go.Proofs.YtllhfbnafemoeaaDoor.TagA
open Go.RowKit TagM
set_option maxRecDepth 100000
attribute [local go_sem ↓] Go.wp_at_zero Go.wp_at_succ eql32 neq32

/-- A boxed tag. -/
def Box (V : World) (b : Nat) (K F P C R S : Int) : Prop := V.cell? ⟨b, 0, none⟩ = some (.int .i64 K) ∧ V.cell? ⟨b, 1, none⟩ = some (.int .i64 F) ∧ V.cell? ⟨b, 2, none⟩ = some (.int .i64 P) ∧ V.cell? ⟨b, 3, none⟩ = some (.int .i64 C) ∧ V.cell? ⟨b, 4, none⟩ = some (.int .i64 R) ∧ V.cell? ⟨b, 5, none⟩ = some (.int .i64 S)
theorem Box.keep {V V' : World} {b : Nat} {K F P C R S : Int} (h : Box V b K F P C R S) (hb : Below V.heap.size V V') : Box V' b K F P C R S :=
  ⟨keepCell hb h.1, keepCell hb h.2.1, keepCell hb h.2.2.1, keepCell hb h.2.2.2.1, keepCell hb h.2.2.2.2.1, keepCell hb h.2.2.2.2.2⟩
theorem Box.new (V : World) (K F P C R S : Int) : Box (V.alloc (.cells #[.int .i64 K, .int .i64 F, .int .i64 P, .int .i64 C, .int .i64 R, .int .i64 S] 32)) V.heap.size K F P C R S := by
  unfold Box
  refine ⟨?_, ?_, ?_, ?_, ?_, ?_⟩ <;> go_simp

/-- The world inside TopTag: two tags boxed, the tables as they lay, nothing old turned. -/
structure TS (w : World) (K F P C R S K' F' P' C' R' S' : Int) (V : World) : Prop where
  tabs : Tabs2 V
  below : Below w.heap.size w V
  t : Box V w.heap.size K F P C R S
  o : Box V (w.heap.size + 1) K' F' P' C' R' S'
theorem TS.keep {w V V' : World} {K F P C R S K' F' P' C' R' S' : Int} (h : TS w K F P C R S K' F' P' C' R' S' V) (hb : Below V.heap.size V V') : TS w K F P C R S K' F' P' C' R' S' V' :=
  ⟨keepTabs h.tabs hb, keepBelow h.below hb, h.t.keep hb, h.o.keep hb⟩
theorem TS.alloc {w V : World} {K F P C R S K' F' P' C' R' S' : Int} (o : Obj) (h : TS w K F P C R S K' F' P' C' R' S' V) : TS w K F P C R S K' F' P' C' R' S' (V.alloc o) := h.keep ((Below.refl _ _).alloc (Nat.le_refl _) o)
theorem TS.s1 {w V : World} {K F P C R S K' F' P' C' R' S' : Int} (h : TS w K F P C R S K' F' P' C' R' S' V) : w.heap.size + 1 < V.heap.size := World.block_lt_of_cell? _ _ h.o.1
theorem TS.start {w : World} (K F P C R S K' F' P' C' R' S' : Int) (hT : Tabs2 w) : TS w K F P C R S K' F' P' C' R' S' ((w.alloc (.cells #[.int .i64 K, .int .i64 F, .int .i64 P, .int .i64 C, .int .i64 R, .int .i64 S] 32)).alloc (.cells #[.int .i64 K', .int .i64 F', .int .i64 P', .int .i64 C', .int .i64 R', .int .i64 S'] 32)) := by
  have h1 := Box.new w K F P C R S
  have h2 := Box.new (w.alloc (.cells #[.int .i64 K, .int .i64 F, .int .i64 P, .int .i64 C, .int .i64 R, .int .i64 S] 32)) K' F' P' C' R' S'
  rw [World.size_alloc] at h2
  exact ⟨allocTabs _ (allocTabs _ hT), ((Below.refl _ w).alloc (Nat.le_refl _) _).alloc (by simp) _, h1.keep ((Below.refl _ _).alloc (Nat.le_refl _) _), h2⟩

theorem TS.drew {w V : World} {K F P C R S K' F' P' C' R' S' : Int} (h : TS w K F P C R S K' F' P' C' R' S' V) : TS w K F P C R S K' F' P' C' R' S' V.drew := h.keep (Below.refl _ V).drew
theorem TS.cells {w V : World} {K F P C R S K' F' P' C' R' S' : Int} (h : TS w K F P C R S K' F' P' C' R' S' V) : V.cell? ⟨w.heap.size, 0, none⟩ = some (.int .i64 K) ∧ V.cell? ⟨w.heap.size, 1, none⟩ = some (.int .i64 F) ∧ V.cell? ⟨w.heap.size, 2, none⟩ = some (.int .i64 P) ∧ V.cell? ⟨w.heap.size, 3, none⟩ = some (.int .i64 C) ∧ V.cell? ⟨w.heap.size, 4, none⟩ = some (.int .i64 R) ∧ V.cell? ⟨w.heap.size, 5, none⟩ = some (.int .i64 S) ∧ TS w K F P C R S K' F' P' C' R' S' V :=
  ⟨h.t.1, h.t.2.1, h.t.2.2.1, h.t.2.2.2.1, h.t.2.2.2.2.1, h.t.2.2.2.2.2, h⟩

set_option maxHeartbeats 8000000 in
theorem top_no (K F P C R S K' F' P' C' R' S' : Int) (b s : ByteArray) (w : World) (hT : Tabs2 w) (hb : b.size ≤ maxLen) (hs : s.size ≤ maxLen) (hok : okB K F P C R S = false) :
    Calls Tryd.prog 5 #[.agg #[.int .i64 K, .int .i64 F, .int .i64 P, .int .i64 C, .int .i64 R, .int .i64 S], .agg #[.int .i64 K', .int .i64 F', .int .i64 P', .int .i64 C', .int .i64 R', .int .i64 S'], .string b, .string s] w fun e w' => e = .returned (.bool true) ∧ Below w.heap.size w w' := by
  have HB1 : Hid _ := hb
  have HB2 : Hid _ := hs
  have H0 : Hid _ := TS.start K F P C R S K' F' P' C' R' S' hT
  have HP7 : Hid _ := parse_7
  have HOK : Hid _ := hok
  have hcv : Hid (checkV K F P C R S = .iface 23 (.int .i64 1)) := by show _ = _; simp [checkV, hok]
  clear hT hb hs hok
  go_enter Tryd.func5, Tryd.ntmps5
  go_wp2_with fail
  refine (bytes_no K F P C R S _ H0.out.tabs.t HOK.out).mono ?_
  rintro e w1 ⟨rfl, hb1⟩
  have Hw1 : Hid _ := H0.out.keep hb1
  clear hb1
  obtain ⟨cw10, cw11, cw12, cw13, cw14, cw15⟩ := Hw1.out.t
  have zw1 := Hw1.out.s1
  have yw1 : w.heap.size < w1.heap.size := by omega
  go_wp2_with fail
  refine (text_no K F P C R S _ Hw1.out.tabs.t HOK.out).mono ?_
  rintro e w2 ⟨rfl, hb2⟩
  clear zw1 yw1 cw10 cw11 cw12 cw13 cw14 cw15
  have Hw2 : Hid _ := Hw1.out.keep hb2
  clear hb2
  obtain ⟨cw20, cw21, cw22, cw23, cw24, cw25⟩ := Hw2.out.t
  have zw2 := Hw2.out.s1
  have yw2 : w.heap.size < w2.heap.size := by omega
  go_wp2_with fail
  refine (parse_any _ _ Hw2.out.tabs.t (by unfold maxLen; decide)).mono ?_
  rw [HP7.out]
  rintro e w3 ⟨rfl, hb3⟩
  clear zw2 yw2 cw20 cw21 cw22 cw23 cw24 cw25
  have Hw3 : Hid _ := Hw2.out.keep hb3
  clear hb3
  obtain ⟨cw30, cw31, cw32, cw33, cw34, cw35⟩ := Hw3.out.t
  have zw3 := Hw3.out.s1
  have yw3 : w.heap.size < w3.heap.size := by omega
  go_upto_region 6 with fail
  have H4 : Hid _ := Hw3.out.alloc (.cells #[.int .i64 1, .int .i64 0, .int .i64 0, .int .i64 0, .int .i64 0, .int .i64 7] 32)
  clear cw30 cw31 cw32 cw33 cw34 cw35 zw3 yw3
  generalize w3.alloc (.cells #[.int .i64 1, .int .i64 0, .int .i64 0, .int .i64 0, .int .i64 0, .int .i64 7] 32) = W at *
  have HD : Hid _ := H4.out.drew
  have hS0 := HD.out.cells
  go_region_held3 (fun V => V.cell? ⟨w.heap.size, 0, none⟩ = some (.int .i64 K) ∧ V.cell? ⟨w.heap.size, 1, none⟩ = some (.int .i64 F) ∧ V.cell? ⟨w.heap.size, 2, none⟩ = some (.int .i64 P) ∧ V.cell? ⟨w.heap.size, 3, none⟩ = some (.int .i64 C) ∧ V.cell? ⟨w.heap.size, 4, none⟩ = some (.int .i64 R) ∧ V.cell? ⟨w.heap.size, 5, none⟩ = some (.int .i64 S) ∧ TS w K F P C R S K' F' P' C' R' S' V)
    (first | with_reducible exact hS0 | with_reducible exact (HD.out.keep hb).cells)
    (first | (go_at_call 13; refine (check_any _ _ _ _ _ _ _ HD.out.tabs.t).mono ?_; rintro e w4 ⟨rfl, hb⟩; rw [hcv.out]))
  have Hw4 : Hid _ := HD.out.keep hb
  clear hS0
  rename_i hH
  clear hH hb HP7 HOK hcv
  by_cases hl1 : b.size ≤ 100
  case neg =>
    have hl1' : (100 : Int) < (b.size : Int) := by omega
    have hm1 : (b.size : Int) ≤ 9223372036854775807 := by have := HB1.out; unfold maxLen at this; omega
    go_wp2
    go_ret
    exact ⟨rfl, Hw4.out.below⟩
  by_cases hl2 : s.size ≤ 100
  case neg =>
    have hl1' : ¬ (100 : Int) < (b.size : Int) := by omega
    have hl2' : (100 : Int) < (s.size : Int) := by omega
    have hm2 : (s.size : Int) ≤ 9223372036854775807 := by have := HB2.out; unfold maxLen at this; omega
    go_wp2
    go_ret
    exact ⟨rfl, Hw4.out.below⟩
  have hl1' : ¬ (100 : Int) < (b.size : Int) := by omega
  have hl2' : ¬ (100 : Int) < (s.size : Int) := by omega
  go_wp2_with fail
  refine (parse_any b _ Hw4.out.tabs.t HB1.out).mono ?_
  rcases parse_casesI b with ⟨K1, F1, P1, C1, R1, S1, hok1, he1, hv1⟩ | ⟨-, hv1⟩
  · rw [hv1]
    rintro e v1 ⟨rfl, hb1⟩
    have hbe : ((bytesI K1 F1 P1 C1 R1 S1).toList == b.toList) = true := sbeq_true he1
    have HOK1 : Hid _ := hok1
    have HV1 : Hid _ := Hw4.out.keep hb1
    clear hb1 hok1 he1 hv1
    go_wp2_with fail
    refine (of_any s _ (HV1.out.alloc (.cells #[.int .i64 K1, .int .i64 F1, .int .i64 P1, .int .i64 C1, .int .i64 R1, .int .i64 S1] 32)).tabs (by omega)).mono ?_
    rcases of_casesI s with ⟨K2, F2, P2, C2, R2, S2, hok2, he2, hv2⟩ | ⟨-, hv2⟩
    · rw [hv2]
      rintro e v2 ⟨rfl, hb2⟩
      have hse : ((textI K2 F2 P2 C2 R2 S2).toList == s.toList) = true := sbeq_true he2
      have HOK2 : Hid _ := hok2
      clear hok2 he2 hv2
      obtain ⟨s2, -, i0, i1, i2, i3, i4, i5⟩ := boxed6 hb2
      have HV2 : Hid _ := (HV1.out.alloc (.cells #[.int .i64 K1, .int .i64 F1, .int .i64 P1, .int .i64 C1, .int .i64 R1, .int .i64 S1] 32)).keep hb2
      clear hb2
      go_wp2_with fail
      refine (bytes_yes K1 F1 P1 C1 R1 S1 _ (HV2.out.alloc (.cells #[.int .i64 K2, .int .i64 F2, .int .i64 P2, .int .i64 C2, .int .i64 R2, .int .i64 S2] 32)).tabs.t HOK1.out).mono ?_
      rintro e v3 ⟨rfl, hb3⟩
      clear i0 i1 i2 i3 i4 i5 s2
      obtain ⟨s3, -, i0, i1, i2, i3, i4, i5⟩ := boxed6 hb3
      have HV3 : Hid _ := (HV2.out.alloc (.cells #[.int .i64 K2, .int .i64 F2, .int .i64 P2, .int .i64 C2, .int .i64 R2, .int .i64 S2] 32)).keep hb3
      clear hb3
      go_wp2_with fail
      refine (text_yes K2 F2 P2 C2 R2 S2 _ HV3.out.tabs HOK2.out).mono ?_
      rintro e v4 ⟨rfl, hb4⟩
      have HV4 : Hid _ := HV3.out.keep hb4
      clear hb4
      go_wp2
      go_ret
      exact ⟨rfl, HV4.out.below⟩
    · rw [hv2]
      unfold noTag
      rintro e v2 ⟨rfl, hb2⟩
      clear hv2
      obtain ⟨s2, -, i0, i1, i2, i3, i4, i5⟩ := boxed6 hb2
      have HV2 : Hid _ := (HV1.out.alloc (.cells #[.int .i64 K1, .int .i64 F1, .int .i64 P1, .int .i64 C1, .int .i64 R1, .int .i64 S1] 32)).keep hb2
      clear hb2
      go_wp2_with fail
      refine (bytes_yes K1 F1 P1 C1 R1 S1 _ (HV2.out.alloc (.cells #[.int .i64 0, .int .i64 0, .int .i64 0, .int .i64 0, .int .i64 0, .int .i64 0] 32)).tabs.t HOK1.out).mono ?_
      rintro e v3 ⟨rfl, hb3⟩
      clear i0 i1 i2 i3 i4 i5 s2
      have HV3 : Hid _ := (HV2.out.alloc (.cells #[.int .i64 0, .int .i64 0, .int .i64 0, .int .i64 0, .int .i64 0, .int .i64 0] 32)).keep hb3
      clear hb3
      go_wp2
      go_ret
      exact ⟨rfl, HV3.out.below⟩
  · rw [hv1]
    unfold noTag
    rintro e v1 ⟨rfl, hb1⟩
    have HV1 : Hid _ := Hw4.out.keep hb1
    clear hb1 hv1
    go_wp2_with fail
    refine (of_any s _ (HV1.out.alloc (.cells #[.int .i64 0, .int .i64 0, .int .i64 0, .int .i64 0, .int .i64 0, .int .i64 0] 32)).tabs (by omega)).mono ?_
    rcases of_casesI s with ⟨K2, F2, P2, C2, R2, S2, hok2, he2, hv2⟩ | ⟨-, hv2⟩
    · rw [hv2]
      rintro e v2 ⟨rfl, hb2⟩
      have hse : ((textI K2 F2 P2 C2 R2 S2).toList == s.toList) = true := sbeq_true he2
      have HOK2 : Hid _ := hok2
      clear hok2 he2 hv2
      have HV2 : Hid _ := (HV1.out.alloc (.cells #[.int .i64 0, .int .i64 0, .int .i64 0, .int .i64 0, .int .i64 0, .int .i64 0] 32)).keep hb2
      clear hb2
      go_wp2_with fail
      refine (text_yes K2 F2 P2 C2 R2 S2 _ (HV2.out.alloc (.cells #[.int .i64 K2, .int .i64 F2, .int .i64 P2, .int .i64 C2, .int .i64 R2, .int .i64 S2] 32)).tabs HOK2.out).mono ?_
      rintro e v4 ⟨rfl, hb4⟩
      have HV4 : Hid _ := (HV2.out.alloc (.cells #[.int .i64 K2, .int .i64 F2, .int .i64 P2, .int .i64 C2, .int .i64 R2, .int .i64 S2] 32)).keep hb4
      clear hb4
      go_wp2
      go_ret
      exact ⟨rfl, HV4.out.below⟩
    · rw [hv2]
      unfold noTag
      rintro e v2 ⟨rfl, hb2⟩
      clear hv2
      have HV2 : Hid _ := (HV1.out.alloc (.cells #[.int .i64 0, .int .i64 0, .int .i64 0, .int .i64 0, .int .i64 0, .int .i64 0] 32)).keep hb2
      clear hb2
      go_wp2
      go_ret
      exact ⟨rfl, (HV2.out.alloc _).below⟩
end Go.Proofs.YtllhfbnafemoeaaDoor.TagA
