/-
  What TagSays does to the world, at a tag that may be.
-/
import Derived.Test.YtllhfbnafemoeaaDoorSayB
namespace Go.Proofs.YtllhfbnafemoeaaDoor.TagA
open Go.RowKit TagM
set_option maxRecDepth 100000
attribute [local go_sem ↓] Go.wp_at_zero Go.wp_at_succ eql32 neq32

set_option maxHeartbeats 8000000 in
theorem says_yes (K F P C R S : Int) (b s : ByteArray) (w : World) (hT : Tabs2 w) (hC : C ≤ 9223372036854775807) (hR : R ≤ 9223372036854775807) (hb : b.size ≤ maxLen) (hs : s.size ≤ maxLen) (hok : okB K F P C R S = true) :
    Calls Tryd.prog 4 #[.agg #[.int .i64 K, .int .i64 F, .int .i64 P, .int .i64 C, .int .i64 R, .int .i64 S], .string b, .string s] w fun e w' => e = .returned (.bool true) ∧ Below w.heap.size w w' := by
  have HB1 : Hid (b.size ≤ maxLen) := hb
  have HB2 : Hid (s.size ≤ maxLen) := hs
  have HC : Hid (C ≤ 9223372036854775807) := hC
  have HR : Hid (R ≤ 9223372036854775807) := hR
  have H0 : Hid (SS w K F P C R S (w.alloc (.cells #[.int .i64 K, .int .i64 F, .int .i64 P, .int .i64 C, .int .i64 R, .int .i64 S] 32))) := SS.start K F P C R S hT
  have HOK : Hid (okB K F P C R S = true) := hok
  have hcv : Hid (checkV K F P C R S = .nilIface) := by show _ = _; simp [checkV, hok]
  clear hT hb hs hok hC hR
  go_enter Tryd.func4, Tryd.ntmps4
  go_wp2_with fail
  refine (tags_any _ H0.out.tabs).mono ?_
  rintro e w1 ⟨rfl, hb1⟩
  have H1 : Hid (SS w K F P C R S w1) := H0.out.keep hb1
  clear hb1 H0
  by_cases hl1 : b.size ≤ 100
  case neg =>
    have hl1' : (100 : Int) < (b.size : Int) := by omega
    have hm1 : (b.size : Int) ≤ 9223372036854775807 := by have := HB1.out; unfold maxLen at this; omega
    go_wp2
    go_ret
    exact ⟨rfl, H1.out.below⟩
  by_cases hl2 : s.size ≤ 100
  case neg =>
    have hl1' : ¬ (100 : Int) < (b.size : Int) := by omega
    have hl2' : (100 : Int) < (s.size : Int) := by omega
    have hm2 : (s.size : Int) ≤ 9223372036854775807 := by have := HB2.out; unfold maxLen at this; omega
    go_wp2
    go_ret
    exact ⟨rfl, H1.out.below⟩
  have hl1' : ¬ (100 : Int) < (b.size : Int) := by omega
  have hl2' : ¬ (100 : Int) < (s.size : Int) := by omega
  obtain ⟨c0, c1, c2, c3, c4, c5⟩ := H1.out.t
  have z1 := H1.out.s1
  go_wp2_with fail
  refine (fault_yes K F P C R S _ HC.out HR.out HOK.out).mono ?_
  rintro e w2 ⟨rfl, hb2⟩
  clear c0 c1 c2 c3 c4 c5 z1
  have H2 : Hid (SS w K F P C R S w2) := H1.out.keep hb2
  clear hb2 H1 HC HR
  obtain ⟨c0, c1, c2, c3, c4, c5⟩ := H2.out.t
  have z2 := H2.out.s1
  go_wp2_with fail
  refine (bytes_yes K F P C R S _ H2.out.tabs.t HOK.out).mono ?_
  rintro e w3 ⟨rfl, hb3⟩
  clear c0 c1 c2 c3 c4 c5 z2
  have H3 : Hid (SS w K F P C R S w3) := H2.out.keep hb3
  clear hb3 H2
  obtain ⟨c0, c1, c2, c3, c4, c5⟩ := H3.out.t
  have z3 := H3.out.s1
  go_wp2_with fail
  refine (text_yes K F P C R S _ H3.out.tabs HOK.out).mono ?_
  rintro e w4 ⟨rfl, hb4⟩
  clear c0 c1 c2 c3 c4 c5 z3
  have H4 : Hid (SS w K F P C R S w4) := H3.out.keep hb4
  clear hb4 H3
  obtain ⟨c0, c1, c2, c3, c4, c5⟩ := H4.out.t
  have z4 := H4.out.s1
  go_wp2_with fail
  refine (check_any K F P C R S _ H4.out.tabs.t).mono ?_
  rw [hcv.out]
  rintro e w5 ⟨rfl, hb5⟩
  clear c0 c1 c2 c3 c4 c5 z4
  have H5 : Hid (SS w K F P C R S w5) := H4.out.keep hb5
  clear hb5 H4 hcv
  obtain ⟨c0, c1, c2, c3, c4, c5⟩ := H5.out.t
  have z5 := H5.out.s1
  go_wp2_with fail
  refine (same_nil _).mono ?_
  rintro e w6 ⟨rfl, rfl⟩
  go_wp2_with fail
  refine (same_nil _).mono ?_
  rintro e w6 ⟨rfl, rfl⟩
  go_wp2_with fail
  refine (same_nil _).mono ?_
  rintro e w6 ⟨rfl, rfl⟩
  go_wp2_with fail
  refine (refbytes_yes K F P C R S _ HOK.out).mono ?_
  rintro e w6 ⟨rfl, hb6⟩
  clear c0 c1 c2 c3 c4 c5 z5
  have H6 : Hid (SS w K F P C R S w6) := H5.out.keep hb6
  clear hb6 H5
  obtain ⟨c0, c1, c2, c3, c4, c5⟩ := H6.out.t
  have z6 := H6.out.s1
  go_wp2_with fail
  refine (reftext_any K F P C R S _ HOK.out).mono ?_
  rintro e w7 ⟨rfl, hb7⟩
  clear c0 c1 c2 c3 c4 c5 z6
  have H7 : Hid (SS w K F P C R S w7) := H6.out.keep hb7
  clear hb7 H6
  go_wp2_with fail
  refine (parse_any b _ H7.out.tabs.t HB1.out).mono ?_
  rcases both_parse b with ⟨K1, F1, P1, C1, R1, S1, hv1, hu1⟩ | ⟨hv1, hu1⟩
  case inl =>
    rw [hv1]
    have HU1 : Hid (ofbV b = .tuple #[.agg #[.int .i64 K1, .int .i64 F1, .int .i64 P1, .int .i64 C1, .int .i64 R1, .int .i64 S1], .bool true]) := hu1
    have htr1 := teq_refl K1 F1 P1 C1 R1 S1
    clear hv1 hu1
    rintro e v1 ⟨rfl, hb1⟩
    have HV1 : Hid (SS w K F P C R S v1) := H7.out.keep hb1
    clear hb1
    go_wp2_with fail
    refine (tagof_any b _ HB1.out).mono ?_
    rw [HU1.out]
    rintro e v2 ⟨rfl, hb2⟩
    obtain ⟨s2, -, i0, i1, i2, i3, i4, i5⟩ := boxed6 hb2
    have HV2 : Hid (SS w K F P C R S v2) := (HV1.out.alloc (.cells #[.int .i64 K1, .int .i64 F1, .int .i64 P1, .int .i64 C1, .int .i64 R1, .int .i64 S1] 32)).keep hb2
    clear hb2
    go_wp2_with fail
    refine (same_nil _).mono ?_
    rintro e v5 ⟨rfl, rfl⟩
    clear i0 i1 i2 i3 i4 i5 s2 htr1
    go_wp2_with fail
    refine (of_any s _ (HV2.out.alloc (.cells #[.int .i64 K1, .int .i64 F1, .int .i64 P1, .int .i64 C1, .int .i64 R1, .int .i64 S1] 32)).tabs (by omega)).mono ?_
    rcases of_casesI s with ⟨K2, F2, P2, C2, R2, S2, hok2, he2, hv2⟩ | ⟨hn2, hv2⟩
    case inl =>
      rw [hv2]
      have HOK2 : Hid (okB K2 F2 P2 C2 R2 S2 = true) := hok2
      have HE2 : Hid (textI K2 F2 P2 C2 R2 S2 = s) := he2
      have htr := teq_refl K2 F2 P2 C2 R2 S2
      clear hok2 he2 hv2
      rintro e v3 ⟨rfl, hb3⟩
      have HV3 : Hid (SS w K F P C R S v3) := (HV2.out.alloc (.cells #[.int .i64 K1, .int .i64 F1, .int .i64 P1, .int .i64 C1, .int .i64 R1, .int .i64 S1] 32)).keep hb3
      clear hb3
      go_wp2_with fail
      refine (tagread_yes s _ (by omega) HOK2.out HE2.out).mono ?_
      rintro e v4 ⟨rfl, hb4⟩
      obtain ⟨s4, -, i0, i1, i2, i3, i4, i5⟩ := boxed6 hb4
      have HV4 : Hid (SS w K F P C R S v4) := (HV3.out.alloc (.cells #[.int .i64 K2, .int .i64 F2, .int .i64 P2, .int .i64 C2, .int .i64 R2, .int .i64 S2] 32)).keep hb4
      clear hb4
      go_wp2_with fail
      refine (same_nil _).mono ?_
      rintro e v5 ⟨rfl, rfl⟩
      go_wp2
      go_ret
      exact ⟨rfl, (HV4.out.alloc _).below⟩
    case inr =>
      rw [hv2]
      unfold noTag
      have HN2 : Hid (NoText s) := hn2
      have htr := teq_refl 0 0 0 0 0 0
      clear hn2 hv2
      rintro e v3 ⟨rfl, hb3⟩
      have HV3 : Hid (SS w K F P C R S v3) := (HV2.out.alloc (.cells #[.int .i64 K1, .int .i64 F1, .int .i64 P1, .int .i64 C1, .int .i64 R1, .int .i64 S1] 32)).keep hb3
      clear hb3
      go_wp2_with fail
      refine (tagread_no s _ (by omega) HN2.out).mono ?_
      unfold noTag
      rintro e v4 ⟨rfl, hb4⟩
      obtain ⟨s4, -, i0, i1, i2, i3, i4, i5⟩ := boxed6 hb4
      have HV4 : Hid (SS w K F P C R S v4) := (HV3.out.alloc (.cells #[.int .i64 0, .int .i64 0, .int .i64 0, .int .i64 0, .int .i64 0, .int .i64 0] 32)).keep hb4
      clear hb4
      go_wp2_with fail
      refine (same_err0 4 _).mono ?_
      rintro e v5 ⟨rfl, rfl⟩
      go_wp2_with fail
      refine (NamesW.same_errno 4 _ (by decide)).mono ?_
      rintro e v6 ⟨rfl, rfl⟩
      go_wp2
      go_ret
      exact ⟨rfl, (HV4.out.alloc _).below⟩
  case inr =>
    rw [hv1]
    unfold noTag at *
    have HU1 : Hid (ofbV b = .tuple #[.agg #[.int .i64 0, .int .i64 0, .int .i64 0, .int .i64 0, .int .i64 0, .int .i64 0], .bool false]) := hu1
    have htr1 := teq_refl 0 0 0 0 0 0
    clear hv1 hu1
    rintro e v1 ⟨rfl, hb1⟩
    have HV1 : Hid (SS w K F P C R S v1) := H7.out.keep hb1
    clear hb1
    go_wp2_with fail
    refine (tagof_any b _ HB1.out).mono ?_
    rw [HU1.out]
    rintro e v2 ⟨rfl, hb2⟩
    obtain ⟨s2, -, i0, i1, i2, i3, i4, i5⟩ := boxed6 hb2
    have HV2 : Hid (SS w K F P C R S v2) := (HV1.out.alloc (.cells #[.int .i64 0, .int .i64 0, .int .i64 0, .int .i64 0, .int .i64 0, .int .i64 0] 32)).keep hb2
    clear hb2
    go_wp2_with fail
    refine (same_err0 3 _).mono ?_
    rintro e v5 ⟨rfl, rfl⟩
    go_wp2_with fail
    refine (NamesW.same_errno 3 _ (by decide)).mono ?_
    rintro e v6 ⟨rfl, rfl⟩
    clear i0 i1 i2 i3 i4 i5 s2 htr1
    go_wp2_with fail
    refine (of_any s _ (HV2.out.alloc (.cells #[.int .i64 0, .int .i64 0, .int .i64 0, .int .i64 0, .int .i64 0, .int .i64 0] 32)).tabs (by omega)).mono ?_
    rcases of_casesI s with ⟨K2, F2, P2, C2, R2, S2, hok2, he2, hv2⟩ | ⟨hn2, hv2⟩
    case inl =>
      rw [hv2]
      have HOK2 : Hid (okB K2 F2 P2 C2 R2 S2 = true) := hok2
      have HE2 : Hid (textI K2 F2 P2 C2 R2 S2 = s) := he2
      have htr := teq_refl K2 F2 P2 C2 R2 S2
      clear hok2 he2 hv2
      rintro e v3 ⟨rfl, hb3⟩
      have HV3 : Hid (SS w K F P C R S v3) := (HV2.out.alloc (.cells #[.int .i64 0, .int .i64 0, .int .i64 0, .int .i64 0, .int .i64 0, .int .i64 0] 32)).keep hb3
      clear hb3
      go_wp2_with fail
      refine (tagread_yes s _ (by omega) HOK2.out HE2.out).mono ?_
      rintro e v4 ⟨rfl, hb4⟩
      obtain ⟨s4, -, i0, i1, i2, i3, i4, i5⟩ := boxed6 hb4
      have HV4 : Hid (SS w K F P C R S v4) := (HV3.out.alloc (.cells #[.int .i64 K2, .int .i64 F2, .int .i64 P2, .int .i64 C2, .int .i64 R2, .int .i64 S2] 32)).keep hb4
      clear hb4
      go_wp2_with fail
      refine (same_nil _).mono ?_
      rintro e v5 ⟨rfl, rfl⟩
      go_wp2
      go_ret
      exact ⟨rfl, (HV4.out.alloc _).below⟩
    case inr =>
      rw [hv2]
      unfold noTag
      have HN2 : Hid (NoText s) := hn2
      have htr := teq_refl 0 0 0 0 0 0
      clear hn2 hv2
      rintro e v3 ⟨rfl, hb3⟩
      have HV3 : Hid (SS w K F P C R S v3) := (HV2.out.alloc (.cells #[.int .i64 0, .int .i64 0, .int .i64 0, .int .i64 0, .int .i64 0, .int .i64 0] 32)).keep hb3
      clear hb3
      go_wp2_with fail
      refine (tagread_no s _ (by omega) HN2.out).mono ?_
      unfold noTag
      rintro e v4 ⟨rfl, hb4⟩
      obtain ⟨s4, -, i0, i1, i2, i3, i4, i5⟩ := boxed6 hb4
      have HV4 : Hid (SS w K F P C R S v4) := (HV3.out.alloc (.cells #[.int .i64 0, .int .i64 0, .int .i64 0, .int .i64 0, .int .i64 0, .int .i64 0] 32)).keep hb4
      clear hb4
      go_wp2_with fail
      refine (same_err0 4 _).mono ?_
      rintro e v5 ⟨rfl, rfl⟩
      go_wp2_with fail
      refine (NamesW.same_errno 4 _ (by decide)).mono ?_
      rintro e v6 ⟨rfl, rfl⟩
      go_wp2
      go_ret
      exact ⟨rfl, (HV4.out.alloc _).below⟩
end Go.Proofs.YtllhfbnafemoeaaDoor.TagA
