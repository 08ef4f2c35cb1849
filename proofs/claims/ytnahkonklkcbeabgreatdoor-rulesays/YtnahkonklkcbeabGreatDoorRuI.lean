/-
  What the document's own answer does to the world: RuleText.
-/
import Derived.Test.YtnahkonklkcbeabGreatDoorRuF
import Derived.Test.YtnahkonklkcbeabGreatDoorRefZ
namespace Go.Proofs.YtnahkonklkcbeabGreatDoor.RuA
open Go.RowKit RuM
set_option maxRecDepth 100000

set_option maxHeartbeats 1000000 in
theorem kindNames_any (w : World) : Calls Tryz.prog 21 #[] w fun e w' => e = .returned (.agg #[.string ⟨#[97, 110, 121]⟩, .string ⟨#[105, 116, 101, 109]⟩, .string ⟨#[99, 97, 115, 101]⟩, .string ⟨#[112, 97, 108, 108, 101, 116]⟩]) ∧ Below w.heap.size w w' := by
  go_enter Tryz.func21, Tryz.ntmps21
  go_wp2
  refine bodyPost_ret (v := .agg #[.string ⟨#[97, 110, 121]⟩, .string ⟨#[105, 116, 101, 109]⟩, .string ⟨#[99, 97, 115, 101]⟩, .string ⟨#[112, 97, 108, 108, 101, 116]⟩]) (by simp [results, Tryz.results21, go_sem]) rfl ⟨rfl, ?_⟩
  exact (Below.refl _ _).alloc (Nat.le_refl _) _
theorem bytes_eq {a b : ByteArray} : a = b ↔ a.data.toList = b.data.toList := ⟨fun h => by rw [h], fun h => ByteArray.ext (Array.toList_inj.1 h)⟩
theorem idxK (k : Nat) (hk : k < 4) (w : World) : (Instr.index 54 (.agg #[.string ⟨#[97, 110, 121]⟩, .string ⟨#[105, 116, 101, 109]⟩, .string ⟨#[99, 97, 115, 101]⟩, .string ⟨#[112, 97, 108, 108, 101, 116]⟩]) (.int .i64 (k : Int))).run Tryz.prog w = .ok (.string (kwB k)) w := by
  match k, hk with
  | 0, _ => exact idx0 _ _ _ _ w
  | 1, _ => exact idx1 _ _ _ _ w
  | 2, _ => exact idx2 _ _ _ _ w
  | 3, _ => exact idx3 _ _ _ _ w
theorem decI (n : Int) (w : World) (h0 : 0 ≤ n) (h1 : n < 1000) :
    Calls Tryz.prog 22 #[.int .i64 n] w fun e w' => e = .returned (.string (bt (dec n.toNat))) ∧ Below w.heap.size w w' := by
  obtain ⟨k, rfl⟩ : ∃ k : Nat, n = k := ⟨n.toNat, by omega⟩
  exact TagA.decimal_any k w (by omega)
theorem decN (n : Nat) (w : World) (h1 : n < 1000) :
    Calls Tryz.prog 22 #[.int .i64 (n : Int)] w fun e w' => e = .returned (.string (bt (dec n))) ∧ Below w.heap.size w w' := TagA.decimal_any n w (by omega)

section
variable (w : World)
set_option maxHeartbeats 4000000 in
theorem rtext_cut (nm : ByteArray) (k f t : Nat) (wo wi : Int) (hok : (Rl.mk nm k f t wo wi).ok) :
    Calls Tryz.prog 10 #[rV (Rl.mk nm k f t wo wi)] w fun e w' => e = .returned (.string (textB (Rl.mk nm k f t wo wi))) ∧ Below w.heap.size w w' := by
  obtain ⟨h1, ⟨h2, h3, h4, h5, h6⟩, h7⟩ := hok
  simp only at h2 h3 h4 h5 h6
  have hnl : nm.size ≤ 12 := by have := h1.2.1; simpa [Rl.named] using this
  have hkN : k < 4 := by omega
  have hkI : (k : Int) < 4 := by omega
  have hk0 : (0 : Int) ≤ (k : Int) := by omega
  have ik := idxK k hkN
  have lf : (bt (dec f)).size ≤ 2 := by rw [bt_size]; exact dec_len2 (by omega)
  have lt : (bt (dec t)).size ≤ 2 := by rw [bt_size]; exact dec_len2 (by omega)
  have lw : (bt (dec wo.toNat)).size ≤ 2 := by rw [bt_size]; exact dec_len2 (by omega)
  have li : (bt (dec wi.toNat)).size ≤ 2 := by rw [bt_size]; exact dec_len2 (by omega)
  have lk : (kwB k).size ≤ 6 := by unfold kwB; have := kw_len k; show (kwL k).toArray.size ≤ 6; simpa using this
  clear h1 h7
  unfold rV
  simp only
  go_enter Tryz.func10, Tryz.ntmps10
  go_upto_region 1 with fail
  have hbel : Below w.heap.size w (w.alloc (.cells #[.string nm, .int .i64 k, .int .i64 f, .int .i64 t, .int .i64 wo, .int .i64 wi] 23)) := (Below.refl _ _).alloc (Nat.le_refl _) _
  have hc : Cells6 (w.alloc (.cells #[.string nm, .int .i64 k, .int .i64 f, .int .i64 t, .int .i64 wo, .int .i64 wi] 23)) w.heap.size (.string nm) (.int .i64 k) (.int .i64 f) (.int .i64 t) (.int .i64 wo) (.int .i64 wi) := by
    refine ⟨?_, ?_, ?_, ?_, ?_, ?_, ?_, ?_⟩
    all_goals first | go_simp | (intro i; go_simp)
  generalize w.alloc (.cells #[.string nm, .int .i64 k, .int .i64 f, .int .i64 t, .int .i64 wo, .int .i64 wi] 23) = W at *
  have HBL : Hid _ := hbel
  have HC : Hid _ := hc
  have k0 := cell_regrown hc.c0
  have k1 := cell_regrown hc.c1
  have k2 := cell_regrown hc.c2
  have k3 := cell_regrown hc.c3
  have n1 : ¬ 9223372036854775807 < nm.size + 2 := by omega
  have n2 : ¬ 9223372036854775807 < nm.size + 2 + (kwB k).size := by omega
  have n3 : ¬ 9223372036854775807 < nm.size + 2 + (kwB k).size + 1 := by omega
  have n4 : ¬ 9223372036854775807 < nm.size + 2 + (kwB k).size + 1 + (bt (dec f)).size := by omega
  have n5 : ¬ 9223372036854775807 < nm.size + 2 + (kwB k).size + 1 + (bt (dec f)).size + 6 := by omega
  have n6 : ¬ 9223372036854775807 < nm.size + 2 + (kwB k).size + 1 + (bt (dec f)).size + 6 + (bt (dec t)).size := by omega
  clear hbel hc
  refine wp_region_quiet_below (by kernel_rfl) (by kernel_rfl) ?_
  repeat (go_big_quiet_step (first | with_reducible exact Calls.regrown_of (kindNames_any _) | with_reducible exact Calls.regrown_of (decN f _ (by omega)) | with_reducible exact Calls.regrown_of (decN t _ (by omega))))
  refine wpQuiet_nil ?_
  intro _ hw'
  obtain ⟨⟨dq, osq⟩, hw''⟩ := hw'
  subst hw''
  have HB2 : Hid (Below W.heap.size W (Sort.grow (redrawn W dq) osq)) := below_regrown W dq osq
  have HC2 : Hid (Cells6 (Sort.grow (redrawn W dq) osq) w.heap.size (.string nm) (.int .i64 k) (.int .i64 f) (.int .i64 t) (.int .i64 wo) (.int .i64 wi)) := HC.out.move (HB2.out.block _ HC.out.lt) HB2.out.size
  have HB3 : Hid (Below w.heap.size w (Sort.grow (redrawn W dq) osq)) := HBL.out.trans (HB2.out.mono HBL.out.size)
  have hX1 : (nm ++ ⟨#[58, 32]⟩ ++ kwB k ++ ⟨#[32]⟩ ++ bt (dec f) ++ ⟨#[32, 116, 104, 101, 110, 32]⟩ ++ bt (dec t) : ByteArray).size ≤ 31 := by
    simp only [ByteArray.size_append]
    show nm.size + 2 + (kwB k).size + 1 + (bt (dec f)).size + 6 + (bt (dec t)).size ≤ 31
    omega
  have HX2 : Hid ((nm ++ ⟨#[58, 32]⟩ ++ kwB k ++ ⟨#[32]⟩ ++ bt (dec f) ++ ⟨#[32, 116, 104, 101, 110, 32]⟩ ++ bt (dec t) : ByteArray).data.toList = nm.data.toList ++ ([58, 32] ++ (kwL k ++ ([32] ++ (dec f ++ ([32, 116, 104, 101, 110, 32] ++ dec t)))))) := by
    show (nm ++ ⟨#[58, 32]⟩ ++ kwB k ++ ⟨#[32]⟩ ++ bt (dec f) ++ ⟨#[32, 116, 104, 101, 110, 32]⟩ ++ bt (dec t) : ByteArray).data.toList = _
    simp [ByteArray.data_append, kwB, bt]
  clear n1 n2 n3 n4 n5 n6 HB2 HC k0 k1 k2 k3 ik
  generalize nm ++ ⟨#[58, 32]⟩ ++ kwB k ++ ⟨#[32]⟩ ++ bt (dec f) ++ ⟨#[32, 116, 104, 101, 110, 32]⟩ ++ bt (dec t) = X at *
  generalize Sort.grow (redrawn W dq) osq = V at *
  have c4 := HC2.out.c4
  have c5 := HC2.out.c5
  by_cases hwo : wo = -1
  case pos =>
    subst hwo
    have HT : Hid (textB (Rl.mk nm k f t (-1) wi) = X ++ ⟨#[32, 119, 105, 116, 104, 105, 110, 32]⟩ ++ bt (dec wi.toNat)) := by
      show textB (Rl.mk nm k f t (-1) wi) = _
      rw [bytes_eq, textB_list, textL_eq]
      simp only [ByteArray.data_append, Array.toList_append, HX2.out, tailL, endL, if_true, withinL, thenL, bt]
      simp
    have m1 : ¬ 9223372036854775807 < X.size + 8 := by omega
    have m2 : ¬ 9223372036854775807 < X.size + 8 + (bt (dec wi.toNat)).size := by omega
    go_wp2_with fail
    refine (decI wi _ (by omega) (by omega)).mono ?_
    rintro e V2 ⟨rfl, hb⟩
    have HB4 : Hid (Below w.heap.size w V2) := HB3.out.trans (hb.mono HB3.out.size)
    clear hb
    go_wp2
    go_ret
    refine ⟨?_, HB4.out⟩
    rw [HT.out]
    rfl
  case neg =>
    have hwoG : (0 : Int) ≤ wo := by omega
    have hwoD : decide ((0 : Int) ≤ wo) = true := by simpa using hwoG
    have HT : Hid (textB (Rl.mk nm k f t wo wi) = X ++ ⟨#[32, 119, 105, 116, 104, 111, 117, 116, 32]⟩ ++ bt (dec wo.toNat) ++ ⟨#[32, 119, 105, 116, 104, 105, 110, 32]⟩ ++ bt (dec wi.toNat)) := by
      show textB (Rl.mk nm k f t wo wi) = _
      rw [bytes_eq, textB_list, textL_eq]
      simp only [ByteArray.data_append, Array.toList_append, HX2.out, tailL, endL, if_neg hwo, withinL, withoutL, thenL, bt]
      simp
    have m1 : ¬ 9223372036854775807 < X.size + 9 := by omega
    have m2 : ¬ 9223372036854775807 < X.size + 9 + (bt (dec wo.toNat)).size := by omega
    have m3 : ¬ 9223372036854775807 < X.size + 9 + (bt (dec wo.toNat)).size + 8 := by omega
    have m4 : ¬ 9223372036854775807 < X.size + 9 + (bt (dec wo.toNat)).size + 8 + (bt (dec wi.toNat)).size := by omega
    go_wp2_with fail
    refine (decI wo _ (by omega) (by omega)).mono ?_
    rintro e V2 ⟨rfl, hb⟩
    have HB4 : Hid (Below w.heap.size w V2) := HB3.out.trans (hb.mono HB3.out.size)
    have HC4 : Hid _ := HC2.out.move (hb.block _ HC2.out.lt) hb.size
    have d5 := HC4.out.c5
    clear hb c4 c5
    go_wp2_with fail
    refine (decI wi _ (by omega) (by omega)).mono ?_
    rintro e V3 ⟨rfl, hb⟩
    have HB5 : Hid (Below w.heap.size w V3) := HB4.out.trans (hb.mono HB4.out.size)
    clear hb
    go_wp2
    go_ret
    refine ⟨?_, HB5.out⟩
    rw [HT.out]
    rfl
/-- What RuleText answers. -/
theorem rtext_any (r : Rl) (hok : r.ok) :
    Calls Tryz.prog 10 #[rV r] w fun e w' => e = .returned (.string (textB r)) ∧ Below w.heap.size w w' := by
  have h := hok.2.1
  obtain ⟨nm, K, F, T, O, I⟩ := r
  obtain ⟨⟨a1, a2⟩, ⟨b1, b2⟩, ⟨c1, c2⟩, _⟩ := h
  simp only at a1 b1 c1
  obtain ⟨k, rfl⟩ : ∃ k : Nat, K = k := ⟨K.toNat, by omega⟩
  obtain ⟨f, rfl⟩ : ∃ k : Nat, F = k := ⟨F.toNat, by omega⟩
  obtain ⟨t, rfl⟩ : ∃ k : Nat, T = k := ⟨T.toNat, by omega⟩
  exact rtext_cut w nm k f t O I hok
end
end Go.Proofs.YtnahkonklkcbeabGreatDoor.RuA
