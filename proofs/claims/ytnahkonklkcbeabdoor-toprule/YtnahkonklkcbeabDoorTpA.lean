/-
  What TopRule does to the world.
-/
import Derived.Test.YtnahkonklkcbeabDoorRuG
import Derived.Laws.StructEq
namespace Go.Proofs.YtnahkonklkcbeabDoor.RuA
open Go.RowKit RuM
set_option maxRecDepth 100000

theorem name_size {r : Rl} (h : r.ok) : r.nm.size ≤ 12 := by
  have h2 := h.1.2.1
  simpa using h2
theorem dec_one {n : Nat} (h : n < 10) : dec n = [UInt8.ofNat (48 + n)] := by
  unfold dec
  rw [Lib.decDigits, dif_pos h]
def r1 : Rl := ⟨⟨#[97]⟩, 0, 1, 2, -1, 5⟩
theorem one_reads : Reads ⟨#[97, 58, 32, 97, 110, 121, 32, 49, 32, 116, 104, 101, 110, 32, 50, 32, 119, 105, 116, 104, 105, 110, 32, 53]⟩ r1 := by
  refine ⟨⟨⟨by decide, by decide, ?_⟩, ⟨by decide, by decide, by decide, by decide, by decide⟩, ⟨by decide, by decide, by decide⟩⟩, ?_⟩
  · intro c hc
    have h : c = 97 := by simpa [r1] using hc
    subst h
    exact ⟨by decide, by decide⟩
  · unfold textB
    rw [textL_eq]
    unfold tailL endL r1
    simp only [if_true]
    rw [show dec ((1 : Int)).toNat = [49] from dec_one (n := 1) (by decide), show dec ((2 : Int)).toNat = [50] from dec_one (n := 2) (by decide), show dec ((5 : Int)).toNat = [53] from dec_one (n := 5) (by decide)]
    rfl
theorem six_new (V : World) (r : Rl) : Cells6 (V.alloc (.cells #[.string r.nm, .int .i64 r.k, .int .i64 r.f, .int .i64 r.t, .int .i64 r.wo, .int .i64 r.wi] 23)) V.heap.size (.string r.nm) (.int .i64 r.k) (.int .i64 r.f) (.int .i64 r.t) (.int .i64 r.wo) (.int .i64 r.wi) := by
  refine ⟨?_, ?_, ?_, ?_, ?_, ?_, ?_, ?_⟩
  all_goals first | go_simp | (intro i; go_simp)
section
variable (r : Rl) (s : ByteArray) (w : World)
set_option maxHeartbeats 2000000 in
theorem top_big (h1 : r.nm.size ≤ 9223372036854775807) (h2 : s.size ≤ 9223372036854775807) (hb : 200 < s.size ∨ 100 < r.nm.size) :
    Calls Tryd.prog 3 #[rV r, .string s] w fun e w' => e = .returned (.bool true) ∧ Below w.heap.size w w' := by
  unfold rV
  by_cases hs : 200 < s.size
  · have hsI : (200 : Int) < s.size := by omega
    have hsD : decide ((200 : Int) < s.size) = true := by simpa using hsI
    clear hb
    go_enter Tryd.func3, Tryd.ntmps3
    go_wp2
    go_ret
    exact ⟨rfl, (Below.refl _ _).alloc (Nat.le_refl _) _⟩
  · have hsI : ¬ (200 : Int) < s.size := by omega
    have hsD : decide ((200 : Int) < s.size) = false := by simpa using hsI
    have hn : 100 < r.nm.size := by omega
    have hnI : (100 : Int) < r.nm.size := by omega
    have hnD : decide ((100 : Int) < r.nm.size) = true := by simpa using hnI
    clear hb
    go_enter Tryd.func3, Tryd.ntmps3
    go_wp2
    go_ret
    exact ⟨rfl, (Below.refl _ _).alloc (Nat.le_refl _) _⟩
set_option maxHeartbeats 2000000 in
theorem top_small (hT : RTab w) (h1 : r.nm.size ≤ 100) (h2 : s.size ≤ 200) :
    Calls Tryd.prog 3 #[rV r, .string s] w fun e w' => e = .returned (.bool true) ∧ Below w.heap.size w w' := by
  have HT : Hid (RTab w) := hT
  have hsI : ¬ (200 : Int) < s.size := by omega
  have hsD : decide ((200 : Int) < s.size) = false := by simpa using hsI
  have hnI : ¬ (100 : Int) < r.nm.size := by omega
  have hnD : decide ((100 : Int) < r.nm.size) = false := by simpa using hnI
  have hB : Below w.heap.size w (w.alloc (.cells #[.string r.nm, .int .i64 r.k, .int .i64 r.f, .int .i64 r.t, .int .i64 r.wo, .int .i64 r.wi] 23)) := (Below.refl _ w).alloc (Nat.le_refl _) _
  have HP1 : Hid (∀ V : World, RTab V → Calls Tryd.prog 4 #[.string ⟨#[97, 58, 32, 97, 110, 121, 32, 49, 32, 116, 104, 101, 110, 32, 50, 32, 119, 105, 116, 104, 105, 110, 32, 53]⟩] V fun e w' => e = .returned (.tuple #[rV r1, .nilIface]) ∧ Below V.heap.size V w') := fun V hV => parse_yes _ V r1 hV (by decide) one_reads
  unfold rV at HP1 ⊢
  clear hT hB
  have HN : Hid _ := flt_ex r
  have e5 : (r1.wi != 5) = false := by decide
  have e6 : (r1.wi == 5) = true := by decide
  go_enter Tryd.func3, Tryd.ntmps3
  go_wp2_with fail
  refine (HP1.out _ (HT.out.keep ((Below.refl _ _).alloc (Nat.le_refl _) _))).mono ?_
  rintro e w1 ⟨rfl, hb1⟩
  have HH1 : Hid (Hold w w1 r) := hold_new r HT.out hb1
  have HH2 : Hid (Hold w (w1.alloc (.cells #[.string r1.nm, .int .i64 r1.k, .int .i64 r1.f, .int .i64 r1.t, .int .i64 r1.wo, .int .i64 r1.wi] 23)) r) := HH1.out.alloc _
  clear hb1 HH1
  have c0 := HH2.out.box.c0
  have c1 := HH2.out.box.c1
  have c2 := HH2.out.box.c2
  have c3 := HH2.out.box.c3
  have c4 := HH2.out.box.c4
  have c5 := HH2.out.box.c5
  go_wp2_with fail
  by_cases hok : r.ok
  case neg =>
    obtain ⟨n, hn⟩ := HN.out
    have h0 : n ≠ 0 := fun h => hok ((flt_ok hn).1 h)
    have HX : Hid (∀ V : World, Calls Tryd.prog 5 #[rV r] V fun e w' => e = .returned (.tuple #[.string ⟨#[]⟩, .iface 33 (.int .i64 (n : Int))]) ∧ Below V.heap.size V w') := fun V => by
      have h := text_no r V (by omega) hn h0
      rw [show errV n = .iface 33 (.int .i64 (n : Int)) from if_neg h0] at h
      exact h
    unfold rV at HX
    clear hn h0 hok HN
    refine (HX.out _).mono ?_
    rintro e w2 ⟨rfl, hb2⟩
    have HH3 : Hid (Hold w w2 r) := HH2.out.keep hb2
    clear hb2 HH2 c0 c1 c2 c3 c4 c5
    go_wp2_with fail
    by_cases hrd : ∃ rs, Reads s rs
    case neg =>
      have HQ : Hid (∀ V : World, RTab V → Calls Tryd.prog 4 #[.string s] V fun e w' => e = .returned (.tuple #[.agg #[.string ⟨#[]⟩, .int .i64 0, .int .i64 0, .int .i64 0, .int .i64 0, .int .i64 0], .iface 33 (.int .i64 4)]) ∧ Below V.heap.size V w') := fun V hV => parse_no s V hV (by omega) hrd
      clear hrd
      refine (HQ.out _ HH3.out.T).mono ?_
      rintro e V8 ⟨rfl, hb8⟩
      have HB8 : Hid (Below w.heap.size w (V8.alloc (.cells #[.string ⟨#[]⟩, .int .i64 0, .int .i64 0, .int .i64 0, .int .i64 0, .int .i64 0] 23))) := (HH3.out.keep hb8).alloc _ |>.bl
      clear hb8
      go_wp2
      go_ret
      exact ⟨rfl, HB8.out⟩
    case pos =>
      obtain ⟨rs, hrs⟩ := hrd
      have HQ : Hid (∀ V : World, RTab V → Calls Tryd.prog 4 #[.string s] V fun e w' => e = .returned (.tuple #[rV rs, .nilIface]) ∧ Below V.heap.size V w') := fun V hV => parse_yes s V rs hV (by omega) hrs
      have HTX : Hid (∀ V : World, RTab V → Calls Tryd.prog 5 #[rV rs] V fun e w' => e = .returned (.tuple #[.string s, .nilIface]) ∧ Below V.heap.size V w') := fun V hV => by
        have h := text_yes rs V hV hrs.1
        rw [hrs.2] at h
        exact h
      have HCK : Hid (∀ V : World, Calls Tryd.prog 6 #[rV rs] V fun e w' => e = .returned .nilIface ∧ Below V.heap.size V w') := fun V => check_any rs V (by have h := name_size hrs.1; omega) (Or.inr (Or.inr (Or.inr ⟨hrs.1, rfl⟩)))
      unfold rV at HQ HTX HCK
      clear hrs
      refine (HQ.out _ HH3.out.T).mono ?_
      rintro e V8 ⟨rfl, hb8⟩
      have HH8 : Hid (Hold w (V8.alloc (.cells #[.string rs.nm, .int .i64 rs.k, .int .i64 rs.f, .int .i64 rs.t, .int .i64 rs.wo, .int .i64 rs.wi] 23)) r) := (HH3.out.keep hb8).alloc _
      clear hb8
      go_wp2_with fail
      refine (HTX.out _ HH8.out.T).mono ?_
      rintro e V9 ⟨rfl, hb9⟩
      have HC9 : Hid (Cells6 V9 V8.heap.size (.string rs.nm) (.int .i64 rs.k) (.int .i64 rs.f) (.int .i64 rs.t) (.int .i64 rs.wo) (.int .i64 rs.wi)) := (six_new V8 rs).move (hb9.block _ (by simp)) hb9.size
      have HH9 : Hid (Hold w V9 r) := HH8.out.keep hb9
      clear hb9
      have z0 := HC9.out.c0
      have z1 := HC9.out.c1
      have z2 := HC9.out.c2
      have z3 := HC9.out.c3
      have z4 := HC9.out.c4
      have z5 := HC9.out.c5
      have hss : (s.toList == s.toList) = true := sbeq_true rfl
      go_wp2_with fail
      refine (HCK.out _).mono ?_
      rintro e Va ⟨rfl, hba⟩
      have HBa : Hid (Below w.heap.size w Va) := (HH9.out.keep hba).bl
      clear hba
      go_wp2
      go_ret
      exact ⟨rfl, HBa.out⟩
  case pos =>
    have HX : Hid (∀ V : World, RTab V → Calls Tryd.prog 5 #[rV r] V fun e w' => e = .returned (.tuple #[.string (textB r), .nilIface]) ∧ Below V.heap.size V w') := fun V hV => text_yes r V hV hok
    have hts : (textB r).size ≤ 60 := by
      have h := textL_len hok
      show (textL r).toArray.size ≤ 60
      simpa using h
    have HP2 : Hid (∀ V : World, RTab V → Calls Tryd.prog 4 #[.string (textB r)] V fun e w' => e = .returned (.tuple #[rV r, .nilIface]) ∧ Below V.heap.size V w') := fun V hV => parse_yes (textB r) V r hV (by omega) ⟨hok, rfl⟩
    unfold rV at HX HP2
    clear hok HN
    refine (HX.out _ HH2.out.T).mono ?_
    rintro e w2 ⟨rfl, hb2⟩
    have HH3 : Hid (Hold w w2 r) := HH2.out.keep hb2
    clear hb2 HH2 c0 c1 c2 c3 c4 c5
    generalize textB r = X at *
    go_wp2_with fail
    refine (HP2.out _ HH3.out.T).mono ?_
    rintro e w3 ⟨rfl, hb3⟩
    have HH4 : Hid (Hold w (w3.alloc (.cells #[.string r.nm, .int .i64 r.k, .int .i64 r.f, .int .i64 r.t, .int .i64 r.wo, .int .i64 r.wi] 23)) r) := (HH3.out.keep hb3).alloc _
    clear hb3 HH3
    have c0 := HH4.out.box.c0
    have c1 := HH4.out.box.c1
    have c2 := HH4.out.box.c2
    have c3 := HH4.out.box.c3
    have c4 := HH4.out.box.c4
    have c5 := HH4.out.box.c5
    have hss : (r.nm.toList == r.nm.toList) = true := sbeq_true rfl
    go_wp2_with fail
    clear c0 c1 c2 c3 c4 c5
    by_cases hrd : ∃ rs, Reads s rs
    case neg =>
      have HQ : Hid (∀ V : World, RTab V → Calls Tryd.prog 4 #[.string s] V fun e w' => e = .returned (.tuple #[.agg #[.string ⟨#[]⟩, .int .i64 0, .int .i64 0, .int .i64 0, .int .i64 0, .int .i64 0], .iface 33 (.int .i64 4)]) ∧ Below V.heap.size V w') := fun V hV => parse_no s V hV (by omega) hrd
      clear hrd
      refine (HQ.out _ HH4.out.T).mono ?_
      rintro e V8 ⟨rfl, hb8⟩
      have HB8 : Hid (Below w.heap.size w (V8.alloc (.cells #[.string ⟨#[]⟩, .int .i64 0, .int .i64 0, .int .i64 0, .int .i64 0, .int .i64 0] 23))) := (HH4.out.keep hb8).alloc _ |>.bl
      clear hb8
      go_wp2
      go_ret
      exact ⟨rfl, HB8.out⟩
    case pos =>
      obtain ⟨rs, hrs⟩ := hrd
      have HQ : Hid (∀ V : World, RTab V → Calls Tryd.prog 4 #[.string s] V fun e w' => e = .returned (.tuple #[rV rs, .nilIface]) ∧ Below V.heap.size V w') := fun V hV => parse_yes s V rs hV (by omega) hrs
      have HTX : Hid (∀ V : World, RTab V → Calls Tryd.prog 5 #[rV rs] V fun e w' => e = .returned (.tuple #[.string s, .nilIface]) ∧ Below V.heap.size V w') := fun V hV => by
        have h := text_yes rs V hV hrs.1
        rw [hrs.2] at h
        exact h
      have HCK : Hid (∀ V : World, Calls Tryd.prog 6 #[rV rs] V fun e w' => e = .returned .nilIface ∧ Below V.heap.size V w') := fun V => check_any rs V (by have h := name_size hrs.1; omega) (Or.inr (Or.inr (Or.inr ⟨hrs.1, rfl⟩)))
      unfold rV at HQ HTX HCK
      clear hrs
      refine (HQ.out _ HH4.out.T).mono ?_
      rintro e V8 ⟨rfl, hb8⟩
      have HH8 : Hid (Hold w (V8.alloc (.cells #[.string rs.nm, .int .i64 rs.k, .int .i64 rs.f, .int .i64 rs.t, .int .i64 rs.wo, .int .i64 rs.wi] 23)) r) := (HH4.out.keep hb8).alloc _
      clear hb8
      go_wp2_with fail
      refine (HTX.out _ HH8.out.T).mono ?_
      rintro e V9 ⟨rfl, hb9⟩
      have HC9 : Hid (Cells6 V9 V8.heap.size (.string rs.nm) (.int .i64 rs.k) (.int .i64 rs.f) (.int .i64 rs.t) (.int .i64 rs.wo) (.int .i64 rs.wi)) := (six_new V8 rs).move (hb9.block _ (by simp)) hb9.size
      have HH9 : Hid (Hold w V9 r) := HH8.out.keep hb9
      clear hb9
      have z0 := HC9.out.c0
      have z1 := HC9.out.c1
      have z2 := HC9.out.c2
      have z3 := HC9.out.c3
      have z4 := HC9.out.c4
      have z5 := HC9.out.c5
      have hss : (s.toList == s.toList) = true := sbeq_true rfl
      go_wp2_with fail
      refine (HCK.out _).mono ?_
      rintro e Va ⟨rfl, hba⟩
      have HBa : Hid (Below w.heap.size w Va) := (HH9.out.keep hba).bl
      clear hba
      go_wp2
      go_ret
      exact ⟨rfl, HBa.out⟩
/-- TopRule answers true. -/
theorem top_any (hT : RTab w) (h1 : r.nm.size ≤ 9223372036854775807) (h2 : s.size ≤ 9223372036854775807) :
    Calls Tryd.prog 3 #[rV r, .string s] w fun e w' => e = .returned (.bool true) ∧ Below w.heap.size w w' := by
  by_cases hb : 200 < s.size ∨ 100 < r.nm.size
  · exact top_big r s w h1 h2 hb
  · exact top_small r s w hT (by omega) (by omega)
end
end Go.Proofs.YtnahkonklkcbeabDoor.RuA
