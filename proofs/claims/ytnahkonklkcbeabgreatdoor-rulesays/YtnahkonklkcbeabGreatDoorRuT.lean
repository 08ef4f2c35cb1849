/-
  What RuleSays does to the world.
-/
import Derived.Test.YtnahkonklkcbeabGreatDoorRuS
namespace Go.Proofs.YtnahkonklkcbeabGreatDoor.RsA
open Go.RowKit TkM TkW TkA RuM
set_option maxRecDepth 100000

/-- RuleSays at work, over the tags. -/
structure QS (w V : World) (B tb rb : Nat) (who : Nat → Nat × ByteArray × Nat) (F : Nat → Prop) (W need q0 q : Nat) (T : List (List Sg)) (r : Rl) (g : Nat) (L : List ByteArray) : Prop where
  bl : Below w.heap.size w V
  tt : TagA.Tabs V
  box : RuA.Cells6 V w.heap.size (.string r.nm) (.int .i64 r.k) (.int .i64 r.f) (.int .i64 r.t) (.int .i64 r.wo) (.int .i64 r.wi)
  b : Bth B V tb rb who F W need q0 q T
  ts : TsOn V F (some ⟨g, 0, none⟩) L
  lo : w.heap.size < B
  w7 : 7 ≤ w.heap.size
section
variable {w V V' : World} {B tb rb : Nat} {who : Nat → Nat × ByteArray × Nat} {F : Nat → Prop} {W need q0 q q' : Nat} {T : List (List Sg)} {r : Rl} {g : Nat} {L : List ByteArray}
theorem QS.keep (h : QS w V B tb rb who F W need q0 q T r g L) (hb : Below V.heap.size V V') : QS w V' B tb rb who F W need q0 q T r g L :=
  ⟨h.bl.trans (hb.mono h.bl.size), h.tt.below hb h.tt.size, h.box.move (hb.block _ h.box.lt) hb.size, h.b.below hb, h.ts.kp (below_kp hb F), h.lo, h.w7⟩
theorem QS.ref (h : QS w V B tb rb who F W need q0 q T r g L) (hd : RfAt V' rb F W need q' T) (hk : Kp F V V') : QS w V' B tb rb who F W need q0 q' T r g L := by
  have hlo := h.lo
  have hnF : ∀ k, k < w.heap.size + 1 → ¬ F k := fun k hk' hF => by have := h.b.lf k hF; omega
  have hB : Below (w.heap.size + 1) V V' := hk.below h.box.lt hnF
  have hB2 : Below w.heap.size V V' := hB.mono (by omega)
  exact ⟨h.bl.trans hB2, h.tt.below hB2 h.w7, h.box.move (hB.block _ (by omega)) hk.size, h.b.ref hd hk, h.ts.kp hk, h.lo, h.w7⟩
end
section
variable (r : Rl) (s : ByteArray) (E : List (List Sg)) (a : Option Addr) (cap : Nat) (w : World)
set_option maxHeartbeats 4000000 in
theorem rs_big (W need : Int) (hT : RuA.RTab w) (hE : EsOn w a E) (hb : ∀ l, l ∈ E → l.length ≤ 9223372036854775807 ∧ ∀ x, x ∈ l → x.g.size ≤ 9223372036854775807) (h1 : r.nm.size ≤ 9223372036854775807) (h2 : s.size ≤ 9223372036854775807)
    (hbig : light E = false ∨ 200 < s.size ∨ 100 < r.nm.size) :
    Calls Tryz.prog 3 #[RuA.rV r, .string s, .int .i64 W, .int .i64 need, .slice a E.length cap] w fun e w' => e = .returned (.bool true) ∧ Below w.heap.size w w' := by
  have HT : Hid (RuA.RTab w) := hT
  have HL : Hid (∀ V : World, Below w.heap.size w V → Calls Tryz.prog 5 #[.slice a E.length cap] V fun e w' => e = .returned (.bool (light E)) ∧ w' = V) := fun V hV => light_any E a cap V (hE.below hV) hb
  unfold RuA.rV
  have hB0 : Below w.heap.size w (w.alloc (.cells #[.string r.nm, .int .i64 r.k, .int .i64 r.f, .int .i64 r.t, .int .i64 r.wo, .int .i64 r.wi] 23)) := (Below.refl _ w).alloc (Nat.le_refl _) _
  have HB0 : Hid _ := hB0
  clear hT hE hb hB0
  go_enter Tryz.func3, Tryz.ntmps3
  go_wp2_with fail
  refine (RuA.ruled_any _ (HT.out.keep HB0.out)).mono ?_
  rintro e V1 ⟨rfl, hb1⟩
  have HH : Hid (RuA.Hold w V1 r) := RuA.hold_new r HT.out hb1
  clear hb1 HB0
  have c0 := HH.out.box.c0
  go_wp2_with fail
  refine (HL.out V1 HH.out.bl).mono ?_
  rintro e V2 ⟨rfl, hV2⟩
  subst hV2
  cases hl : light E with
  | false =>
    go_wp2
    go_ret
    exact ⟨rfl, HH.out.bl⟩
  | true =>
    have hb2 : 200 < s.size ∨ 100 < r.nm.size := by
      rcases hbig with h | h
      · rw [hl] at h; exact Bool.noConfusion h
      · exact h
    clear hbig
    by_cases hs : 200 < s.size
    · have hsI : (200 : Int) < s.size := by omega
      have hsD : decide ((200 : Int) < s.size) = true := by simpa using hsI
      clear hb2
      go_wp2
      go_ret
      exact ⟨rfl, HH.out.bl⟩
    · have hsI : ¬ (200 : Int) < s.size := by omega
      have hsD : decide ((200 : Int) < s.size) = false := by simpa using hsI
      have hn : 100 < r.nm.size := by omega
      have hnI : (100 : Int) < r.nm.size := by omega
      have hnD : decide ((100 : Int) < r.nm.size) = true := by simpa using hnI
      clear hb2
      go_wp2
      go_ret
      exact ⟨rfl, HH.out.bl⟩
set_option maxHeartbeats 8000000 in
theorem rs_main (Wd nd : Int) (hT : RuA.RTab w) (hTT : TagA.Tabs w) (hE : EsOn w a E) (hl : light E = true) (h1 : r.nm.size ≤ 100) (h2 : s.size ≤ 200) :
    Calls Tryz.prog 3 #[RuA.rV r, .string s, .int .i64 Wd, .int .i64 nd, .slice a E.length cap] w fun e w' => e = .returned (.bool true) ∧ Below w.heap.size w w' := by
  have mixed : Tryz.prog.follows .mixedOrders = true := by kernel_rfl
  have HT : Hid (RuA.RTab w) := hT
  have HTT : Hid (TagA.Tabs w) := hTT
  have HE : Hid (EsOn w a E) := hE
  have HLI : Hid (light E = true) := hl
  have HL : Hid (∀ V : World, Below w.heap.size w V → Calls Tryz.prog 5 #[.slice a E.length cap] V fun e w' => e = .returned (.bool true) ∧ w' = V) := fun V hV => by
    have h := light_any E a cap V (hE.below hV) (light_bounds hl)
    rw [hl] at h
    exact h
  obtain ⟨n, hn⟩ := flt_ex r
  have HFN : Hid (r.flt n) := hn
  obtain ⟨u, k, hu⟩ := RuA.pr_ex s
  have HPR : Hid (RuA.PR s u k) := hu
  have hsI : ¬ (200 : Int) < s.size := by omega
  have hsD : decide ((200 : Int) < s.size) = false := by simpa using hsI
  have hnI : ¬ (100 : Int) < r.nm.size := by omega
  have hnD : decide ((100 : Int) < r.nm.size) = false := by simpa using hnI
  have HF : Hid (∀ V : World, Calls Tryz.prog 6 #[.agg #[.string r.nm, .int .i64 r.k, .int .i64 r.f, .int .i64 r.t, .int .i64 r.wo, .int .i64 r.wi]] V fun e w' => e = .returned (.int .i64 (n : Int)) ∧ Below V.heap.size V w') := fun V => RuA.rfault_any r V (by omega) hn
  have HTX : Hid (∀ V : World, RuA.RTab V → Calls Tryz.prog 7 #[.agg #[.string r.nm, .int .i64 r.k, .int .i64 r.f, .int .i64 r.t, .int .i64 r.wo, .int .i64 r.wi]] V fun e w' => e = .returned (.tuple #[.string (RuA.txt r n), RuA.errV n]) ∧ Below V.heap.size V w') := fun V hV => RuA.text_any r V hV (by omega) hn
  have HCK : Hid (∀ V : World, Calls Tryz.prog 9 #[.agg #[.string r.nm, .int .i64 r.k, .int .i64 r.f, .int .i64 r.t, .int .i64 r.wo, .int .i64 r.wi]] V fun e w' => e = .returned (RuA.errV n) ∧ Below V.heap.size V w') := fun V => RuA.check_any r V (by omega) hn
  have HSM : Hid (∀ V : World, Calls Tryz.prog 8 #[RuA.errV n, .int .i64 (n : Int)] V fun e w' => e = .returned (.bool true) ∧ w' = V) := fun V => same_any n V
  have HRT : Hid (n = 0 → ∀ V : World, Calls Tryz.prog 10 #[.agg #[.string r.nm, .int .i64 r.k, .int .i64 r.f, .int .i64 r.t, .int .i64 r.wo, .int .i64 r.wi]] V fun e w' => e = .returned (.string (RuA.txt r n)) ∧ Below V.heap.size V w') := fun h0 V => by
    have h := RuA.rtext_any V r ((flt_ok hn).1 h0)
    unfold RuA.txt
    rw [if_pos h0]
    exact h
  have HX0 : Hid (n ≠ 0 → RuA.txt r n = ⟨#[]⟩) := fun h => if_neg h
  have HPA : Hid (∀ V : World, RuA.RTab V → Calls Tryz.prog 11 #[.string s] V fun e w' => e = .returned (.tuple #[.agg #[.string u.nm, .int .i64 u.k, .int .i64 u.f, .int .i64 u.t, .int .i64 u.wo, .int .i64 u.wi], RuA.errV k]) ∧ Below V.heap.size V w') := fun V hV => RuA.parse_pr s V hV (by omega) hu
  have HRO : Hid (∀ V : World, Calls Tryz.prog 12 #[.string s] V fun e w' => e = .returned (.tuple #[.agg #[.string u.nm, .int .i64 u.k, .int .i64 u.f, .int .i64 u.t, .int .i64 u.wo, .int .i64 u.wi], .bool (k == 0)]) ∧ Below V.heap.size V w') := fun V => RuA.rof_pr s V h2 hu
  unfold RuA.rV
  have hB0 : Below w.heap.size w (w.alloc (.cells #[.string r.nm, .int .i64 r.k, .int .i64 r.f, .int .i64 r.t, .int .i64 r.wo, .int .i64 r.wi] 23)) := (Below.refl _ w).alloc (Nat.le_refl _) _
  have HB0 : Hid _ := hB0
  clear hT hTT hE hB0 hl hn hu
  generalize RuA.txt r n = X at *
  generalize hev : RuA.errV n = ev at *
  have HEV : Hid (RuA.errV n = ev) := hev
  clear hev
  go_enter Tryz.func3, Tryz.ntmps3
  go_wp2_with fail
  refine (RuA.ruled_any _ (HT.out.keep HB0.out)).mono ?_
  rintro e V1 ⟨rfl, hb1⟩
  have HH : Hid (RuA.Hold w V1 r) := RuA.hold_new r HT.out hb1
  clear hb1 HB0
  have c0 := HH.out.box.c0
  have c1 := HH.out.box.c1
  have c2 := HH.out.box.c2
  have c3 := HH.out.box.c3
  have c4 := HH.out.box.c4
  have c5 := HH.out.box.c5
  go_wp2_with fail
  refine (HL.out V1 HH.out.bl).mono ?_
  rintro e V2 ⟨rfl, hV2⟩
  subst hV2
  go_wp2_with fail
  refine (HF.out _).mono ?_
  rintro e V3 ⟨rfl, hb3⟩
  have HH3 : Hid (RuA.Hold w V3 r) := HH.out.keep hb3
  clear hb3 HH c0 c1 c2 c3 c4 c5
  have c0 := HH3.out.box.c0
  have c1 := HH3.out.box.c1
  have c2 := HH3.out.box.c2
  have c3 := HH3.out.box.c3
  have c4 := HH3.out.box.c4
  have c5 := HH3.out.box.c5
  go_wp2_with fail
  refine (HTX.out _ HH3.out.T).mono ?_
  rintro e V4 ⟨rfl, hb4⟩
  have HH4 : Hid (RuA.Hold w V4 r) := HH3.out.keep hb4
  clear hb4 HH3 c0 c1 c2 c3 c4 c5
  have c0 := HH4.out.box.c0
  have c1 := HH4.out.box.c1
  have c2 := HH4.out.box.c2
  have c3 := HH4.out.box.c3
  have c4 := HH4.out.box.c4
  have c5 := HH4.out.box.c5
  go_upto_region 6 with fail
  go_cut [79] from 51 to 78 (fun v V => v = .bool false ∧ RuA.Hold w V r)
  case first =>
    go_wp2_with fail
    refine (HCK.out _).mono ?_
    rintro e V5 ⟨rfl, hb5⟩
    have HH5 : Hid (RuA.Hold w V5 r) := HH4.out.keep hb5
    clear hb5 HH4 c0 c1 c2 c3 c4 c5
    have c0 := HH5.out.box.c0
    have c1 := HH5.out.box.c1
    have c2 := HH5.out.box.c2
    have c3 := HH5.out.box.c3
    have c4 := HH5.out.box.c4
    have c5 := HH5.out.box.c5
    go_wp2_with fail
    refine (HSM.out _).mono ?_
    rintro e V6 ⟨rfl, hV6⟩
    subst hV6
    go_wp2_with fail
    refine (HSM.out _).mono ?_
    rintro e V7 ⟨rfl, hV7⟩
    subst hV7
    by_cases h0 : n = 0
    case pos =>
      have HR0 : Hid _ := HRT.out h0
      subst h0
      have hxx : (X.toList == X.toList) = true := RuA.sbeq_true rfl
      have hxn : (X.toList != X.toList) = false := by rw [bne, hxx]; rfl
      go_wp2_with fail
      refine (HR0.out _).mono ?_
      rintro e V8 ⟨rfl, hb8⟩
      have HH8 : Hid (RuA.Hold w V8 r) := HH5.out.keep hb8
      clear hb8
      go_wp2
      go_meet
      case rel => exact ⟨rfl, HH8.out⟩
    case neg =>
      have hX := HX0.out h0
      subst hX
      have i0 : decide ((0 : Int) < (n : Int)) = true := by simp; omega
      have i1 : ((n : Int) == 0) = false := by rw [beq_eq_false_iff_ne]; omega
      have i2 : (0 : Int) < (n : Int) := by omega
      have i3 : 0 < n := by omega
      go_wp2
      go_meet
      case rel => exact ⟨rfl, HH5.out⟩
  case rest =>
    obtain ⟨rfl, hh⟩ := hcut
    have HH6 : Hid (RuA.Hold w wc r) := hh
    clear hh c0 c1 c2 c3 c4 c5 HH4 HF HTX HCK HSM HRT HX0 HEV
    go_wp2_with fail
    refine (HPA.out _ HH6.out.T).mono ?_
    rintro e V7 ⟨rfl, hb7⟩
    have HC7 : Hid (RuA.Cells6 (V7.alloc (.cells #[.string u.nm, .int .i64 u.k, .int .i64 u.f, .int .i64 u.t, .int .i64 u.wo, .int .i64 u.wi] 23)) V7.heap.size (.string u.nm) (.int .i64 u.k) (.int .i64 u.f) (.int .i64 u.t) (.int .i64 u.wo) (.int .i64 u.wi)) := RuA.six_new V7 u
    have HH7 : Hid (RuA.Hold w (V7.alloc (.cells #[.string u.nm, .int .i64 u.k, .int .i64 u.f, .int .i64 u.t, .int .i64 u.wo, .int .i64 u.wi] 23)) r) := (HH6.out.keep hb7).alloc _
    clear hb7 HH6 HPA
    go_wp2_with fail
    refine (HRO.out _).mono ?_
    rintro e V8 ⟨rfl, hb8⟩
    have HB9 : Hid (Below V8.heap.size V8 (V8.alloc (.cells #[.string u.nm, .int .i64 u.k, .int .i64 u.f, .int .i64 u.t, .int .i64 u.wo, .int .i64 u.wi] 23))) := (Below.refl _ _).alloc (Nat.le_refl _) _
    have HC8 : Hid (RuA.Cells6 V8 V7.heap.size (.string u.nm) (.int .i64 u.k) (.int .i64 u.f) (.int .i64 u.t) (.int .i64 u.wo) (.int .i64 u.wi)) := HC7.out.move (hb8.block _ HC7.out.lt) hb8.size
    have HC9 : Hid _ := HC8.out.move (HB9.out.block _ HC8.out.lt) HB9.out.size
    have HH9 : Hid (RuA.Hold w (V8.alloc (.cells #[.string u.nm, .int .i64 u.k, .int .i64 u.f, .int .i64 u.t, .int .i64 u.wo, .int .i64 u.wi] 23)) r) := (HH7.out.keep hb8).alloc _
    clear hb8 HH7 HRO HC7 HC8 HB9
    have c0 := HC9.out.c0
    have c1 := HC9.out.c1
    have c2 := HC9.out.c2
    have c3 := HC9.out.c3
    have c4 := HC9.out.c4
    have c5 := HC9.out.c5
    have hss : (u.nm.toList == u.nm.toList) = true := RuA.sbeq_true rfl
    go_upto_region 10 with fail
    go_cut [107] from 90 to 106 (fun v V => v = .bool false ∧ RuA.Hold w V r)
    case first =>
      have hk4 : k = 0 ∨ k = 4 := by
        rcases HPR.out with ⟨_, h⟩ | ⟨_, _, h⟩
        · exact Or.inl h
        · exact Or.inr h
      rcases hk4 with hk | hk
      · subst hk
        rw [show RuA.errV 0 = .nilIface from rfl]
        go_wp2_with fail
        refine (same_nil _).mono ?_
        rintro e V9 ⟨rfl, hV9⟩
        subst hV9
        go_wp2
        go_meet
        case rel => exact ⟨rfl, HH9.out⟩
      · subst hk
        rw [show RuA.errV 4 = .iface 57 (.int .i64 4) from rfl]
        go_wp2_with fail
        refine (RuA.same_40 _).mono ?_
        rintro e V9 ⟨rfl, hV9⟩
        subst hV9
        go_wp2_with fail
        refine (same_err 4 _ (by decide)).mono ?_
        rintro e V9 ⟨rfl, hV9⟩
        subst hV9
        go_wp2
        go_meet
        case rel => exact ⟨rfl, HH9.out⟩
    case rest =>
      obtain ⟨rfl, hh⟩ := hcut
      have HH6 : Hid (RuA.Hold w wc r) := hh
      clear hh c0 c1 c2 c3 c4 c5 HH9 HC9 HPR hss
      by_cases hwn : 1 ≤ Wd ∧ Wd ≤ 8 ∧ 1 ≤ nd ∧ nd ≤ Wd
      case neg =>
        go_wp2_with fail
        refine (tracked_bad Wd nd a E.length cap _ hwn).mono ?_
        rintro e V9 ⟨rfl, hV9⟩
        subst hV9
        clear hwn
        go_wp2
        go_ret
        exact ⟨rfl, HH6.out.bl⟩
      case pos =>
        obtain ⟨W, rfl⟩ : ∃ W : Nat, Wd = W := ⟨Wd.toNat, by omega⟩
        obtain ⟨need, rfl⟩ : ∃ need : Nat, nd = need := ⟨nd.toNat, by omega⟩
        have q1 : 1 ≤ W := by omega
        have q2 : W ≤ 8 := by omega
        have q3 : 1 ≤ need := by omega
        have q4 : need ≤ W := by omega
        clear hwn
        obtain ⟨i9, hi9, hz9, hs9, hb9⟩ := info_parts info9
        go_wp2_with fail
        refine (tracked_ok W need E a cap _ q1 q2 q3 q4 (HE.out.below HH6.out.bl) HLI.out).mono ?_
        rintro e w3 ⟨tb, rb, rfl, who, F, q0, hbt, hr, hb3⟩
        have hok : (oks E).length ≤ 25 := by
          have h1 := List.length_filter_le (fun l => l.all okS) E
          have h2 := (light_iff.1 HLI.out).1
          unfold oks
          omega
        generalize oks E = T at *
        obtain ⟨p4, c4, hv4⟩ := hbt.m.view
        have HBT : Hid (Bth wc.heap.size w3 tb rb who F W need q0 0 T) := hbt
        have HH3 : Hid (RuA.Hold w w3 r) := HH6.out.keep hb3
        have HV : Hid (∀ V, Below w3.heap.size w3 V → RfV V rb W need p4 c4 T) := fun V hV => hv4.below hV
        have HF : Hid (∀ b, F b → b < w3.heap.size) := fun b hb => hbt.m.lim hb
        have HLE : Hid (w.heap.size < wc.heap.size) := HH6.out.box.lt
        have hS0 : w3.cell? ⟨rb, 2, none⟩ = some (.slice p4 T.length c4) := hv4.c2
        clear hbt hb3 hv4 HE HLI HH6 HL
        obtain ⟨tl, htl⟩ : ∃ tl, tl = T.length := ⟨_, rfl⟩
        have HRT : Hid (∀ V, Below w3.heap.size w3 V → Calls Tryz.prog 14 #[.pointer (some ⟨rb, 0, none⟩), .int .i64 (tl : Int)] V fun e w' => ∃ v, e = .returned v ∧ ∃ L, TgsAt w' V.heap.size v L ∧ L.length ≤ 625 ∧ (∀ g, g ∈ L ↔ told g T = true) ∧ Below V.heap.size V w') := fun V hV => by
          have h := rtags_any (HV.out V hV)
          rw [← htl] at h
          exact h
        rw [← htl] at hS0 hok
        have HTL : Hid (tl = T.length) := htl
        clear htl
        go_wp2_with fail
        refine (HRT.out w3 (Below.refl _ _)).mono ?_
        rintro e V4 ⟨v, rfl, L, hT, hL, hm, hb⟩
        have HM : Hid (L.length ≤ 625 ∧ ∀ g, g ∈ L ↔ told g T = true) := ⟨hL, hm⟩
        have HBV4 : Hid (Below w3.heap.size w3 V4) := hb
        have hpo : (V4.alloc (.cells #[.string ⟨#[120]⟩] 9)).ownsRow w3.heap.size 9 1 v L.length (L.map sv) := hT.own.alloc (.cells #[.string ⟨#[120]⟩] 9)
        clear hT hm hb hS0
        go_wp2_with (at_builtin; refine wpList_append_lies _ rfl _ _ 43 rfl w3.heap.size 9 i9 (.string ⟨#[]⟩) 1 16 Tryz.underlying43 hi9 hz9 hs9 hb9 rfl (by decide) _ _ _ rfl hpo ⟨V4.heap.size, 0, none⟩ 1 1 [.string ⟨#[120]⟩] rfl rfl ?q1 ?q2 (by omega) ?q3 ?q4 ?q5 (V4.heap.size + 1) ?q6 ?_)
        case q1 => exact new1 (Go.heap_alloc_new V4 _)
        case q2 => intro u hu; simp at hu; subst hu; rfl
        case q3 => unfold maxLen; omega
        case q4 => omega
        case q5 => exact (HBV4.out.alloc HBV4.out.size (.cells #[.string ⟨#[120]⟩] 9)).size
        case q6 => simp
        intro g3 c3 V5 hown3 hgrow3 hat3 hlt3
        have HB5 : Hid (Below w3.heap.size w3 V5) := (HBV4.out.alloc HBV4.out.size (.cells #[.string ⟨#[120]⟩] 9)).trans ⟨hgrow3.os, hgrow3.tape, hgrow3.output, hgrow3.size, fun j hj => hgrow3.block j (Nat.lt_of_lt_of_le hj (HBV4.out.alloc HBV4.out.size (.cells #[.string ⟨#[120]⟩] 9)).size) (fun e => by have h := (World.ownsRow.lt hpo j e.symm).1; omega)⟩
        have HTS : Hid (TsOn V5 F (some ⟨g3, 0, none⟩) (L ++ [(⟨#[120]⟩ : ByteArray)])) := ts_of hown3 (Nat.le_refl _) HF.out
        have HSM : Hid (∀ g, g ∈ L ++ [(⟨#[120]⟩ : ByteArray)] → g.size ≤ 100000) := fun g hg => by
          rcases List.mem_append.1 hg with h | h
          · have h2 := told_small (HV.out w3 (Below.refl _ _)).good ((HM.out.2 g).1 h)
            omega
          · simp at h; rw [h]; decide
        have HLN : Hid ((L ++ [(⟨#[120]⟩ : ByteArray)]).length = L.length + 1) := by
          show (L ++ [(⟨#[120]⟩ : ByteArray)]).length = L.length + 1
          simp
        clear hown3 hgrow3 hat3 hlt3 hpo HM HRT HV
        generalize hLL : L ++ [(⟨#[120]⟩ : ByteArray)] = LL at *
        clear hLL
        generalize L.length = Ln at *
        have HQ : Hid (QS w V5 wc.heap.size tb rb who F W need q0 0 T r g3 LL) := ⟨(HH3.out.keep HB5.out).bl, HTT.out.below (HH3.out.keep HB5.out).bl HTT.out.size, (HH3.out.keep HB5.out).box, HBT.out.below HB5.out, HTS.out, HLE.out, HTT.out.size⟩
        clear HBT HH3 HF HLE HB5 HBV4 HTS HTT HT HFN
        have hnm : r.nm.size ≤ 9223372036854775807 := by omega
        have HNM : Hid (r.nm.size ≤ 9223372036854775807) := hnm
        clear hnm
        go_wp2
        go_loopw [22, 23] (fun i _ V => ∃ j : Nat, j ≤ Ln + 1 ∧ i = .int .i64 j ∧ QS w V wc.heap.size tb rb who F W need q0 (j * 300000) T r g3 LL) (fun i _ _ => Ln + 1 - (intOf i).toNat)
        case atStart => exact ⟨0, Nat.zero_le _, rfl, HQ.out⟩
        case round =>
          obtain ⟨j, hj, rfl, hqs⟩ := hrel
          have HQ1 : Hid (QS w wr wc.heap.size tb rb who F W need q0 (j * 300000) T r g3 LL) := hqs
          clear hqs HQ
          by_cases hjl : j < Ln + 1
          case neg =>
            obtain rfl : j = Ln + 1 := by omega
            go_wp2
            go_ret
            exact ⟨rfl, HQ1.out.bl⟩
          case pos =>
            have hjI : (j : Int) < (Ln : Int) + 1 := by omega
            have hj0 : (0 : Int) ≤ (j : Int) := by omega
            obtain ⟨gg, hgg⟩ : ∃ gg, LL[j]? = some gg := ⟨_, List.getElem?_eq_getElem (by rw [HLN.out]; exact hjl)⟩
            have hgs : gg.size ≤ 100000 := HSM.out gg (List.mem_of_getElem? hgg)
            have HTG : Hid (∀ V qq, QS w V wc.heap.size tb rb who F W need q0 qq T r g3 LL → V.cell? ⟨g3, j, none⟩ = some (.string gg)) := fun V qq hV => by
              obtain ⟨g', o', hp', hc', _, _⟩ := hV.ts.at_ j gg hgg
              cases hp'
              rw [Nat.zero_add] at hc'
              exact hc'
            clear hgg
            go_wp2
            go_loopw [23] (fun e V => ∃ y : Nat, y ≤ tl + 2 ∧ e = .int .i64 ((y : Int) - 1) ∧ QS w V wc.heap.size tb rb who F W need q0 (j * 300000 + y * 10000) T r g3 LL) (fun e _ => tl + 2 - (intOf e + 1).toNat)
            case atStart => exact ⟨0, Nat.zero_le _, rfl, by rw [Nat.zero_mul, Nat.add_zero]; exact HQ1.out⟩
            case round =>
              obtain ⟨y, hy, rfl, hqs⟩ := hrel
              have HQ2 : Hid (QS w wr wc.heap.size tb rb who F W need q0 (j * 300000 + y * 10000) T r g3 LL) := hqs
              obtain ⟨p5, c5', hv5⟩ := hqs.b.m.view
              have hS2 := hv5.c2
              rw [← HTL.out] at hS2
              clear hqs hv5 HQ1
              by_cases hyl : y < tl + 2
              case neg =>
                obtain rfl : y = tl + 2 := by omega
                have hI : ¬ ((tl + 2 : Nat) : Int) - 1 ≤ (tl : Int) := by omega
                have hD : decide (((tl + 2 : Nat) : Int) - 1 ≤ (tl : Int)) = false := by simpa using hI
                go_wp2
                go_roundw
                case rel => exact ⟨j + 1, by omega, by first | rfl | go_num, by have h := HQ2.out; exact ⟨h.bl, h.tt, h.box, h.b.more (by omega), h.ts, h.lo, h.w7⟩⟩
                case measure => simp [intOf]; omega
              case pos =>
                have hI1 : (y : Int) - 1 ≤ (tl : Int) := by omega
                have hI2 : (y : Int) ≤ (tl : Int) + 1 := by omega
                have hI3 : y ≤ tl + 1 := by omega
                have hI4 : decide ((y : Int) - 1 ≤ (tl : Int)) = true := by simpa using hI1
                obtain ⟨bb, hbb⟩ : ∃ bb : Bool, bb = true ↔ HlA.HoldsP gg (epOf T) W need T.length (told gg T) r ((y : Int) - 1) := by
                  classical
                  exact ⟨decide (HlA.HoldsP gg (epOf T) W need T.length (told gg T) r ((y : Int) - 1)), by simp⟩
                have hTl := HTL.out
                have HCA : Hid (∀ V qq, QS w V wc.heap.size tb rb who F W need q0 qq T r g3 LL → Calls Tryz.prog 15 #[.pointer (some ⟨tb, 0, none⟩), .agg #[.string r.nm, .int .i64 r.k, .int .i64 r.f, .int .i64 r.t, .int .i64 r.wo, .int .i64 r.wi], .string gg, .int .i64 ((y : Int) - 1)] V fun e w' => e = .returned (.bool bb) ∧ QS w w' wc.heap.size tb rb who F W need q0 qq T r g3 LL) := fun V qq hV => by
                  refine (HlA.holds_any r gg ((y : Int) - 1) hV.b.t hV.tt q2 (by omega) hgs told_iff (by omega) (by omega) HNM.out hbb).mono ?_
                  rintro e w' ⟨rfl, hb⟩
                  exact ⟨rfl, hV.keep hb⟩
                have HCB : Hid (∀ V qq, qq ≤ 8000000000 → QS w V wc.heap.size tb rb who F W need q0 qq T r g3 LL → Calls Tryz.prog 16 #[.pointer (some ⟨rb, 0, none⟩), .agg #[.string r.nm, .int .i64 r.k, .int .i64 r.f, .int .i64 r.t, .int .i64 r.wo, .int .i64 r.wi], .string gg, .int .i64 ((y : Int) - 1)] V fun e w' => e = .returned (.bool bb) ∧ QS w w' wc.heap.size tb rb who F W need q0 (qq + 10000) T r g3 LL) := fun V qq hq hV => by
                  refine (HlA.rholds_any r gg ((y : Int) - 1) hV.b.m q2 hgs hq (by omega) (by omega) HNM.out hbb).mono ?_
                  rintro e w' ⟨rfl, hd, hk⟩
                  exact ⟨rfl, hV.ref hd hk⟩
                clear hbb hTl
                have hQ3 : Hid (∀ dd, QS w (wr.drewN dd) wc.heap.size tb rb who F W need q0 (j * 300000 + y * 10000) T r g3 LL) := fun dd => HQ2.out.keep (drewN_below wr dd)
                have hbne : (bb != bb) = false := by simp
                have m0 := HQ2.out.box.c0; have m1 := HQ2.out.box.c1; have m2 := HQ2.out.box.c2; have m3 := HQ2.out.box.c3; have m4 := HQ2.out.box.c4; have m5 := HQ2.out.box.c5
                have m6 : wr.cell? ⟨g3, j, none⟩ = some (.string gg) := HTG.out _ _ HQ2.out
                go_upto_region 22 with fail
                clear hS2
                go_region_held3 (fun U => U.cell? ⟨w.heap.size, 0, none⟩ = some (.string r.nm) ∧ U.cell? ⟨w.heap.size, 1, none⟩ = some (.int .i64 r.k) ∧ U.cell? ⟨w.heap.size, 2, none⟩ = some (.int .i64 r.f) ∧ U.cell? ⟨w.heap.size, 3, none⟩ = some (.int .i64 r.t) ∧ U.cell? ⟨w.heap.size, 4, none⟩ = some (.int .i64 r.wo) ∧ U.cell? ⟨w.heap.size, 5, none⟩ = some (.int .i64 r.wi) ∧ U.cell? ⟨g3, j, none⟩ = some (.string gg)) (go_keep)
                  (first | (go_at_call 15; refine (HCA.out _ _ (hQ3.out 1)).mono ?_; rintro e w5 ⟨rfl, hq5⟩; have HQ5 : Hid (QS w w5 wc.heap.size tb rb who F W need q0 (j * 300000 + y * 10000) T r g3 LL) := hq5; clear hq5; have t0 := HQ5.out.box.c0; have t1 := HQ5.out.box.c1; have t2 := HQ5.out.box.c2; have t3 := HQ5.out.box.c3; have t4 := HQ5.out.box.c4; have t5 := HQ5.out.box.c5; have t6 : w5.cell? ⟨g3, j, none⟩ = some (.string gg) := HTG.out _ _ HQ5.out) | (go_at_call 16; refine (HCB.out _ _ (by omega) HQ5.out).mono ?_; rintro e w6 ⟨rfl, hq6⟩; have HQ6 : Hid (QS w w6 wc.heap.size tb rb who F W need q0 (j * 300000 + y * 10000 + 10000) T r g3 LL) := hq6; clear hq6; have s0 := HQ6.out.box.c0; have s1 := HQ6.out.box.c1; have s2 := HQ6.out.box.c2; have s3 := HQ6.out.box.c3; have s4 := HQ6.out.box.c4; have s5 := HQ6.out.box.c5; have s6 : w6.cell? ⟨g3, j, none⟩ = some (.string gg) := HTG.out _ _ HQ6.out))
                clear m0 m1 m2 m3 m4 m5 m6 t0 t1 t2 t3 t4 t5 t6 s0 s1 s2 s3 s4 s5 s6 HCA HCB hQ3 HQ2 HQ5
                go_wp2
                go_roundw
                case rel => exact ⟨y + 1, by omega, by first | rfl | go_num | (congr 1; omega), by rw [Nat.add_mul, Nat.one_mul, ← Nat.add_assoc]; exact HQ6.out⟩
                case measure => simp [intOf]; omega
end
end Go.Proofs.YtnahkonklkcbeabGreatDoor.RsA
