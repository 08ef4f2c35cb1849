/-
  What Holds does to the world.
-/
import Derived.Test.YtnahkonklkcbeabGreatDoorRuP
namespace Go.Proofs.YtnahkonklkcbeabGreatDoor.HlA
open Go.RowKit TkM TkW TkA RuM
set_option maxRecDepth 100000

/-- Where it came to, and where it was. -/
def cm (g : ByteArray) (ep : Nat → List Sg) (W need n : Nat) (t : Bool) (p e : Int) : Bool := comesB n t p e (fun e => whr g ep W need e.toNat)
def ws (g : ByteArray) (ep : Nat → List Sg) (W need n : Nat) (t : Bool) (p e : Int) : Bool := wasB n t p e (whr g ep W need e.toNat)
/-- The rule is so of a tag in an epoch. -/
def HoldsP (g : ByteArray) (ep : Nat → List Sg) (W need n : Nat) (t : Bool) (r : Rl) (e : Int) : Prop :=
  r.ok ∧ ofK g r.k = true ∧ cm g ep W need n t r.t e = true ∧ RuN.Back (cm g ep W need n t r.f) (ws g ep W need n t r.wo) (max 0 (e - r.wi)) e
/-- Holds at work. -/
structure HS (w V : World) (tb : Nat) (who : Nat → Nat × ByteArray × Nat) (W need n q : Nat) (ep : Nat → List Sg) (r : Rl) : Prop where
  bl : Below w.heap.size w V
  d : TrAt V tb who W need n q ep
  T : TagA.Tabs V
  box : RuA.Cells6 V w.heap.size (.string r.nm) (.int .i64 r.k) (.int .i64 r.f) (.int .i64 r.t) (.int .i64 r.wo) (.int .i64 r.wi)
section
variable {w : World} {tb : Nat} {who : Nat → Nat × ByteArray × Nat} {W need n q : Nat} {ep : Nat → List Sg}
theorem HS.keep {V V' : World} {r : Rl} (h : HS w V tb who W need n q ep r) (hb : Below V.heap.size V V') : HS w V' tb who W need n q ep r :=
  ⟨h.bl.trans (hb.mono h.bl.size), h.d.below hb, h.T.below hb h.T.size, h.box.move (hb.block _ h.box.lt) hb.size⟩
theorem hs_new (r : Rl) (d : TrAt w tb who W need n q ep) (hT : TagA.Tabs w) : HS w (w.alloc (.cells #[.string r.nm, .int .i64 r.k, .int .i64 r.f, .int .i64 r.t, .int .i64 r.wo, .int .i64 r.wi] 23)) tb who W need n q ep r := by
  have hB : Below w.heap.size w (w.alloc (.cells #[.string r.nm, .int .i64 r.k, .int .i64 r.f, .int .i64 r.t, .int .i64 r.wo, .int .i64 r.wi] 23)) := (Below.refl _ w).alloc (Nat.le_refl _) _
  refine ⟨hB, d.below hB, hT.below hB hT.size, ⟨?_, ?_, ?_, ?_, ?_, ?_, ?_, ?_⟩⟩
  all_goals first | go_simp | (intro i; go_simp)
set_option maxHeartbeats 4000000 in
theorem holds_any (r : Rl) (g : ByteArray) (e : Int) {t b : Bool} (d : TrAt w tb who W need n q ep) (hT : TagA.Tabs w) (hW : W ≤ 8) (hn : n ≤ 100) (hg : g.size ≤ 100000) (ht : t = true ↔ ∃ e, seenG g (ep e) = true) (he0 : -1 ≤ e) (he1 : e ≤ 100) (hnm : r.nm.size ≤ 9223372036854775807)
    (hb : b = true ↔ HoldsP g ep W need n t r e) :
    Calls Tryz.prog 15 #[.pointer (some ⟨tb, 0, none⟩), RuA.rV r, .string g, .int .i64 e] w fun x w' => x = .returned (.bool b) ∧ Below w.heap.size w w' := by
  have HB : Hid (b = true ↔ HoldsP g ep W need n t r e) := hb
  have HN : Hid (∃ m, r.flt m) := flt_ex r
  have HC : Hid (∀ (V : World) (p x : Int), TrAt V tb who W need n q ep → -1000 ≤ x → x ≤ 1000 → Calls Tryz.prog 33 #[.pointer (some ⟨tb, 0, none⟩), .string g, .int .i64 p, .int .i64 x] V fun y w' => y = .returned (.bool (cm g ep W need n t p x)) ∧ Below V.heap.size V w') := fun V p x hV h0 h1 => comes_any g p x hV hW (by omega) hg ht h0 h1
  have HWA : Hid (∀ (V : World) (p x : Int), TrAt V tb who W need n q ep → Calls Tryz.prog 34 #[.pointer (some ⟨tb, 0, none⟩), .string g, .int .i64 p, .int .i64 x] V fun y w' => y = .returned (.bool (ws g ep W need n t p x)) ∧ Below V.heap.size V w') := fun V p x hV => wasAt_any g p x hV hW (by omega) hg ht
  have HK : Hid (∀ (V : World) (k : Int), TagA.Tabs V → Calls Tryz.prog 32 #[.string g, .int .i64 k] V fun y w' => y = .returned (.bool (ofK g k)) ∧ Below V.heap.size V w') := fun V k hV => isOfKind_any g k V hV hg
  have HH : Hid _ := hs_new r d hT
  have HCK : Hid (∀ (V : World) (m : Nat), r.flt m → Calls Tryz.prog 9 #[RuA.rV r] V fun y w' => y = .returned (RuA.errV m) ∧ Below V.heap.size V w') := fun V m hm => RuA.check_any r V hnm hm
  clear hb d hT ht hnm
  unfold RuA.rV at HCK ⊢
  by_cases hok : r.ok
  case neg =>
    have hbf : b = false := by rw [← Bool.not_eq_true, HB.out]; exact fun h => hok h.1
    subst hbf
    obtain ⟨m, hm⟩ := HN.out
    have hm0 : m ≠ 0 := fun h => hok ((flt_ok hm).1 h)
    have HX : Hid (∀ V : World, Calls Tryz.prog 9 #[.agg #[.string r.nm, .int .i64 r.k, .int .i64 r.f, .int .i64 r.t, .int .i64 r.wo, .int .i64 r.wi]] V fun y w' => y = .returned (.iface 57 (.int .i64 (m : Int))) ∧ Below V.heap.size V w') := fun V => by
      have h := HCK.out V m hm
      rw [show RuA.errV m = .iface 57 (.int .i64 (m : Int)) from if_neg hm0] at h
      exact h
    clear hok hm hm0 HN HCK
    go_enter Tryz.func15, Tryz.ntmps15
    go_wp2_with fail
    refine (HX.out _).mono ?_
    rintro y V1 ⟨rfl, hb1⟩
    have HB1 : Hid (Below w.heap.size w V1) := (HH.out.keep hb1).bl
    clear hb1
    go_wp2
    go_ret
    exact ⟨rfl, HB1.out⟩
  have HX : Hid (∀ V : World, Calls Tryz.prog 9 #[.agg #[.string r.nm, .int .i64 r.k, .int .i64 r.f, .int .i64 r.t, .int .i64 r.wo, .int .i64 r.wi]] V fun y w' => y = .returned .nilIface ∧ Below V.heap.size V w') := fun V => HCK.out V 0 (Or.inr (Or.inr (Or.inr ⟨hok, rfl⟩)))
  have hF := hok.2.1.2.1
  have hI := hok.2.1.2.2.2.2
  have HOK : Hid r.ok := hok
  clear hok HN HCK
  go_enter Tryz.func15, Tryz.ntmps15
  go_wp2_with fail
  refine (HX.out _).mono ?_
  rintro y V1 ⟨rfl, hb1⟩
  have HH1 : Hid _ := HH.out.keep hb1
  clear hb1 HH HX
  have c1 := HH1.out.box.c1
  go_wp2_with fail
  refine (HK.out _ r.k HH1.out.T).mono ?_
  rintro y V2 ⟨rfl, hb2⟩
  have HH2 : Hid _ := HH1.out.keep hb2
  clear hb2 HH1 c1 HK
  cases hkd : ofK g r.k with
  | false =>
    have hbf : b = false := by rw [← Bool.not_eq_true, HB.out]; exact fun h => by have h2 := h.2.1; rw [hkd] at h2; exact Bool.noConfusion h2
    subst hbf
    go_wp2
    go_ret
    exact ⟨rfl, HH2.out.bl⟩
  | true =>
    have c3 := HH2.out.box.c3
    go_wp2_with fail
    refine (HC.out _ r.t e HH2.out.d (by omega) (by omega)).mono ?_
    rintro y V3 ⟨rfl, hb3⟩
    have HH3 : Hid _ := HH2.out.keep hb3
    clear hb3 HH2 c3
    cases hct : cm g ep W need n t r.t e with
    | false =>
      have hbf : b = false := by rw [← Bool.not_eq_true, HB.out]; exact fun h => by have h2 := h.2.2.1; rw [hct] at h2; exact Bool.noConfusion h2
      subst hbf
      go_wp2
      go_ret
      exact ⟨rfl, HH3.out.bl⟩
    | true =>
      have HBK : Hid (b = true ↔ RuN.Back (cm g ep W need n t r.f) (ws g ep W need n t r.wo) (max 0 (e - r.wi)) e) := ⟨fun h => (HB.out.1 h).2.2.2, fun h => HB.out.2 ⟨HOK.out, hkd, hct, h⟩⟩
      have w1 : IntKind.i64.wrap (e - 1) = e - 1 := by simp [IntKind.wrap, IntKind.bits, IntKind.signed]; omega
      have w2 : IntKind.i64.wrap (e - r.wi) = e - r.wi := by simp [IntKind.wrap, IntKind.bits, IntKind.signed]; omega
      clear hkd hct HB HOK
      go_wp2
      go_loopw [9] (fun i V => ∃ x : Int, -1000 ≤ x ∧ x < e ∧ i = .int .i64 x ∧ RuN.Down (cm g ep W need n t r.f) (ws g ep W need n t r.wo) e x ∧ HS w V tb who W need n q ep r) (fun i _ => ((intOf i) + 1000).toNat)
      case atStart => exact ⟨e - 1, by omega, by omega, rfl, RuN.down_start _ _ _, HH3.out⟩
      case round =>
        obtain ⟨x, hx0, hx1, rfl, hdn, hhs⟩ := hrel
        have HDN : Hid (RuN.Down (cm g ep W need n t r.f) (ws g ep W need n t r.wo) e x) := hdn
        have HHS : Hid (HS w wr tb who W need n q ep r) := hhs
        have c5 := hhs.box.c5
        have c2 := hhs.box.c2
        clear hdn hhs HH3
        by_cases hlo : max 0 (e - r.wi) ≤ x
        case neg =>
          have hl1 : decide (max 0 (e - r.wi) ≤ x) = false := by simpa using hlo
          have hbf : b = false := by rw [← Bool.not_eq_true, HBK.out]; exact RuN.down_end HDN.out (by omega)
          subst hbf
          go_wp2
          go_ret
          exact ⟨rfl, HHS.out.bl⟩
        case pos =>
          have hl1 : decide (max 0 (e - r.wi) ≤ x) = true := by simpa using hlo
          go_wp2_with fail
          refine (HC.out _ r.f x HHS.out.d (by omega) (by omega)).mono ?_
          rintro y V4 ⟨rfl, hb4⟩
          have HH4 : Hid (HS w V4 tb who W need n q ep r) := HHS.out.keep hb4
          clear hb4 HHS c5 c2
          cases hcf : cm g ep W need n t r.f x with
          | true =>
            have hbt : b = true := HBK.out.2 (RuN.down_yes HDN.out hlo hx1 hcf)
            subst hbt
            go_wp2
            go_ret
            exact ⟨rfl, HH4.out.bl⟩
          | false =>
            have c4 := HH4.out.box.c4
            go_wp2_with fail
            refine (HWA.out _ r.wo x HH4.out.d).mono ?_
            rintro y V5 ⟨rfl, hb5⟩
            have HH5 : Hid (HS w V5 tb who W need n q ep r) := HH4.out.keep hb5
            clear hb5 HH4 c4
            cases hwf : ws g ep W need n t r.wo x with
            | true =>
              have hbf : b = false := by rw [← Bool.not_eq_true, HBK.out]; exact RuN.down_no HDN.out hx1 hcf hwf
              subst hbf
              go_wp2
              go_ret
              exact ⟨rfl, HH5.out.bl⟩
            | false =>
              have HDN2 : Hid (RuN.Down (cm g ep W need n t r.f) (ws g ep W need n t r.wo) e (x - 1)) := RuN.down_step HDN.out hcf hwf
              have w3 : IntKind.i64.wrap (x - 1) = x - 1 := by simp [IntKind.wrap, IntKind.bits, IntKind.signed]; omega
              clear hcf hwf HDN
              go_wp2
              go_roundw
              case rel => exact ⟨x - 1, by omega, by omega, rfl, HDN2.out, HH5.out⟩
              case measure => simp [intOf]; omega
end
end Go.Proofs.YtnahkonklkcbeabGreatDoor.HlA
