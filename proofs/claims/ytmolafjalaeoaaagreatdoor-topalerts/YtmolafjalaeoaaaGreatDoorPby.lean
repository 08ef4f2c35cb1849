/-
  What the document's own answer does to the world: Holds. · What comes and follows of the statements do to the world. · What follows of the statements does to the world.
-/
import Derived.Test.YtmolafjalaeoaaaGreatDoorPaq
import Derived.Test.YtmolafjalaeoaaaGreatDoorPbo
import Derived.Test.YtmolafjalaeoaaaGreatDoorPbc
import Derived.Test.YtmolafjalaeoaaaGreatDoorPat
import Derived.Test.YtmolafjalaeoaaaGreatDoorPar
import Derived.Deep.RegionHeld3
namespace Go.Proofs.YtmolafjalaeoaaaGreatDoor.HlA
open Go.RowKit TkM TkW TkA RuM
set_option maxRecDepth 100000
/-- The document's Holds at work. -/
structure RS (w V : World) (rb : Nat) (F : Nat → Prop) (W need q : Nat) (E : List (List Sg)) (r : Rl) : Prop where
  kp : Kp F w V
  d : RfAt V rb F W need q E
  box : RuA.Cells6 V w.heap.size (.string r.nm) (.int .i64 r.k) (.int .i64 r.f) (.int .i64 r.t) (.int .i64 r.wo) (.int .i64 r.wi)
  lim : ∀ b, F b → b < w.heap.size
section
variable {w : World} {rb : Nat} {F : Nat → Prop} {W need q : Nat} {E : List (List Sg)}
theorem cm_true {g : ByteArray} {ep : Nat → List Sg} {W need n : Nat} {t : Bool} {p e : Int} (h : cm g ep W need n t p e = true) : (0 ≤ e ∧ e < (n : Int)) ∧ t = true := by
  unfold cm comesB at h
  rw [Bool.and_eq_true] at h
  have := isA_true h.1
  exact ⟨this.1, this.2.1⟩
theorem ws_in {g : ByteArray} {ep : Nat → List Sg} {W need n : Nat} {p : Int} {e : Nat} (he : e < n) : ws g ep W need n true p (e : Int) = ((p != -1) && (whr g ep W need e == p)) := by
  unfold ws wasB wv
  rw [if_pos ⟨by omega, by omega⟩]
  simp
/-- Came, and was nowhere that it may not be so far. -/
def Came (g : ByteArray) (ep : Nat → List Sg) (W need n : Nat) (t : Bool) (r : Rl) (x y : Nat) : Prop :=
  cm g ep W need n t r.f (x : Int) = true ∧ ∀ z : Int, (x : Int) < z → z < (y : Int) → ws g ep W need n t r.wo z = false
theorem came_start {g : ByteArray} {ep : Nat → List Sg} {W need n : Nat} {t : Bool} {r : Rl} {x : Nat} : cm g ep W need n t r.f (x : Int) = true ↔ Came g ep W need n t r x (x + 1) :=
  ⟨fun h => ⟨h, fun z h1 h2 => by omega⟩, fun h => h.1⟩
theorem came_step {g : ByteArray} {ep : Nat → List Sg} {W need n : Nat} {t : Bool} {r : Rl} {x y : Nat} (hxy : x < y) : Came g ep W need n t r x (y + 1) ↔ Came g ep W need n t r x y ∧ ws g ep W need n t r.wo (y : Int) = false := by
  constructor
  · intro h
    exact ⟨⟨h.1, fun z h1 h2 => h.2 z h1 (by omega)⟩, h.2 (y : Int) (by omega) (by omega)⟩
  · rintro ⟨h, h2⟩
    refine ⟨h.1, fun z h3 h4 => ?_⟩
    by_cases hz : z = (y : Int)
    · rw [hz]; exact h2
    · exact h.2 z h3 (by omega)
end
end Go.Proofs.YtmolafjalaeoaaaGreatDoor.HlA
namespace Go.Proofs.YtmolafjalaeoaaaGreatDoor.WdA
open Go.RowKit TkW WaM WaW WaB Go.Maps
open TkM (Sg epOf told whr)
open TkA (wv isA comesB)
open RuM (Rl)
open HlA (cm ws ws_in Came came_start came_step)
set_option maxRecDepth 100000
theorem wv_in {n : Nat} {e : Nat} (h : e < n) (v : Int) : wv n true (e : Int) v = (v, 0) := by
  unfold wv
  rw [if_pos ⟨by omega, by omega⟩, if_pos rfl]
theorem wv_not {n : Nat} {e : Nat} (h : e < n) (v : Int) : wv n false (e : Int) v = (0, 5) := by
  unfold wv
  rw [if_pos ⟨by omega, by omega⟩, if_neg (by decide)]
theorem cm_not {g : ByteArray} {ep : Nat → List Sg} {W need n : Nat} {p e : Int} : cm g ep W need n false p e = false := by
  cases h : cm g ep W need n false p e with
  | false => rfl
  | true => exact absurd (HlA.cm_true h).2 (by decide)
theorem cm_zero {g : ByteArray} {ep : Nat → List Sg} {W need n : Nat} {p : Int} (h : 0 < n) (hp : 0 ≤ p) : cm g ep W need n true p ((0 : Nat) : Int) = (whr g ep W need 0 == p) := by
  show (isA n true p ((0 : Nat) : Int) (whr g ep W need (((0 : Nat) : Int)).toNat) && !isA n true p (((0 : Nat) : Int) - 1) (whr g ep W need (((0 : Nat) : Int) - 1).toNat)) = _
  rw [TkA.isA_mk ⟨by omega, by omega⟩ hp, TkA.isA_out (by omega), Int.toNat_natCast, Bool.not_false, Bool.and_true]
  rfl
theorem cm_succ {g : ByteArray} {ep : Nat → List Sg} {W need n e : Nat} {p : Int} (h : e + 1 < n) (hp : 0 ≤ p) : cm g ep W need n true p ((e + 1 : Nat) : Int) = ((whr g ep W need (e + 1) == p) && (whr g ep W need e != p)) := by
  have e2 : ((e + 1 : Nat) : Int) - 1 = (e : Int) := by omega
  show (isA n true p ((e + 1 : Nat) : Int) (whr g ep W need (((e + 1 : Nat) : Int)).toNat) && !isA n true p (((e + 1 : Nat) : Int) - 1) (whr g ep W need (((e + 1 : Nat) : Int) - 1).toNat)) = _
  rw [e2, TkA.isA_mk ⟨by omega, by omega⟩ hp, TkA.isA_mk ⟨by omega, by omega⟩ hp, Int.toNat_natCast, Int.toNat_natCast]
  rfl
section
variable {w : World} {wb : Nat} {ow : Nat → Nat} {c : Cf} {rs : List Rl} {s : St} {K : Nat}
set_option maxHeartbeats 1000000 in
theorem comes_w (g : ByteArray) (p : Int) (e : Nat) (h : WaK w wb ow c rs s K) (hg : g.size ≤ 100000) (he : e < K) (hp : 0 ≤ p) (hK : K ≤ 1000) :
    Calls Tryz.prog 62 #[.pointer (some ⟨wb, 0, none⟩), .string g, .int .i64 p, .int .i64 (e : Int)] w fun x w' => x = .returned (.bool (cm g (epOf (Ep c s K)) c.W c.need K (told g (Ep c s K)) p (e : Int))) ∧ Below w.heap.size w w' := by
  have HW : Hid (∀ V (x : Nat), Below w.heap.size w V → Calls Tryz.prog 29 #[.pointer (some ⟨wb, 0, none⟩), .string g, .int .i64 (x : Int)] V fun y w' => y = .returned (.tuple #[.int .i64 (wv K (told g (Ep c s K)) (x : Int) (whr g (epOf (Ep c s K)) c.W c.need x)).1, TkA.errV (wv K (told g (Ep c s K)) (x : Int) (whr g (epOf (Ep c s K)) c.W c.need x)).2]) ∧ Below w.heap.size w w') := fun V x hV =>
    (where_any g (x : Int) (h.below hV) hg).mono (fun y w' ⟨h1, h2⟩ => ⟨by simpa using h1, hV.trans (h2.mono hV.size)⟩)
  clear h
  cases ht : told g (Ep c s K) with
  | false =>
    rw [ht] at HW
    have HW1 := HW.out w e (Below.refl _ _)
    rw [wv_not he] at HW1
    rw [cm_not]
    have e5 : TkA.errV (0, 5).2 = .iface 105 (.int .i64 5) := rfl
    rw [e5] at HW1
    have HF : Hid _ := HW1
    clear HW1 e5 ht
    go_enter Tryz.func62, Tryz.ntmps62
    go_wp2_with fail
    refine Calls.mono HF.out ?_
    rintro y v1 ⟨rfl, hb1⟩
    have HB : Hid (Below w.heap.size w v1) := hb1
    clear hb1
    go_wp2
    go_ret
    exact ⟨rfl, HB.out⟩
  | true =>
    rw [ht] at HW
    have HF : Hid (∀ V (x : Nat), x < K → Below w.heap.size w V → Calls Tryz.prog 29 #[.pointer (some ⟨wb, 0, none⟩), .string g, .int .i64 (x : Int)] V fun y w' => y = .returned (.tuple #[.int .i64 (whr g (epOf (Ep c s K)) c.W c.need x), .nilIface]) ∧ Below w.heap.size w w') := fun V x hx hV => by
      have := HW.out V x hV
      rw [wv_in hx] at this
      exact this
    clear HW ht
    match e, he with
    | 0, he =>
      rw [cm_zero he hp]
      have HF0 : Hid _ := HF.out w 0 he (Below.refl _ _)
      generalize whr g (epOf (Ep c s K)) c.W c.need 0 = v at *
      clear HF
      cases hv : (v == p) with
      | false =>
        have hv2 : (v != p) = true := by simpa using hv
        go_enter Tryz.func62, Tryz.ntmps62
        go_wp2_with fail
        refine Calls.mono HF0.out ?_
        rintro y v1 ⟨rfl, hb1⟩
        have HB : Hid (Below w.heap.size w v1) := hb1
        clear hb1
        go_wp2
        go_ret
        exact ⟨rfl, HB.out⟩
      | true =>
        have hv2 : (v != p) = false := by simpa using hv
        go_enter Tryz.func62, Tryz.ntmps62
        go_wp2_with fail
        refine Calls.mono HF0.out ?_
        rintro y v1 ⟨rfl, hb1⟩
        have HB : Hid (Below w.heap.size w v1) := hb1
        clear hb1
        go_wp2
        go_ret
        exact ⟨rfl, HB.out⟩
    | e + 1, he =>
      rw [cm_succ he hp]
      have HF0 : Hid _ := HF.out w (e + 1) he (Below.refl _ _)
      have HF1 : Hid _ := fun V (hV : Below w.heap.size w V) => HF.out V e (by omega) hV
      have hz : (((e + 1 : Nat) : Int) == 0) = false := by rw [beq_eq_false_iff_ne]; omega
      have hs1 : IntKind.i64.wrap (((e + 1 : Nat) : Int) - 1) = (e : Int) := by simp [IntKind.wrap, IntKind.bits, IntKind.signed]; omega
      generalize whr g (epOf (Ep c s K)) c.W c.need (e + 1) = v at *
      generalize whr g (epOf (Ep c s K)) c.W c.need e = u at *
      clear HF
      generalize ((e + 1 : Nat) : Int) = E at *
      cases hv : (v == p) with
      | false =>
        have hv2 : (v != p) = true := by simpa using hv
        go_enter Tryz.func62, Tryz.ntmps62
        go_wp2_with fail
        refine Calls.mono HF0.out ?_
        rintro y v1 ⟨rfl, hb1⟩
        have HB : Hid (Below w.heap.size w v1) := hb1
        clear hb1
        go_wp2
        go_ret
        exact ⟨rfl, HB.out⟩
      | true =>
        have hv2 : (v != p) = false := by simpa using hv
        go_enter Tryz.func62, Tryz.ntmps62
        go_wp2_with fail
        refine Calls.mono HF0.out ?_
        rintro y v1 ⟨rfl, hb1⟩
        have HB : Hid (Below w.heap.size w v1) := hb1
        clear hb1
        go_wp2_with fail
        refine Calls.mono (HF1.out _ HB.out) ?_
        rintro y v2 ⟨rfl, hb2⟩
        have HB2 : Hid (Below w.heap.size w v2) := hb2
        clear hb2
        go_wp2
        go_ret
        exact ⟨by simp, HB2.out⟩
end
end Go.Proofs.YtmolafjalaeoaaaGreatDoor.WdA
namespace Go.Proofs.YtmolafjalaeoaaaGreatDoor.WdA
open Go.RowKit TkW WaM WaW WaB Go.Maps
open TkM (Sg epOf told whr)
open TkA (wv isA comesB)
open RuM (Rl)
open HlA (cm ws ws_in Came came_start came_step)
set_option maxRecDepth 100000
/-- follows at work. -/
structure FS (w V : World) (r : Rl) : Prop where
  bl : Below w.heap.size w V
  box : RuA.Cells6 V w.heap.size (.string r.nm) (.int .i64 r.k) (.int .i64 r.f) (.int .i64 r.t) (.int .i64 r.wo) (.int .i64 r.wi)
theorem FS.below {w V V' : World} {r : Rl} (h : FS w V r) (hb : Below V.heap.size V V') : FS w V' r :=
  ⟨h.bl.trans (hb.mono h.bl.size), h.box.move (hb.block _ h.box.lt) hb.size⟩
theorem fs_new (w : World) (r : Rl) : FS w (w.alloc (.cells #[.string r.nm, .int .i64 r.k, .int .i64 r.f, .int .i64 r.t, .int .i64 r.wo, .int .i64 r.wi] 32)) r := by
  refine ⟨(Below.refl _ w).alloc (Nat.le_refl _) _, ⟨?_, ?_, ?_, ?_, ?_, ?_, ?_, ?_⟩⟩
  all_goals first | go_simp | (intro i; go_simp)
section
variable {w : World} {wb : Nat} {ow : Nat → Nat} {c : Cf} {rs : List Rl} {s : St} {K : Nat}
set_option maxHeartbeats 8000000 in
theorem follows_w (r : Rl) (g : ByteArray) (m : Nat) {b : Bool} (h : WaK w wb ow c rs s K) (hg : g.size ≤ 100000) (he : m < K) (hK : K ≤ 1000) (hok : r.ok)
    (hb : b = true ↔ cm g (epOf (Ep c s K)) c.W c.need K (told g (Ep c s K)) r.t (m : Int) = true ∧ RuN.Back (cm g (epOf (Ep c s K)) c.W c.need K (told g (Ep c s K)) r.f) (ws g (epOf (Ep c s K)) c.W c.need K (told g (Ep c s K)) r.wo) (max 0 ((m : Int) - r.wi)) (m : Int)) :
    Calls Tryz.prog 26 #[.pointer (some ⟨wb, 0, none⟩), RuA.rV r, .string g, .int .i64 (m : Int)] w fun x w' => x = .returned (.bool b) ∧ Below w.heap.size w w' := by
  have hF := hok.2.1.2.1
  have hT := hok.2.1.2.2.1
  have hO := hok.2.1.2.2.2.1
  have hI := hok.2.1.2.2.2.2
  have HC : Hid (∀ (V : World) (p : Int) (x : Nat), 0 ≤ p → x < K → FS w V r → Calls Tryz.prog 62 #[.pointer (some ⟨wb, 0, none⟩), .string g, .int .i64 p, .int .i64 (x : Int)] V fun y w' => y = .returned (.bool (cm g (epOf (Ep c s K)) c.W c.need K (told g (Ep c s K)) p (x : Int))) ∧ FS w w' r) := fun V p x hp hx hV => (comes_w g p x (h.below hV.bl) hg hx hp hK).mono (fun y w' ⟨h1, h2⟩ => ⟨h1, hV.below h2⟩)
  have HW : Hid (told g (Ep c s K) = true → ∀ (V : World) (x : Nat), x < K → FS w V r → Calls Tryz.prog 29 #[.pointer (some ⟨wb, 0, none⟩), .string g, .int .i64 (x : Int)] V fun y w' => y = .returned (.tuple #[.int .i64 (whr g (epOf (Ep c s K)) c.W c.need x), .nilIface]) ∧ FS w w' r) := fun ht V x hx hV => by
    have := where_any g (x : Int) (h.below hV.bl) hg
    rw [ht, Int.toNat_natCast, wv_in hx] at this
    exact this.mono (fun y w' ⟨h1, h2⟩ => ⟨h1, hV.below h2⟩)
  have HB : Hid (b = true ↔ _) := hb
  have HR : Hid _ := fs_new w r
  have hz : (0 : Int) ≤ r.t ∧ (0 : Int) ≤ r.f := by omega
  obtain ⟨ht0, hf0⟩ := hz
  clear hb h hok
  unfold RuA.rV
  go_enter Tryz.func26, Tryz.ntmps26
  have d3 := HR.out.box.c3
  go_wp2_with fail
  refine (HC.out _ r.t m ht0 he HR.out).mono ?_
  rintro y V3 ⟨rfl, hd3⟩
  have HR3 : Hid (FS w V3 r) := hd3
  clear hd3 HR d3
  cases hct : cm g (epOf (Ep c s K)) c.W c.need K (told g (Ep c s K)) r.t (m : Int) with
  | false =>
    have hbf : b = false := by rw [← Bool.not_eq_true, HB.out]; exact fun h => by rw [hct] at h; exact Bool.noConfusion h.1
    subst hbf
    go_wp2
    go_ret
    exact ⟨rfl, HR3.out.bl⟩
  | true =>
    obtain ⟨hin, htd⟩ := HlA.cm_true hct
    have HBK : Hid (b = true ↔ RuN.Back (cm g (epOf (Ep c s K)) c.W c.need K (told g (Ep c s K)) r.f) (ws g (epOf (Ep c s K)) c.W c.need K (told g (Ep c s K)) r.wo) (max 0 ((m : Int) - r.wi)) (m : Int)) := ⟨fun h => (HB.out.1 h).2, fun h => HB.out.2 ⟨hct, h⟩⟩
    have HTD : Hid (told g (Ep c s K) = true) := htd
    have HA : Hid _ := HW.out htd
    have w2 : IntKind.i64.wrap ((m : Int) - r.wi) = (m : Int) - r.wi := by simp [IntKind.wrap, IntKind.bits, IntKind.signed]; omega
    clear hct HB htd hin HW
    obtain ⟨lo, hlo⟩ : ∃ lo : Nat, max 0 ((m : Int) - r.wi) = (lo : Int) := ⟨(max 0 ((m : Int) - r.wi)).toNat, by omega⟩
    have hlm : lo ≤ m := by omega
    have HLO : Hid (max 0 ((m : Int) - r.wi) = (lo : Int)) := hlo
    rw [hlo] at HBK
    have d5 := HR3.out.box.c5
    go_wp2
    clear d5 hlo w2
    generalize (epOf (Ep c s K)) = ep at *
    generalize told g (Ep c s K) = td at *
    go_loopw [10, 11, 12, 13, 14] (fun i _ _ _ _ V => ∃ x : Nat, lo ≤ x ∧ x ≤ m ∧ i = .int .i64 x ∧ RuN.Up (cm g ep c.W c.need K td r.f) (ws g ep c.W c.need K td r.wo) lo m x ∧ FS w V r) (fun i _ _ _ _ _ => m - (intOf i).toNat)
    case atStart => exact ⟨lo, Nat.le_refl _, hlm, rfl, RuN.up_start _ _ _ _, HR3.out⟩
    case round =>
      obtain ⟨x, hx0, hx1, rfl, hup, hrs⟩ := hrel
      have HUP : Hid (RuN.Up (cm g ep c.W c.need K td r.f) (ws g ep c.W c.need K td r.wo) lo m x) := hup
      have HRS : Hid (FS w wr r) := hrs
      have d2 := hrs.box.c2
      clear hup hrs HR3
      by_cases hxm : x < m
      case neg =>
        obtain rfl : x = m := by omega
        have hbf : b = false := by rw [← Bool.not_eq_true, HBK.out]; exact RuN.up_end HUP.out (Int.le_refl _)
        subst hbf
        go_wp2
        go_ret
        exact ⟨rfl, HRS.out.bl⟩
      case pos =>
        have hxI : (x : Int) < (m : Int) := by omega
        go_wp2_with fail
        refine (HC.out _ r.f x hf0 (by omega) HRS.out).mono ?_
        rintro y V4 ⟨rfl, hd4⟩
        have HR4 : Hid (FS w V4 r) := hd4
        clear hd4 HRS d2
        obtain ⟨cb, hcb⟩ : ∃ cb, cb = cm g ep c.W c.need K td r.f (x : Int) := ⟨_, rfl⟩
        have HCB : Hid (cb = true ↔ Came g ep c.W c.need K td r x (x + 1)) := by rw [hcb]; exact came_start
        rw [← hcb]
        clear hcb
        go_wp2
        go_loopw [11, 12, 13, 14] (fun c' y _ _ V => ∃ (cv : Bool) (yv : Nat), x + 1 ≤ yv ∧ yv ≤ m ∧ c' = .bool cv ∧ y = .int .i64 yv ∧ (cv = true ↔ Came g ep c.W c.need K td r x yv) ∧ FS w V r) (fun _ y _ _ _ => m - (intOf y).toNat)
        case atStart => exact ⟨cb, x + 1, Nat.le_refl _, by omega, rfl, by first | rfl | go_num, HCB.out, HR4.out⟩
        case round =>
          obtain ⟨cv, yv, hy0, hy1, rfl, rfl, hcv, hrs⟩ := hrel
          have HCV : Hid (cv = true ↔ Came g ep c.W c.need K td r x yv) := hcv
          have HRS : Hid (FS w wr r) := hrs
          clear hcv hrs HR4 HCB
          by_cases hym : yv < m
          case neg =>
            obtain rfl : yv = m := by omega
            cases cv with
            | true =>
              have hbt : b = true := HBK.out.2 ⟨x, by omega, by omega, (HCV.out.1 rfl).1, (HCV.out.1 rfl).2⟩
              subst hbt
              go_wp2
              go_ret
              exact ⟨rfl, HRS.out.bl⟩
            | false =>
              have HUP2 : Hid (RuN.Up (cm g ep c.W c.need K td r.f) (ws g ep c.W c.need K td r.wo) lo yv ((x : Int) + 1)) := RuN.up_step HUP.out (fun h => Bool.noConfusion (HCV.out.2 h))
              go_wp2
              go_roundw
              case rel => exact ⟨x + 1, by omega, by omega, by first | rfl | go_num, by have h := HUP2.out; exact h, HRS.out⟩
              case measure => simp [intOf]; omega
          case pos =>
            have hyI : (yv : Int) < (m : Int) := by omega
            cases cv with
            | false =>
              have HUP2 : Hid (RuN.Up (cm g ep c.W c.need K td r.f) (ws g ep c.W c.need K td r.wo) lo m ((x : Int) + 1)) := RuN.up_step HUP.out (fun h => Bool.noConfusion (HCV.out.2 ⟨h.1, fun z h1 h2 => h.2 z h1 (by omega)⟩))
              go_wp2
              go_roundw
              case rel => exact ⟨x + 1, by omega, by omega, by first | rfl | go_num, by have h := HUP2.out; exact h, HRS.out⟩
              case measure => simp [intOf]; omega
            | true =>
              have HCT : Hid (Came g ep c.W c.need K td r x yv) := HCV.out.1 rfl
              clear HCV
              have HWS : Hid (ws g ep c.W c.need K td r.wo (yv : Int) = ((r.wo != -1) && (whr g ep c.W c.need yv == r.wo))) := by
                show ws g ep c.W c.need K td r.wo (yv : Int) = _
                rw [HTD.out]
                exact ws_in (by omega)
              go_wp2_with fail
              refine (HA.out _ yv (by omega) HRS.out).mono ?_
              rintro y V5 ⟨rfl, hd5⟩
              have HR5 : Hid (FS w V5 r) := hd5
              have d4 := hd5.box.c4
              clear hd5 HRS
              obtain ⟨v, hv⟩ : ∃ v, v = whr g ep c.W c.need yv := ⟨_, rfl⟩
              rw [← hv]
              rw [← hv] at HWS
              clear hv
              by_cases ho : r.wo < 0
              case pos =>
                have hoD : decide (r.wo < (0 : Int)) = true := by simpa using ho
                have HCV2 : Hid (Came g ep c.W c.need K td r x (yv + 1)) := by
                  show Came g ep c.W c.need K td r x (yv + 1)
                  rw [came_step (by omega)]
                  refine ⟨HCT.out, ?_⟩
                  rw [HWS.out, show r.wo = -1 by omega]
                  rfl
                go_wp2
                go_roundw
                case rel => exact ⟨true, yv + 1, by omega, by omega, rfl, by first | rfl | go_num, ⟨fun _ => HCV2.out, fun _ => rfl⟩, HR5.out⟩
                case measure => simp [intOf]; omega
              case neg =>
                have hoD : decide (r.wo < (0 : Int)) = false := by simpa using ho
                have hw1 : (r.wo != -1) = true := by simp; omega
                have HCV2 : Hid ((v != r.wo) = true ↔ Came g ep c.W c.need K td r x (yv + 1)) := by
                  show (v != r.wo) = true ↔ _
                  rw [came_step (by omega), HWS.out, hw1]
                  simp only [Bool.true_and]
                  constructor
                  · intro h
                    exact ⟨HCT.out, by simpa using h⟩
                  · rintro ⟨_, h⟩
                    simpa using h
                go_wp2
                go_roundw
                case rel => exact ⟨(v != r.wo), yv + 1, by omega, by omega, rfl, by first | rfl | go_num, HCV2.out, HR5.out⟩
                case measure => simp [intOf]; omega
end
end Go.Proofs.YtmolafjalaeoaaaGreatDoor.WdA
