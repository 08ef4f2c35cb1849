/-
  What between, isName and Check of package rule do to the world.
-/
import Derived.Test.YtnahkonklkcbeabGreatDoorProg
import Derived.Test.YtnahkonklkcbeabGreatDoorRuM
import Derived.WalkKit
import Derived.WalkSpells
import Derived.WalkLawsBesides
import Derived.Deep.QuietTactic
import Derived.BigQuiet
namespace Go.Proofs.YtnahkonklkcbeabGreatDoor.RuA
open Go.RowKit RuM
set_option maxRecDepth 100000

set_option maxHeartbeats 400000 in
theorem between_any (n lo hi : Int) (w : World) :
    Calls Tryz.prog 20 #[.int .i64 n, .int .i64 lo, .int .i64 hi] w fun e w' => e = .returned (.bool (btw n lo hi)) ∧ w' = w := by
  by_cases h1 : lo ≤ n
  · by_cases h2 : n ≤ hi
    · have hb : btw n lo hi = true := by simp [btw, h1, h2]
      rw [hb]
      clear hb
      go_enter Tryz.func20, Tryz.ntmps20
      go_wp2
      go_ret
      exact ⟨rfl, rfl⟩
    · have hb : btw n lo hi = false := by simp [btw]; omega
      rw [hb]
      clear hb
      go_enter Tryz.func20, Tryz.ntmps20
      go_wp2
      go_ret
      exact ⟨by simp, rfl⟩
  · have hb : btw n lo hi = false := by simp [btw]; omega
    rw [hb]
    clear hb
    have h1' : decide (lo ≤ n) = false := by simpa using h1
    go_enter Tryz.func20, Tryz.ntmps20
    go_wp2
    go_ret
    exact ⟨rfl, rfl⟩

/-- The first k are letters. -/
def let_ (s : ByteArray) (k : Nat) : Prop := ∀ c ∈ s.data.toList.take k, lettr c
theorem let_snoc {s : ByteArray} {k : Nat} (hk : k < s.size) : let_ s (k + 1) ↔ let_ s k ∧ lettr s[k] := by
  unfold let_
  have hl : k < s.data.toList.length := by simpa using hk
  rw [List.take_succ_eq_append_getElem hl]
  constructor
  · intro h
    exact ⟨fun c hc => h c (List.mem_append_left _ hc), h _ (List.mem_append_right _ (by simp; rfl))⟩
  · rintro ⟨h1, h2⟩ c hc
    rcases List.mem_append.1 hc with hc | hc
    · exact h1 c hc
    · simp only [List.mem_singleton] at hc
      rw [hc]; exact h2
theorem let_all {s : ByteArray} : let_ s s.size ↔ ∀ c ∈ s.data.toList, lettr c := by
  unfold let_
  rw [List.take_of_length_le (by simp)]
theorem size_list (s : ByteArray) : s.data.toList.length = s.size := by simp
theorem let_mono {s : ByteArray} {k : Nat} (hk : k < s.size) (h : ¬ lettr s[k]) : ¬ ∀ c ∈ s.data.toList, lettr c := by
  intro hh
  refine h (hh _ ?_)
  have hl : k < s.data.toList.length := by simpa using hk
  exact List.getElem_mem hl

set_option maxHeartbeats 1000000 in
theorem isName_any (s : ByteArray) (w : World) (hs : s.size ≤ 9223372036854775807) {b : Bool} (hb : b = true ↔ nameOk s.data.toList) :
    Calls Tryz.prog 19 #[.string s] w fun e w' => e = .returned (.bool b) ∧ w' = w := by
  have HB : Hid (b = true ↔ nameOk s.data.toList) := hb
  clear hb
  by_cases h1 : btw (s.size : Int) 1 12 = true
  case neg =>
    have h1 : btw (s.size : Int) 1 12 = false := by simpa using h1
    go_enter Tryz.func19, Tryz.ntmps19
    go_wp2_with (first | (go_at_call 20; refine (between_any _ _ _ _).mono ?_; rintro e w' ⟨rfl, rfl⟩; rw [h1]))
    go_ret
    have h3 := btw_false.1 h1
    have h4 : ¬ nameOk s.data.toList := by
      unfold nameOk
      rw [size_list]
      omega
    have h5 : b = false := by rw [← Bool.not_eq_true, HB.out]; exact h4
    rw [h5]
    exact ⟨rfl, rfl⟩
  have h2 := btw_true.1 h1
  have hs12 : s.size ≤ 12 := by omega
  have hs1 : 1 ≤ s.size := by omega
  go_enter Tryz.func19, Tryz.ntmps19
  go_wp2_with (first | (go_at_call 20; refine (between_any _ _ _ _).mono ?_; rintro e w' ⟨rfl, rfl⟩; rw [h1]))
  go_loop [3, 10] (fun _ i => ∃ k : Nat, k ≤ s.size ∧ i = .int .i64 k ∧ let_ s k) (fun _ i => s.size - (intOf i).toNat)
  case atStart => exact ⟨0, Nat.zero_le _, rfl, fun c hc => by simp at hc⟩
  case round =>
    obtain ⟨k, hk, rfl, hlet⟩ := hrel
    have HL : Hid (let_ s k) := hlet
    clear hlet
    by_cases hlt : k < s.size
    case neg =>
      obtain rfl : k = s.size := by omega
      go_wp2
      go_ret
      have h5 : b = true := HB.out.2 (by
        unfold nameOk
        rw [size_list]
        exact ⟨hs1, hs12, let_all.1 HL.out⟩)
      rw [h5]
      exact ⟨rfl, rfl⟩
    case pos =>
      have hkI : (k : Int) < s.size := by omega
      have hb := s[k].toNat_lt
      by_cases c1 : s[k].toNat < 97
      · have c1I : (s[k].toNat : Int) < 97 := by omega
        have c1D : decide ((s[k].toNat : Int) < 97) = true := by simpa using c1I
        have HX : Hid (¬ ∀ c ∈ s.data.toList, lettr c) := let_mono hlt (fun h => by unfold lettr at h; omega)
        go_wp2
        go_ret
        have h5 : b = false := by rw [← Bool.not_eq_true, HB.out]; exact fun h => HX.out h.2.2
        rw [h5]
        exact ⟨rfl, rfl⟩
      have c1I : ¬ (s[k].toNat : Int) < 97 := by omega
      have c1D : decide ((s[k].toNat : Int) < 97) = false := by simpa using c1I
      by_cases c2 : 122 < s[k].toNat
      · have c2I : 122 < (s[k].toNat : Int) := by omega
        have c2D : decide (122 < (s[k].toNat : Int)) = true := by simpa using c2I
        have HX : Hid (¬ ∀ c ∈ s.data.toList, lettr c) := let_mono hlt (fun h => by unfold lettr at h; omega)
        go_wp2
        go_ret
        have h5 : b = false := by rw [← Bool.not_eq_true, HB.out]; exact fun h => HX.out h.2.2
        rw [h5]
        exact ⟨rfl, rfl⟩
      have c2I : ¬ 122 < (s[k].toNat : Int) := by omega
      have c2D : decide (122 < (s[k].toNat : Int)) = false := by simpa using c2I
      have HL2 : Hid (let_ s (k + 1)) := (let_snoc hlt).2 ⟨HL.out, by unfold lettr; omega⟩
      go_wp2
      go_round
      case rel => exact ⟨k + 1, by omega, by go_num, HL2.out⟩
      case measure => simp [intOf]; omega

/-- A rule as it is handed on. -/
def rV (r : Rl) : Value := .agg #[.string r.nm, .int .i64 r.k, .int .i64 r.f, .int .i64 r.t, .int .i64 r.wo, .int .i64 r.wi]
def errV (n : Nat) : Value := if n = 0 then .nilIface else .iface 57 (.int .i64 (n : Int))

theorem bnd_iff (r : Rl) : r.bnd ↔ btw r.k 0 3 = true ∧ btw r.f 0 7 = true ∧ btw r.t 0 7 = true ∧ btw r.wo (-1) 7 = true ∧ btw r.wi 1 50 = true := by
  simp only [btw_true]; exact Iff.rfl
set_option maxHeartbeats 8000000 in
theorem check_any (r : Rl) (w : World) (hs : r.nm.size ≤ 9223372036854775807) {n : Nat} (hn : r.flt n) :
    Calls Tryz.prog 9 #[rV r] w fun e w' => e = .returned (errV n) ∧ Below w.heap.size w w' := by
  have hbnd := bnd_iff r
  obtain ⟨nm, K, F, T, O, I⟩ := r
  simp only at hs hbnd
  unfold rV
  simp only
  have HN : Hid (∀ V (b : Bool), (b = true ↔ nameOk nm.data.toList) → Calls Tryz.prog 19 #[.string nm] V fun e w' => e = .returned (.bool b) ∧ w' = V) := fun V b hb => isName_any nm V hs hb
  by_cases hnm : nameOk nm.data.toList
  case neg =>
    have hn4 : n = 4 := flt_uniq hn (Or.inl ⟨hnm, rfl⟩)
    subst hn4
    have HN1 : Hid (∀ V, Calls Tryz.prog 19 #[.string nm] V fun e w' => e = .returned (.bool false) ∧ w' = V) := fun V => HN.out V false ⟨fun h => Bool.noConfusion h, fun h => absurd h hnm⟩
    clear hn hbnd HN hnm
    go_enter Tryz.func9, Tryz.ntmps9
    go_wp2_with (first | (go_at_call 19; refine (HN1.out _).mono ?_; rintro e w' ⟨rfl, rfl⟩))
    go_ret
    exact ⟨rfl, (Below.refl _ _).alloc (Nat.le_refl _) _⟩
  have HN1 : Hid (∀ V, Calls Tryz.prog 19 #[.string nm] V fun e w' => e = .returned (.bool true) ∧ w' = V) := fun V => HN.out V true ⟨fun _ => hnm, fun _ => rfl⟩
  have HF1 : Hid (¬ (Rl.mk nm K F T O I).bnd → n = 1) := fun h => flt_uniq hn (Or.inr (Or.inl ⟨hnm, h, rfl⟩))
  have HF3 : Hid ((Rl.mk nm K F T O I).bnd → ¬ (F ≠ T ∧ F ≠ O ∧ T ≠ O) → n = 3) := fun h h' => flt_uniq hn (Or.inr (Or.inr (Or.inl ⟨hnm, h, h', rfl⟩)))
  have HF0 : Hid ((Rl.mk nm K F T O I).bnd → (F ≠ T ∧ F ≠ O ∧ T ≠ O) → n = 0) := fun h h' => flt_uniq hn (Or.inr (Or.inr (Or.inr ⟨⟨hnm, h, h'⟩, rfl⟩)))
  clear hn HN hnm
  by_cases h0 : btw K 0 3 = true
  case neg =>
    have hn1 : n = 1 := HF1.out (fun h => h0 (hbnd.1 h).1)
    subst hn1
    have h0 : btw K 0 3 = false := by simpa using h0
    clear HF1 HF3 HF0 hbnd
    go_enter Tryz.func9, Tryz.ntmps9
    go_wp2_with (first | (go_at_call 19; refine (HN1.out _).mono ?_; rintro e w' ⟨rfl, rfl⟩) | (go_at_call 20; refine (between_any _ _ _ _).mono ?_; rintro e w' ⟨rfl, rfl⟩))
    go_ret
    exact ⟨rfl, (Below.refl _ _).alloc (Nat.le_refl _) _⟩
  by_cases h1 : btw F 0 7 = true
  case neg =>
    have hn1 : n = 1 := HF1.out (fun h => h1 (hbnd.1 h).2.1)
    subst hn1
    have h1 : btw F 0 7 = false := by simpa using h1
    clear HF1 HF3 HF0 hbnd
    go_enter Tryz.func9, Tryz.ntmps9
    go_wp2_with (first | (go_at_call 19; refine (HN1.out _).mono ?_; rintro e w' ⟨rfl, rfl⟩) | (go_at_call 20; refine (between_any _ _ _ _).mono ?_; rintro e w' ⟨rfl, rfl⟩))
    go_ret
    exact ⟨rfl, (Below.refl _ _).alloc (Nat.le_refl _) _⟩
  by_cases h2 : btw T 0 7 = true
  case neg =>
    have hn1 : n = 1 := HF1.out (fun h => h2 (hbnd.1 h).2.2.1)
    subst hn1
    have h2 : btw T 0 7 = false := by simpa using h2
    clear HF1 HF3 HF0 hbnd
    go_enter Tryz.func9, Tryz.ntmps9
    go_wp2_with (first | (go_at_call 19; refine (HN1.out _).mono ?_; rintro e w' ⟨rfl, rfl⟩) | (go_at_call 20; refine (between_any _ _ _ _).mono ?_; rintro e w' ⟨rfl, rfl⟩))
    go_ret
    exact ⟨rfl, (Below.refl _ _).alloc (Nat.le_refl _) _⟩
  by_cases h3 : btw O (-1) 7 = true
  case neg =>
    have hn1 : n = 1 := HF1.out (fun h => h3 (hbnd.1 h).2.2.2.1)
    subst hn1
    have h3 : btw O (-1) 7 = false := by simpa using h3
    clear HF1 HF3 HF0 hbnd
    go_enter Tryz.func9, Tryz.ntmps9
    go_wp2_with (first | (go_at_call 19; refine (HN1.out _).mono ?_; rintro e w' ⟨rfl, rfl⟩) | (go_at_call 20; refine (between_any _ _ _ _).mono ?_; rintro e w' ⟨rfl, rfl⟩))
    go_ret
    exact ⟨rfl, (Below.refl _ _).alloc (Nat.le_refl _) _⟩
  by_cases h4 : btw I 1 50 = true
  case neg =>
    have hn1 : n = 1 := HF1.out (fun h => h4 (hbnd.1 h).2.2.2.2)
    subst hn1
    have h4 : btw I 1 50 = false := by simpa using h4
    clear HF1 HF3 HF0 hbnd
    go_enter Tryz.func9, Tryz.ntmps9
    go_wp2_with (first | (go_at_call 19; refine (HN1.out _).mono ?_; rintro e w' ⟨rfl, rfl⟩) | (go_at_call 20; refine (between_any _ _ _ _).mono ?_; rintro e w' ⟨rfl, rfl⟩))
    go_ret
    exact ⟨rfl, (Below.refl _ _).alloc (Nat.le_refl _) _⟩
  have hB := hbnd.2 ⟨h0, h1, h2, h3, h4⟩
  have HG3 : Hid (¬ (F ≠ T ∧ F ≠ O ∧ T ≠ O) → n = 3) := HF3.out hB
  have HG0 : Hid ((F ≠ T ∧ F ≠ O ∧ T ≠ O) → n = 0) := HF0.out hB
  clear hB HF1 HF3 HF0 hbnd
  by_cases e0 : F = T
  case pos =>
    have hn3 : n = 3 := HG3.out (fun h => absurd e0 h.1)
    subst hn3
    have e0' : (F == T) = true := by simpa using e0
    clear HG3 HG0 e0
    go_enter Tryz.func9, Tryz.ntmps9
    go_wp2_with (first | (go_at_call 19; refine (HN1.out _).mono ?_; rintro e w' ⟨rfl, rfl⟩) | (go_at_call 20; refine (between_any _ _ _ _).mono ?_; rintro e w' ⟨rfl, rfl⟩))
    go_ret
    exact ⟨rfl, (Below.refl _ _).alloc (Nat.le_refl _) _⟩
  have e0' : (F == T) = false := by simpa using e0
  by_cases e1 : F = O
  case pos =>
    have hn3 : n = 3 := HG3.out (fun h => absurd e1 h.2.1)
    subst hn3
    have e1' : (F == O) = true := by simpa using e1
    clear HG3 HG0 e1
    go_enter Tryz.func9, Tryz.ntmps9
    go_wp2_with (first | (go_at_call 19; refine (HN1.out _).mono ?_; rintro e w' ⟨rfl, rfl⟩) | (go_at_call 20; refine (between_any _ _ _ _).mono ?_; rintro e w' ⟨rfl, rfl⟩))
    go_ret
    exact ⟨rfl, (Below.refl _ _).alloc (Nat.le_refl _) _⟩
  have e1' : (F == O) = false := by simpa using e1
  by_cases e2 : T = O
  case pos =>
    have hn3 : n = 3 := HG3.out (fun h => absurd e2 h.2.2)
    subst hn3
    have e2' : (T == O) = true := by simpa using e2
    clear HG3 HG0 e2
    go_enter Tryz.func9, Tryz.ntmps9
    go_wp2_with (first | (go_at_call 19; refine (HN1.out _).mono ?_; rintro e w' ⟨rfl, rfl⟩) | (go_at_call 20; refine (between_any _ _ _ _).mono ?_; rintro e w' ⟨rfl, rfl⟩))
    go_ret
    exact ⟨rfl, (Below.refl _ _).alloc (Nat.le_refl _) _⟩
  have e2' : (T == O) = false := by simpa using e2
  have hn0 : n = 0 := HG0.out ⟨e0, e1, e2⟩
  subst hn0
  clear HG3 HG0
  go_enter Tryz.func9, Tryz.ntmps9
  go_wp2_with (first | (go_at_call 19; refine (HN1.out _).mono ?_; rintro e w' ⟨rfl, rfl⟩) | (go_at_call 20; refine (between_any _ _ _ _).mono ?_; rintro e w' ⟨rfl, rfl⟩))
  go_ret
  exact ⟨rfl, (Below.refl _ _).alloc (Nat.le_refl _) _⟩
end Go.Proofs.YtnahkonklkcbeabGreatDoor.RuA
