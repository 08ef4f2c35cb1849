/-
  What Where, isAt and Comes do to the world.
-/
import Derived.Test.YtnahkonklkcbeabGreatDoorTkF
namespace Go.Proofs.YtnahkonklkcbeabGreatDoor.TkA
open Go.RowKit TkM TkW Go.Maps
set_option maxRecDepth 100000

/-- What Where answers: a place, and an error's number. -/
def wv (n : Nat) (t : Bool) (e : Int) (v : Int) : Int × Nat := if 0 ≤ e ∧ e < (n : Int) then (if t = true then (v, 0) else (0, 5)) else (0, 1)
section
variable {w : World} {tb : Nat} {who : Nat → Nat × ByteArray × Nat} {W need n r : Nat} {ep : Nat → List Sg}
set_option maxHeartbeats 400000 in
theorem where_out (g : ByteArray) (e : Int) (d : TrAt w tb who W need n r ep) (hn : n ≤ 1000) (he : ¬ (0 ≤ e ∧ e < (n : Int))) :
    Calls Tryz.prog 53 #[.pointer (some ⟨tb, 0, none⟩), .string g, .int .i64 e] w fun x w' => x = .returned (.tuple #[.int .i64 0, .iface 57 (.int .i64 1)]) ∧ w' = w := by
  obtain ⟨mb, m, D, tr, sp, d⟩ := d.out
  have c2 := d.c2
  have hnI : (n : Int) ≤ 1000 := by omega
  have b1 : btw e 0 ((n : Int) - 1) = false := by simp [btw]; omega
  clear d he
  go_enter Tryz.func53, Tryz.ntmps53
  go_wp2_with fail
  refine (between_is b1 _).mono ?_
  rintro x w' ⟨rfl, rfl⟩
  go_wp2
  go_ret2
  exact ⟨rfl, rfl⟩
set_option maxHeartbeats 400000 in
theorem where_none (g : ByteArray) (e : Nat) (d : TrAt w tb who W need n r ep) (hn : n ≤ 1000) (he : e < n) (hg : g.size ≤ 100000) (ht : ¬ ∃ e, seenG g (ep e) = true) :
    Calls Tryz.prog 53 #[.pointer (some ⟨tb, 0, none⟩), .string g, .int .i64 (e : Int)] w fun x w' => x = .returned (.tuple #[.int .i64 0, .iface 57 (.int .i64 5)]) ∧ w' = w := by
  obtain ⟨mb, m, D, tr, sp, d⟩ := d.out
  have c2 := d.c2
  have c3 := d.c3
  have hnI : (n : Int) ≤ 1000 := by omega
  have b1 : btw (e : Int) 0 ((n : Int) - 1) = true := by simp [btw]; omega
  have hT : tr g = none := by
    cases h : tr g with
    | none => rfl
    | some b => exact absurd ((d.told g).1 (by rw [h]; rfl)) ht
  have hrun : (Instr.lookup 89 (.map (some mb)) (.string g) false).run Tryz.prog w = .ok (.map none) w := held_run d.own law9 Tryz.underlying89 zero125 (key9 (g := g) (by unfold maxLen; omega)) (fun zd => by rw [d.key g, hT])
  have q1 := eqn125
  clear d he ht hT
  go_enter Tryz.func53, Tryz.ntmps53
  go_wp2_with fail
  refine (between_is b1 _).mono ?_
  rintro x w' ⟨rfl, rfl⟩
  go_wp2
  go_ret2
  exact ⟨rfl, rfl⟩
set_option maxHeartbeats 400000 in
theorem where_told (g : ByteArray) (e : Nat) (d : TrAt w tb who W need n r ep) (hW : W ≤ 8) (hn : n ≤ 1000) (he : e < n) (hg : g.size ≤ 100000) (ht : ∃ e, seenG g (ep e) = true) :
    Calls Tryz.prog 53 #[.pointer (some ⟨tb, 0, none⟩), .string g, .int .i64 (e : Int)] w fun x w' => x = .returned (.tuple #[.int .i64 (whr g ep W need e), .nilIface]) ∧ Below w.heap.size w w' := by
  have HD : Hid (TrAt w tb who W need n r ep) := d
  obtain ⟨mb, m, D, tr, sp, d⟩ := d.out
  have c2 := d.c2
  have c3 := d.c3
  have hnI : (n : Int) ≤ 1000 := by omega
  have b1 : btw (e : Int) 0 ((n : Int) - 1) = true := by simp [btw]; omega
  obtain ⟨T, hT⟩ : ∃ T, tr g = some T := Option.isSome_iff_exists.1 ((d.told g).2 ht)
  have hrun : (Instr.lookup 89 (.map (some mb)) (.string g) false).run Tryz.prog w = .ok (.map (some T)) w := held_run d.own law9 Tryz.underlying89 zero125 (key9 (g := g) (by unfold maxLen; omega)) (fun zd => by rw [d.key g, hT])
  have q1 := eql125 T
  have HC : Hid (Calls Tryz.prog 68 #[.pointer (some ⟨tb, 0, none⟩), .map (some T), .int .i64 (e : Int)] w fun x w' => x = .returned (.agg (tal (cW g ep W e) (sW g ep W e))) ∧ Below w.heap.size w w') := count_any g e d hT hW (by omega)
  clear d he ht hT
  unfold whr
  generalize cW g ep W e = c at HC ⊢
  generalize sW g ep W e = s at HC ⊢
  go_enter Tryz.func53, Tryz.ntmps53
  go_wp2_with fail
  refine (between_is b1 _).mono ?_
  rintro x w' ⟨rfl, rfl⟩
  go_wp2_with fail
  refine HC.out.mono ?_
  rintro x w1 ⟨rfl, hb1⟩
  have HB1 : Hid (Below w'.heap.size w' w1) := hb1
  clear hb1 hrun c2 c3 q1 HC
  go_wp2_with fail
  refine (best_any c s (HD.out.below HB1.out)).mono ?_
  rintro x w2 ⟨rfl, hb2⟩
  have HB2 : Hid (Below w'.heap.size w' w2) := HB1.out.trans (hb2.mono HB1.out.size)
  clear hb2
  go_wp2
  go_ret2
  exact ⟨rfl, HB2.out⟩
theorem where_any (g : ByteArray) (e : Int) {t : Bool} (d : TrAt w tb who W need n r ep) (hW : W ≤ 8) (hn : n ≤ 1000) (hg : g.size ≤ 100000) (ht : t = true ↔ ∃ e, seenG g (ep e) = true) :
    Calls Tryz.prog 53 #[.pointer (some ⟨tb, 0, none⟩), .string g, .int .i64 e] w fun x w' => x = .returned (.tuple #[.int .i64 (wv n t e (whr g ep W need e.toNat)).1, errV (wv n t e (whr g ep W need e.toNat)).2]) ∧ Below w.heap.size w w' := by
  unfold wv
  by_cases he : 0 ≤ e ∧ e < (n : Int)
  · rw [if_pos he]
    obtain ⟨k, rfl⟩ : ∃ k : Nat, e = (k : Int) := ⟨e.toNat, by omega⟩
    rw [Int.toNat_natCast]
    cases t with
    | true => exact where_told g k d hW hn (by omega) hg (ht.1 rfl)
    | false =>
      refine (where_none g k d hn (by omega) hg (fun h => by have := ht.2 h; cases this)).mono ?_
      rintro x w' ⟨rfl, rfl⟩
      exact ⟨rfl, Below.refl _ _⟩
  · rw [if_neg he]
    refine (where_out g e d hn he).mono ?_
    rintro x w' ⟨rfl, rfl⟩
    exact ⟨rfl, Below.refl _ _⟩
/-- Is it at that place? -/
def isA (n : Nat) (t : Bool) (p e v : Int) : Bool := decide ((wv n t e v).2 = 0) && decide (0 ≤ p) && decide ((wv n t e v).1 = p)
set_option maxHeartbeats 400000 in
theorem isAt_any (g : ByteArray) (p e : Int) {t : Bool} (d : TrAt w tb who W need n r ep) (hW : W ≤ 8) (hn : n ≤ 1000) (hg : g.size ≤ 100000) (ht : t = true ↔ ∃ e, seenG g (ep e) = true) :
    Calls Tryz.prog 52 #[.pointer (some ⟨tb, 0, none⟩), .string g, .int .i64 p, .int .i64 e] w fun x w' => x = .returned (.bool (isA n t p e (whr g ep W need e.toNat))) ∧ Below w.heap.size w w' := by
  have HC : Hid (Calls Tryz.prog 53 #[.pointer (some ⟨tb, 0, none⟩), .string g, .int .i64 e] w fun x w' => x = .returned (.tuple #[.int .i64 (wv n t e (whr g ep W need e.toNat)).1, errV (wv n t e (whr g ep W need e.toNat)).2]) ∧ Below w.heap.size w w') := where_any g e d hW hn hg ht
  clear d ht
  unfold isA
  generalize wv n t e (whr g ep W need e.toNat) = a at *
  obtain ⟨q, k⟩ := a
  simp only at *
  by_cases hk : k = 0
  · subst hk
    rw [show errV 0 = .nilIface from rfl] at HC
    by_cases hp : 0 ≤ p
    · have hp' : decide (0 ≤ p) = true := by simpa using hp
      have he : decide (q = p) = (q == p) := by rw [Bool.eq_iff_iff]; simp
      rw [hp', he]
      simp only [decide_true, Bool.true_and]
      clear hp' he
      go_enter Tryz.func52, Tryz.ntmps52
      go_wp2_with fail
      refine HC.out.mono ?_
      rintro x w1 ⟨rfl, hb1⟩
      have HB1 : Hid (Below w.heap.size w w1) := hb1
      clear hb1
      go_wp2
      go_ret
      exact ⟨rfl, HB1.out⟩
    · have hp' : decide (0 ≤ p) = false := by simpa using hp
      rw [hp']
      simp only [Bool.and_false, Bool.false_and]
      clear hp
      go_enter Tryz.func52, Tryz.ntmps52
      go_wp2_with fail
      refine HC.out.mono ?_
      rintro x w1 ⟨rfl, hb1⟩
      have HB1 : Hid (Below w.heap.size w w1) := hb1
      clear hb1
      go_wp2
      go_ret
      exact ⟨rfl, HB1.out⟩
  · rw [errV_pos hk] at HC
    have hk' : decide (k = 0) = false := by simpa using hk
    rw [hk']
    simp only [Bool.false_and]
    clear hk'
    go_enter Tryz.func52, Tryz.ntmps52
    go_wp2_with fail
    refine HC.out.mono ?_
    rintro x w1 ⟨rfl, hb1⟩
    have HB1 : Hid (Below w.heap.size w w1) := hb1
    clear hb1
    go_wp2
    go_ret
    exact ⟨rfl, HB1.out⟩
/-- Does it come there? -/
def comesB (n : Nat) (t : Bool) (p e : Int) (f : Int → Int) : Bool := isA n t p e (f e) && !isA n t p (e - 1) (f (e - 1))
set_option maxHeartbeats 400000 in
theorem comes_any (g : ByteArray) (p e : Int) {t : Bool} (d : TrAt w tb who W need n r ep) (hW : W ≤ 8) (hn : n ≤ 1000) (hg : g.size ≤ 100000) (ht : t = true ↔ ∃ e, seenG g (ep e) = true) (he0 : -1000 ≤ e) (he1 : e ≤ 1000) :
    Calls Tryz.prog 33 #[.pointer (some ⟨tb, 0, none⟩), .string g, .int .i64 p, .int .i64 e] w fun x w' => x = .returned (.bool (comesB n t p e (fun e => whr g ep W need e.toNat))) ∧ Below w.heap.size w w' := by
  have HC : Hid (Calls Tryz.prog 52 #[.pointer (some ⟨tb, 0, none⟩), .string g, .int .i64 p, .int .i64 e] w fun x w' => x = .returned (.bool (isA n t p e (whr g ep W need e.toNat))) ∧ Below w.heap.size w w') := isAt_any g p e d hW hn hg ht
  have HC2 : Hid (∀ V : World, Below w.heap.size w V → Calls Tryz.prog 52 #[.pointer (some ⟨tb, 0, none⟩), .string g, .int .i64 p, .int .i64 (e - 1)] V fun x w' => x = .returned (.bool (isA n t p (e - 1) (whr g ep W need (e - 1).toNat))) ∧ Below V.heap.size V w') := fun V hb => isAt_any g p (e - 1) (d.below hb) hW hn hg ht
  clear d ht
  unfold comesB
  generalize isA n t p e (whr g ep W need e.toNat) = a at *
  generalize isA n t p (e - 1) (whr g ep W need (e - 1).toNat) = b at *
  cases a with
  | false =>
    simp only [Bool.false_and]
    go_enter Tryz.func33, Tryz.ntmps33
    go_wp2_with fail
    refine HC.out.mono ?_
    rintro x w1 ⟨rfl, hb1⟩
    have HB1 : Hid (Below w.heap.size w w1) := hb1
    clear hb1
    go_wp2
    go_ret
    exact ⟨rfl, HB1.out⟩
  | true =>
    simp only [Bool.true_and]
    go_enter Tryz.func33, Tryz.ntmps33
    go_wp2_with fail
    refine HC.out.mono ?_
    rintro x w1 ⟨rfl, hb1⟩
    have HB1 : Hid (Below w.heap.size w w1) := hb1
    clear hb1
    go_wp2_with fail
    refine (HC2.out _ HB1.out).mono ?_
    rintro x w2 ⟨rfl, hb2⟩
    have HB2 : Hid (Below w.heap.size w w2) := HB1.out.trans (hb2.mono HB1.out.size)
    clear hb2
    go_wp2
    go_ret
    exact ⟨rfl, HB2.out⟩
end
end Go.Proofs.YtnahkonklkcbeabGreatDoor.TkA
