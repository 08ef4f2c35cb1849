/-
  What Where, isAt and Comes do to the world.
-/
import Derived.Test.YtblkbogoelfjlaaDoorTkF
namespace Go.Proofs.YtblkbogoelfjlaaDoor.TkA
open Go.RowKit TkM TkW Go.Maps
set_option maxRecDepth 100000

/-- What Where answers: a place, and an error's number. -/
def wv (n : Nat) (t : Bool) (e : Int) (v : Int) : Int × Nat := if 0 ≤ e ∧ e < (n : Int) then (if t = true then (v, 0) else (0, 5)) else (0, 1)
section
variable {w : World} {tb : Nat} {who : Nat → Nat × ByteArray × Nat} {W need n r : Nat} {ep : Nat → List Sg}
set_option maxHeartbeats 400000 in
theorem where_out (g : ByteArray) (e : Int) (d : TrAt w tb who W need n r ep) (hn : n ≤ 1000) (he : ¬ (0 ≤ e ∧ e < (n : Int))) :
    Calls Tryd.prog 36 #[.pointer (some ⟨tb, 0, none⟩), .string g, .int .i64 e] w fun x w' => x = .returned (.tuple #[.int .i64 0, .iface 23 (.int .i64 1)]) ∧ w' = w := by
  obtain ⟨mb, m, D, tr, sp, d⟩ := d.out
  have c2 := d.c2
  have hnI : (n : Int) ≤ 1000 := by omega
  have b1 : btw e 0 ((n : Int) - 1) = false := by simp [btw]; omega
  clear d he
  go_enter Tryd.func36, Tryd.ntmps36
  go_wp2_with fail
  refine (between_is b1 _).mono ?_
  rintro x w' ⟨rfl, rfl⟩
  go_wp2
  go_ret2
  exact ⟨rfl, rfl⟩
set_option maxHeartbeats 400000 in
theorem where_none (g : ByteArray) (e : Nat) (d : TrAt w tb who W need n r ep) (hn : n ≤ 1000) (he : e < n) (hg : g.size ≤ 100000) (ht : ¬ ∃ e, seenG g (ep e) = true) :
    Calls Tryd.prog 36 #[.pointer (some ⟨tb, 0, none⟩), .string g, .int .i64 (e : Int)] w fun x w' => x = .returned (.tuple #[.int .i64 0, .iface 23 (.int .i64 5)]) ∧ w' = w := by
  obtain ⟨mb, m, D, tr, sp, d⟩ := d.out
  have c2 := d.c2
  have c3 := d.c3
  have hnI : (n : Int) ≤ 1000 := by omega
  have b1 : btw (e : Int) 0 ((n : Int) - 1) = true := by simp [btw]; omega
  have hT : tr g = none := by
    cases h : tr g with
    | none => rfl
    | some b => exact absurd ((d.told g).1 (by rw [h]; rfl)) ht
  have hrun : (Instr.lookup 104 (.map (some mb)) (.string g) false).run Tryd.prog w = .ok (.map none) w := held_run d.own law9 Tryd.underlying104 zero125 (key9 (g := g) (by unfold maxLen; omega)) (fun zd => by rw [d.key g, hT])
  have q1 := eqn125
  clear d he ht hT
  go_enter Tryd.func36, Tryd.ntmps36
  go_wp2_with fail
  refine (between_is b1 _).mono ?_
  rintro x w' ⟨rfl, rfl⟩
  go_wp2
  go_ret2
  exact ⟨rfl, rfl⟩
set_option maxHeartbeats 400000 in
theorem where_told (g : ByteArray) (e : Nat) (d : TrAt w tb who W need n r ep) (hW : W ≤ 8) (hn : n ≤ 1000) (he : e < n) (hg : g.size ≤ 100000) (ht : ∃ e, seenG g (ep e) = true) :
    Calls Tryd.prog 36 #[.pointer (some ⟨tb, 0, none⟩), .string g, .int .i64 (e : Int)] w fun x w' => x = .returned (.tuple #[.int .i64 (whr g ep W need e), .nilIface]) ∧ Below w.heap.size w w' := by
  have HD : Hid (TrAt w tb who W need n r ep) := d
  obtain ⟨mb, m, D, tr, sp, d⟩ := d.out
  have c2 := d.c2
  have c3 := d.c3
  have hnI : (n : Int) ≤ 1000 := by omega
  have b1 : btw (e : Int) 0 ((n : Int) - 1) = true := by simp [btw]; omega
  obtain ⟨T, hT⟩ : ∃ T, tr g = some T := Option.isSome_iff_exists.1 ((d.told g).2 ht)
  have hrun : (Instr.lookup 104 (.map (some mb)) (.string g) false).run Tryd.prog w = .ok (.map (some T)) w := held_run d.own law9 Tryd.underlying104 zero125 (key9 (g := g) (by unfold maxLen; omega)) (fun zd => by rw [d.key g, hT])
  have q1 := eql125 T
  have HC : Hid (Calls Tryd.prog 65 #[.pointer (some ⟨tb, 0, none⟩), .map (some T), .int .i64 (e : Int)] w fun x w' => x = .returned (.agg (tal (cW g ep W e) (sW g ep W e))) ∧ Below w.heap.size w w') := count_any g e d hT hW (by omega)
  clear d he ht hT
  unfold whr
  generalize cW g ep W e = c at HC ⊢
  generalize sW g ep W e = s at HC ⊢
  go_enter Tryd.func36, Tryd.ntmps36
  go_wp2_with fail
  refine (between_is b1 _).mono ?_
  rintro x w' ⟨rfl, rfl⟩
  go_wp2_with fail
  refine HC.out.mono ?_
  rintro x w1 ⟨rfl, hb1⟩
  have HB1 : Hid (Below w'.heap.size w' w1) := hb1
  clear hb1 hrun c2 c3 q1 HC
  go_wp2_with fail
  refine (best_any c s (HD.out.below HB1.out)).mono ?_
  rintro x w2 ⟨rfl, hb2⟩
  have HB2 : Hid (Below w'.heap.size w' w2) := HB1.out.trans (hb2.mono HB1.out.size)
  clear hb2
  go_wp2
  go_ret2
  exact ⟨rfl, HB2.out⟩
theorem where_any (g : ByteArray) (e : Int) {t : Bool} (d : TrAt w tb who W need n r ep) (hW : W ≤ 8) (hn : n ≤ 1000) (hg : g.size ≤ 100000) (ht : t = true ↔ ∃ e, seenG g (ep e) = true) :
    Calls Tryd.prog 36 #[.pointer (some ⟨tb, 0, none⟩), .string g, .int .i64 e] w fun x w' => x = .returned (.tuple #[.int .i64 (wv n t e (whr g ep W need e.toNat)).1, errV (wv n t e (whr g ep W need e.toNat)).2]) ∧ Below w.heap.size w w' := by
  unfold wv
  by_cases he : 0 ≤ e ∧ e < (n : Int)
  · rw [if_pos he]
    obtain ⟨k, rfl⟩ : ∃ k : Nat, e = (k : Int) := ⟨e.toNat, by omega⟩
    rw [Int.toNat_natCast]
    cases t with
    | true => exact where_told g k d hW hn (by omega) hg (ht.1 rfl)
    | false =>
      refine (where_none g k d hn (by omega) hg (fun h => by have := ht.2 h; cases this)).mono ?_
      rintro x w' ⟨rfl, rfl⟩
      exact ⟨rfl, Below.refl _ _⟩
  · rw [if_neg he]
    refine (where_out g e d hn he).mono ?_
    rintro x w' ⟨rfl, rfl⟩
    exact ⟨rfl, Below.refl _ _⟩
end
end Go.Proofs.YtblkbogoelfjlaaDoor.TkA
