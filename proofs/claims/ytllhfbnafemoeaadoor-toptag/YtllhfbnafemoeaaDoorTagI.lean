/-
  What Text does at no tag; what kindOf does.
-/
import Derived.Test.YtllhfbnafemoeaaDoorTagH
namespace Go.Proofs.YtllhfbnafemoeaaDoor.TagA
open Go.RowKit TagM
set_option maxRecDepth 100000

set_option maxHeartbeats 400000 in
theorem text_no (K F P C R S : Int) (w : World) (hT : Tabs w) (hno : okB K F P C R S = false) :
    Calls Tryd.prog 12 #[.agg #[.int .i64 K, .int .i64 F, .int .i64 P, .int .i64 C, .int .i64 R, .int .i64 S]] w fun e w' => e = .returned (.tuple #[.string ⟨#[]⟩, .iface 23 (.int .i64 1)]) ∧ Below w.heap.size w w' := by
  have hcv : checkV K F P C R S = .iface 23 (.int .i64 1) := by simp [checkV, hno]
  clear hno
  go_enter Tryd.func12, Tryd.ntmps12
  go_wp2_with fail
  refine (check_any K F P C R S _ (hT.below ((Below.refl _ w).alloc (Nat.le_refl _) _) hT.size)).mono ?_
  rintro e w1 ⟨rfl, hb1⟩
  rw [hcv]
  obtain ⟨s1, hb2, d0, d1, d2, d3, d4, d5⟩ := boxed6 hb1
  clear hcv hT hb1
  have HB : Hid _ := hb2
  clear hb2
  go_wp2
  go_ret2
  exact ⟨rfl, HB.out⟩

theorem sbeq_iff (a b : ByteArray) : (a.toList == b.toList) = true ↔ a = b := by
  rw [ByteArray.toList_eq, ByteArray.toList_eq, beq_iff_eq]
  constructor
  · intro h
    apply ByteArray.ext
    exact Array.toList_inj.1 h
  · rintro rfl; rfl
theorem sbeq_true {a b : ByteArray} (h : a = b) : (a.toList == b.toList) = true := (sbeq_iff a b).2 h
theorem sbeq_false {a b : ByteArray} (h : ¬ a = b) : (a.toList == b.toList) = false := by
  cases e : (a.toList == b.toList) with
  | true => exact absurd ((sbeq_iff a b).1 e) h
  | false => rfl
/-- The kind that a word names; 0: none. -/
def kindF (b : ByteArray) : Nat := if kw 0 = b then 1 else if kw 1 = b then 2 else if kw 2 = b then 3 else 0

theorem idx0 (a b c : Value) (w : World) : (Instr.index 57 (.agg #[a, b, c]) (.int .i64 0)).run Tryd.prog w = .ok a w := by kernel_rfl
theorem idx1 (a b c : Value) (w : World) : (Instr.index 57 (.agg #[a, b, c]) (.int .i64 1)).run Tryd.prog w = .ok b w := by kernel_rfl
theorem idx2 (a b c : Value) (w : World) : (Instr.index 57 (.agg #[a, b, c]) (.int .i64 2)).run Tryd.prog w = .ok c w := by kernel_rfl

set_option maxHeartbeats 400000 in
theorem kindOf_any (b : ByteArray) (w : World) (k0 : w.cell? ⟨1, 0, none⟩ = some (.string (kw 0))) (k1 : w.cell? ⟨1, 1, none⟩ = some (.string (kw 1))) (k2 : w.cell? ⟨1, 2, none⟩ = some (.string (kw 2))) :
    Calls Tryd.prog 45 #[.string b] w fun e w' => e = .returned (.int .i64 (kindF b : Nat)) ∧ w' = w := by
  have i0 := idx0
  have i1 := idx1
  have i2 := idx2
  go_enter Tryd.func45, Tryd.ntmps45
  go_wp2
  go_loop [3, 4, 6] (fun _ _ i => ∃ k : Nat, k ≤ 3 ∧ i = .int .i64 k ∧ ∀ j : Nat, j < k → kw j ≠ b) (fun _ _ i => 3 - (intOf i).toNat)
  case atStart => exact ⟨0, Nat.zero_le _, rfl, fun j h => by omega⟩
  case round =>
    obtain ⟨k, hk, rfl, hno⟩ := hrel
    have HN : Hid _ := hno
    clear hno
    match k, hk with
    | 0, _ =>
      by_cases hb : kw 0 = b
      · have hb' : ((kw 0).toList == b.toList) = true := sbeq_true hb
        have HB : Hid (kw 0 = b) := hb
        clear hb
        go_wp2
        go_ret
        refine ⟨?_, rfl⟩
        unfold kindF
        rw [if_pos HB.out]; rfl
      · have hb' : ((kw 0).toList == b.toList) = false := sbeq_false hb
        have HB : Hid (¬ kw 0 = b) := hb
        clear hb
        go_wp2
        go_round
        case rel => exact ⟨1, by omega, rfl, fun j hj => by
          by_cases e : j = 0
          · subst e; exact HB.out
          · exact HN.out j (by omega)⟩
        case measure => simp [intOf]
    | 1, _ =>
      by_cases hb : kw 1 = b
      · have hb' : ((kw 1).toList == b.toList) = true := sbeq_true hb
        have HB : Hid (kw 1 = b) := hb
        clear hb
        go_wp2
        go_ret
        refine ⟨?_, rfl⟩
        unfold kindF
        rw [if_neg (HN.out 0 (by omega))]; rw [if_pos HB.out]; rfl
      · have hb' : ((kw 1).toList == b.toList) = false := sbeq_false hb
        have HB : Hid (¬ kw 1 = b) := hb
        clear hb
        go_wp2
        go_round
        case rel => exact ⟨2, by omega, rfl, fun j hj => by
          by_cases e : j = 1
          · subst e; exact HB.out
          · exact HN.out j (by omega)⟩
        case measure => simp [intOf]
    | 2, _ =>
      by_cases hb : kw 2 = b
      · have hb' : ((kw 2).toList == b.toList) = true := sbeq_true hb
        have HB : Hid (kw 2 = b) := hb
        clear hb
        go_wp2
        go_ret
        refine ⟨?_, rfl⟩
        unfold kindF
        rw [if_neg (HN.out 0 (by omega))]; rw [if_neg (HN.out 1 (by omega))]; rw [if_pos HB.out]; rfl
      · have hb' : ((kw 2).toList == b.toList) = false := sbeq_false hb
        have HB : Hid (¬ kw 2 = b) := hb
        clear hb
        go_wp2
        go_round
        case rel => exact ⟨3, by omega, rfl, fun j hj => by
          by_cases e : j = 2
          · subst e; exact HB.out
          · exact HN.out j (by omega)⟩
        case measure => simp [intOf]
    | 3, _ =>
      go_wp2
      go_ret
      refine ⟨?_, rfl⟩
      unfold kindF
      rw [if_neg (HN.out 0 (by omega)), if_neg (HN.out 1 (by omega)), if_neg (HN.out 2 (by omega))]; rfl
end Go.Proofs.YtllhfbnafemoeaaDoor.TagA
