/-
  All that the functions of package rule read of the world; what kindOf does.
-/
import Derived.Test.YtnahkonklkcbeabGreatDoorRuA
import Derived.Lib.AppendIntMem
import Derived.Lib.AtoiAll
namespace Go.Proofs.YtnahkonklkcbeabGreatDoor.RuA
open Go.RowKit RuM
set_option maxRecDepth 100000

def kwB (j : Nat) : ByteArray := ⟨(kwL j).toArray⟩
/-- The variables that are read. -/
structure RTab (w : World) : Prop where
  size : 7 ≤ w.heap.size
  kws : ∀ j : Nat, j < 4 → w.cell? ⟨0, j, none⟩ = some (.string (kwB j))
  pow : Lib.TabIs Tryz.prog w "internal/strconv.uint64pow10" .u64 Lib.pow10Tab
  mx : ∃ m, w.cell? ⟨3, 0, none⟩ = some (.int .i64 m)
  es : ∃ te pe, w.cell? ⟨4, 0, none⟩ = some (.iface te pe)
  er : ∃ te pe, w.cell? ⟨5, 0, none⟩ = some (.iface te pe)
theorem gPow : Tryz.prog.globalNamed "internal/strconv.uint64pow10" = some 2 := by kernel_rfl
theorem RTab.below {w w' : World} {B : Nat} (h : RTab w) (hb : Below B w w') (hB : 7 ≤ B) : RTab w' where
  size := Nat.le_trans h.size hb.size
  kws := fun j hj => by rw [hb.cell (by show 0 < B; omega)]; exact h.kws j hj
  pow := var?_below hb gPow (by omega) h.pow
  mx := by rw [hb.cell (by show 3 < B; omega)]; exact h.mx
  es := by rw [hb.cell (by show 4 < B; omega)]; exact h.es
  er := by rw [hb.cell (by show 5 < B; omega)]; exact h.er
theorem RTab.keep {w w' : World} (h : RTab w) (hb : Below w.heap.size w w') : RTab w' := h.below hb h.size

theorem sbeq_iff (a b : ByteArray) : (a.toList == b.toList) = true ↔ a = b := by
  rw [beq_iff_eq, ByteArray.toList_eq, ByteArray.toList_eq]
  exact ⟨fun h => ByteArray.ext (Array.toList_inj.1 h), fun h => by rw [h]⟩
theorem sbeq_true {a b : ByteArray} (h : a = b) : (a.toList == b.toList) = true := (sbeq_iff a b).2 h
theorem sbeq_false {a b : ByteArray} (h : ¬ a = b) : (a.toList == b.toList) = false := by
  rw [← Bool.not_eq_true, sbeq_iff]; exact h
theorem bytes_of {a : List UInt8} {b : ByteArray} : (⟨a.toArray⟩ : ByteArray) = b ↔ a = b.data.toList := by
  constructor
  · rintro rfl; simp
  · intro h; rw [h]

theorem idx0 (a b c d : Value) (w : World) : (Instr.index 54 (.agg #[a, b, c, d]) (.int .i64 0)).run Tryz.prog w = .ok a w := by kernel_rfl
theorem idx1 (a b c d : Value) (w : World) : (Instr.index 54 (.agg #[a, b, c, d]) (.int .i64 1)).run Tryz.prog w = .ok b w := by kernel_rfl
theorem idx2 (a b c d : Value) (w : World) : (Instr.index 54 (.agg #[a, b, c, d]) (.int .i64 2)).run Tryz.prog w = .ok c w := by kernel_rfl
theorem idx3 (a b c d : Value) (w : World) : (Instr.index 54 (.agg #[a, b, c, d]) (.int .i64 3)).run Tryz.prog w = .ok d w := by kernel_rfl

set_option maxHeartbeats 1000000 in
theorem kindOf_any (b : ByteArray) (w : World) (k0 : w.cell? ⟨0, 0, none⟩ = some (.string (kwB 0))) (k1 : w.cell? ⟨0, 1, none⟩ = some (.string (kwB 1))) (k2 : w.cell? ⟨0, 2, none⟩ = some (.string (kwB 2))) (k3 : w.cell? ⟨0, 3, none⟩ = some (.string (kwB 3))) :
    Calls Tryz.prog 47 #[.string b] w fun e w' => e = .returned (.int .i64 (kindI b.data.toList)) ∧ w' = w := by
  have i0 := idx0
  have i1 := idx1
  have i2 := idx2
  have i3 := idx3
  have HQ : Hid (∀ j : Nat, kwB j = b ↔ kwL j = b.data.toList) := fun j => bytes_of
  go_enter Tryz.func47, Tryz.ntmps47
  go_wp2
  go_loop [3, 4, 6] (fun _ _ i => ∃ k : Nat, k ≤ 4 ∧ i = .int .i64 k ∧ ∀ j : Nat, j < k → ¬ kwB j = b) (fun _ _ i => 4 - (intOf i).toNat)
  case atStart => exact ⟨0, Nat.zero_le _, rfl, fun j h => by omega⟩
  case round =>
    obtain ⟨k, hk, rfl, hno⟩ := hrel
    have HN : Hid _ := hno
    clear hno
    match k, hk with
    | 0, _ =>
      by_cases hb : kwB 0 = b
      · have hb' : ((kwB 0).toList == b.toList) = true := sbeq_true hb
        have HB : Hid (kwB 0 = b) := hb
        clear hb
        go_wp2
        go_ret
        refine ⟨?_, rfl⟩
        unfold kindI
        rw [if_pos ((HQ.out 0).1 HB.out)]; rfl
      · have hb' : ((kwB 0).toList == b.toList) = false := sbeq_false hb
        have HB : Hid (¬ kwB 0 = b) := hb
        clear hb
        go_wp2
        go_round
        case rel => exact ⟨1, by omega, rfl, fun j hj => by
          by_cases e : j = 0
          · subst e; exact HB.out
          · exact HN.out j (by omega)⟩
        case measure => simp [intOf]
    | 1, _ =>
      by_cases hb : kwB 1 = b
      · have hb' : ((kwB 1).toList == b.toList) = true := sbeq_true hb
        have HB : Hid (kwB 1 = b) := hb
        clear hb
        go_wp2
        go_ret
        refine ⟨?_, rfl⟩
        unfold kindI
        rw [if_neg (fun h => HN.out 0 (by omega) ((HQ.out 0).2 h))]; rw [if_pos ((HQ.out 1).1 HB.out)]; rfl
      · have hb' : ((kwB 1).toList == b.toList) = false := sbeq_false hb
        have HB : Hid (¬ kwB 1 = b) := hb
        clear hb
        go_wp2
        go_round
        case rel => exact ⟨2, by omega, rfl, fun j hj => by
          by_cases e : j = 1
          · subst e; exact HB.out
          · exact HN.out j (by omega)⟩
        case measure => simp [intOf]
    | 2, _ =>
      by_cases hb : kwB 2 = b
      · have hb' : ((kwB 2).toList == b.toList) = true := sbeq_true hb
        have HB : Hid (kwB 2 = b) := hb
        clear hb
        go_wp2
        go_ret
        refine ⟨?_, rfl⟩
        unfold kindI
        rw [if_neg (fun h => HN.out 0 (by omega) ((HQ.out 0).2 h))]; rw [if_neg (fun h => HN.out 1 (by omega) ((HQ.out 1).2 h))]; rw [if_pos ((HQ.out 2).1 HB.out)]; rfl
      · have hb' : ((kwB 2).toList == b.toList) = false := sbeq_false hb
        have HB : Hid (¬ kwB 2 = b) := hb
        clear hb
        go_wp2
        go_round
        case rel => exact ⟨3, by omega, rfl, fun j hj => by
          by_cases e : j = 2
          · subst e; exact HB.out
          · exact HN.out j (by omega)⟩
        case measure => simp [intOf]
    | 3, _ =>
      by_cases hb : kwB 3 = b
      · have hb' : ((kwB 3).toList == b.toList) = true := sbeq_true hb
        have HB : Hid (kwB 3 = b) := hb
        clear hb
        go_wp2
        go_ret
        refine ⟨?_, rfl⟩
        unfold kindI
        rw [if_neg (fun h => HN.out 0 (by omega) ((HQ.out 0).2 h))]; rw [if_neg (fun h => HN.out 1 (by omega) ((HQ.out 1).2 h))]; rw [if_neg (fun h => HN.out 2 (by omega) ((HQ.out 2).2 h))]; rw [if_pos ((HQ.out 3).1 HB.out)]; rfl
      · have hb' : ((kwB 3).toList == b.toList) = false := sbeq_false hb
        have HB : Hid (¬ kwB 3 = b) := hb
        clear hb
        go_wp2
        go_round
        case rel => exact ⟨4, by omega, rfl, fun j hj => by
          by_cases e : j = 3
          · subst e; exact HB.out
          · exact HN.out j (by omega)⟩
        case measure => simp [intOf]
    | 4, _ =>
      go_wp2
      go_ret
      refine ⟨?_, rfl⟩
      unfold kindI
      rw [if_neg (fun h => HN.out 0 (by omega) ((HQ.out 0).2 h)), if_neg (fun h => HN.out 1 (by omega) ((HQ.out 1).2 h)), if_neg (fun h => HN.out 2 (by omega) ((HQ.out 2).2 h)), if_neg (fun h => HN.out 3 (by omega) ((HQ.out 3).2 h))]; rfl
end Go.Proofs.YtnahkonklkcbeabGreatDoor.RuA
