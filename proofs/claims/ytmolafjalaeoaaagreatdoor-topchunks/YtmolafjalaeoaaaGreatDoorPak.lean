/-
  What best does to the world.
-/
import Derived.Test.YtmolafjalaeoaaaGreatDoorPaj
import Derived.Lib.QuietBelow
namespace Go.Proofs.YtmolafjalaeoaaaGreatDoor.TkA
open Go.RowKit TkM TkW Go.Maps
set_option maxRecDepth 100000
/-- The counts of eight places. -/
def tal (c : Nat → Nat) (s : Nat → Int) : Array Value := #[.int .i64 (c 0 : Int), .int .i64 (s 0), .int .i64 (c 1 : Int), .int .i64 (s 1), .int .i64 (c 2 : Int), .int .i64 (s 2), .int .i64 (c 3 : Int), .int .i64 (s 3), .int .i64 (c 4 : Int), .int .i64 (s 4), .int .i64 (c 5 : Int), .int .i64 (s 5), .int .i64 (c 6 : Int), .int .i64 (s 6), .int .i64 (c 7 : Int), .int .i64 (s 7)]
theorem idx0 (c : Nat → Nat) (s : Nat → Int) (V : World) : (Instr.index 196 (.agg (tal c s)) (.int .i64 0)).run Tryz.prog V = .ok (.agg #[.int .i64 (c 0 : Int), .int .i64 (s 0)]) V := by kernel_rfl
theorem idx1 (c : Nat → Nat) (s : Nat → Int) (V : World) : (Instr.index 196 (.agg (tal c s)) (.int .i64 1)).run Tryz.prog V = .ok (.agg #[.int .i64 (c 1 : Int), .int .i64 (s 1)]) V := by kernel_rfl
theorem idx2 (c : Nat → Nat) (s : Nat → Int) (V : World) : (Instr.index 196 (.agg (tal c s)) (.int .i64 2)).run Tryz.prog V = .ok (.agg #[.int .i64 (c 2 : Int), .int .i64 (s 2)]) V := by kernel_rfl
theorem idx3 (c : Nat → Nat) (s : Nat → Int) (V : World) : (Instr.index 196 (.agg (tal c s)) (.int .i64 3)).run Tryz.prog V = .ok (.agg #[.int .i64 (c 3 : Int), .int .i64 (s 3)]) V := by kernel_rfl
theorem idx4 (c : Nat → Nat) (s : Nat → Int) (V : World) : (Instr.index 196 (.agg (tal c s)) (.int .i64 4)).run Tryz.prog V = .ok (.agg #[.int .i64 (c 4 : Int), .int .i64 (s 4)]) V := by kernel_rfl
theorem idx5 (c : Nat → Nat) (s : Nat → Int) (V : World) : (Instr.index 196 (.agg (tal c s)) (.int .i64 5)).run Tryz.prog V = .ok (.agg #[.int .i64 (c 5 : Int), .int .i64 (s 5)]) V := by kernel_rfl
theorem idx6 (c : Nat → Nat) (s : Nat → Int) (V : World) : (Instr.index 196 (.agg (tal c s)) (.int .i64 6)).run Tryz.prog V = .ok (.agg #[.int .i64 (c 6 : Int), .int .i64 (s 6)]) V := by kernel_rfl
theorem idx7 (c : Nat → Nat) (s : Nat → Int) (V : World) : (Instr.index 196 (.agg (tal c s)) (.int .i64 7)).run Tryz.prog V = .ok (.agg #[.int .i64 (c 7 : Int), .int .i64 (s 7)]) V := by kernel_rfl
theorem idx_any (c : Nat → Nat) (s : Nat → Int) (j : Nat) (V : World) (hj : j < 8) : (Instr.index 196 (.agg (tal c s)) (.int .i64 (j : Int))).run Tryz.prog V = .ok (.agg #[.int .i64 (c j : Int), .int .i64 (s j)]) V := by
  have h : j = 0 ∨ j = 1 ∨ j = 2 ∨ j = 3 ∨ j = 4 ∨ j = 5 ∨ j = 6 ∨ j = 7 := by omega
  rcases h with rfl | rfl | rfl | rfl | rfl | rfl | rfl | rfl
  · exact idx0 c s V
  · exact idx1 c s V
  · exact idx2 c s V
  · exact idx3 c s V
  · exact idx4 c s V
  · exact idx5 c s V
  · exact idx6 c s V
  · exact idx7 c s V
theorem tal_cell {V : World} {B : Nat} {c : Nat → Nat} {s : Nat → Int} (h : V.heap[B]? = some (.cells (tal c s) 196)) {q : Nat} (hq : q < 8) : V.cell? ⟨B, q * 2, none⟩ = some (.int .i64 (c q : Int)) ∧ V.cell? ⟨B, q * 2 + 1, none⟩ = some (.int .i64 (s q)) := by
  have h' : q = 0 ∨ q = 1 ∨ q = 2 ∨ q = 3 ∨ q = 4 ∨ q = 5 ∨ q = 6 ∨ q = 7 := by omega
  rcases h' with rfl | rfl | rfl | rfl | rfl | rfl | rfl | rfl <;> simp [World.cell?, h, tal]
section
variable {w : World} {tb : Nat} {who : Nat → Nat × ByteArray × Nat} {W need n r : Nat} {ep : Nat → List Sg}
set_option maxHeartbeats 1000000 in
theorem best_any (c : Nat → Nat) (s : Nat → Int) (d : TrAt w tb who W need n r ep) :
    Calls Tryz.prog 98 #[.pointer (some ⟨tb, 0, none⟩), .agg (tal c s)] w fun e w' => e = .returned (.int .i64 (bst need c s 8)) ∧ Below w.heap.size w w' := by
  have mixed : Tryz.prog.follows .mixedOrders = true := by kernel_rfl
  have HD : Hid (TrAt w tb who W need n r ep) := d
  clear d
  unfold tal
  have hidx : ∀ (j : Nat) (V : World), j < 8 → (Instr.index 196 (.agg #[.int .i64 (c 0 : Int), .int .i64 (s 0), .int .i64 (c 1 : Int), .int .i64 (s 1), .int .i64 (c 2 : Int), .int .i64 (s 2), .int .i64 (c 3 : Int), .int .i64 (s 3), .int .i64 (c 4 : Int), .int .i64 (s 4), .int .i64 (c 5 : Int), .int .i64 (s 5), .int .i64 (c 6 : Int), .int .i64 (s 6), .int .i64 (c 7 : Int), .int .i64 (s 7)]) (.int .i64 (j : Int))).run Tryz.prog V = .ok (.agg #[.int .i64 (c j : Int), .int .i64 (s j)]) V := by
    exact fun j V hj => idx_any c s j V hj
  have HIX : Hid (∀ (j : Nat) (V : World), j < 8 → (Instr.index 196 (.agg #[.int .i64 (c 0 : Int), .int .i64 (s 0), .int .i64 (c 1 : Int), .int .i64 (s 1), .int .i64 (c 2 : Int), .int .i64 (s 2), .int .i64 (c 3 : Int), .int .i64 (s 3), .int .i64 (c 4 : Int), .int .i64 (s 4), .int .i64 (c 5 : Int), .int .i64 (s 5), .int .i64 (c 6 : Int), .int .i64 (s 6), .int .i64 (c 7 : Int), .int .i64 (s 7)]) (.int .i64 (j : Int))).run Tryz.prog V = .ok (.agg #[.int .i64 (c j : Int), .int .i64 (s j)]) V) := hidx
  have HA0 : Hid ((w.alloc (.cells #[.int .i64 (c 0 : Int), .int .i64 (s 0), .int .i64 (c 1 : Int), .int .i64 (s 1), .int .i64 (c 2 : Int), .int .i64 (s 2), .int .i64 (c 3 : Int), .int .i64 (s 3), .int .i64 (c 4 : Int), .int .i64 (s 4), .int .i64 (c 5 : Int), .int .i64 (s 5), .int .i64 (c 6 : Int), .int .i64 (s 6), .int .i64 (c 7 : Int), .int .i64 (s 7)] 196)).heap[w.heap.size]? = some (.cells (tal c s) 196)) := Go.heap_alloc_new w _
  have HB0 : Hid (∀ o, Below w.heap.size w (w.alloc o)) := fun o => (Below.refl _ w).alloc (Nat.le_refl _) o
  clear hidx
  go_enter Tryz.func98, Tryz.ntmps98
  go_wp2
  obtain ⟨V0, hV0⟩ : ∃ V0, V0 = (w.alloc (.cells #[.int .i64 (c 0 : Int), .int .i64 (s 0), .int .i64 (c 1 : Int), .int .i64 (s 1), .int .i64 (c 2 : Int), .int .i64 (s 2), .int .i64 (c 3 : Int), .int .i64 (s 3), .int .i64 (c 4 : Int), .int .i64 (s 4), .int .i64 (c 5 : Int), .int .i64 (s 5), .int .i64 (c 6 : Int), .int .i64 (s 6), .int .i64 (c 7 : Int), .int .i64 (s 7)] 196)) := ⟨_, rfl⟩
  have HB1 : Hid (Below w.heap.size w V0) := by rw [hV0]; exact HB0.out _
  rw [← hV0] at HA0 ⊢
  clear hV0
  generalize (Value.agg #[.int .i64 (c 0 : Int), .int .i64 (s 0), .int .i64 (c 1 : Int), .int .i64 (s 1), .int .i64 (c 2 : Int), .int .i64 (s 2), .int .i64 (c 3 : Int), .int .i64 (s 3), .int .i64 (c 4 : Int), .int .i64 (s 4), .int .i64 (c 5 : Int), .int .i64 (s 5), .int .i64 (c 6 : Int), .int .i64 (s 6), .int .i64 (c 7 : Int), .int .i64 (s 7)]) = A at HIX ⊢
  go_loopw [5, 6, 7, 9] (fun b _ _ k V => ∃ j : Nat, j ≤ 8 ∧ k = .int .i64 (j : Int) ∧ b = .int .i64 (bst need c s j) ∧ V.heap[w.heap.size]? = some (.cells (tal c s) 196) ∧ Below w.heap.size w V) (fun _ _ _ k _ => 8 - (intOf k).toNat)
  case atStart =>
    exact ⟨0, by omega, rfl, rfl, HA0.out, HB1.out⟩
  case round =>
    obtain ⟨j, hj, rfl, rfl, hbx, hbl⟩ := hrel
    by_cases h8 : j < 8
    case neg =>
      obtain rfl : j = 8 := by omega
      have HB : Hid (Below w.heap.size w wr) := hbl
      clear hbl hbx
      go_wp2
      go_ret
      exact ⟨rfl, HB.out⟩
    case pos =>
      have hjI : (j : Int) < 8 := by omega
      have hidx : (Instr.index 196 A (.int .i64 (j : Int))).run Tryz.prog wr = .ok (.agg #[.int .i64 (c j : Int), .int .i64 (s j)]) wr := HIX.out j wr h8
      have hsz := hbl.size
      have hB9 : w.heap.size < wr.heap.size := (Array.getElem?_eq_some_iff.1 hbx).1
      have hd := (HD.out.below hbl).below ((Below.refl _ wr).alloc (Nat.le_refl _) (.cells #[.int .i64 (c j : Int), .int .i64 (s j)] 195))
      have c1 : (wr.alloc (.cells #[.int .i64 (c j : Int), .int .i64 (s j)] 195)).cell? ⟨tb, 1, none⟩ = some (.int .i64 (need : Int)) := by
        obtain ⟨mb, m, D, tr, sp, d⟩ := hd.out
        exact d.c1
      have HB : Hid (Below w.heap.size w (wr.alloc (.cells #[.int .i64 (c j : Int), .int .i64 (s j)] 195))) := hbl.alloc hsz _
      have HBX : Hid (∀ o, (wr.alloc o).heap[w.heap.size]? = some (.cells (tal c s) 196)) := fun o => (Below.heap_alloc wr o _ hB9).trans hbx
      clear hbl hbx hd
      have hbs : bst need c s (j + 1) = if c j < need then bst need c s j else if bst need c s j = -1 ∨ beats (c j) (s j) (c (bst need c s j).toNat) (s (bst need c s j).toNat) = true then (j : Int) else bst need c s j := rfl
      have HRG := @bst_range need c s j
      by_cases h1 : c j < need
      · have h1' : decide ((c j : Int) < need) = true := by simp; omega
        rw [if_pos h1] at hbs
        go_wp2
        go_quiet (fail)
        clear c1 hidx
        go_wp2
        go_roundw
        case rel => exact ⟨j + 1, by omega, by go_num, by rw [hbs], by show (wr.alloc _).heap[_]? = _; exact HBX.out _, HB.out.trans ((drewN_below _ _).mono HB.out.size)⟩
        case measure => simp [intOf]; omega
      · have h1' : decide ((c j : Int) < need) = false := by simp; omega
        rw [if_neg h1] at hbs
        by_cases h2 : bst need c s j = -1
        · rw [if_pos (Or.inl h2)] at hbs
          rw [h2]
          clear HRG h2
          go_wp2
          go_quiet (fail)
          clear c1 hidx
          go_wp2
          go_quiet (fail)
          go_wp2
          go_roundw
          case rel => exact ⟨j + 1, by omega, by go_num, by rw [hbs], by show (wr.alloc _).heap[_]? = _; exact HBX.out _, HB.out.trans ((drewN_below _ _).mono HB.out.size)⟩
          case measure => simp [intOf]; omega
        · obtain ⟨q, hq⟩ : ∃ q : Nat, bst need c s j = (q : Int) := ⟨(bst need c s j).toNat, by omega⟩
          have hq8 : q < 8 := by omega
          have hqI : (q : Int) < 8 := by omega
          have hqn : ((q : Int) == -1) = false := by simp
          rw [hq] at hbs ⊢
          have hnm : ¬ (q : Int) = -1 := by omega
          simp only [hnm, false_or, Int.toNat_natCast] at hbs
          obtain ⟨b, hb⟩ : ∃ b, b = beats (c j) (s j) (c q) (s q) := ⟨_, rfl⟩
          rw [← hb] at hbs
          have HBT : Hid (∀ V : World, Calls Tryz.prog 130 #[.agg #[.int .i64 (c j : Int), .int .i64 (s j)], .agg #[.int .i64 (c q : Int), .int .i64 (s q)]] V fun e w' => e = .returned (.bool b) ∧ Below V.heap.size V w') := fun V => hb ▸ beats_any (c j) (c q) (s j) (s q) V
          clear HRG h2 hb hq
          go_wp2
          go_quiet (fail)
          clear c1 hidx
          go_wp2
          obtain ⟨V, hV⟩ : ∃ V, V = (wr.alloc (.cells #[.int .i64 (c j : Int), .int .i64 (s j)] 195)).drewN nq := ⟨_, rfl⟩
          have hVX : V.heap[w.heap.size]? = some (.cells (tal c s) 196) := by rw [hV]; exact HBX.out _
          have HVB : Hid (Below w.heap.size w V) := by rw [hV]; exact HB.out.trans ((drewN_below _ _).mono HB.out.size)
          have hVN : V.heap[wr.heap.size]? = some (.cells #[.int .i64 (c j : Int), .int .i64 (s j)] 195) := by rw [hV]; exact Go.heap_alloc_new wr _
          rw [← hV]
          clear hV
          have k0 := cell_regrown (tal_cell hVX hq8).1
          have k1 := cell_regrown (tal_cell hVX hq8).2
          have k2 := cell_regrown (show V.cell? ⟨wr.heap.size, 0, none⟩ = some (.int .i64 (c j : Int)) by simp [World.cell?, hVN])
          have k3 := cell_regrown (show V.cell? ⟨wr.heap.size, 1, none⟩ = some (.int .i64 (s j)) by simp [World.cell?, hVN])
          have HVX : Hid (V.heap[w.heap.size]? = some (.cells (tal c s) 196)) := hVX
          clear hVX hVN
          refine wp_region_quiet_below (by kernel_rfl) (by kernel_rfl) ?_
          repeat (go_big_quiet_step (first | with_reducible exact Calls.regrown_of (HBT.out _)))
          refine wpQuiet_nil ?_
          intro _ hw'
          obtain ⟨⟨dq, osq⟩, hw''⟩ := hw'
          subst hw''
          clear k0 k1 k2 k3
          have HR : Hid (Below V.heap.size V (Sort.grow (redrawn V dq) osq)) := below_regrown V dq osq
          have HX2 : Hid ((Sort.grow (redrawn V dq) osq).heap[w.heap.size]? = some (.cells (tal c s) 196)) := (HR.out.block _ (Array.getElem?_eq_some_iff.1 HVX.out).1).trans HVX.out
          generalize Sort.grow (redrawn V dq) osq = V2 at *
          cases b with
          | true =>
            go_wp2
            go_roundw
            case rel => exact ⟨j + 1, by omega, by go_num, by rw [hbs]; rfl, HX2.out, HVB.out.trans (HR.out.mono HVB.out.size)⟩
            case measure => simp [intOf]; omega
          | false =>
            go_wp2
            go_roundw
            case rel => exact ⟨j + 1, by omega, by go_num, by rw [hbs]; rfl, HX2.out, HVB.out.trans (HR.out.mono HVB.out.size)⟩
            case measure => simp [intOf]; omega
end
end Go.Proofs.YtmolafjalaeoaaaGreatDoor.TkA
