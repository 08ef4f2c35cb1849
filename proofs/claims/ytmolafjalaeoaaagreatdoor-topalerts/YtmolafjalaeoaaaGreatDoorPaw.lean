/-
  What a watch's readersAt does to the world. · What New and take do to the world.
-/
import Derived.Test.YtmolafjalaeoaaaGreatDoorPav
import Derived.Test.YtmolafjalaeoaaaGreatDoorPas
namespace Go.Proofs.YtmolafjalaeoaaaGreatDoor.WaB
open Go.RowKit TkW WaM WaW Go.Maps
open RuM (Rl)
set_option maxRecDepth 100000
/-- Readers, of which the first ones are made. -/
def rdA (pl : Nat → Nat → Int) (j : Nat) (i : Nat) : Value :=
  if i % 7 = 0 then .string ⟨#[]⟩ else if i / 7 < j then (if i % 7 = 1 then .int .i64 0 else if i % 7 = 6 then .int .i64 (-1) else .int .i64 (pl (i / 7) (i % 7 - 2))) else .int .i64 0
def rdL (pl : Nat → Nat → Int) (j : Nat) : Array Value := #[rdA pl j 0, rdA pl j 1, rdA pl j 2, rdA pl j 3, rdA pl j 4, rdA pl j 5, rdA pl j 6, rdA pl j 7, rdA pl j 8, rdA pl j 9, rdA pl j 10, rdA pl j 11, rdA pl j 12, rdA pl j 13, rdA pl j 14, rdA pl j 15, rdA pl j 16, rdA pl j 17, rdA pl j 18, rdA pl j 19, rdA pl j 20, rdA pl j 21, rdA pl j 22, rdA pl j 23, rdA pl j 24, rdA pl j 25, rdA pl j 26, rdA pl j 27]
theorem rdL_at (pl : Nat → Nat → Int) (j i : Nat) (hi : i < 28) : (rdL pl j)[i]? = some (rdA pl j i) := by
  match i, hi with
  | 0, _ => rfl
  | 1, _ => rfl
  | 2, _ => rfl
  | 3, _ => rfl
  | 4, _ => rfl
  | 5, _ => rfl
  | 6, _ => rfl
  | 7, _ => rfl
  | 8, _ => rfl
  | 9, _ => rfl
  | 10, _ => rfl
  | 11, _ => rfl
  | 12, _ => rfl
  | 13, _ => rfl
  | 14, _ => rfl
  | 15, _ => rfl
  | 16, _ => rfl
  | 17, _ => rfl
  | 18, _ => rfl
  | 19, _ => rfl
  | 20, _ => rfl
  | 21, _ => rfl
  | 22, _ => rfl
  | 23, _ => rfl
  | 24, _ => rfl
  | 25, _ => rfl
  | 26, _ => rfl
  | 27, _ => rfl
  | i + 28, h => exact absurd h (by omega)
theorem set_block {w : World} {b i : Nat} {v : Value} {c : Array Value} {t : TypeId} (h : w.heap[b]? = some (.cells c t)) : (w.setCell ⟨b, i, none⟩ v).heap[b]? = some (.cells (c.setIfInBounds i v) t) := by
  simp only [World.setCell, Array.getElem?_modify, h, if_true, Option.map_some, Option.isSome_none, Bool.false_eq_true, if_false]
theorem rdL_next (pl : Nat → Nat → Int) (j : Nat) (hj : j < 4) : (((((((rdL pl j).setIfInBounds (j * 7) (.string ⟨#[]⟩)).setIfInBounds (j * 7 + 1) (.int .i64 0)).setIfInBounds (j * 7 + 2) (.int .i64 (pl j 0))).setIfInBounds (j * 7 + 3) (.int .i64 (pl j 1))).setIfInBounds (j * 7 + 4) (.int .i64 (pl j 2))).setIfInBounds (j * 7 + 5) (.int .i64 (pl j 3))).setIfInBounds (j * 7 + 6) (.int .i64 (-1)) = rdL pl (j + 1) := by
  match j, hj with
  | 0, _ => simp [rdL, rdA]
  | 1, _ => simp [rdL, rdA]
  | 2, _ => simp [rdL, rdA]
  | 3, _ => simp [rdL, rdA]
set_option maxHeartbeats 4000000 in
theorem readersAt_any (pl : Nat → Nat → Int) (w : World) :
    Calls Tryz.prog 36 #[.agg (plw pl)] w fun e w' => e = .returned (.agg (rdL pl 4)) ∧ Below w.heap.size w w' := by
  have HB3 : Hid (∀ o o' o'', Below w.heap.size w (((w.alloc o).alloc o').alloc o'')) := fun o o' o'' => (((Below.refl _ w).alloc (Nat.le_refl _) o).alloc (by simp) o').alloc (by simp; omega) o''
  have HN2 : Hid (∀ o o' o'', (((w.alloc o).alloc o').alloc o'').heap[w.heap.size + 1 + 1]? = some o'') := fun o o' o'' => by
    show _ = _
    have := Go.heap_alloc_new ((w.alloc o).alloc o') o''
    rw [World.size_alloc, World.size_alloc] at this
    exact this
  have HN1 : Hid (∀ o o' o'', (((w.alloc o).alloc o').alloc o'').heap[w.heap.size + 1]? = some o') := fun o o' o'' => by
    show _ = _
    rw [Below.heap_alloc _ _ _ (by simp)]
    have := Go.heap_alloc_new (w.alloc o) o'
    rw [World.size_alloc] at this
    exact this
  go_enter Tryz.func36, Tryz.ntmps36
  unfold plw
  go_upto_region 3 with fail
  go_loopw [4, 5, 7] (fun _ _ i V => ∃ j : Nat, j ≤ 4 ∧ i = .int .i64 (j : Int) ∧ V.heap[w.heap.size + 1 + 1]? = some (.cells (rdL pl j) 111) ∧ V.heap[w.heap.size + 1]? = some (.cells (rdL pl 0) 111) ∧ Below w.heap.size w V) (fun _ _ i _ => 4 - (intOf i).toNat)
  case atStart => exact ⟨0, by omega, rfl, HN2.out _ _ _, HN1.out _ _ _, HB3.out _ _ _⟩
  case round =>
    obtain ⟨j, hj, rfl, hb2, hb1, hbl⟩ := hrel
    have H2 : Hid (wr.heap[w.heap.size + 1 + 1]? = some (.cells (rdL pl j) 111)) := hb2
    have H1 : Hid (wr.heap[w.heap.size + 1]? = some (.cells (rdL pl 0) 111)) := hb1
    have HBL : Hid (Below w.heap.size w wr) := hbl
    clear hb2 hb1 hbl
    by_cases hlt : j < 4
    case pos =>
      have hI : (j : Int) < 4 := by omega
      have hB2 : w.heap.size + 1 + 1 < wr.heap.size := (Array.getElem?_eq_some_iff.1 H2.out).1
      have hcl : ∀ i : Nat, i < 28 → wr.cell? ⟨w.heap.size + 1 + 1, i, none⟩ = some (rdA pl j i) := fun i hi => by
        simp only [World.cell?, H2.out, Option.isSome_none, Bool.false_eq_true, if_false]
        exact rdL_at pl j i hi
      have qz : ∀ i : Nat, wr.frozen? ⟨w.heap.size + 1 + 1, i, none⟩ = false := fun i => by simp [World.frozen?, H2.out]
      have HST : Hid (∀ o, ((((((((wr.setCell ⟨w.heap.size + 1 + 1, j * 7, none⟩ (.string ⟨#[]⟩)).setCell ⟨w.heap.size + 1 + 1, j * 7 + 1, none⟩ (.int .i64 0)).setCell ⟨w.heap.size + 1 + 1, j * 7 + 2, none⟩ (.int .i64 (pl j 0))).setCell ⟨w.heap.size + 1 + 1, j * 7 + 3, none⟩ (.int .i64 (pl j 1))).setCell ⟨w.heap.size + 1 + 1, j * 7 + 4, none⟩ (.int .i64 (pl j 2))).setCell ⟨w.heap.size + 1 + 1, j * 7 + 5, none⟩ (.int .i64 (pl j 3))).setCell ⟨w.heap.size + 1 + 1, j * 7 + 6, none⟩ (.int .i64 (-1))).alloc o).heap[w.heap.size + 1 + 1]? = some (.cells (rdL pl (j + 1)) 111) ∧ ((((((((wr.setCell ⟨w.heap.size + 1 + 1, j * 7, none⟩ (.string ⟨#[]⟩)).setCell ⟨w.heap.size + 1 + 1, j * 7 + 1, none⟩ (.int .i64 0)).setCell ⟨w.heap.size + 1 + 1, j * 7 + 2, none⟩ (.int .i64 (pl j 0))).setCell ⟨w.heap.size + 1 + 1, j * 7 + 3, none⟩ (.int .i64 (pl j 1))).setCell ⟨w.heap.size + 1 + 1, j * 7 + 4, none⟩ (.int .i64 (pl j 2))).setCell ⟨w.heap.size + 1 + 1, j * 7 + 5, none⟩ (.int .i64 (pl j 3))).setCell ⟨w.heap.size + 1 + 1, j * 7 + 6, none⟩ (.int .i64 (-1))).alloc o).heap[w.heap.size + 1]? = some (.cells (rdL pl 0) 111) ∧ Below w.heap.size w ((((((((wr.setCell ⟨w.heap.size + 1 + 1, j * 7, none⟩ (.string ⟨#[]⟩)).setCell ⟨w.heap.size + 1 + 1, j * 7 + 1, none⟩ (.int .i64 0)).setCell ⟨w.heap.size + 1 + 1, j * 7 + 2, none⟩ (.int .i64 (pl j 0))).setCell ⟨w.heap.size + 1 + 1, j * 7 + 3, none⟩ (.int .i64 (pl j 1))).setCell ⟨w.heap.size + 1 + 1, j * 7 + 4, none⟩ (.int .i64 (pl j 2))).setCell ⟨w.heap.size + 1 + 1, j * 7 + 5, none⟩ (.int .i64 (pl j 3))).setCell ⟨w.heap.size + 1 + 1, j * 7 + 6, none⟩ (.int .i64 (-1))).alloc o)) := by
        intro o
        have hb := HBL.out
        have hbX : Below w.heap.size w (((((((wr.setCell ⟨w.heap.size + 1 + 1, j * 7, none⟩ (.string ⟨#[]⟩)).setCell ⟨w.heap.size + 1 + 1, j * 7 + 1, none⟩ (.int .i64 0)).setCell ⟨w.heap.size + 1 + 1, j * 7 + 2, none⟩ (.int .i64 (pl j 0))).setCell ⟨w.heap.size + 1 + 1, j * 7 + 3, none⟩ (.int .i64 (pl j 1))).setCell ⟨w.heap.size + 1 + 1, j * 7 + 4, none⟩ (.int .i64 (pl j 2))).setCell ⟨w.heap.size + 1 + 1, j * 7 + 5, none⟩ (.int .i64 (pl j 3))).setCell ⟨w.heap.size + 1 + 1, j * 7 + 6, none⟩ (.int .i64 (-1))) := ((((((hb.setCell (by show w.heap.size ≤ w.heap.size + 1 + 1; omega) _).setCell (by show w.heap.size ≤ w.heap.size + 1 + 1; omega) _).setCell (by show w.heap.size ≤ w.heap.size + 1 + 1; omega) _).setCell (by show w.heap.size ≤ w.heap.size + 1 + 1; omega) _).setCell (by show w.heap.size ≤ w.heap.size + 1 + 1; omega) _).setCell (by show w.heap.size ≤ w.heap.size + 1 + 1; omega) _).setCell (by show w.heap.size ≤ w.heap.size + 1 + 1; omega) _
        have hsz : ((((((((wr.setCell ⟨w.heap.size + 1 + 1, j * 7, none⟩ (.string ⟨#[]⟩)).setCell ⟨w.heap.size + 1 + 1, j * 7 + 1, none⟩ (.int .i64 0)).setCell ⟨w.heap.size + 1 + 1, j * 7 + 2, none⟩ (.int .i64 (pl j 0))).setCell ⟨w.heap.size + 1 + 1, j * 7 + 3, none⟩ (.int .i64 (pl j 1))).setCell ⟨w.heap.size + 1 + 1, j * 7 + 4, none⟩ (.int .i64 (pl j 2))).setCell ⟨w.heap.size + 1 + 1, j * 7 + 5, none⟩ (.int .i64 (pl j 3))).setCell ⟨w.heap.size + 1 + 1, j * 7 + 6, none⟩ (.int .i64 (-1)))).heap.size = wr.heap.size := by simp [World.setCell]
        refine ⟨?_, ?_, hbX.alloc hbX.size o⟩
        · rw [Below.heap_alloc _ _ _ (by rw [hsz]; exact hB2), set_block (set_block (set_block (set_block (set_block (set_block (set_block H2.out)))))), rdL_next pl j hlt]
        · rw [Below.heap_alloc _ _ _ (by rw [hsz]; omega)]
          rw [Below.heap_setCell _ _ _ _ (by show w.heap.size + 1 ≠ w.heap.size + 1 + 1; omega), Below.heap_setCell _ _ _ _ (by show w.heap.size + 1 ≠ w.heap.size + 1 + 1; omega), Below.heap_setCell _ _ _ _ (by show w.heap.size + 1 ≠ w.heap.size + 1 + 1; omega), Below.heap_setCell _ _ _ _ (by show w.heap.size + 1 ≠ w.heap.size + 1 + 1; omega), Below.heap_setCell _ _ _ _ (by show w.heap.size + 1 ≠ w.heap.size + 1 + 1; omega), Below.heap_setCell _ _ _ _ (by show w.heap.size + 1 ≠ w.heap.size + 1 + 1; omega), Below.heap_setCell _ _ _ _ (by show w.heap.size + 1 ≠ w.heap.size + 1 + 1; omega)]
          exact H1.out
      rcases (show j = 0 ∨ j = 1 ∨ j = 2 ∨ j = 3 by omega) with rfl | rfl | rfl | rfl
      · have hi := idxP0 pl
        unfold plw plr at hi
        have c0 := hcl 0 (by omega)
        have c1 := hcl 1 (by omega)
        have c2 := hcl 2 (by omega)
        have c3 := hcl 3 (by omega)
        have c4 := hcl 4 (by omega)
        have c5 := hcl 5 (by omega)
        have c6 := hcl 6 (by omega)
        clear hcl
        go_wp2
        go_roundw
        case rel => exact ⟨1, by omega, rfl, (HST.out _).1, (HST.out _).2.1, (HST.out _).2.2⟩
        case measure => simp [intOf]
      · have hi := idxP1 pl
        unfold plw plr at hi
        have c0 := hcl 7 (by omega)
        have c1 := hcl 8 (by omega)
        have c2 := hcl 9 (by omega)
        have c3 := hcl 10 (by omega)
        have c4 := hcl 11 (by omega)
        have c5 := hcl 12 (by omega)
        have c6 := hcl 13 (by omega)
        clear hcl
        go_wp2
        go_roundw
        case rel => exact ⟨2, by omega, rfl, (HST.out _).1, (HST.out _).2.1, (HST.out _).2.2⟩
        case measure => simp [intOf]
      · have hi := idxP2 pl
        unfold plw plr at hi
        have c0 := hcl 14 (by omega)
        have c1 := hcl 15 (by omega)
        have c2 := hcl 16 (by omega)
        have c3 := hcl 17 (by omega)
        have c4 := hcl 18 (by omega)
        have c5 := hcl 19 (by omega)
        have c6 := hcl 20 (by omega)
        clear hcl
        go_wp2
        go_roundw
        case rel => exact ⟨3, by omega, rfl, (HST.out _).1, (HST.out _).2.1, (HST.out _).2.2⟩
        case measure => simp [intOf]
      · have hi := idxP3 pl
        unfold plw plr at hi
        have c0 := hcl 21 (by omega)
        have c1 := hcl 22 (by omega)
        have c2 := hcl 23 (by omega)
        have c3 := hcl 24 (by omega)
        have c4 := hcl 25 (by omega)
        have c5 := hcl 26 (by omega)
        have c6 := hcl 27 (by omega)
        clear hcl
        go_wp2
        go_roundw
        case rel => exact ⟨4, by omega, rfl, (HST.out _).1, (HST.out _).2.1, (HST.out _).2.2⟩
        case measure => simp [intOf]
    case neg =>
      obtain rfl : j = 4 := by omega
      have hI : ¬ ((4 : Nat) : Int) < 4 := by omega
      have hra : wr.rangeAt (w.heap.size + 1 + 1) 0 (rdL pl 4).toList := fun i v hv => by
        simp only [World.cell?, H2.out, Option.isSome_none, Bool.false_eq_true, if_false, Nat.zero_add]
        rw [← hv, Array.getElem?_toList]
      have hth : wr.there (w.heap.size + 1) 0 28 := fun i hi => by
        simp only [World.cell?, World.frozen?, H1.out, Option.isSome_none, Bool.false_eq_true, if_false, Nat.zero_add]
        refine ⟨?_, by simp⟩
        rw [rdL_at pl 0 i hi]
        rfl
      have h1 : (rdL pl 4).all (·.oneCell') = true := by simp [rdL, rdA, Value.oneCell']
      have hsz : (rdL pl 4).size = 28 := rfl
      have HF : Hid (Below w.heap.size w (wr.setCells (w.heap.size + 1) 0 (rdL pl 4).toList) ∧ (wr.setCells (w.heap.size + 1) 0 (rdL pl 4).toList).rangeAt (w.heap.size + 1) 0 (rdL pl 4).toList) := by
        refine ⟨HBL.out.trans (TkA.setCells_below _ _ _ _ _ (Nat.le_succ _)), World.rangeAt_setCells_same wr (w.heap.size + 1) 0 (rdL pl 4).toList ?_⟩
        exact hth
      have hlv : (loadVar 111 ⟨w.heap.size + 1, 0, none⟩).run Tryz.prog (wr.setCells (w.heap.size + 1) 0 (rdL pl 4).toList) = .ok (.agg (rdL pl 4).toList.toArray) (wr.setCells (w.heap.size + 1) 0 (rdL pl 4).toList) := run_loadVar_mid _ _ _ 111 _ _ HF.out.2 Tryz.underlying111 rfl (by kernel_rfl)
      rw [Array.toArray_toList] at hlv
      have hi : (Tryz.prog.info? 111).map (·.size) = some (rdL pl 4).size := by kernel_rfl
      have hi' : (Tryz.prog.info? 111).map (·.size) = some (rdL pl 4).toList.length := by kernel_rfl
      rw [← hsz] at hth
      clear hsz H1 H2 HBL
      generalize hA : rdL pl 4 = A at *
      have HA : Hid (A = rdL pl 4) := hA.symm
      clear hA
      go_wp2_with (first | (refine wpList_load_mid rfl 111 (.tmp 3) rfl (w.heap.size + 1 + 1) 0 rfl A.toList _ hra Tryz.underlying111 rfl hi' ?_) | (refine wpList_store_mid rfl 111 (.tmp 2) (.tmp 16) rfl (w.heap.size + 1) 0 A rfl rfl hth hi h1 ?_))
      refine bodyPost_ret (v := .agg A) ?_ rfl ⟨congrArg (fun a => Ending.returned (.agg a)) HA.out, HF.out.1⟩
      exact TkA.results_mid (P := Tryz.prog) (fn := Tryz.f36) (p := 2) (ty := 111) rfl _ _ (w.heap.size + 1) A rfl hlv
end Go.Proofs.YtmolafjalaeoaaaGreatDoor.WaB
namespace Go.Proofs.YtmolafjalaeoaaaGreatDoor.EpA
open TkM (Sg)
open Go.RowKit EpM EpW TkW Go.Maps
set_option maxRecDepth 100000
theorem zero73 (w : World) : (zeroValue 123).run Tryz.prog w = .ok nilS w := by kernel_rfl
/-- A look-up in the desk's map. -/
theorem wpList_lookup_held {P : Program} (w : World) {ops : Array Oper} {rest : List Oper} {o : Oper} {a : Act} {Q : Exit → Act → World → Prop}
    (hg : o.guard = none) (m x : Operand) (t : TypeId) (hop : o.op = Op.lookup t m x false)
    (k e : TypeId) (z : Value) (K : Keyed P k) (ht : P.underlying t = some (.map k e)) (hz : (zeroValue e).run P w = .ok z w) (b n : Nat) (D : DataW Value)
    (hm : a.eval m = .map (some b)) (hown : w.ownsMap P k heldV b n D) (key : Value) (kl : Lit) (hx : a.eval x = key) (hkey : keyOf P k key = some kl) (v : Value) (hv : D.atKey kl (.held z) = .held v)
    (hK : wpList P ops Q rest (a.put o.dst v) w) :
    wpList P ops Q (o :: rest) a w := by
  refine wpList_plain hg fun K' hK' => ?_
  obtain ⟨u, ps, hrun, hR⟩ := hown.lookup K ht hz (zd := .held z) (zp := []) rfl hkey
  rw [hv] at hR
  unfold heldV at hR
  simp at hR
  obtain ⟨rfl, _⟩ := hR
  unfold Oper.wp
  simp [execOp, hop, hm, hx, hrun, Result.andThen]
  exact hK' _ _ hK
theorem ptrDesk (w : World) (size late : Nat) : DeskAt ((w.alloc (.map #[] 0)).alloc (.cells #[.int .i64 (size : Int), .int .i64 (late : Int), .int .i64 0, .map (some w.heap.size)] 161)) (w.heap.size + 1) (fun b => w.heap.size ≤ b ∧ b < w.heap.size + 2) size late 0 [] 0 := by
  refine ⟨w.heap.size, 0, .map [], fun _ => nilS, ?_⟩
  refine ⟨?_, ?_, Nat.le_refl _, by omega, by omega, fun k _ => rfl, fun k _ => World.ownsRow_nil _ _ _ _, fun k b _ h => by simp [nilS, Value.ownBlock] at h, fun k k' _ _ _ b h => by simp [nilS, Value.ownBlock] at h⟩
  · have := Go.heap_alloc_new (w.alloc (.map #[] 0)) (.cells #[.int .i64 (size : Int), .int .i64 (late : Int), .int .i64 0, .map (some w.heap.size)] 161)
    simpa using this
  · exact (World.ownsMap_made w Tryz.prog 3 heldV).alloc _
set_option maxHeartbeats 400000 in
theorem new_ok (size late : Nat) (w : World) (h0 : 1 ≤ size) (h1 : size ≤ 50) (h2 : late ≤ 50) :
    Calls Tryz.prog 31 #[.int .i64 (size : Int), .int .i64 (late : Int)] w fun e w' => e = .returned (.tuple #[.pointer (some ⟨w.heap.size + 1, 0, none⟩), .nilIface]) ∧ w'.heap.size = w.heap.size + 2 ∧ DeskAt w' (w.heap.size + 1) (fun b => w.heap.size ≤ b ∧ b < w.heap.size + 2) size late 0 [] 0 ∧ Below w.heap.size w w' := by
  have hmm := @run_makeMap Tryz.prog
  have b1 : btw (size : Int) 1 50 = true := by simp [btw]; omega
  have b2 : btw (late : Int) 0 50 = true := by simp [btw]; omega
  have HD : Hid _ := ptrDesk w size late
  go_enter Tryz.func31, Tryz.ntmps31
  go_wp2_with fail
  refine (between_is b1 _).mono ?_
  rintro e w' ⟨rfl, rfl⟩
  go_wp2_with fail
  refine (between_is b2 _).mono ?_
  rintro e w' ⟨rfl, rfl⟩
  go_wp2
  go_ret2
  exact ⟨rfl, by simp, HD.out, ((Below.refl _ _).alloc (Nat.le_refl _) _).alloc (by simp) _⟩
theorem new_bad (size late : Int) (w : World) (h : ¬ (1 ≤ size ∧ size ≤ 50 ∧ 0 ≤ late ∧ late ≤ 50)) :
    Calls Tryz.prog 31 #[.int .i64 size, .int .i64 late] w fun e w' => e = .returned (.tuple #[.pointer none, .iface 105 (.int .i64 1)]) ∧ w' = w := by
  cases b1 : btw size 1 50 with
  | false =>
    go_enter Tryz.func31, Tryz.ntmps31
    go_wp2_with fail
    refine (between_is b1 _).mono ?_
    rintro e w' ⟨rfl, rfl⟩
    go_wp2
    go_ret2
    exact ⟨rfl, rfl⟩
  | true =>
    have b2 : btw late 0 50 = false := by simp [btw] at b1 ⊢; omega
    go_enter Tryz.func31, Tryz.ntmps31
    go_wp2_with fail
    refine (between_is b1 _).mono ?_
    rintro e w' ⟨rfl, rfl⟩
    go_wp2_with fail
    refine (between_is b2 _).mono ?_
    rintro e w' ⟨rfl, rfl⟩
    go_wp2
    go_ret2
    exact ⟨rfl, rfl⟩
/-- Something of F is taken away. -/
def less (F : Nat → Prop) (v : Value) : Nat → Prop := fun b => F b ∧ v.ownBlock ≠ some b
section
variable {w : World} {db : Nat} {F : Nat → Prop} {size late now : Nat} {all : List Sg} {lo : Nat}
theorem taken {mb n : Nat} {D : DataW Value} {h : Nat → Value} {w1 w2 : World} (d : DeskIn w db mb n D h F size late now all lo) (hT : w.grownBy w1 (some mb)) (hO : w1.ownsMap Tryz.prog 3 heldV mb n (D.del (.int .i64 (lo : Int)))) (hG : w1.grownBy w2 (h lo).ownBlock) :
    DeskIn w2 db mb n (D.del (.int .i64 (lo : Int))) h (less F (h lo)) size late now all (lo + 1) where
  cells := by
    rw [hG.block db (Nat.lt_of_lt_of_le d.lt hT.size) (fun e => (d.rne (Nat.le_refl _) e.symm).1 rfl), hT.block db d.lt (fun e => d.ne (by simpa using e.symm))]
    exact d.cells
  own := hO.kept hG (fun e => (d.rne (Nat.le_refl _) e.symm).2 rfl)
  room := d.room
  fd := ⟨d.fd, fun e => (d.rne (Nat.le_refl _) e).1 rfl⟩
  fm := ⟨d.fm, fun e => (d.rne (Nat.le_refl _) e).2 rfl⟩
  key := fun k hk => by
    rw [Maps.atKey_del_other (fun e => by simp at e; omega)]
    exact d.key k (by omega)
  row := fun k hk => own_keep (d.row k (by omega)) (fun b hb => by
    have hlt := own_lt (d.row k (by omega)) hb
    rw [hG.block b (Nat.lt_of_lt_of_le hlt hT.size) (fun e => d.apart lo k (Nat.le_refl _) (by omega) (by omega) b e.symm hb), hT.block b hlt (fun e => (d.rne (by omega) hb).2 (by simpa using e))])
  fr := fun k b hk hb => ⟨d.fr k b (by omega) hb, fun e => d.apart lo k (Nat.le_refl _) (by omega) (by omega) b e hb⟩
  apart := fun k k' hk hk' => d.apart k k' (by omega) (by omega)
set_option maxHeartbeats 400000 in
theorem take_any (d : DeskAt w db F size late now all lo) (hlo : lo ≤ 1000) (hal : all.length ≤ 100000) :
    Calls Tryz.prog 75 #[.pointer (some ⟨db, 0, none⟩), .int .i64 (lo : Int)] w fun e w' => ∃ v, e = .returned v ∧ w'.ownsRow 0 43 4 v (grp size all lo).length (sgcs (sorted (grp size all lo))) ∧ (∀ b, v.ownBlock = some b → F b ∧ b < w.heap.size) ∧ DeskAt w' db (less F v) size late now all (lo + 1) ∧ Kp F w w' := by
  obtain ⟨mb, n, D, h, d⟩ := d.out
  have c3 := d.c3
  have hown := d.own
  have hkey := d.key lo (Nat.le_refl _)
  have HD : Hid (DeskIn w db mb n D h F size late now all lo) := d
  clear d
  go_enter Tryz.func75, Tryz.ntmps75
  go_wp2_with (first | (at_lookup; refine wpList_lookup_held _ rfl _ _ 159 rfl 3 123 nilS law3 Tryz.underlying159 (zero73 _) mb n D rfl hown _ _ rfl (keyOf_int_mk Tryz.underlying3 (WalkArith.wf_i64 (by omega))) _ hkey ?_) | (at_delete; refine wpList_delete_own _ rfl _ _ 159 3 rfl 123 law3 Tryz.underlying159 heldV mb n D rfl hown _ _ rfl (keyOf_int_mk Tryz.underlying3 (WalkArith.wf_i64 (by omega))) ?_; intro w1 hown1 hturn1))
  have hg1 := hturn1.grown
  have hrow : w1.ownsRow 0 43 4 (h lo) (grp size all lo).length (sgcs (grp size all lo)) := own_keep (HD.out.row lo (Nat.le_refl _)) (fun b hb => hg1.block b (own_lt (HD.out.row lo (Nat.le_refl _)) hb) (fun e => (HD.out.rne (Nat.le_refl _) hb).2 (by simpa using e)))
  refine (sort_any (h lo) (grp size all lo) w1 hrow (Nat.le_trans (grp_length _ _ _) hal)).mono ?_
  rintro e w2 ⟨rfl, hrow2, hg2⟩
  have HR : Hid (w2.ownsRow 0 43 4 (h lo) (grp size all lo).length (sgcs (sorted (grp size all lo)))) := hrow2
  have HG : Hid (w1.grownBy w2 (h lo).ownBlock) := hg2
  have HT : Hid (w.grownBy w1 (some mb)) := hg1
  have HO : Hid (w1.ownsMap Tryz.prog 3 heldV mb n (D.del (.int .i64 (lo : Int)))) := hown1
  clear hrow2 hg2 hg1 hown1 hturn1 hrow hown hkey
  go_wp2
  go_ret
  exact ⟨h lo, rfl, HR.out, fun b hb => ⟨HD.out.fr lo b (Nat.le_refl _) hb, own_lt (HD.out.row lo (Nat.le_refl _)) hb⟩, ⟨mb, n, _, h, taken HD.out HT.out HO.out HG.out⟩, (grown_kp HT.out (fun k hk => by simp at hk; exact hk ▸ HD.out.fm)).trans (grown_kp HG.out (fun k hk => HD.out.fr lo k (Nat.le_refl _) hk))⟩
end
end Go.Proofs.YtmolafjalaeoaaaGreatDoor.EpA
