/-
  What guess's closures do, and the library's functions as they are wanted here; guess at work.
-/
import Derived.Test.YtnahkonklkcbeabGreatDoorRuB
import Derived.Test.YtnahkonklkcbeabGreatDoorShelf
namespace Go.Proofs.YtnahkonklkcbeabGreatDoor.RuA
open Go.RowKit RuM
set_option maxRecDepth 100000

def bt (l : List UInt8) : ByteArray := ⟨l.toArray⟩
theorem bt_list (l : List UInt8) : (bt l).data.toList = l := List.toList_toArray
theorem bt_size (l : List UInt8) : (bt l).size = l.length := by
  show l.toArray.size = _
  simp
theorem bt_data (s : ByteArray) : bt s.data.toList = s := by unfold bt; simp
theorem cut_any (l : List UInt8) (w : World) (hT : RTab w) (hs : l.length < 4294967281) :
    Calls Tryz.prog 43 #[.string (bt l), .string ⟨#[32]⟩] w fun e w' => e = .returned (.tuple #[.string (bt (hd l)), .string (bt (tl l)), .bool (Lib.cut l [32]).2.2]) ∧ ∃ n, w' = w.drewN n := by
  obtain ⟨m, hm⟩ := hT.mx
  have h := Tryz.strings_Cut (bt l) ⟨#[32]⟩ m w (by rw [bt_size]; exact hs) hm
  rw [bt_list] at h
  exact h
theorem below_bytesWorld (w : World) (t : ByteArray) : Below w.heap.size w (Lib.bytesWorld w 5 t) := by
  exact ⟨rfl, rfl, rfl, by rw [Lib.bytesWorld_size]; omega, fun j hj => Lib.bytesWorld_at_old w 5 t j hj⟩
/-- What Atoi answers besides its number. -/
structure AtoiP (l : List UInt8) (w : World) (e : Ending) (w' : World) : Prop where
  out : ∃ v, e = .returned (.tuple #[.int .i64 (num l), v])
  bl : Below w.heap.size w w'
theorem atoi_any (l : List UInt8) (w : World) (hT : RTab w) (hs : l.length < 4294967281) :
    Calls Tryz.prog 45 #[.string (bt l)] w fun e w' => AtoiP l w e w' := by
  have hz := bt_size l
  have hl := bt_list l
  cases h' : Lib.atoiAll l with
  | ok v =>
    refine (Tryz.strconv_Atoi_ok (bt l) (by omega) v (by rw [hl]; exact h') w).mono ?_
    have hn : num l = v := by unfold num; rw [h']
    rintro e w' ⟨he, rfl | ⟨t, rfl⟩⟩
    · exact ⟨⟨_, by rw [hn]; exact he⟩, Below.refl _ _⟩
    · exact ⟨⟨_, by rw [hn]; exact he⟩, below_bytesWorld w t⟩
  | «syntax» =>
    obtain ⟨te, pe, hv⟩ := hT.es
    refine (Tryz.strconv_Atoi_syntax (bt l) (by omega) (by rw [hl]; exact h') _ w hv (Or.inr ⟨te, pe, rfl⟩)).mono ?_
    have hn : num l = 0 := by unfold num; rw [h']
    rintro e w' ⟨N, he, _, _, hb⟩
    exact ⟨⟨_, by rw [hn]; exact he⟩, hb⟩
  | range =>
    obtain ⟨te, pe, hv⟩ := hT.er
    refine (Tryz.strconv_Atoi_range (bt l) (by omega) (by rw [hl]; exact h') _ w hv (Or.inr ⟨te, pe, rfl⟩)).mono ?_
    have hn : num l = Lib.atoiSat l := by unfold num; rw [h']
    rintro e w' ⟨N, he, _, _, hb⟩
    exact ⟨⟨_, by rw [hn, ← hl]; exact he⟩, hb⟩
theorem trim_any (l : List UInt8) (w : World) (hs : l.length < 4294967281) :
    Calls Tryz.prog 46 #[.string (bt l), .string ⟨#[58]⟩] w fun e w' => e = .returned (.string (bt (Lib.trimSuffix l [58]))) ∧ w' = w := by
  have h := Tryz.strings_TrimSuffix (bt l) ⟨#[58]⟩ w (by rw [bt_size]; omega)
  rw [bt_list] at h
  exact h
theorem set_drewN (w : World) (a : Addr) (v : Value) (d : Nat) : (w.drewN d).setCell a v = (w.setCell a v).drewN d := by
  induction d with
  | zero => rfl
  | succ d ih => exact congrArg World.drew ih

set_option maxHeartbeats 1000000 in
theorem take_any (l : List UInt8) (w : World) (sb : Nat) (hT : RTab w) (hs : l.length < 4294967281) (h0 : w.cell? ⟨sb, 0, none⟩ = some (.string (bt l))) (hf : w.frozen? ⟨sb, 0, none⟩ = false) :
    Calls Tryz.prog 42 #[.pointer (some ⟨sb, 0, none⟩)] w fun e w' => e = .returned (.string (bt (hd l))) ∧ ∃ d, w' = (w.setCell ⟨sb, 0, none⟩ (.string (bt (tl l)))).drewN d := by
  have HT : Hid (RTab w) := hT
  clear hT
  go_enter Tryz.func42, Tryz.ntmps42
  go_wp2_with fail
  refine (cut_any l _ HT.out hs).mono ?_
  rintro e w1 ⟨rfl, d, rfl⟩
  have r1 := set_drewN
  go_wp2
  go_ret
  exact ⟨rfl, _, rfl⟩
end Go.Proofs.YtnahkonklkcbeabGreatDoor.RuA

namespace Go.Proofs.YtnahkonklkcbeabGreatDoor.RuA
open Go.RowKit RuM
set_option maxRecDepth 100000

/-- Six cells of a rule at r. -/
structure Cells6 (V : World) (r : Nat) (a b c d e f : Value) : Prop where
  c0 : V.cell? ⟨r, 0, none⟩ = some a
  c1 : V.cell? ⟨r, 1, none⟩ = some b
  c2 : V.cell? ⟨r, 2, none⟩ = some c
  c3 : V.cell? ⟨r, 3, none⟩ = some d
  c4 : V.cell? ⟨r, 4, none⟩ = some e
  c5 : V.cell? ⟨r, 5, none⟩ = some f
  fz : ∀ i : Nat, V.frozen? ⟨r, i, none⟩ = false
  lt : r < V.heap.size
theorem froz_block {V V' : World} {r : Nat} (h : V'.heap[r]? = V.heap[r]?) (i : Nat) : V'.frozen? ⟨r, i, none⟩ = V.frozen? ⟨r, i, none⟩ := by
  unfold World.frozen?
  simp only [h]
theorem Cells6.move {V V' : World} {r : Nat} {a b c d e f : Value} (h : Cells6 V r a b c d e f) (hb : V'.heap[r]? = V.heap[r]?) (hs : V.heap.size ≤ V'.heap.size) : Cells6 V' r a b c d e f where
  c0 := by rw [World.cell?_of_block hb]; exact h.c0
  c1 := by rw [World.cell?_of_block hb]; exact h.c1
  c2 := by rw [World.cell?_of_block hb]; exact h.c2
  c3 := by rw [World.cell?_of_block hb]; exact h.c3
  c4 := by rw [World.cell?_of_block hb]; exact h.c4
  c5 := by rw [World.cell?_of_block hb]; exact h.c5
  fz := fun i => by rw [froz_block hb]; exact h.fz i
  lt := Nat.lt_of_lt_of_le h.lt hs
/-- Guess at work: at w.heap.size what is left of the text, behind it the answer, the closure, and the rule that is made. -/
structure GS (w V : World) (cur : List UInt8) (a b c d e f : Value) : Prop where
  w8 : 7 ≤ w.heap.size
  T : RTab V
  bl : Below w.heap.size w V
  s0 : V.cell? ⟨w.heap.size, 0, none⟩ = some (.string (bt cur))
  sf : V.frozen? ⟨w.heap.size, 0, none⟩ = false
  t0 : V.cell? ⟨w.heap.size + 1 + 1, 0, none⟩ = some (.func (.func 42) #[] #[.pointer (some ⟨w.heap.size, 0, none⟩)])
  r : Cells6 V (w.heap.size + 1 + 1 + 1) a b c d e f
  p : Cells6 V (w.heap.size + 1) (.string ⟨#[]⟩) (.int .i64 0) (.int .i64 0) (.int .i64 0) (.int .i64 0) (.int .i64 0)
theorem GS.keep {w V V' : World} {cur : List UInt8} {a b c d e f : Value} (h : GS w V cur a b c d e f) (hb : Below V.heap.size V V') : GS w V' cur a b c d e f where
  w8 := h.w8
  T := h.T.keep hb
  bl := h.bl.trans (hb.mono h.bl.size)
  s0 := by rw [hb.cell (by have := h.r.lt; show w.heap.size < _; omega)]; exact h.s0
  sf := by rw [froz_block (hb.block _ (by have := h.r.lt; omega))]; exact h.sf
  t0 := by rw [hb.cell (by have := h.r.lt; show w.heap.size + 1 + 1 < _; omega)]; exact h.t0
  r := h.r.move (hb.block _ h.r.lt) hb.size
  p := h.p.move (hb.block _ h.p.lt) hb.size
theorem Cells6.far {V : World} {r : Nat} {a b c d e f : Value} (h : Cells6 V r a b c d e f) (p : Addr) (v : Value) (hp : r ≠ p.block) : Cells6 (V.setCell p v) r a b c d e f :=
  h.move (Below.heap_setCell V p v r hp) (by simp [World.setCell])
theorem Cells6.set0 {V : World} {r : Nat} {a b c d e f : Value} (h : Cells6 V r a b c d e f) (x : Value) : Cells6 (V.setCell ⟨r, 0, none⟩ x) r x b c d e f where
  c0 := World.cell?_setCell_same' _ _ _ (by rw [h.c0]; rfl)
  c1 := by rw [World.cell?_setCell_other (a := ⟨r, 0, none⟩) (b := ⟨r, 1, none⟩) (h := by intro he; cases he)]; exact h.c1
  c2 := by rw [World.cell?_setCell_other (a := ⟨r, 0, none⟩) (b := ⟨r, 2, none⟩) (h := by intro he; cases he)]; exact h.c2
  c3 := by rw [World.cell?_setCell_other (a := ⟨r, 0, none⟩) (b := ⟨r, 3, none⟩) (h := by intro he; cases he)]; exact h.c3
  c4 := by rw [World.cell?_setCell_other (a := ⟨r, 0, none⟩) (b := ⟨r, 4, none⟩) (h := by intro he; cases he)]; exact h.c4
  c5 := by rw [World.cell?_setCell_other (a := ⟨r, 0, none⟩) (b := ⟨r, 5, none⟩) (h := by intro he; cases he)]; exact h.c5
  fz := fun i => by rw [World.frozen?_setCell]; exact h.fz i
  lt := by simpa [World.setCell] using h.lt
theorem Cells6.set1 {V : World} {r : Nat} {a b c d e f : Value} (h : Cells6 V r a b c d e f) (x : Value) : Cells6 (V.setCell ⟨r, 1, none⟩ x) r a x c d e f where
  c0 := by rw [World.cell?_setCell_other (a := ⟨r, 1, none⟩) (b := ⟨r, 0, none⟩) (h := by intro he; cases he)]; exact h.c0
  c1 := World.cell?_setCell_same' _ _ _ (by rw [h.c1]; rfl)
  c2 := by rw [World.cell?_setCell_other (a := ⟨r, 1, none⟩) (b := ⟨r, 2, none⟩) (h := by intro he; cases he)]; exact h.c2
  c3 := by rw [World.cell?_setCell_other (a := ⟨r, 1, none⟩) (b := ⟨r, 3, none⟩) (h := by intro he; cases he)]; exact h.c3
  c4 := by rw [World.cell?_setCell_other (a := ⟨r, 1, none⟩) (b := ⟨r, 4, none⟩) (h := by intro he; cases he)]; exact h.c4
  c5 := by rw [World.cell?_setCell_other (a := ⟨r, 1, none⟩) (b := ⟨r, 5, none⟩) (h := by intro he; cases he)]; exact h.c5
  fz := fun i => by rw [World.frozen?_setCell]; exact h.fz i
  lt := by simpa [World.setCell] using h.lt
theorem Cells6.set2 {V : World} {r : Nat} {a b c d e f : Value} (h : Cells6 V r a b c d e f) (x : Value) : Cells6 (V.setCell ⟨r, 2, none⟩ x) r a b x d e f where
  c0 := by rw [World.cell?_setCell_other (a := ⟨r, 2, none⟩) (b := ⟨r, 0, none⟩) (h := by intro he; cases he)]; exact h.c0
  c1 := by rw [World.cell?_setCell_other (a := ⟨r, 2, none⟩) (b := ⟨r, 1, none⟩) (h := by intro he; cases he)]; exact h.c1
  c2 := World.cell?_setCell_same' _ _ _ (by rw [h.c2]; rfl)
  c3 := by rw [World.cell?_setCell_other (a := ⟨r, 2, none⟩) (b := ⟨r, 3, none⟩) (h := by intro he; cases he)]; exact h.c3
  c4 := by rw [World.cell?_setCell_other (a := ⟨r, 2, none⟩) (b := ⟨r, 4, none⟩) (h := by intro he; cases he)]; exact h.c4
  c5 := by rw [World.cell?_setCell_other (a := ⟨r, 2, none⟩) (b := ⟨r, 5, none⟩) (h := by intro he; cases he)]; exact h.c5
  fz := fun i => by rw [World.frozen?_setCell]; exact h.fz i
  lt := by simpa [World.setCell] using h.lt
theorem Cells6.set3 {V : World} {r : Nat} {a b c d e f : Value} (h : Cells6 V r a b c d e f) (x : Value) : Cells6 (V.setCell ⟨r, 3, none⟩ x) r a b c x e f where
  c0 := by rw [World.cell?_setCell_other (a := ⟨r, 3, none⟩) (b := ⟨r, 0, none⟩) (h := by intro he; cases he)]; exact h.c0
  c1 := by rw [World.cell?_setCell_other (a := ⟨r, 3, none⟩) (b := ⟨r, 1, none⟩) (h := by intro he; cases he)]; exact h.c1
  c2 := by rw [World.cell?_setCell_other (a := ⟨r, 3, none⟩) (b := ⟨r, 2, none⟩) (h := by intro he; cases he)]; exact h.c2
  c3 := World.cell?_setCell_same' _ _ _ (by rw [h.c3]; rfl)
  c4 := by rw [World.cell?_setCell_other (a := ⟨r, 3, none⟩) (b := ⟨r, 4, none⟩) (h := by intro he; cases he)]; exact h.c4
  c5 := by rw [World.cell?_setCell_other (a := ⟨r, 3, none⟩) (b := ⟨r, 5, none⟩) (h := by intro he; cases he)]; exact h.c5
  fz := fun i => by rw [World.frozen?_setCell]; exact h.fz i
  lt := by simpa [World.setCell] using h.lt
theorem Cells6.set4 {V : World} {r : Nat} {a b c d e f : Value} (h : Cells6 V r a b c d e f) (x : Value) : Cells6 (V.setCell ⟨r, 4, none⟩ x) r a b c d x f where
  c0 := by rw [World.cell?_setCell_other (a := ⟨r, 4, none⟩) (b := ⟨r, 0, none⟩) (h := by intro he; cases he)]; exact h.c0
  c1 := by rw [World.cell?_setCell_other (a := ⟨r, 4, none⟩) (b := ⟨r, 1, none⟩) (h := by intro he; cases he)]; exact h.c1
  c2 := by rw [World.cell?_setCell_other (a := ⟨r, 4, none⟩) (b := ⟨r, 2, none⟩) (h := by intro he; cases he)]; exact h.c2
  c3 := by rw [World.cell?_setCell_other (a := ⟨r, 4, none⟩) (b := ⟨r, 3, none⟩) (h := by intro he; cases he)]; exact h.c3
  c4 := World.cell?_setCell_same' _ _ _ (by rw [h.c4]; rfl)
  c5 := by rw [World.cell?_setCell_other (a := ⟨r, 4, none⟩) (b := ⟨r, 5, none⟩) (h := by intro he; cases he)]; exact h.c5
  fz := fun i => by rw [World.frozen?_setCell]; exact h.fz i
  lt := by simpa [World.setCell] using h.lt
theorem Cells6.set5 {V : World} {r : Nat} {a b c d e f : Value} (h : Cells6 V r a b c d e f) (x : Value) : Cells6 (V.setCell ⟨r, 5, none⟩ x) r a b c d e x where
  c0 := by rw [World.cell?_setCell_other (a := ⟨r, 5, none⟩) (b := ⟨r, 0, none⟩) (h := by intro he; cases he)]; exact h.c0
  c1 := by rw [World.cell?_setCell_other (a := ⟨r, 5, none⟩) (b := ⟨r, 1, none⟩) (h := by intro he; cases he)]; exact h.c1
  c2 := by rw [World.cell?_setCell_other (a := ⟨r, 5, none⟩) (b := ⟨r, 2, none⟩) (h := by intro he; cases he)]; exact h.c2
  c3 := by rw [World.cell?_setCell_other (a := ⟨r, 5, none⟩) (b := ⟨r, 3, none⟩) (h := by intro he; cases he)]; exact h.c3
  c4 := by rw [World.cell?_setCell_other (a := ⟨r, 5, none⟩) (b := ⟨r, 4, none⟩) (h := by intro he; cases he)]; exact h.c4
  c5 := World.cell?_setCell_same' _ _ _ (by rw [h.c5]; rfl)
  fz := fun i => by rw [World.frozen?_setCell]; exact h.fz i
  lt := by simpa [World.setCell] using h.lt
theorem GS.set {w V : World} {cur : List UInt8} {a b c d e f a' b' c' d' e' f' : Value} (h : GS w V cur a b c d e f) {i : Nat} {x : Value}
    (hc : Cells6 (V.setCell ⟨w.heap.size + 1 + 1 + 1, i, none⟩ x) (w.heap.size + 1 + 1 + 1) a' b' c' d' e' f') : GS w (V.setCell ⟨w.heap.size + 1 + 1 + 1, i, none⟩ x) cur a' b' c' d' e' f' := by
  have hB : Below (w.heap.size + 1 + 1 + 1) V (V.setCell ⟨w.heap.size + 1 + 1 + 1, i, none⟩ x) := (Below.refl _ V).setCell (p := ⟨w.heap.size + 1 + 1 + 1, i, none⟩) (Nat.le_refl _) _
  have h8 := h.w8
  refine ⟨h8, h.T.below hB (by omega), h.bl.setCell (by show w.heap.size ≤ w.heap.size + 1 + 1 + 1; omega) _, ?_, ?_, ?_, hc, h.p.far _ _ (by show w.heap.size + 1 ≠ w.heap.size + 1 + 1 + 1; omega)⟩
  · rw [hB.cell (by show w.heap.size < _; omega)]; exact h.s0
  · rw [World.frozen?_setCell]; exact h.sf
  · rw [hB.cell (by show w.heap.size + 1 + 1 < _; omega)]; exact h.t0
theorem GS.took {w V : World} {cur nxt : List UInt8} {a b c d e f : Value} (h : GS w V cur a b c d e f) (n : Nat) : GS w ((V.setCell ⟨w.heap.size, 0, none⟩ (.string (bt nxt))).drewN n) nxt a b c d e f := by
  have hB : Below w.heap.size V (V.setCell ⟨w.heap.size, 0, none⟩ (.string (bt nxt))) := (Below.refl _ V).setCell (p := ⟨w.heap.size, 0, none⟩) (Nat.le_refl _) _
  have h8 := h.w8
  have h1 : GS w (V.setCell ⟨w.heap.size, 0, none⟩ (.string (bt nxt))) nxt a b c d e f := by
    refine ⟨h8, h.T.below hB (by omega), h.bl.setCell (Nat.le_refl _) _, ?_, ?_, ?_, h.r.far _ _ (by show w.heap.size + 1 + 1 + 1 ≠ w.heap.size; omega), h.p.far _ _ (by show w.heap.size + 1 ≠ w.heap.size; omega)⟩
    · exact World.cell?_setCell_same' _ _ _ (by rw [h.s0]; rfl)
    · rw [World.frozen?_setCell]; exact h.sf
    · rw [World.cell?_of_block (Below.heap_setCell V _ _ _ (by show w.heap.size + 1 + 1 ≠ w.heap.size; omega))]; exact h.t0
  exact h1.keep (below_drewN (Below.refl _ _) n)
theorem GS.take {w V : World} {cur : List UInt8} {a b c d e f : Value} (h : GS w V cur a b c d e f) (hs : cur.length < 4294967281) :
    Calls Tryz.prog 42 #[.pointer (some ⟨w.heap.size, 0, none⟩)] V fun x V' => x = .returned (.string (bt (hd cur))) ∧ GS w V' (tl cur) a b c d e f := by
  refine (take_any cur V w.heap.size h.T hs h.s0 h.sf).mono ?_
  rintro x V' ⟨rfl, n, rfl⟩
  exact ⟨rfl, h.took n⟩
set_option maxHeartbeats 1000000 in
theorem GS.numb {w V : World} {cur : List UInt8} {a b c d e f : Value} (h : GS w V cur a b c d e f) (hs : cur.length < 4294967281) :
    Calls Tryz.prog 44 #[.pointer (some ⟨w.heap.size + 1 + 1, 0, none⟩)] V fun x V' => x = .returned (.int .i64 (num (hd cur))) ∧ GS w V' (tl cur) a b c d e f := by
  have t0 := h.t0
  have H : Hid (Calls Tryz.prog 42 #[.pointer (some ⟨w.heap.size, 0, none⟩)] V fun x V' => x = .returned (.string (bt (hd cur))) ∧ GS w V' (tl cur) a b c d e f) := h.take hs
  have HL : Hid ((hd cur).length < 4294967281) := Nat.lt_of_le_of_lt (hd_len cur) hs
  clear h
  go_enter Tryz.func44, Tryz.ntmps44
  go_wp2_with fail
  refine Calls.mono H.out ?_
  rintro x V1 ⟨rfl, h1⟩
  have HG : Hid (GS w V1 (tl cur) a b c d e f) := h1
  clear h1 t0
  go_wp2_with fail
  refine (atoi_any (hd cur) _ HG.out.T HL.out).mono ?_
  rintro x V2 ⟨⟨v, rfl⟩, hb⟩
  have HG2 : Hid (GS w V2 (tl cur) a b c d e f) := HG.out.keep hb
  clear hb HG
  go_wp2
  go_ret
  exact ⟨rfl, HG2.out⟩
end Go.Proofs.YtnahkonklkcbeabGreatDoor.RuA
