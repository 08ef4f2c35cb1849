/-
  What the document's own answer does to the world: RuleOf.
-/
import Derived.Test.YtnahkonklkcbeabGreatDoorRuJ
import Derived.Test.YtnahkonklkcbeabGreatDoorRuG
namespace Go.Proofs.YtnahkonklkcbeabGreatDoor.RuA
open Go.RowKit RuM RfC
set_option maxRecDepth 100000

/-- What RuleOf answers. -/
structure ROut (s : ByteArray) (w : World) (e : Ending) (w' : World) : Prop where
  out : (∃ r, Reads s r ∧ e = .returned (.tuple #[rV r, .bool true])) ∨ ((¬ ∃ r, Reads s r) ∧ e = .returned (.tuple #[rV zR, .bool false]))
  bl : Below w.heap.size w w'
/-- Its words. -/
structure Wds (V : World) (B g : Nat) (L : List (List UInt8)) : Prop where
  at_ : ∀ i x, L[i]? = some x → V.cell? ⟨g, i, none⟩ = some (.string (bt x))
  lo : B ≤ g
  hi : g < V.heap.size
theorem Wds.move {V V' : World} {B g : Nat} {L : List (List UInt8)} (h : Wds V B g L) (hb : V'.heap[g]? = V.heap[g]?) (hs : V.heap.size ≤ V'.heap.size) : Wds V' B g L :=
  ⟨fun i x hx => by rw [World.cell?_of_block hb]; exact h.at_ i x hx, h.lo, Nat.lt_of_lt_of_le h.hi hs⟩
theorem texts_wds {V : World} {B : Nat} {v : Value} {L : List (List UInt8)} (h : TextsAt V B v L) (hl : 1 ≤ L.length) : ∃ g cap, v = .slice (some ⟨g, 0, none⟩) L.length cap ∧ Wds V B g L ∧ L.length ≤ cap := by
  obtain ⟨g, cap, rfl, h2, h3⟩ := h.own.form hl
  refine ⟨g, cap, rfl, ⟨fun i x hx => ?_, ?_, ?_⟩, ?_⟩
  · have hi : i < L.length := (List.getElem?_eq_some_iff.1 hx).1
    rw [h.own.cellAt i (by omega)]
    unfold strsV
    rw [List.getElem?_map, hx]
    rfl
  · exact (h.own.lt g rfl).1
  · exact (h.own.lt g rfl).2
  · rcases h.own.2 with ⟨h1, _⟩ | ⟨g', cap', cur, h1, _, _, h4, _⟩
    · cases h1
    · cases h1; exact h4
theorem zero_new (w : World) : Cells6 (w.alloc (.cells #[.string ⟨#[]⟩, .int .i64 0, .int .i64 0, .int .i64 0, .int .i64 0, .int .i64 0] 23)) w.heap.size (.string ⟨#[]⟩) (.int .i64 0) (.int .i64 0) (.int .i64 0) (.int .i64 0) (.int .i64 0) := by
  refine ⟨?_, ?_, ?_, ?_, ?_, ?_, ?_, ?_⟩
  all_goals first | go_simp | (intro i; go_simp)
section
variable (s : ByteArray) (w : World)
set_option maxHeartbeats 4000000 in
theorem rof_len (hs : s.size ≤ 200) (h7 : (cuts s).length ≠ 7) (h9 : (cuts s).length ≠ 9) :
    Calls Tryz.prog 12 #[.string s] w fun e w' => ROut s w e w' := by
  have HNO : Hid (¬ ∃ r, Reads s r) := fun ⟨r, hr⟩ => by
    rw [words_of hr] at h7 h9
    rcases len7 (r := r) with h | h
    · exact h7 h
    · exact h9 h
  have hl1 := cutG_le s.data.toList 32 [] []
  go_enter Tryz.func12, Tryz.ntmps12
  go_wp2_with fail
  refine (refcut_any s 32 _ hs).mono ?_
  rintro e w1 ⟨v, rfl, ht, hb⟩
  obtain ⟨g, cap, rfl, hw, hcap⟩ := texts_wds ht hl1.1
  have HB1 : Hid (Below w.heap.size w w1) := ((Below.refl _ w).alloc (Nat.le_refl _) _).trans (hb.mono (by simp))
  have HP : Hid (Cells6 w1 w.heap.size (.string ⟨#[]⟩) (.int .i64 0) (.int .i64 0) (.int .i64 0) (.int .i64 0) (.int .i64 0)) := (zero_new w).move (hb.block _ (by simp)) hb.size
  have h7' : (cutG 32 [] [] s.data.toList).length ≠ 7 := h7
  have h9' : (cutG 32 [] [] s.data.toList).length ≠ 9 := h9
  clear ht hb hw h7 h9 hl1 hcap
  generalize (cutG 32 [] [] s.data.toList).length = N at *
  have i7 : ((N : Int) != 7) = true := by simp; omega
  have i9 : ((N : Int) != 9) = true := by simp; omega
  have p0 := HP.out.c0
  have p1 := HP.out.c1
  have p2 := HP.out.c2
  have p3 := HP.out.c3
  have p4 := HP.out.c4
  have p5 := HP.out.c5
  have pf := HP.out.fz
  go_wp2
  refine bodyPost_ret (v := .tuple #[rV zR, .bool false]) (by simp [results, Tryz.results12, go_sem, rV, zR, p0, p1, p2, p3, p4, p5]) rfl ⟨Or.inr ⟨HNO.out, rfl⟩, ?_⟩
  exact (((((HB1.out.setCell (Nat.le_refl _) _).setCell (Nat.le_refl _) _).setCell (Nat.le_refl _) _).setCell (Nat.le_refl _) _).setCell (Nat.le_refl _) _).setCell (Nat.le_refl _) _
end
end Go.Proofs.YtnahkonklkcbeabGreatDoor.RuA
