/-
  The document's track in memory: what is read of it; what Told does to the world.
-/
import Derived.Test.YtblkbogoelfjlaaDoorTkI
namespace Go.Proofs.YtblkbogoelfjlaaDoor.TkA
open Go.RowKit TkM TkW Go.Maps
set_option maxRecDepth 100000

theorem sbeq_iff (a b : ByteArray) : (a.toList == b.toList) = true ↔ a = b := by
  rw [beq_iff_eq, ByteArray.toList_eq, ByteArray.toList_eq]
  exact ⟨fun h => bytes_ext h, fun h => by rw [h]⟩
theorem sbeq_true {a b : ByteArray} (h : a = b) : (a.toList == b.toList) = true := (sbeq_iff a b).2 h
theorem sbeq_false {a b : ByteArray} (h : ¬ a = b) : (a.toList == b.toList) = false := by
  cases h' : (a.toList == b.toList)
  · rfl
  · exact absurd ((sbeq_iff a b).1 h') h
/-- The document's track, as it is read. -/
structure RfV (w : World) (rb : Nat) (W need : Nat) (p : Option Addr) (cap : Nat) (E : List (List Sg)) : Prop where
  c0 : w.cell? ⟨rb, 0, none⟩ = some (.int .i64 (W : Int))
  c1 : w.cell? ⟨rb, 1, none⟩ = some (.int .i64 (need : Int))
  c2 : w.cell? ⟨rb, 2, none⟩ = some (.slice p E.length cap)
  on : EsOn w p E
  lt : rb < w.heap.size
  good : light E = true
  ok : ∀ l, l ∈ E → l.all okS = true
theorem RfV.below {w w' : World} {rb W need : Nat} {p : Option Addr} {cap : Nat} {E : List (List Sg)} (h : RfV w rb W need p cap E) (hb : Below w.heap.size w w') : RfV w' rb W need p cap E where
  c0 := by rw [hb.cell h.lt]; exact h.c0
  c1 := by rw [hb.cell h.lt]; exact h.c1
  c2 := by rw [hb.cell h.lt]; exact h.c2
  on := h.on.below hb
  lt := Nat.lt_of_lt_of_le h.lt hb.size
  good := h.good
  ok := h.ok
section
variable {w : World} {rb W need : Nat} {p : Option Addr} {cap : Nat} {E : List (List Sg)}
theorem told_take {g : ByteArray} {E : List (List Sg)} {k : Nat} (hk : k < E.length) : told g (E.take (k + 1)) = (told g (E.take k) || seenG g E[k]) := by
  unfold told
  rw [List.take_add_one, List.getElem?_eq_getElem hk, List.any_append]
  simp
theorem seen_take {g : ByteArray} {l : List Sg} {k : Nat} (hk : k < l.length) : seenG g (l.take (k + 1)) = (seenG g (l.take k) || decide (l[k].g = g)) := by
  rw [List.take_add_one, List.getElem?_eq_getElem hk]
  exact seen_snoc g _ _
end
end Go.Proofs.YtblkbogoelfjlaaDoor.TkA
