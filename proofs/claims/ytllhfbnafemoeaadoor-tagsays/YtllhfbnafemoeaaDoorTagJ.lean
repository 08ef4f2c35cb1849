/-
  What the library's Cut, SplitN and Atoi do, as it is wanted here.
-/
import Derived.Test.YtllhfbnafemoeaaDoorTagI
namespace Go.Proofs.YtllhfbnafemoeaaDoor.TagA
open Go.RowKit TagM
set_option maxRecDepth 100000

/-- What stands ahead of a colon, and behind it. -/
def cutW (s : ByteArray) : ByteArray := ⟨(Lib.cut s.data.toList [58]).1.toArray⟩
def cutR (s : ByteArray) : ByteArray := ⟨(Lib.cut s.data.toList [58]).2.1.toArray⟩
def cutB (s : ByteArray) : Bool := (Lib.cut s.data.toList [58]).2.2
theorem cutR_size (s : ByteArray) : (cutR s).size ≤ s.size := by
  show (Lib.cut s.data.toList [58]).2.1.toArray.size ≤ _
  rw [List.size_toArray]
  unfold Lib.cut
  split
  · simp
  · simp
theorem cut_any (s : ByteArray) (w : World) (hT : Tabs2 w) (hs : s.size < 4294967281) :
    Calls Tryd.prog 42 #[.string s, .string ⟨#[58]⟩] w fun e w' => e = .returned (.tuple #[.string (cutW s), .string (cutR s), .bool (cutB s)]) ∧ ∃ n, w' = w.drewN n := by
  obtain ⟨m, hm⟩ := hT.mx
  exact Tryd.strings_Cut s ⟨#[58]⟩ m w hs hm

/-- The parts between dots, four at most. -/
def parts (r : ByteArray) : List ByteArray := Lib.splitB ⟨#[46]⟩ 0 (min 4 (r.size + 1) - 1) r
theorem split_any (r : ByteArray) (w : World) (hT : Tabs2 w) (hs : r.size < 4294967281) :
    Calls Tryd.prog 43 #[.string r, .string ⟨#[46]⟩, .int .i64 4] w fun e w' => e = .returned (.slice (some ⟨w.heap.size, 0, none⟩) (parts r).length (min 4 (r.size + 1))) ∧ Below w.heap.size w w' ∧ w'.heap.size = w.heap.size + 1 ∧ ∀ (i : Nat) (x : ByteArray), (parts r)[i]? = some x → w'.cell? ⟨w.heap.size, i, none⟩ = some (.string x) := by
  obtain ⟨m, hm⟩ := hT.mx
  refine (Tryd.strings_SplitN r ⟨#[46]⟩ 4 m w hs hm (by decide) (by omega) (by omega)).mono ?_
  rintro e w' ⟨he, rfl⟩
  refine ⟨he, (Below.refl _ _).alloc (Nat.le_refl _) _, by simp, ?_⟩
  intro i x hx
  go_simp
  show (Lib.cellsOf (parts r) _)[i]? = _
  have hi : i < (parts r).length := by
    rcases Nat.lt_or_ge i (parts r).length with h | h
    · exact h
    · rw [List.getElem?_eq_none h] at hx; cases hx
  unfold Lib.cellsOf
  rw [List.getElem?_toArray, List.getElem?_append_left (by simpa using hi), List.getElem?_map, hx]
  rfl

def atoiV (x : ByteArray) : Option Int := match Lib.atoiAll x.data.toList with
  | .ok v => some v
  | _ => none
theorem below_bytesWorld (w : World) (t : ByteArray) : Below w.heap.size w (Lib.bytesWorld w 5 t) := by
  exact ⟨rfl, rfl, rfl, by rw [Lib.bytesWorld_size]; omega, fun j hj => Lib.bytesWorld_at_old w 5 t j hj⟩
theorem atoi_ok (x : ByteArray) (v : Int) (w : World) (hs : x.size < 4294967281) (h : atoiV x = some v) :
    Calls Tryd.prog 44 #[.string x] w fun e w' => e = .returned (.tuple #[.int .i64 v, .nilIface]) ∧ Below w.heap.size w w' := by
  have h' : Lib.atoiAll x.data.toList = .ok v := by
    unfold atoiV at h
    split at h
    · cases h; assumption
    · cases h
  refine (Tryd.strconv_Atoi_ok x (by omega) v h' w).mono ?_
  rintro e w' ⟨he, rfl | ⟨t, rfl⟩⟩
  · exact ⟨he, Below.refl _ _⟩
  · exact ⟨he, below_bytesWorld w t⟩
theorem atoi_no (x : ByteArray) (w : World) (hT : Tabs2 w) (hs : x.size < 4294967281) (h : atoiV x = none) :
    Calls Tryd.prog 44 #[.string x] w fun e w' => ∃ v N, e = .returned (.tuple #[.int .i64 v, .iface 108 (.pointer (some ⟨N, 0, none⟩))]) ∧ Below w.heap.size w w' := by
  cases h' : Lib.atoiAll x.data.toList with
  | ok v => unfold atoiV at h; rw [h'] at h; cases h
  | «syntax» =>
    obtain ⟨te, pe, hv⟩ := hT.es
    refine (Tryd.strconv_Atoi_syntax x (by omega) h' _ w hv (Or.inr ⟨te, pe, rfl⟩)).mono ?_
    rintro e w' ⟨N, he, _, _, hb⟩
    exact ⟨_, N, he, hb⟩
  | range =>
    obtain ⟨te, pe, hv⟩ := hT.er
    refine (Tryd.strconv_Atoi_range x (by omega) h' _ w hv (Or.inr ⟨te, pe, rfl⟩)).mono ?_
    rintro e w' ⟨N, he, _, _, hb⟩
    exact ⟨_, N, he, hb⟩
end Go.Proofs.YtllhfbnafemoeaaDoor.TagA
