/-
  What guess's closures and the library's functions do, as it is wanted here.
-/
import Derived.Test.YtnahkonklkcbeabGreatDoorRuB
import Derived.Test.YtnahkonklkcbeabGreatDoorShelf
namespace Go.Proofs.YtnahkonklkcbeabGreatDoor.RuA
open Go.RowKit RuM
set_option maxRecDepth 100000

def bt (l : List UInt8) : ByteArray := ⟨l.toArray⟩
theorem bt_list (l : List UInt8) : (bt l).data.toList = l := List.toList_toArray
theorem bt_size (l : List UInt8) : (bt l).size = l.length := by
  show l.toArray.size = _
  simp
theorem bt_data (s : ByteArray) : bt s.data.toList = s := by unfold bt; simp
theorem cut_any (l : List UInt8) (w : World) (hT : RTab w) (hs : l.length < 4294967281) :
    Calls Tryz.prog 43 #[.string (bt l), .string ⟨#[32]⟩] w fun e w' => e = .returned (.tuple #[.string (bt (hd l)), .string (bt (tl l)), .bool (Lib.cut l [32]).2.2]) ∧ ∃ n, w' = w.drewN n := by
  obtain ⟨m, hm⟩ := hT.mx
  have h := Tryz.strings_Cut (bt l) ⟨#[32]⟩ m w (by rw [bt_size]; exact hs) hm
  rw [bt_list] at h
  exact h
theorem below_bytesWorld (w : World) (t : ByteArray) : Below w.heap.size w (Lib.bytesWorld w 5 t) := by
  exact ⟨rfl, rfl, rfl, by rw [Lib.bytesWorld_size]; omega, fun j hj => Lib.bytesWorld_at_old w 5 t j hj⟩
/-- What Atoi answers besides its number. -/
structure AtoiP (l : List UInt8) (w : World) (e : Ending) (w' : World) : Prop where
  out : ∃ v, e = .returned (.tuple #[.int .i64 (num l), v])
  bl : Below w.heap.size w w'
theorem atoi_any (l : List UInt8) (w : World) (hT : RTab w) (hs : l.length < 4294967281) :
    Calls Tryz.prog 45 #[.string (bt l)] w fun e w' => AtoiP l w e w' := by
  have hz := bt_size l
  have hl := bt_list l
  cases h' : Lib.atoiAll l with
  | ok v =>
    refine (Tryz.strconv_Atoi_ok (bt l) (by omega) v (by rw [hl]; exact h') w).mono ?_
    have hn : num l = v := by unfold num; rw [h']
    rintro e w' ⟨he, rfl | ⟨t, rfl⟩⟩
    · exact ⟨⟨_, by rw [hn]; exact he⟩, Below.refl _ _⟩
    · exact ⟨⟨_, by rw [hn]; exact he⟩, below_bytesWorld w t⟩
  | «syntax» =>
    obtain ⟨te, pe, hv⟩ := hT.es
    refine (Tryz.strconv_Atoi_syntax (bt l) (by omega) (by rw [hl]; exact h') _ w hv (Or.inr ⟨te, pe, rfl⟩)).mono ?_
    have hn : num l = 0 := by unfold num; rw [h']
    rintro e w' ⟨N, he, _, _, hb⟩
    exact ⟨⟨_, by rw [hn]; exact he⟩, hb⟩
  | range =>
    obtain ⟨te, pe, hv⟩ := hT.er
    refine (Tryz.strconv_Atoi_range (bt l) (by omega) (by rw [hl]; exact h') _ w hv (Or.inr ⟨te, pe, rfl⟩)).mono ?_
    have hn : num l = Lib.atoiSat l := by unfold num; rw [h']
    rintro e w' ⟨N, he, _, _, hb⟩
    exact ⟨⟨_, by rw [hn, ← hl]; exact he⟩, hb⟩
theorem trim_any (l : List UInt8) (w : World) (hs : l.length < 4294967281) :
    Calls Tryz.prog 46 #[.string (bt l), .string ⟨#[58]⟩] w fun e w' => e = .returned (.string (bt (Lib.trimSuffix l [58]))) ∧ w' = w := by
  have h := Tryz.strings_TrimSuffix (bt l) ⟨#[58]⟩ w (by rw [bt_size]; omega)
  rw [bt_list] at h
  exact h
theorem set_drewN (w : World) (a : Addr) (v : Value) (d : Nat) : (w.drewN d).setCell a v = (w.setCell a v).drewN d := by
  induction d with
  | zero => rfl
  | succ d ih => exact congrArg World.drew ih

set_option maxHeartbeats 1000000 in
theorem take_any (l : List UInt8) (w : World) (sb : Nat) (hT : RTab w) (hs : l.length < 4294967281) (h0 : w.cell? ⟨sb, 0, none⟩ = some (.string (bt l))) (hf : w.frozen? ⟨sb, 0, none⟩ = false) :
    Calls Tryz.prog 42 #[.pointer (some ⟨sb, 0, none⟩)] w fun e w' => e = .returned (.string (bt (hd l))) ∧ ∃ d, w' = (w.setCell ⟨sb, 0, none⟩ (.string (bt (tl l)))).drewN d := by
  have HT : Hid (RTab w) := hT
  clear hT
  go_enter Tryz.func42, Tryz.ntmps42
  go_wp2_with fail
  refine (cut_any l _ HT.out hs).mono ?_
  rintro e w1 ⟨rfl, d, rfl⟩
  have r1 := set_drewN
  go_wp2
  go_ret
  exact ⟨rfl, _, rfl⟩
end Go.Proofs.YtnahkonklkcbeabGreatDoor.RuA
