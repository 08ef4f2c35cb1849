/-
  What Bytes does to the world.
-/
import Derived.Test.YtnahkonklkcbeabGreatDoorTagB
import Derived.Test.YtnahkonklkcbeabGreatDoorTagN
import Derived.Laws.BytesArg
namespace Go.Proofs.YtnahkonklkcbeabGreatDoor.TagA
open Go.RowKit TagM
set_option maxRecDepth 100000

/-- The bytes of a number, the highest first. -/
def byt (n i : Nat) : Nat := n / 2 ^ (56 - 8 * i) % 256
def bcell (n k i : Nat) : Value := .int .u8 (if i < k then ((byt n i : Nat) : Int) else 0)
def bcells (n k : Nat) : Array Value := #[bcell n k 0, bcell n k 1, bcell n k 2, bcell n k 3, bcell n k 4, bcell n k 5, bcell n k 6, bcell n k 7]
def be8 (n : Nat) : ByteArray := ⟨#[UInt8.ofNat (byt n 0), UInt8.ofNat (byt n 1), UInt8.ofNat (byt n 2), UInt8.ofNat (byt n 3), UInt8.ofNat (byt n 4), UInt8.ofNat (byt n 5), UInt8.ofNat (byt n 6), UInt8.ofNat (byt n 7)]⟩

theorem byt_cast (n i : Nat) : ((byt n i : Nat) : Int) = (n : Int) / 2 ^ (56 - 8 * i) % 256 := by
  unfold byt
  rw [Int.natCast_emod, Int.natCast_ediv]; simp
theorem bcells_at {n k : Nat} (h : k < 8) : (bcells n k)[k]? = some (bcell n k k) := by
  match k, h with
  | 0, _ | 1, _ | 2, _ | 3, _ | 4, _ | 5, _ | 6, _ | 7, _ => rfl
  | _ + 8, h => omega
theorem bcells_set {n k : Nat} (h : k < 8) : (bcells n k).setIfInBounds k (.int .u8 ((n : Int) / 2 ^ (56 - 8 * k) % 256)) = bcells n (k + 1) := by
  rw [← byt_cast]
  match k, h with
  | 0, _ | 1, _ | 2, _ | 3, _ | 4, _ | 5, _ | 6, _ | 7, _ => simp [bcells, bcell]
  | _ + 8, h => omega

def bytNums (n : Nat) : List Int := [(byt n 0 : Nat), (byt n 1 : Nat), (byt n 2 : Nat), (byt n 3 : Nat), (byt n 4 : Nat), (byt n 5 : Nat), (byt n 6 : Nat), (byt n 7 : Nat)]
theorem bcells_8 {n i : Nat} (h : i < 8) : (bcells n 8)[i]? = some (.int .u8 ((bytNums n).getD i 0)) := by
  match i, h with
  | 0, _ | 1, _ | 2, _ | 3, _ | 4, _ | 5, _ | 6, _ | 7, _ => rfl
  | _ + 8, h => omega
theorem bytes_conv (n : Nat) (w : World) : (convert 79 9 (.slice (some ⟨w.heap.size, 0, none⟩) 8 8)).run Tryz.prog (w.alloc (.cells (bcells n 8) 128)) = .ok (.string (be8 n)) (w.alloc (.cells (bcells n 8) 128)) := by
  have := run_convert_bytes_arg (P := Tryz.prog) (w.alloc (.cells (bcells n 8) 128)) 79 5 Tryz.underlying79 Tryz.underlying5 w.heap.size 0 8 8 (bytNums n) rfl (fun i hi => by rw [Nat.zero_add]; go_simp; exact bcells_8 hi) 9 Tryz.underlying9
  rw [this]
  rfl

end Go.Proofs.YtnahkonklkcbeabGreatDoor.TagA
