/-
  What Bytes does to the world.
-/
import Derived.Test.YtblkbogoelfjlaaDoorTagB
import Derived.Test.YtblkbogoelfjlaaDoorTagN
import Derived.Laws.BytesArg
namespace Go.Proofs.YtblkbogoelfjlaaDoor.TagA
open Go.RowKit TagM
set_option maxRecDepth 100000

set_option maxHeartbeats 400000 in
theorem put_any (n v b : Nat) (nI vI bI : Int) (w : World) (blk : Nat) (hblk : blk = w.heap.size) (hnI : Hid (nI = n)) (hvI : Hid (vI = v)) (hbI : Hid (bI = b)) (hv : Hid (v < 2 ^ b)) (hb : b ≤ 24) (h : Hid (pk n b v < 2 ^ 64)) :
    Calls Tryd.prog 40 #[.int .i64 vI, .int .i64 bI, .pointer (some ⟨blk, 0, none⟩)] (w.alloc (.cells #[.int .u64 nI] 81)) fun e w' => e = .returned (.tuple #[]) ∧ w' = w.alloc (.cells #[.int .u64 ((pk n b v : Nat) : Int)] 81) := by
  subst hblk
  have h1 : 0 ≤ vI := by rw [hvI.out]; omega
  have h2 : vI ≤ 16777216 := by
    have : v < 2 ^ 24 := Nat.lt_of_lt_of_le hv.out (Nat.pow_le_pow_right (by omega) hb)
    have := hvI.out; omega
  have h3 : 0 ≤ bI := by rw [hbI.out]; omega
  have h4 : bI ≤ 24 := by rw [hbI.out]; omega
  have hor : Hid _ := or_val (n := n) hnI.out hvI.out hbI.out hv.out h.out
  go_enter Tryd.func40, Tryd.ntmps40
  go_wp2
  rw [hor.out]
  go_end0
  exact ⟨rfl, rfl⟩

/-- The bytes of a number, the highest first. -/
def byt (n i : Nat) : Nat := n / 2 ^ (56 - 8 * i) % 256
def bcell (n k i : Nat) : Value := .int .u8 (if i < k then ((byt n i : Nat) : Int) else 0)
def bcells (n k : Nat) : Array Value := #[bcell n k 0, bcell n k 1, bcell n k 2, bcell n k 3, bcell n k 4, bcell n k 5, bcell n k 6, bcell n k 7]
def be8 (n : Nat) : ByteArray := ⟨#[UInt8.ofNat (byt n 0), UInt8.ofNat (byt n 1), UInt8.ofNat (byt n 2), UInt8.ofNat (byt n 3), UInt8.ofNat (byt n 4), UInt8.ofNat (byt n 5), UInt8.ofNat (byt n 6), UInt8.ofNat (byt n 7)]⟩

theorem byt_cast (n i : Nat) : ((byt n i : Nat) : Int) = (n : Int) / 2 ^ (56 - 8 * i) % 256 := by
  unfold byt
  rw [Int.natCast_emod, Int.natCast_ediv]; simp
theorem bcells_at {n k : Nat} (h : k < 8) : (bcells n k)[k]? = some (bcell n k k) := by
  match k, h with
  | 0, _ | 1, _ | 2, _ | 3, _ | 4, _ | 5, _ | 6, _ | 7, _ => rfl
  | _ + 8, h => omega
theorem bcells_set {n k : Nat} (h : k < 8) : (bcells n k).setIfInBounds k (.int .u8 ((n : Int) / 2 ^ (56 - 8 * k) % 256)) = bcells n (k + 1) := by
  rw [← byt_cast]
  match k, h with
  | 0, _ | 1, _ | 2, _ | 3, _ | 4, _ | 5, _ | 6, _ | 7, _ => simp [bcells, bcell]
  | _ + 8, h => omega

def bytNums (n : Nat) : List Int := [(byt n 0 : Nat), (byt n 1 : Nat), (byt n 2 : Nat), (byt n 3 : Nat), (byt n 4 : Nat), (byt n 5 : Nat), (byt n 6 : Nat), (byt n 7 : Nat)]
theorem bcells_8 {n i : Nat} (h : i < 8) : (bcells n 8)[i]? = some (.int .u8 ((bytNums n).getD i 0)) := by
  match i, h with
  | 0, _ | 1, _ | 2, _ | 3, _ | 4, _ | 5, _ | 6, _ | 7, _ => rfl
  | _ + 8, h => omega
theorem bytes_conv (n : Nat) (w : World) : (convert 91 9 (.slice (some ⟨w.heap.size, 0, none⟩) 8 8)).run Tryd.prog (w.alloc (.cells (bcells n 8) 128)) = .ok (.string (be8 n)) (w.alloc (.cells (bcells n 8) 128)) := by
  have := run_convert_bytes_arg (P := Tryd.prog) (w.alloc (.cells (bcells n 8) 128)) 91 5 Tryd.underlying91 Tryd.underlying5 w.heap.size 0 8 8 (bytNums n) rfl (fun i hi => by rw [Nat.zero_add]; go_simp; exact bcells_8 hi) 9 Tryd.underlying9
  rw [this]
  rfl

set_option maxHeartbeats 400000 in
theorem bytesOf_any (n : Nat) (w : World) :
    Calls Tryd.prog 41 #[.int .u64 n] w fun e w' => e = .returned (.string (be8 n)) ∧ Below w.heap.size w w' := by
  go_enter Tryd.func41, Tryd.ntmps41
  go_wp2
  go_loopw [4, 5] (fun _ i w' => ∃ k : Nat, k ≤ 8 ∧ i = .int .i64 k ∧ w' = w.alloc (.cells (bcells n k) 128)) (fun _ i _ => 8 - (intOf i).toNat)
  case atStart => exact ⟨0, Nat.zero_le _, rfl, rfl⟩
  case round =>
    obtain ⟨k, hk, rfl, rfl⟩ := hrel
    by_cases hlt : k < 8
    · have hlt' : (k : Int) < 8 := by omega
      have hat := bcells_at (n := n) hlt
      have hset : Hid _ := bcells_set (n := n) hlt
      go_wp2
      go_roundw
      case rel => exact ⟨k + 1, by omega, by go_num, by rw [hset.out]⟩
      case measure => simp [intOf]; omega
    · obtain rfl : k = 8 := by omega
      have hcv := bytes_conv n w
      go_wp2
      go_ret
      exact ⟨rfl, (Below.refl _ _).alloc (Nat.le_refl _) _⟩
end Go.Proofs.YtblkbogoelfjlaaDoor.TagA
