/-
  What the document's own answer does to the world: Parts, Decimal, wide.
-/
import Derived.Test.YtnahkonklkcbeabGreatDoorTagS
import Derived.Laws.BytesArg
namespace Go.Proofs.YtnahkonklkcbeabGreatDoor.TagA
open Go.RowKit TagM
set_option maxRecDepth 100000

def fourV (k : Nat) : Value := .agg #[.int .i64 (cbits k), .int .i64 (cdig k), .int .i64 (rbits k), .int .i64 (rdig k)]
set_option maxHeartbeats 1000000 in
theorem parts_ok (k : Nat) (w : World) (hk : k < 6) :
    Calls Tryz.prog 70 #[.int .i64 k] w fun e w' => e = .returned (.tuple #[.agg #[.int .i64 (cbits k), .int .i64 (cdig k), .int .i64 (rbits k), .int .i64 (rdig k)], .bool true]) ∧ Below w.heap.size w w' := by
  match k, hk with
  | 0, _ | 1, _ | 2, _ | 3, _ | 4, _ | 5, _ =>
    go_enter Tryz.func70, Tryz.ntmps70
    go_wp2
    exact bodyPost_ret (v := _) (by simp [results, Tryz.results70, go_sem]; exact ⟨rfl, rfl, rfl, rfl⟩) rfl ⟨rfl, (Below.refl _ _).alloc (Nat.le_refl _) _⟩
set_option maxHeartbeats 1000000 in
theorem parts_no (P : Int) (w : World) (hk : P < 0 ∨ 5 < P) :
    Calls Tryz.prog 70 #[.int .i64 P] w fun e w' => e = .returned (.tuple #[.agg #[.int .i64 0, .int .i64 0, .int .i64 0, .int .i64 0], .bool false]) ∧ Below w.heap.size w w' := by
  have h0 : (P == 0) = false := by simp; omega
  have h1 : (P == 1) = false := by simp; omega
  have h2 : (P == 2) = false := by simp; omega
  have h3 : (P == 3) = false := by simp; omega
  have h4 : (P == 4) = false := by simp; omega
  have h5 : (P == 5) = false := by simp; omega
  clear hk
  go_enter Tryz.func70, Tryz.ntmps70
  go_wp2
  exact bodyPost_ret (v := .tuple #[.agg #[.int .i64 0, .int .i64 0, .int .i64 0, .int .i64 0], .bool false]) (by simp [results, Tryz.results70, go_sem]) rfl ⟨rfl, (Below.refl _ _).alloc (Nat.le_refl _) _⟩

theorem conv1 (x : Int) (t : TypeId) (w : World) : (convert 79 9 (.slice (some ⟨w.heap.size, 0, none⟩) 1 1)).run Tryz.prog (w.alloc (.cells #[.int .u8 x] t)) = .ok (.string ⟨#[UInt8.ofNat x.toNat]⟩) (w.alloc (.cells #[.int .u8 x] t)) := by
  have := run_convert_bytes_arg (P := Tryz.prog) (w.alloc (.cells #[.int .u8 x] t)) 79 5 Tryz.underlying79 Tryz.underlying5 w.heap.size 0 1 1 [x] rfl (fun i hi => by
    match i, hi with
    | 0, _ => go_simp) 9 Tryz.underlying9
  rw [this]
  rfl

theorem dig_eq (x : Nat) : (48 + UInt8.ofNat x : UInt8) = UInt8.ofNat (48 + x) := (UInt8.ofNat_add 48 x).symm
theorem ret_str {a b : ByteArray} (h : a = b) : Ending.returned (.string a) = .returned (.string b) := by rw [h]
theorem dec_step {n : Nat} (h : ¬ n < 10) : dec n = dec (n / 10) ++ [UInt8.ofNat (48 + n % 10)] := by
  unfold dec; rw [Lib.decDigits, dif_neg h]
theorem dec_one {n : Nat} (h : n < 10) : dec n = [UInt8.ofNat (48 + n)] := by
  unfold dec; rw [Lib.decDigits, dif_pos h]
theorem dec_len19 {n : Nat} (h : n < 9223372036854775808) : (dec n).length ≤ 19 := dec_len (d := 19) (by omega) (by omega)

set_option maxHeartbeats 1000000 in
theorem decimal_any (N : Nat) (w : World) (hN : N < 9223372036854775808) :
    Calls Tryz.prog 22 #[.int .i64 N] w fun e w' => e = .returned (.string ⟨(dec N).toArray⟩) ∧ Below w.heap.size w w' := by
  have HL : Hid _ := dec_len19 hN
  have hN' : (N : Int) ≤ 9223372036854775807 := by omega
  clear hN
  have hc1 := conv1
  go_enter Tryz.func22, Tryz.ntmps22
  go_wp2
  go_loopw [0, 3, 5] (fun a b _ V => ∃ (n : Nat) (l : List UInt8), n ≤ N ∧ a = .int .i64 n ∧ b = .string ⟨l.toArray⟩ ∧ dec N = dec n ++ l ∧ Below w.heap.size w V) (fun a _ _ _ => (intOf a).toNat)
  case atStart => exact ⟨N, [], Nat.le_refl _, rfl, rfl, by simp, Below.refl _ _⟩
  case round =>
    obtain ⟨n, l, hn, rfl, rfl, hd, hb⟩ := hrel
    have HD : Hid _ := hd
    have HB : Hid _ := hb
    have hlen : l.length ≤ 19 := by have := HL.out; rw [hd, List.length_append] at this; omega
    clear hd hb
    have hnI : (n : Int) ≤ 9223372036854775807 := by omega
    have hdg := dig_eq (n % 10)
    have HDG : Hid _ := hdg
    clear hdg
    go_wp2
    · have hz : (n : Int) / 10 = 0 := by simpa using ‹((n : Int) / 10 == 0) = true›
      have hn10 : n < 10 := by omega
      go_ret
      refine ⟨ret_str ?_, HB.out.alloc HB.out.size _⟩
      rw [HDG.out, HD.out, dec_one hn10, Nat.mod_eq_of_lt hn10]
      exact bytes_inj (by simp)
    · have hz : ¬ (n : Int) / 10 = 0 := by simpa using ‹((n : Int) / 10 == 0) = false›
      have hn10 : ¬ n < 10 := by omega
      go_roundw
      case rel =>
        refine ⟨n / 10, UInt8.ofNat (48 + n % 10) :: l, by omega, by go_num, ?_, ?_, HB.out.alloc HB.out.size _⟩
        · rw [HDG.out]
          exact congrArg Value.string (bytes_inj (by simp))
        · rw [HD.out, dec_step hn10]; simp
      case measure => simp [intOf]; omega

end Go.Proofs.YtnahkonklkcbeabGreatDoor.TagA
