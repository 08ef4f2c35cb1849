/-
  What at and Decimal do to the world.
-/
import Derived.Test.YtnahkonklkcbeabGreatDoorTkK
import Derived.Laws.BytesArg
namespace Go.Proofs.YtnahkonklkcbeabGreatDoor.TkA
open Go.RowKit TkM TkW Go.Maps
set_option maxRecDepth 100000

def dn (k : Nat) (r : Nat) : Prop := k ≤ r ∧ r < 8
theorem dn_skip {need : Nat} {c : Nat → Nat} {s : Nat → Int} {k : Nat} {b : Int} (h : Bst need c s (dn (k + 1)) b) (hc : c k < need) : Bst need c s (dn k) b := by
  rcases h with ⟨rfl, h⟩ | ⟨q, rfl, ⟨hq1, hq2⟩, hn, h⟩
  · refine Or.inl ⟨rfl, fun p hp => ?_⟩
    by_cases e : p = k
    · rw [e]; exact hc
    · exact h p ⟨by have := hp.1; omega, hp.2⟩
  · refine Or.inr ⟨q, rfl, ⟨by omega, hq2⟩, hn, fun p hp hnp => ?_⟩
    by_cases e : p = k
    · rw [e] at hnp; omega
    · exact h p ⟨by have := hp.1; omega, hp.2⟩ hnp
theorem dn_first {need : Nat} {c : Nat → Nat} {s : Nat → Int} {k : Nat} (hk : k < 8) (h : Bst need c s (dn (k + 1)) (-1)) (hc : need ≤ c k) : Bst need c s (dn k) (k : Int) := by
  rcases h with ⟨_, h⟩ | ⟨q, hq, _⟩
  · refine Or.inr ⟨k, rfl, ⟨Nat.le_refl _, hk⟩, hc, fun p hp hnp => ?_⟩
    by_cases e : p = k
    · rw [e]; omega
    · have := h p ⟨by have := hp.1; omega, hp.2⟩; omega
  · omega
theorem dn_take {need : Nat} {c : Nat → Nat} {s : Nat → Int} {k q : Nat} (hk : k < 8) (h : Bst need c s (dn (k + 1)) (q : Int)) (hc : need ≤ c k) (hb : c q < c k ∨ (c k = c q ∧ s q ≤ s k)) : Bst need c s (dn k) (k : Int) := by
  rcases h with ⟨hq, _⟩ | ⟨q', hq, ⟨hq1, hq2⟩, hn, h⟩
  · omega
  · obtain rfl : q = q' := by omega
    refine Or.inr ⟨k, rfl, ⟨Nat.le_refl _, hk⟩, hc, fun p hp hnp => ?_⟩
    by_cases e : p = k
    · rw [e]; omega
    · have := h p ⟨by have := hp.1; omega, hp.2⟩ hnp
      have := hp.1
      omega
theorem dn_keep {need : Nat} {c : Nat → Nat} {s : Nat → Int} {k q : Nat} (h : Bst need c s (dn (k + 1)) (q : Int)) (hb : ¬ (c q < c k ∨ (c k = c q ∧ s q ≤ s k))) : Bst need c s (dn k) (q : Int) := by
  rcases h with ⟨hq, _⟩ | ⟨q', hq, ⟨hq1, hq2⟩, hn, h⟩
  · omega
  · obtain rfl : q = q' := by omega
    refine Or.inr ⟨q, rfl, ⟨by omega, hq2⟩, hn, fun p hp hnp => ?_⟩
    by_cases e : p = k
    · rw [e]; omega
    · exact h p ⟨by have := hp.1; omega, hp.2⟩ hnp
theorem self_mt (c : Nat → Nat) (s : Nat → Int) (k : Nat) : ∀ q : Nat, (k : Int) = (q : Int) → (c k : Int) = (c q : Int) ∧ s k = s q := fun q hq => by
  obtain rfl : k = q := by omega
  exact ⟨rfl, rfl⟩
theorem dn_end {need : Nat} {c : Nat → Nat} {s : Nat → Int} {b : Int} (h : Bst need c s (dn 0) b) : b = bst need c s 8 := by
  refine Bst.unique h ?_
  rcases bst_is need c s 8 with ⟨hb, h⟩ | ⟨q, hb, hq, hn, h⟩
  · exact Or.inl ⟨hb, fun p hp => h p hp.2⟩
  · exact Or.inr ⟨q, hb, ⟨Nat.zero_le _, hq⟩, hn, fun p hp => h p hp.2⟩
/-- A number below a hundred, in digits. -/
def dec2 (e : Nat) : List UInt8 := if e < 10 then [UInt8.ofNat (48 + e)] else [UInt8.ofNat (48 + e / 10), UInt8.ofNat (48 + e % 10)]
theorem conv1 (x : Int) (t : TypeId) (w : World) : (convert 79 9 (.slice (some ⟨w.heap.size, 0, none⟩) 1 1)).run Tryz.prog (w.alloc (.cells #[.int .u8 x] t)) = .ok (.string ⟨#[UInt8.ofNat x.toNat]⟩) (w.alloc (.cells #[.int .u8 x] t)) := by
  have := run_convert_bytes_arg (P := Tryz.prog) (w.alloc (.cells #[.int .u8 x] t)) 79 5 Tryz.underlying79 Tryz.underlying5 w.heap.size 0 1 1 [x] rfl (fun i hi => by
    match i, hi with
    | 0, _ => go_simp) 9 Tryz.underlying9
  rw [this]
  rfl
theorem dig_eq (x : Nat) : (48 + UInt8.ofNat x : UInt8) = UInt8.ofNat (48 + x) := (UInt8.ofNat_add 48 x).symm
theorem ret_str {a b : ByteArray} (h : a = b) : Ending.returned (.string a) = .returned (.string b) := by rw [h]
set_option maxHeartbeats 1000000 in
theorem decimal_any (N : Nat) (w : World) (hN : N < 100) :
    Calls Tryz.prog 22 #[.int .i64 N] w fun e w' => e = .returned (.string ⟨(dec2 N).toArray⟩) ∧ Below w.heap.size w w' := by
  have hN' : (N : Int) ≤ 99 := by omega
  have HN : Hid (N < 100) := hN
  clear hN
  have hc1 := conv1
  go_enter Tryz.func22, Tryz.ntmps22
  go_wp2
  go_loopw [0, 3, 5] (fun a b _ V => ∃ (n : Nat) (l : List UInt8), n ≤ N ∧ a = .int .i64 n ∧ b = .string ⟨l.toArray⟩ ∧ ((n = N ∧ l = []) ∨ (10 ≤ N ∧ n = N / 10 ∧ l = [UInt8.ofNat (48 + N % 10)])) ∧ Below w.heap.size w V) (fun a _ _ _ => (intOf a).toNat)
  case atStart => exact ⟨N, [], Nat.le_refl _, rfl, rfl, Or.inl ⟨rfl, rfl⟩, Below.refl _ _⟩
  case round =>
    obtain ⟨n, l, hn, rfl, rfl, hd, hb⟩ := hrel
    have HD : Hid ((n = N ∧ l = []) ∨ (10 ≤ N ∧ n = N / 10 ∧ l = [UInt8.ofNat (48 + N % 10)])) := hd
    have HB : Hid (Below w.heap.size w wr) := hb
    have hlen : l.length ≤ 19 := by rcases hd with ⟨_, rfl⟩ | ⟨_, _, rfl⟩ <;> simp
    clear hd hb
    have hnI : (n : Int) ≤ 99 := by omega
    have HDG : Hid ((48 + UInt8.ofNat (n % 10) : UInt8) = UInt8.ofNat (48 + n % 10)) := dig_eq (n % 10)
    go_wp2
    · have hz : (n : Int) / 10 = 0 := by simpa using ‹((n : Int) / 10 == 0) = true›
      have hn10 : n < 10 := by omega
      go_ret
      refine ⟨ret_str ?_, HB.out.alloc HB.out.size _⟩
      rw [HDG.out]
      refine bytes_ext ?_
      have hN := HN.out
      rcases HD.out with ⟨rfl, rfl⟩ | ⟨h1, rfl, rfl⟩
      · simp [dec2, hn10]
        congr 1
        omega
      · have : ¬ N < 10 := by omega
        simp [dec2, this]
        congr 1
        omega
    · have hz : ¬ (n : Int) / 10 = 0 := by simpa using ‹((n : Int) / 10 == 0) = false›
      have hn10 : ¬ n < 10 := by omega
      go_roundw
      case rel =>
        have hN := HN.out
        refine ⟨n / 10, UInt8.ofNat (48 + n % 10) :: l, by omega, by go_num, ?_, ?_, HB.out.alloc HB.out.size _⟩
        · rw [HDG.out]
          exact congrArg Value.string (bytes_ext (by simp))
        · rcases HD.out with ⟨rfl, rfl⟩ | ⟨h1, rfl, rfl⟩
          · exact Or.inr ⟨by omega, rfl, rfl⟩
          · omega
      case measure => simp [intOf]; omega
section
variable {w : World} {rb W need : Nat} {p : Option Addr} {cap : Nat} {E : List (List Sg)}
set_option maxHeartbeats 1000000 in
theorem at_any (g : ByteArray) (e : Nat) (d : RfV w rb W need p cap E) (he : e < E.length) (hW : W ≤ 8) :
    Calls Tryz.prog 56 #[.pointer (some ⟨rb, 0, none⟩), .string g, .int .i64 (e : Int)] w fun x w' => x = .returned (.int .i64 (whr g (epOf E) W need e)) ∧ Below w.heap.size w w' := by
  have HCN : Hid (∀ (V : World) (k : Nat), Below w.heap.size w V → Calls Tryz.prog 73 #[.pointer (some ⟨rb, 0, none⟩), .string g, .int .i64 (k : Int), .int .i64 (e : Int)] V fun x w' => x = .returned (.tuple #[.int .i64 (cW g (epOf E) W e k : Int), .int .i64 (sW g (epOf E) W e k)]) ∧ Below V.heap.size V w') := fun V k hb => counts_any g k e (d.below hb) he hW
  have HD : Hid (RfV w rb W need p cap E) := d
  unfold whr
  generalize cW g (epOf E) W e = c at *
  generalize sW g (epOf E) W e = s at *
  clear d
  go_enter Tryz.func56, Tryz.ntmps56
  go_wp2
  go_loopw [7, 8, 9, 10, 11, 12] (fun b m t i _ _ V => ∃ (k : Nat) (bv mv tv : Int), k ≤ 8 ∧ i = .int .i64 ((k : Int) - 1) ∧ b = .int .i64 bv ∧ m = .int .i64 mv ∧ t = .int .i64 tv ∧ Bst need c s (dn k) bv ∧ (∀ q : Nat, bv = (q : Int) → mv = (c q : Int) ∧ tv = s q) ∧ Below w.heap.size w V) (fun _ _ _ i _ _ _ => (intOf i + 1).toNat)
  case atStart => exact ⟨8, -1, 0, 0, Nat.le_refl _, rfl, rfl, rfl, rfl, Or.inl ⟨rfl, fun p hp => by have h1 := hp.1; have h2 := hp.2; omega⟩, fun q hq => by omega, Below.refl _ _⟩
  case round =>
    obtain ⟨k, bv, mv, tv, hk, rfl, rfl, rfl, rfl, hbst, hmt, hbl⟩ := hrel
    have HB : Hid (Below w.heap.size w wr) := hbl
    clear hbl
    cases k with
    | zero =>
      have HE : Hid (bv = bst need c s 8) := dn_end hbst
      clear hbst hmt
      go_wp2
      go_ret
      exact ⟨by rw [← HE.out]; rfl, HB.out⟩
    | succ k =>
      have e1 : (((k + 1 : Nat) : Int) - 1) = (k : Int) := by omega
      rw [e1]
      have hk8 : k < 8 := by omega
      have HBST : Hid (Bst need c s (dn (k + 1)) bv) := hbst
      have HMT : Hid (∀ q : Nat, bv = (q : Int) → mv = (c q : Int) ∧ tv = s q) := hmt
      clear hbst hmt e1
      go_wp2_with fail
      refine (HCN.out _ k HB.out).mono ?_
      rintro x w1 ⟨rfl, hb1⟩
      have HB1 : Hid (Below w.heap.size w w1) := HB.out.trans (hb1.mono HB.out.size)
      have k1 := (HD.out.below HB1.out).c1
      clear hb1
      by_cases h1 : c k < need
      · have h1I : (c k : Int) < need := by omega
        go_wp2
        go_roundw
        case rel => exact ⟨k, bv, mv, tv, by omega, by go_num, rfl, rfl, rfl, dn_skip HBST.out h1, HMT.out, HB1.out⟩
        case measure => simp [intOf]
      · have h1I : ¬ (c k : Int) < need := by omega
        by_cases h2 : bv < 0
        · have h2d : decide (bv < 0) = true := by simpa using h2
          have HBB : Hid (Bst need c s (dn k) (k : Int)) := by
            have hb := HBST.out
            have : bv = -1 := by
              rcases hb with ⟨hb, _⟩ | ⟨q, hb, _⟩
              · exact hb
              · omega
            rw [this] at hb
            exact dn_first hk8 hb (by omega)
          clear HBST HMT h2
          go_wp2
          go_roundw
          case rel => exact ⟨k, k, c k, s k, by omega, by go_num, rfl, rfl, rfl, HBB.out, self_mt c s k, HB1.out⟩
          case measure => simp [intOf]
        · have h2d : decide (bv < 0) = false := by simpa using h2
          obtain ⟨q, rfl⟩ : ∃ q : Nat, bv = (q : Int) := ⟨bv.toNat, by omega⟩
          obtain ⟨rfl, rfl⟩ := HMT.out q rfl
          clear h2
          by_cases h3 : c q < c k
          · have h3I : decide ((c q : Int) < c k) = true := by simp; omega
            have HBB : Hid (Bst need c s (dn k) (k : Int)) := dn_take hk8 HBST.out (by omega) (Or.inl h3)
            clear HBST HMT
            go_wp2
            go_roundw
            case rel => exact ⟨k, k, c k, s k, by omega, by go_num, rfl, rfl, rfl, HBB.out, self_mt c s k, HB1.out⟩
            case measure => simp [intOf]
          · have h3I : decide ((c q : Int) < c k) = false := by simp; omega
            by_cases h4 : c k = c q
            · have h4b : ((c k : Int) == c q) = true := by simp; omega
              by_cases h5 : s q ≤ s k
              · have HBB : Hid (Bst need c s (dn k) (k : Int)) := dn_take hk8 HBST.out (by omega) (Or.inr ⟨h4, h5⟩)
                have H4 : Hid (c k = c q) := h4
                clear HBST HMT h4
                go_wp2
                go_roundw
                case rel => exact ⟨k, k, c k, s k, by omega, by go_num, rfl, (by first | rfl | rw [H4.out]), rfl, HBB.out, self_mt c s k, HB1.out⟩
                case measure => simp [intOf]
              · have HBB : Hid (Bst need c s (dn k) (q : Int)) := dn_keep HBST.out (by omega)
                clear HBST HMT
                go_wp2
                go_roundw
                case rel => exact ⟨k, q, c q, s q, by omega, by go_num, rfl, rfl, rfl, HBB.out, self_mt c s q, HB1.out⟩
                case measure => simp [intOf]
            · have h4b : ((c k : Int) == c q) = false := by simp; omega
              have HBB : Hid (Bst need c s (dn k) (q : Int)) := dn_keep HBST.out (by omega)
              clear HBST HMT
              go_wp2
              go_roundw
              case rel => exact ⟨k, q, c q, s q, by omega, by go_num, rfl, rfl, rfl, HBB.out, self_mt c s q, HB1.out⟩
              case measure => simp [intOf]
end
end Go.Proofs.YtnahkonklkcbeabGreatDoor.TkA
