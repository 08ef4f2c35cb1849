/-
  What padded does to the world; what the library's Itoa and Repeat do, as it is wanted here.
-/
import Derived.Test.YtllhfbnafemoeaaDoorTagF
import Derived.Test.YtllhfbnafemoeaaDoorShelf
import Derived.Lib.AppendIntMem
namespace Go.Proofs.YtllhfbnafemoeaaDoor.TagA
open Go.RowKit TagM
set_option maxRecDepth 100000

/-- The words of kinds, by their place. -/
def kw : Nat → ByteArray | 0 => ⟨#[105, 116, 101, 109]⟩ | 1 => ⟨#[99, 97, 115, 101]⟩ | _ => ⟨#[112, 97, 108, 108, 101, 116]⟩

/-- All that the package's functions read of the world. -/
structure Tabs2 (w : World) : Prop where
  t : Tabs w
  kws : ∀ j : Nat, j < 3 → w.cell? ⟨1, j, none⟩ = some (.string (kw j))
  pow : Lib.TabIs Tryd.prog w "internal/strconv.uint64pow10" .u64 Lib.pow10Tab
  mx : ∃ m, w.cell? ⟨3, 0, none⟩ = some (.int .i64 m)
  es : ∃ te pe, w.cell? ⟨4, 0, none⟩ = some (.iface te pe)
  er : ∃ te pe, w.cell? ⟨5, 0, none⟩ = some (.iface te pe)
theorem gPow : Tryd.prog.globalNamed "internal/strconv.uint64pow10" = some 2 := by kernel_rfl
theorem Tabs2.below {w w' : World} {B : Nat} (h : Tabs2 w) (hb : Below B w w') (hB : 10 ≤ B) : Tabs2 w' where
  t := h.t.below hb hB
  kws := fun j hj => by rw [hb.cell (by show 1 < B; omega)]; exact h.kws j hj
  pow := var?_below hb gPow (by omega) h.pow
  mx := by rw [hb.cell (by show 3 < B; omega)]; exact h.mx
  es := by rw [hb.cell (by show 4 < B; omega)]; exact h.es
  er := by rw [hb.cell (by show 5 < B; omega)]; exact h.er
theorem Tabs2.size {w : World} (h : Tabs2 w) : 10 ≤ w.heap.size := h.t.size

/-- A number's digits. -/
def dec (n : Nat) : List UInt8 := Lib.decDigits n
theorem itoa_nat (n : Nat) : Lib.itoa (n : Int) = dec n := by
  unfold Lib.itoa dec
  rw [if_neg (by omega), Int.toNat_natCast]

theorem itoa_any (n : Nat) (w : World) (hT : Tabs2 w) (hn : n < 4294967296) :
    Calls Tryd.prog 20 #[.int .i64 n] w fun e w' => e = .returned (.string ⟨(dec n).toArray⟩) ∧ Below w.heap.size w w' := by
  refine (Tryd.strconv_Itoa (n : Int) (by omega) (by omega) w hT.pow).mono ?_
  rintro e w' ⟨he, k, os, rfl⟩
  rw [itoa_nat] at he
  exact ⟨he, Lib.below_grow _ _ (Nat.le_refl _) _ _⟩

def zer (c : Nat) : List UInt8 := List.replicate c 48
theorem repeatL_zer : ∀ c, Lib.repeatL [48] c = zer c
  | 0 => rfl
  | c + 1 => by rw [Lib.repeatL, repeatL_zer c]; rfl
theorem repeat_any (c : Nat) (cI : Int) (w : World) (h : Hid (cI = c)) (hc : c ≤ 6) :
    Calls Tryd.prog 38 #[.string ⟨#[48]⟩, .int .i64 cI] w fun e w' => e = .returned (.string ⟨(zer c).toArray⟩) ∧ Below w.heap.size w w' := by
  rw [h.out]
  refine (Tryd.strings_Repeat ⟨#[48]⟩ c w (by omega) (by show 1 * c ≤ _; omega)).mono ?_
  rintro e w' ⟨he, hb⟩
  rw [show (⟨#[48]⟩ : ByteArray).data.toList = [48] from rfl, repeatL_zer] at he
  exact ⟨he, hb⟩

/-- Padded with noughts ahead. -/
def padL (n d : Nat) : List UInt8 := zer (d - (dec n).length) ++ dec n

theorem app_bytes (a b : List UInt8) : (⟨a.toArray⟩ : ByteArray) ++ ⟨b.toArray⟩ = ⟨(a ++ b).toArray⟩ := by
  apply ByteArray.ext
  simp

set_option maxHeartbeats 400000 in
theorem padded_any (n d : Nat) (w : World) (hT : Tabs2 w) (hn : n < 4294967296) (hd : d ≤ 6) (hl : (dec n).length ≤ d) :
    Calls Tryd.prog 25 #[.int .i64 n, .int .i64 d] w fun e w' => e = .returned (.string ⟨(padL n d).toArray⟩) ∧ Below w.heap.size w w' := by
  have HT : Hid _ := hT
  have hp : Hid (padL n d = zer (d - (dec n).length) ++ dec n) := rfl
  clear hT
  go_enter Tryd.func25, Tryd.ntmps25
  go_wp2_with fail
  refine (itoa_any n _ HT.out hn).mono ?_
  rintro e w1 ⟨rfl, hb1⟩
  have H1 : Hid _ := hb1
  clear hb1
  generalize dec n = l at *
  go_wp2_with fail
  refine (repeat_any (d - l.length) _ _ ?_ (by omega)).mono ?_
  · show _ = _; omega
  rintro e w2 ⟨rfl, hb2⟩
  have H2 : Hid _ := hb2
  clear hb2
  have hz : (zer (d - l.length)).length ≤ 6 := by simp [zer]; omega
  go_wp2
  go_ret
  refine ⟨?_, H1.out.trans (H2.out.mono H1.out.size)⟩
  rw [hp.out, ← app_bytes]
  rfl
end Go.Proofs.YtllhfbnafemoeaaDoor.TagA
