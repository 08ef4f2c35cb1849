/-
  What closes does to the world.
-/
import Derived.Test.YtllhfbnafemoeaaEpL
namespace Go.Proofs.Ytllhfbnafemoeaa.EpA
open Go.RowKit EpM EpW Go.Maps
set_option maxRecDepth 100000

def x0 : Sg := ⟨0, 0, 0, ⟨#[49, 50, 51, 52, 53, 54, 55, 56]⟩⟩
theorem x0_ok : addF 5 1 0 x0 = 0 := by decide
theorem x0_told : ∃ L, tells 5 [x0] 0 1 = [(0, L)] ∧ L.length = 1 := by
  refine ⟨sorted [x0], ?_, by rw [sorted_length]; rfl⟩
  rw [tells_snoc [x0] (Nat.le_refl 0), tells_nil [x0] (Nat.le_refl 0)]
  rfl
set_option maxHeartbeats 1000000 in
theorem closes_any (w : World) :
    Calls Try.prog 20 #[] w fun e w' => e = .returned (.bool true) ∧ Below w.heap.size w w' := by
  go_enter Try.func20, Try.ntmps20
  go_wp2_with fail
  refine (new_ok 5 1 w (by omega) (by omega) (by omega)).mono ?_
  rintro e w1 ⟨rfl, hs1, hd1, hb1⟩
  have HD1 : Hid (DeskAt w1 (w.heap.size + 1) (fun b => w.heap.size ≤ b ∧ b < w.heap.size + 2) 5 1 0 [] 0) := hd1
  have HB1 : Hid (Below w.heap.size w w1) := hb1
  have HS1 : Hid (w1.heap.size = w.heap.size + 2) := hs1
  clear hd1 hb1 hs1
  go_wp2_with fail
  have hadd := add_any x0 HD1.out (by omega) (by omega) (by omega) (by omega) (by simp) (fun b hb => by rw [HS1.out]; exact hb.2) (by decide)
  rw [x0_ok, show errV 0 = .nilIface from rfl] at hadd
  refine hadd.mono ?_
  clear hadd
  rintro e w2 ⟨rfl, hd2, hk2⟩
  have HD2 : Hid (DeskAt w2 (w.heap.size + 1) (more (fun b => w.heap.size ≤ b ∧ b < w.heap.size + 2) w1 w2) 5 1 0 [x0] 0) := hd2
  have HK2 : Hid (Kp (fun b => w.heap.size ≤ b ∧ b < w.heap.size + 2) w1 w2) := hk2
  clear hd2 hk2
  have hFs : ∀ b, more (fun b => w.heap.size ≤ b ∧ b < w.heap.size + 2) w1 w2 b → b < w2.heap.size := fun b hb => by
    have h1 := HS1.out
    have h2 := HK2.out.size
    rcases hb with hb | hb
    · have h3 : w.heap.size ≤ b ∧ b < w.heap.size + 2 := hb; omega
    · omega
  go_wp2_with fail
  refine (tick_any (w := w2) (n := 6) HD2.out hFs (by omega) (by omega) (by omega) (by omega) (by simp)).mono ?_
  rintro e w3 ⟨v, rfl, ho3, hd3, hk3⟩
  obtain ⟨L, hL, hLl⟩ := x0_told
  have ho3' : EpsOwn w3 w2.heap.size (more (fun b => w.heap.size ≤ b ∧ b < w.heap.size + 2) w1 w2) v [(0, L)] := by rw [← hL]; exact ho3
  obtain ⟨p, cap, rfl, hon⟩ := ho3'.on
  obtain ⟨b, o, rfl, hb, hc⟩ := hon.at_ (by simp)
  obtain ⟨q, cq, hq0, hq1, -⟩ := hc 0 (0, L) rfl
  simp only [Nat.zero_mul, Nat.add_zero, hLl] at hq0 hq1
  have HD3 : Hid (DeskAt w3 (w.heap.size + 1) (more (fun b => w.heap.size ≤ b ∧ b < w.heap.size + 2) w1 w2) 5 1 6 [x0] 1) := hd3
  have HB3 : Hid (Below w.heap.size w w3) := by
    have h1 : Below w.heap.size w1 w2 := HK2.out.below HB1.out.size (fun k hk h => by omega)
    refine (HB1.out.trans h1).trans (hk3.below (Nat.le_trans HB1.out.size h1.size) (fun k hk h => ?_))
    have h2 := HB1.out.size
    rcases h with h | h
    · have h3 : w.heap.size ≤ k ∧ k < w.heap.size + 2 := h; omega
    · omega
  clear ho3 hd3 hk3 hL hLl ho3' hon hc hFs
  go_wp2_with fail
  refine (same_nil w3).mono ?_
  rintro e w4 ⟨rfl, hw4⟩
  subst hw4
  go_wp2_with fail
  refine (closed_is (c := 1) rfl HD3.out (by omega) (by omega) (by omega) (by omega)).mono ?_
  rintro e w5 ⟨rfl, q5, rfl⟩
  go_wp2_with fail
  refine (now_any (HD3.out.below (drewN_below _ q5))).mono ?_
  rintro e w6 ⟨rfl, hw6⟩
  subst hw6
  go_wp2
  go_ret
  exact ⟨rfl, HB3.out.trans ((drewN_below _ _).mono HB3.out.size)⟩
end Go.Proofs.Ytllhfbnafemoeaa.EpA
