/-
  What Parse does to the world.
-/
import Derived.Test.YtnahkonklkcbeabGreatDoorTagE
namespace Go.Proofs.YtnahkonklkcbeabGreatDoor.TagA
open Go.RowKit TagM
set_option maxRecDepth 100000

def noTag : Value := .agg #[.int .i64 0, .int .i64 0, .int .i64 0, .int .i64 0, .int .i64 0, .int .i64 0]

set_option maxHeartbeats 400000 in
theorem parse_len (s : ByteArray) (w : World) (hs : s.size ≠ 8) (_hm : s.size ≤ maxLen) :
    Calls Tryz.prog 51 #[.string s] w fun e w' => e = .returned (.tuple #[noTag, .iface 57 (.int .i64 3)]) ∧ Below w.heap.size w w' := by
  unfold maxLen at _hm
  have h8 : ((s.size : Int) != 8) = true := by simp; omega
  go_enter Tryz.func51, Tryz.ntmps51
  go_wp2
  exact bodyPost_ret (v := .tuple #[noTag, .iface 57 (.int .i64 3)]) (by simp [results, Tryz.results51, go_sem, noTag]) rfl ⟨rfl, (Below.refl _ _).alloc (Nat.le_refl _) _⟩

theorem set_drewN (w : World) (d : Nat) (a : Addr) (v : Value) : (w.drewN d).setCell a v = (w.setCell a v).drewN d := rfl
theorem alloc_drewN (w : World) (d : Nat) (o : Obj) : (w.drewN d).alloc o = (w.alloc o).drewN d := rfl
theorem size_drewN (w : World) (d : Nat) : (w.drewN d).heap.size = w.heap.size := rfl

/-- The fields of a number. -/
def Kf (n : Nat) : Nat := fld n 56 8
def Ff (n : Nat) : Nat := fld n 53 3
def Pf (n : Nat) : Nat := fld n 50 3
def Cf (n k : Nat) : Nat := fld n (50 - cbits k) (cbits k)
def Rf (n k : Nat) : Nat := fld n 24 (rbits k)
def Sf (n : Nat) : Nat := fld n 0 24
def tagV (K F P C R S : Int) : Value := .agg #[.int .i64 K, .int .i64 F, .int .i64 P, .int .i64 C, .int .i64 R, .int .i64 S]

theorem four {w w3 : World} {a0 a1 a2 a3 a4 a5 x y t0 t1 t2 t3 t4 t5 : Value} {T1 T2 T3 T4 : TypeId} {d : Nat} {W : World}
    (hW : W = ((((w.alloc (.cells #[a0, a1, a2, a3, a4, a5] T1)).alloc (.cells #[x] T2)).alloc (.cells #[y] T3)).alloc (.cells #[t0, t1, t2, t3, t4, t5] T4)).drewN d) (hb : Below W.heap.size W w3) :
    w.heap.size + 1 + 1 + 1 < w3.heap.size ∧ Below w.heap.size w w3
    ∧ (∀ j : Nat, j < 6 → w3.cell? ⟨w.heap.size, j, none⟩ = (#[a0, a1, a2, a3, a4, a5] : Array Value)[j]? ∧ w3.frozen? ⟨w.heap.size, j, none⟩ = false ∧ w3.cell? ⟨w.heap.size + 1 + 1 + 1, j, none⟩ = (#[t0, t1, t2, t3, t4, t5] : Array Value)[j]?) := by
  subst hW
  have hs : (((((w.alloc (.cells #[a0, a1, a2, a3, a4, a5] T1)).alloc (.cells #[x] T2)).alloc (.cells #[y] T3)).alloc (.cells #[t0, t1, t2, t3, t4, t5] T4)).drewN d).heap.size = w.heap.size + 1 + 1 + 1 + 1 := by simp
  refine ⟨by have := hb.size; omega, ?_, ?_⟩
  · refine Below.trans ?_ (hb.mono (by omega))
    exact below_drewN (((((Below.refl _ w).alloc (Nat.le_refl _) _).alloc (by simp) _).alloc (by simp; omega) _).alloc (by simp; omega) _) _
  · intro j _
    refine ⟨?_, ?_, ?_⟩
    · rw [hb.cell (by rw [hs]; show w.heap.size < _; omega)]; go_simp
    · rw [hb.frozen (by rw [hs]; show w.heap.size < _; omega)]; go_simp
    · rw [hb.cell (by rw [hs]; show w.heap.size + 1 + 1 + 1 < _; omega)]; go_simp

set_option maxHeartbeats 1000000 in
theorem parse_part (s : ByteArray) (w : World) (hs : s.size = 8) (n : Nat) (hn : n = numU s.data.toList) (hP : 6 ≤ Pf n) :
    Calls Tryz.prog 51 #[.string s] w fun e w' => e = .returned (.tuple #[noTag, .iface 57 (.int .i64 3)]) ∧ Below w.heap.size w w' := by
  have h8 : ((s.size : Int) != 8) = false := by simp; omega
  have HS : Hid (s.size = 8) := hs
  have HN : Hid (n = numU s.data.toList) := hn
  have HL : Hid (n < 2 ^ 64) := by
    have := numU_lt s.data.toList
    rw [← hn, show s.data.toList.length = 8 by simpa using hs] at this
    exact this
  clear hs hn
  have r1 := set_drewN
  have r2 := alloc_drewN
  have f1 : ((fld n 56 8 : Nat) : Int) ≤ 255 := by have := fld_lt n 56 8; omega
  have f3 : 6 ≤ ((fld n 50 3 : Nat) : Int) := by unfold Pf at hP; omega
  clear hP
  go_enter Tryz.func51, Tryz.ntmps51
  go_wp2_with fail
  refine (numberOf_any s _ HS.out).mono ?_
  rw [← HN.out]
  rintro e w2 ⟨rfl, rfl⟩
  go_wp2_with fail
  refine (take_any n 64 8 56 _ _ _ _ _ ?_ ?_ ?_ ?_ rfl rfl rfl (by omega) (by omega) HL.out).mono ?_
  · go_simp
  · go_simp
  · go_simp
  · omega
  rintro e w2 ⟨rfl, d1, rfl⟩
  go_wp2_with fail
  refine (take_any n 56 3 53 _ _ _ _ _ ?_ ?_ ?_ ?_ rfl rfl rfl (by omega) (by omega) HL.out).mono ?_
  · go_simp
  · go_simp
  · go_simp
  · omega
  rintro e w2 ⟨rfl, d2, rfl⟩
  go_wp2_with fail
  refine (take_any n 53 3 50 _ _ _ _ _ ?_ ?_ ?_ ?_ rfl rfl rfl (by omega) (by omega) HL.out).mono ?_
  · go_simp
  · go_simp
  · go_simp
  · omega
  rintro e w2 ⟨rfl, d3, rfl⟩
  go_wp2
  refine bodyPost_ret (v := .tuple #[noTag, .iface 57 (.int .i64 3)]) (by simp [results, Tryz.results51, go_sem, noTag]) rfl ⟨rfl, ?_⟩
  exact below_drewN (((((Below.refl _ w).alloc (Nat.le_refl _) _).alloc (by simp) _).alloc (by simp; omega) _).alloc (by simp; omega) _) _

set_option maxHeartbeats 1000000 in
theorem parse_8 (s : ByteArray) (w : World) (hT : Tabs w) (hs : s.size = 8) (n k : Nat) (hn : n = numU s.data.toList) (hk : k = Pf n) (hk6 : k < 6) (v : Value)
    (hv : v = if okB ((Kf n : Int) - 47) (Ff n) k (Cf n k) (Rf n k) (Sf n) then .tuple #[tagV ((Kf n : Int) - 47) (Ff n) k (Cf n k) (Rf n k) (Sf n), .nilIface] else .tuple #[noTag, .iface 57 (.int .i64 3)]) :
    Calls Tryz.prog 51 #[.string s] w fun e w' => e = .returned v ∧ Below w.heap.size w w' := by
  have h8 : ((s.size : Int) != 8) = false := by simp; omega
  have HS : Hid (s.size = 8) := hs
  have HN : Hid (n = numU s.data.toList) := hn
  have HL : Hid (n < 2 ^ 64) := by
    have := numU_lt s.data.toList
    rw [← hn, show s.data.toList.length = 8 by simpa using hs] at this
    exact this
  have HV : Hid (v = _) := hv
  have HK : Hid (k = fld n 50 3) := hk
  have HT : Hid (Tabs w) := hT
  clear hs hn hv hk hT
  have r1 := set_drewN
  have r2 := alloc_drewN
  have f1 : ((fld n 56 8 : Nat) : Int) ≤ 255 := by have := fld_lt n 56 8; omega
  have f3 : (k : Int) < 6 := by omega
  have hcb := cbits_le k
  have hrb := rbits_le k
  obtain ⟨q, hq⟩ : ∃ q : Nat, q + cbits k = 50 := ⟨50 - cbits k, by omega⟩
  have hq' : 24 + rbits k = q := by have := bits_sum k; omega
  have HQ : Hid (q + cbits k = 50) := hq
  have HQ' : Hid (24 + rbits k = q) := hq'
  clear hq hq'
  have q0 : ∀ o1 o2 o3 o4 : Obj, ((((w.alloc o1).alloc o2).alloc o3).alloc o4).cell? ⟨1, k * 4, none⟩ = some (.int .i64 (cbits k)) := fun o1 o2 o3 o4 => (HT.out.below (((((Below.refl _ w).alloc (Nat.le_refl _) o1).alloc (by simp) o2).alloc (by simp; omega) o3).alloc (by simp; omega) o4) HT.out.size).c0 k hk6
  have q2 : ∀ o1 o2 o3 o4 : Obj, ((((w.alloc o1).alloc o2).alloc o3).alloc o4).cell? ⟨1, k * 4 + 2, none⟩ = some (.int .i64 (rbits k)) := fun o1 o2 o3 o4 => (HT.out.below (((((Below.refl _ w).alloc (Nat.le_refl _) o1).alloc (by simp) o2).alloc (by simp; omega) o3).alloc (by simp; omega) o4) HT.out.size).c2 k hk6
  go_enter Tryz.func51, Tryz.ntmps51
  go_wp2_with fail
  refine (numberOf_any s _ HS.out).mono ?_
  rw [← HN.out]
  rintro e w2 ⟨rfl, rfl⟩
  go_wp2_with fail
  refine (take_any n 64 8 56 _ _ _ _ _ ?_ ?_ ?_ ?_ rfl rfl rfl (by omega) (by omega) HL.out).mono ?_
  · go_simp
  · go_simp
  · go_simp
  · omega
  rintro e w2 ⟨rfl, d1, rfl⟩
  go_wp2_with fail
  refine (take_any n 56 3 53 _ _ _ _ _ ?_ ?_ ?_ ?_ rfl rfl rfl (by omega) (by omega) HL.out).mono ?_
  · go_simp
  · go_simp
  · go_simp
  · omega
  rintro e w2 ⟨rfl, d2, rfl⟩
  go_wp2_with fail
  refine (take_any n 53 3 50 _ _ _ _ _ ?_ ?_ ?_ ?_ rfl rfl rfl (by omega) (by omega) HL.out).mono ?_
  · go_simp
  · go_simp
  · go_simp
  · omega
  rw [← HK.out]
  rintro e w2 ⟨rfl, d3, rfl⟩
  go_wp2_with fail
  refine (take_any n 50 (cbits k) q _ _ _ _ _ ?_ ?_ ?_ ?_ rfl rfl HQ.out (by omega) (by omega) HL.out).mono ?_
  · go_simp
  · go_simp
  · go_simp
  · omega
  rintro e w2 ⟨rfl, d4, rfl⟩
  go_wp2_with fail
  refine (take_any n q (rbits k) 24 _ _ _ _ _ ?_ ?_ ?_ ?_ rfl rfl HQ'.out (by have := HQ.out; omega) (by omega) HL.out).mono ?_
  · go_simp
  · go_simp
  · go_simp
  · omega
  rintro e w2 ⟨rfl, d5, rfl⟩
  go_wp2_with fail
  refine (take_any n 24 24 0 _ _ _ _ _ ?_ ?_ ?_ ?_ rfl rfl rfl (by omega) (by omega) HL.out).mono ?_
  · go_simp
  · go_simp
  · go_simp
  · omega
  rintro e w2 ⟨rfl, d6, rfl⟩
  go_wp2_with fail
  have hCf : Hid (fld n q (cbits k) = Cf n k) := by unfold Cf; rw [show 50 - cbits k = q by have := HQ.out; omega]; rfl
  have hTW := HT.out.below (below_drewN (((((Below.refl _ w).alloc (Nat.le_refl _) (.cells #[.int .i64 0, .int .i64 0, .int .i64 0, .int .i64 0, .int .i64 0, .int .i64 0] 94)).alloc (by simp) (.cells #[.int .u64 n] 109)).alloc (by simp; omega) (.cells #[.int .i64 0] 3)).alloc (by simp; omega) (.cells #[.int .i64 ((fld n 56 8 : Int) - 47), .int .i64 (fld n 53 3), .int .i64 k, .int .i64 (fld n q (cbits k)), .int .i64 (fld n 24 (rbits k)), .int .i64 (fld n 0 24)] 94)) (d1 + d2 + d3 + d4 + d5 + d6)) HT.out.size
  refine (check_any _ _ _ _ _ _ _ hTW).mono ?_
  clear hTW q0 q2
  rintro e w3 ⟨rfl, hb3⟩
  obtain ⟨z1, z2, z3⟩ := four rfl hb3
  obtain ⟨a0, b0, c0⟩ := z3 0 (by omega)
  obtain ⟨a1, b1, c1⟩ := z3 1 (by omega)
  obtain ⟨a2, b2, c2⟩ := z3 2 (by omega)
  obtain ⟨a3, b3, c3⟩ := z3 3 (by omega)
  obtain ⟨a4, b4, c4⟩ := z3 4 (by omega)
  obtain ⟨a5, b5, c5⟩ := z3 5 (by omega)
  simp at a0 a1 a2 a3 a4 a5 c0 c1 c2 c3 c4 c5
  have Z2 : Hid _ := z2
  clear z3 hb3 z2
  by_cases hok : okB ((Kf n : Int) - 47) (Ff n) k (Cf n k) (Rf n k) (Sf n) = true
  · have hcv : checkV ((fld n 56 8 : Int) - 47) (fld n 53 3) k (fld n q (cbits k)) (fld n 24 (rbits k)) (fld n 0 24) = .nilIface := by rw [hCf.out]; unfold checkV; exact if_pos hok
    have hv := HV.out
    rw [if_pos hok] at hv
    have HV2 : Hid _ := hv
    rw [hcv]
    clear hv HV hcv hok
    go_wp2
    rw [HV2.out, ← hCf.out]
    clear HV2 c0 c1 c2 c3 c4 c5 r1 r2
    refine bodyPost_ret (v := .tuple #[.agg #[.int .i64 ((fld n 56 8 : Int) - 47), .int .i64 (fld n 53 3), .int .i64 k, .int .i64 (fld n q (cbits k)), .int .i64 (fld n 24 (rbits k)), .int .i64 (fld n 0 24)], .nilIface]) (by simp [results, Tryz.results51, go_sem, a0, a1, a2, a3, a4, a5]) rfl ⟨rfl, ?_⟩
    exact (((((Z2.out.setCell (Nat.le_refl _) _).setCell (Nat.le_refl _) _).setCell (Nat.le_refl _) _).setCell (Nat.le_refl _) _).setCell (Nat.le_refl _) _).setCell (Nat.le_refl _) _
  · have hok : okB ((Kf n : Int) - 47) (Ff n) k (Cf n k) (Rf n k) (Sf n) = false := by simpa using hok
    have hcv : checkV ((fld n 56 8 : Int) - 47) (fld n 53 3) k (fld n q (cbits k)) (fld n 24 (rbits k)) (fld n 0 24) = .iface 57 (.int .i64 1) := by rw [hCf.out]; unfold checkV; exact if_neg (fun h => by unfold Kf Ff Rf Sf at hok; rw [hok] at h; cases h)
    have hv := HV.out
    rw [hok] at hv
    have HV2 : Hid _ := hv
    rw [hcv]
    clear hv HV hcv hok
    go_wp2
    rw [HV2.out]
    clear HV2 c0 c1 c2 c3 c4 c5 r1 r2
    refine bodyPost_ret (v := .tuple #[noTag, .iface 57 (.int .i64 3)]) (by simp [results, Tryz.results51, go_sem, noTag, a0, a1, a2, a3, a4, a5]) rfl ⟨rfl, ?_⟩
    exact (((((Z2.out.setCell (Nat.le_refl _) _).setCell (Nat.le_refl _) _).setCell (Nat.le_refl _) _).setCell (Nat.le_refl _) _).setCell (Nat.le_refl _) _).setCell (Nat.le_refl _) _
end Go.Proofs.YtnahkonklkcbeabGreatDoor.TagA
