/-
  What the document's own answer does to the world: TagOf.
-/
import Derived.Test.YtnahkonklkcbeabGreatDoorRefE
namespace Go.Proofs.YtnahkonklkcbeabGreatDoor.TagA
open Go.RowKit TagM
set_option maxRecDepth 100000

theorem keep6 {r : Nat} {w1 w2 : World} (h : ∀ j : Nat, j < 6 → w1.cell? ⟨r, j, none⟩ = some (.int .i64 0) ∧ w1.frozen? ⟨r, j, none⟩ = false) (hb : Below w1.heap.size w1 w2) :
    ∀ j : Nat, j < 6 → w2.cell? ⟨r, j, none⟩ = some (.int .i64 0) ∧ w2.frozen? ⟨r, j, none⟩ = false :=
  fun j hj => ⟨keepCell hb (h j hj).1, by rw [hb.frozen (World.block_lt_of_cell? _ _ (h j hj).1)]; exact (h j hj).2⟩
def refNo : Value := .tuple #[noTag, .bool false]
set_option maxHeartbeats 400000 in
theorem tagof_len (s : ByteArray) (w : World) (hs : s.size ≠ 8) (_hm : s.size ≤ maxLen) :
    Calls Tryz.prog 54 #[.string s] w fun e w' => e = .returned refNo ∧ Below w.heap.size w w' := by
  unfold maxLen at _hm
  have h8 : ((s.size : Int) != 8) = true := by simp; omega
  go_enter Tryz.func54, Tryz.ntmps54
  go_wp2
  exact bodyPost_ret (v := .tuple #[noTag, .bool false]) (by simp [results, Tryz.results54, go_sem, noTag]) rfl ⟨rfl, ((Below.refl _ _).alloc (Nat.le_refl _) _).alloc (by simp) _⟩

/-- The world behind a call, of four blocks. -/
theorem blocks4 {w w3 W : World} {x y a0 a1 a2 a3 a4 a5 t0 t1 t2 t3 t4 t5 : Value} {T1 T2 T3 T4 : TypeId} {d : Nat}
    (hW : W = ((((w.alloc (.cells #[x] T1)).alloc (.cells #[a0, a1, a2, a3, a4, a5] T2)).alloc (.cells #[y] T3)).alloc (.cells #[t0, t1, t2, t3, t4, t5] T4)).drewN d) (hb : Below W.heap.size W w3) :
    w.heap.size + 1 + 1 + 1 < w3.heap.size ∧ Below w.heap.size w w3 ∧ w3.cell? ⟨w.heap.size, 0, none⟩ = some x ∧ w3.cell? ⟨w.heap.size + 1 + 1, 0, none⟩ = some y ∧ w3.frozen? ⟨w.heap.size + 1 + 1, 0, none⟩ = false
    ∧ (∀ j : Nat, j < 6 → w3.cell? ⟨w.heap.size + 1, j, none⟩ = (#[a0, a1, a2, a3, a4, a5] : Array Value)[j]? ∧ w3.frozen? ⟨w.heap.size + 1, j, none⟩ = false ∧ w3.cell? ⟨w.heap.size + 1 + 1 + 1, j, none⟩ = (#[t0, t1, t2, t3, t4, t5] : Array Value)[j]? ∧ w3.frozen? ⟨w.heap.size + 1 + 1 + 1, j, none⟩ = false) := by
  subst hW
  have hs : (((((w.alloc (.cells #[x] T1)).alloc (.cells #[a0, a1, a2, a3, a4, a5] T2)).alloc (.cells #[y] T3)).alloc (.cells #[t0, t1, t2, t3, t4, t5] T4)).drewN d).heap.size = w.heap.size + 1 + 1 + 1 + 1 := by simp
  refine ⟨by have := hb.size; omega, ?_, ?_, ?_, ?_, ?_⟩
  · refine Below.trans ?_ (hb.mono (by omega))
    exact below_drewN (((((Below.refl _ w).alloc (Nat.le_refl _) _).alloc (by simp) _).alloc (by simp; omega) _).alloc (by simp; omega) _) _
  · rw [hb.cell (by rw [hs]; show w.heap.size < _; omega)]; go_simp
  · rw [hb.cell (by rw [hs]; show w.heap.size + 1 + 1 < _; omega)]; go_simp
  · rw [hb.frozen (by rw [hs]; show w.heap.size + 1 + 1 < _; omega)]; go_simp
  · intro j _
    refine ⟨?_, ?_, ?_, ?_⟩
    · rw [hb.cell (by rw [hs]; show w.heap.size + 1 < _; omega)]; go_simp
    · rw [hb.frozen (by rw [hs]; show w.heap.size + 1 < _; omega)]; go_simp
    · rw [hb.cell (by rw [hs]; show w.heap.size + 1 + 1 + 1 < _; omega)]; go_simp
    · rw [hb.frozen (by rw [hs]; show w.heap.size + 1 + 1 + 1 < _; omega)]; go_simp

/-- The world ahead of TagOf's last test. -/
theorem ofW {w w4 : World} {d : Nat} {o : Obj} {x1 x2 x3 c r z t0 t1 t2 e3 e4 e5 : Value} (hB : Below w.heap.size w w4) (hs : w.heap.size + 1 + 1 + 1 < w4.heap.size)
    (ha : ∀ j : Nat, j < 6 → w4.cell? ⟨w.heap.size + 1, j, none⟩ = some (.int .i64 0) ∧ w4.frozen? ⟨w.heap.size + 1, j, none⟩ = false)
    (h0 : w4.cell? ⟨w.heap.size + 1 + 1 + 1, 0, none⟩ = some t0) (h1 : w4.cell? ⟨w.heap.size + 1 + 1 + 1, 1, none⟩ = some t1) (h2 : w4.cell? ⟨w.heap.size + 1 + 1 + 1, 2, none⟩ = some t2)
    (h3 : w4.cell? ⟨w.heap.size + 1 + 1 + 1, 3, none⟩ = some e3) (h4 : w4.cell? ⟨w.heap.size + 1 + 1 + 1, 4, none⟩ = some e4) (h5 : w4.cell? ⟨w.heap.size + 1 + 1 + 1, 5, none⟩ = some e5) {W : World}
    (hW : W = (((((((w4.setCell ⟨w.heap.size + 1 + 1, 0, none⟩ x1).setCell ⟨w.heap.size + 1 + 1 + 1, 3, none⟩ c).setCell ⟨w.heap.size + 1 + 1, 0, none⟩ x2).setCell ⟨w.heap.size + 1 + 1 + 1, 4, none⟩ r).setCell ⟨w.heap.size + 1 + 1, 0, none⟩ x3).setCell ⟨w.heap.size + 1 + 1 + 1, 5, none⟩ z).alloc o).drewN d) :
    Below w.heap.size w W ∧ w.heap.size + 1 + 1 + 1 < W.heap.size ∧ (∀ j : Nat, j < 6 → W.cell? ⟨w.heap.size + 1, j, none⟩ = some (.int .i64 0) ∧ W.frozen? ⟨w.heap.size + 1, j, none⟩ = false)
    ∧ W.cell? ⟨w.heap.size + 1 + 1 + 1, 0, none⟩ = some t0 ∧ W.cell? ⟨w.heap.size + 1 + 1 + 1, 1, none⟩ = some t1 ∧ W.cell? ⟨w.heap.size + 1 + 1 + 1, 2, none⟩ = some t2
    ∧ W.cell? ⟨w.heap.size + 1 + 1 + 1, 3, none⟩ = some c ∧ W.cell? ⟨w.heap.size + 1 + 1 + 1, 4, none⟩ = some r ∧ W.cell? ⟨w.heap.size + 1 + 1 + 1, 5, none⟩ = some z := by
  have q1 : w.heap.size ≤ w.heap.size + 1 + 1 := by omega
  have q2 : w.heap.size ≤ w.heap.size + 1 + 1 + 1 := by omega
  let V := (((((w4.setCell ⟨w.heap.size + 1 + 1, 0, none⟩ x1).setCell ⟨w.heap.size + 1 + 1 + 1, 3, none⟩ c).setCell ⟨w.heap.size + 1 + 1, 0, none⟩ x2).setCell ⟨w.heap.size + 1 + 1 + 1, 4, none⟩ r).setCell ⟨w.heap.size + 1 + 1, 0, none⟩ x3).setCell ⟨w.heap.size + 1 + 1 + 1, 5, none⟩ z
  have hV : Below w.heap.size w V := (((((hB.setCell (p := ⟨w.heap.size + 1 + 1, 0, none⟩) q1 _).setCell (p := ⟨w.heap.size + 1 + 1 + 1, 3, none⟩) q2 _).setCell (p := ⟨w.heap.size + 1 + 1, 0, none⟩) q1 _).setCell (p := ⟨w.heap.size + 1 + 1 + 1, 4, none⟩) q2 _).setCell (p := ⟨w.heap.size + 1 + 1, 0, none⟩) q1 _).setCell (p := ⟨w.heap.size + 1 + 1 + 1, 5, none⟩) q2 _
  have hVs : V.heap.size = w4.heap.size := by simp [V]
  have hVW : Below V.heap.size V W := by rw [hW]; exact below_drewN ((Below.refl _ V).alloc (Nat.le_refl _) o) d
  have far1 : ∀ j : Nat, V.cell? ⟨w.heap.size + 1, j, none⟩ = w4.cell? ⟨w.heap.size + 1, j, none⟩ := fun j => by
    have n1 : w.heap.size + 1 + 1 ≠ w.heap.size + 1 := by omega
    have n2 : w.heap.size + 1 + 1 + 1 ≠ w.heap.size + 1 := by omega
    show ((((((w4.setCell ⟨w.heap.size + 1 + 1, 0, none⟩ x1).setCell ⟨w.heap.size + 1 + 1 + 1, 3, none⟩ c).setCell ⟨w.heap.size + 1 + 1, 0, none⟩ x2).setCell ⟨w.heap.size + 1 + 1 + 1, 4, none⟩ r).setCell ⟨w.heap.size + 1 + 1, 0, none⟩ x3).setCell ⟨w.heap.size + 1 + 1 + 1, 5, none⟩ z).cell? _ = _
    rw [World.cell?_setCell_far _ _ _ _ n2, World.cell?_setCell_far _ _ _ _ n1, World.cell?_setCell_far _ _ _ _ n2, World.cell?_setCell_far _ _ _ _ n1, World.cell?_setCell_far _ _ _ _ n2, World.cell?_setCell_far _ _ _ _ n1]
  have n3 : w.heap.size + 1 + 1 ≠ w.heap.size + 1 + 1 + 1 := by omega
  have tt : ∀ (j : Nat) (u : Value), V.cell? ⟨w.heap.size + 1 + 1 + 1, j, none⟩ = some u → W.cell? ⟨w.heap.size + 1 + 1 + 1, j, none⟩ = some u := fun j u h => keepCell hVW h
  refine ⟨hV.trans (hVW.mono hV.size), Nat.lt_of_lt_of_le (by omega) hVW.size, fun j hj => ⟨keepCell hVW (by rw [far1]; exact (ha j hj).1), ?_⟩, tt _ _ ?_, tt _ _ ?_, tt _ _ ?_, tt _ _ ?_, tt _ _ ?_, tt _ _ ?_⟩
  · rw [hVW.frozen (by show w.heap.size + 1 < _; omega)]
    simp only [V, World.frozen?_setCell]
    exact (ha j hj).2
  · simp only [V]; rw [World.cell?_setCell_other (h := by simp), World.cell?_setCell_far _ _ _ _ n3, World.cell?_setCell_other (h := by simp), World.cell?_setCell_far _ _ _ _ n3, World.cell?_setCell_other (h := by simp), World.cell?_setCell_far _ _ _ _ n3]; exact h0
  · simp only [V]; rw [World.cell?_setCell_other (h := by simp), World.cell?_setCell_far _ _ _ _ n3, World.cell?_setCell_other (h := by simp), World.cell?_setCell_far _ _ _ _ n3, World.cell?_setCell_other (h := by simp), World.cell?_setCell_far _ _ _ _ n3]; exact h1
  · simp only [V]; rw [World.cell?_setCell_other (h := by simp), World.cell?_setCell_far _ _ _ _ n3, World.cell?_setCell_other (h := by simp), World.cell?_setCell_far _ _ _ _ n3, World.cell?_setCell_other (h := by simp), World.cell?_setCell_far _ _ _ _ n3]; exact h2
  · simp only [V]; rw [World.cell?_setCell_other (h := by simp), World.cell?_setCell_far _ _ _ _ n3, World.cell?_setCell_other (h := by simp), World.cell?_setCell_far _ _ _ _ n3]; exact World.cell?_setCell_same' _ _ _ (by rw [World.cell?_setCell_far _ _ _ _ n3, h3]; rfl)
  · simp only [V]; rw [World.cell?_setCell_other (h := by simp), World.cell?_setCell_far _ _ _ _ n3]; exact World.cell?_setCell_same' _ _ _ (by rw [World.cell?_setCell_far _ _ _ _ n3, World.cell?_setCell_other (h := by simp), World.cell?_setCell_far _ _ _ _ n3, h4]; rfl)
  · simp only [V]; exact World.cell?_setCell_same' _ _ _ (by rw [World.cell?_setCell_far _ _ _ _ n3, World.cell?_setCell_other (h := by simp), World.cell?_setCell_far _ _ _ _ n3, World.cell?_setCell_other (h := by simp), World.cell?_setCell_far _ _ _ _ n3, h5]; rfl)

set_option maxHeartbeats 4000000 in
theorem tagof_8 (s : ByteArray) (w : World) (hs : s.size = 8) (n : Nat) (hn : n = numU s.data.toList) (v : Value)
    (hv : v = if okP n then .tuple #[tagV ((Kf n : Int) - 47) (Ff n) (Pf n) (Cf n (Pf n)) (Rf n (Pf n)) (Sf n), .bool true] else refNo) :
    Calls Tryz.prog 54 #[.string s] w fun e w' => e = .returned v ∧ Below w.heap.size w w' := by
  have h8 : ((s.size : Int) != 8) = false := by simp; omega
  have HS : Hid (s.size = 8) := hs
  have HN : Hid (n = numU s.data.toList) := hn
  have HV : Hid (v = _) := hv
  clear hs hn hv
  have r1 := set_drewN
  have r2 := alloc_drewN
  have f1 : ((fld n 56 8 : Nat) : Int) ≤ 255 := by have := fld_lt n 56 8; omega
  go_enter Tryz.func54, Tryz.ntmps54
  go_wp2_with fail
  refine (next_any s HS.out 0 8 56 _ 0 _ _ _ rfl rfl rfl (by omega) (by omega) ?_ ?_ ?_ ?_).mono ?_
  · go_simp
  · go_simp
  · go_simp
  · omega
  rw [← HN.out]
  rintro e w2 ⟨rfl, d1, rfl⟩
  go_wp2_with fail
  refine (next_any s HS.out 8 3 53 _ _ _ _ _ rfl rfl rfl (by omega) (by omega) ?_ ?_ ?_ ?_).mono ?_
  · go_simp
  · go_simp
  · go_simp
  · omega
  rw [← HN.out]
  rintro e w2 ⟨rfl, d2, rfl⟩
  go_wp2_with fail
  refine (next_any s HS.out 11 3 50 _ _ _ _ _ rfl rfl rfl (by omega) (by omega) ?_ ?_ ?_ ?_).mono ?_
  · go_simp
  · go_simp
  · go_simp
  · omega
  rw [← HN.out]
  rintro e w2 ⟨rfl, d3, rfl⟩
  go_wp2_with fail
  by_cases hP : fld n 50 3 < 6
  case neg =>
    have hvv : v = refNo := by
      rw [HV.out, if_neg]
      unfold okP Pf
      simp [hP]
    refine (parts_no _ _ (Or.inr (by omega))).mono ?_
    rintro e w4 ⟨rfl, hb4⟩
    obtain ⟨z1, z2, -, -, -, z3⟩ := blocks4 rfl hb4
    obtain ⟨a0, b0, -⟩ := z3 0 (by omega)
    obtain ⟨a1, b1, -⟩ := z3 1 (by omega)
    obtain ⟨a2, b2, -⟩ := z3 2 (by omega)
    obtain ⟨a3, b3, -⟩ := z3 3 (by omega)
    obtain ⟨a4, b4, -⟩ := z3 4 (by omega)
    obtain ⟨a5, b5, -⟩ := z3 5 (by omega)
    simp at a0 a1 a2 a3 a4 a5
    have Z2 : Hid _ := z2
    have zz : w.heap.size + 1 < w4.heap.size := by omega
    clear z3 hb4 z2 hP
    go_wp2
    rw [hvv]
    clear r1 r2
    refine bodyPost_ret (v := .tuple #[noTag, .bool false]) (by simp [results, Tryz.results54, go_sem, noTag, a0, a1, a2, a3, a4, a5, zz]) rfl ⟨rfl, ?_⟩
    exact ((((((Z2.out.setCell (by show w.heap.size ≤ w.heap.size + 1; omega) _).setCell (by show w.heap.size ≤ w.heap.size + 1; omega) _).setCell (by show w.heap.size ≤ w.heap.size + 1; omega) _).setCell (by show w.heap.size ≤ w.heap.size + 1; omega) _).setCell (by show w.heap.size ≤ w.heap.size + 1; omega) _).setCell (by show w.heap.size ≤ w.heap.size + 1; omega) _).alloc (by simp; omega) _
  obtain ⟨k, hk⟩ : ∃ k, fld n 50 3 = k := ⟨_, rfl⟩
  rw [hk] at hP ⊢
  have HK : Hid (fld n 50 3 = k) := hk
  clear hk
  have hcb := cbits_le k
  have hrb := rbits_le k
  have hsum := bits_sum k
  have HSUM : Hid _ := hsum
  clear hsum
  refine (parts_ok k _ hP).mono ?_
  rintro e w4 ⟨rfl, hb4⟩
  obtain ⟨z1, z2, z4, z5, z6, z3⟩ := blocks4 rfl hb4
  obtain ⟨a0, b0, t0, q0⟩ := z3 0 (by omega)
  obtain ⟨a1, b1, t1, q1⟩ := z3 1 (by omega)
  obtain ⟨a2, b2, t2, q2⟩ := z3 2 (by omega)
  obtain ⟨a3, b3, t3, q3⟩ := z3 3 (by omega)
  obtain ⟨a4, b4, t4, q4⟩ := z3 4 (by omega)
  obtain ⟨a5, b5, t5, q5⟩ := z3 5 (by omega)
  simp at a0 a1 a2 a3 a4 a5 t0 t1 t2 t3 t4 t5
  have Z2 : Hid _ := z2
  have y1 : w.heap.size < w4.heap.size := by omega
  have y2 : w.heap.size + 1 < w4.heap.size := by omega
  have y3 : w.heap.size + 1 + 1 < w4.heap.size := by omega
  clear z3 hb4 z2
  go_wp2_with fail
  refine (next_any s HS.out 14 (cbits k) (24 + rbits k) _ _ _ _ _ (by show _ = _; have := HSUM.out; omega) rfl rfl (by omega) (by omega) ?_ ?_ ?_ ?_).mono ?_
  · go_simp
  · go_simp
  · go_simp
  · omega
  rw [← HN.out]
  rintro e w2 ⟨rfl, d4, rfl⟩
  go_wp2_with fail
  refine (next_any s HS.out (14 + cbits k) (rbits k) 24 _ (14 + (cbits k : Int)) _ _ _ (by show _ = _; have := HSUM.out; omega) rfl (by show _ = _; omega) (by omega) (by omega) ?_ ?_ ?_ ?_).mono ?_
  · go_simp
  · go_simp
  · go_simp
  · omega
  rw [← HN.out]
  rintro e w2 ⟨rfl, d5, rfl⟩
  go_wp2_with fail
  refine (next_any s HS.out (14 + cbits k + rbits k) 24 0 _ (14 + (cbits k : Int) + (rbits k : Int)) _ _ _ (by show _ = _; have := HSUM.out; omega) rfl (by show _ = _; omega) (by omega) (by omega) ?_ ?_ ?_ ?_).mono ?_
  · go_simp
  · go_simp
  · go_simp
  · omega
  rw [← HN.out]
  rintro e w2 ⟨rfl, d6, rfl⟩
  go_wp2_with fail
  have hbC : ((fld n (24 + rbits k) (cbits k) : Nat) : Int) ≤ 9223372036854775807 := by
    have := fld_lt n (24 + rbits k) (cbits k)
    have h2 : 2 ^ cbits k ≤ 2 ^ 20 := Nat.pow_le_pow_right (by omega) hcb.2
    omega
  have hbR : ((fld n 24 (rbits k) : Nat) : Int) ≤ 9223372036854775807 := by
    have := fld_lt n 24 (rbits k)
    have h2 : 2 ^ rbits k ≤ 2 ^ 22 := Nat.pow_le_pow_right (by omega) hrb.2
    omega
  have hO := ofW (d := d4 + d5 + d6) (o := .cells #[.int .i64 (cbits k), .int .i64 (cdig k), .int .i64 (rbits k), .int .i64 (rdig k)] 121) (x1 := .int .i64 (14 + (cbits k : Int))) (x2 := .int .i64 (14 + (cbits k : Int) + (rbits k : Int))) (x3 := .int .i64 (14 + (cbits k : Int) + (rbits k : Int) + 24)) (c := .int .i64 (fld n (24 + rbits k) (cbits k))) (r := .int .i64 (fld n 24 (rbits k))) (z := .int .i64 (fld n 0 24)) Z2.out z1 (fun j hj => match j, hj with | 0, _ => ⟨a0, b0⟩ | 1, _ => ⟨a1, b1⟩ | 2, _ => ⟨a2, b2⟩ | 3, _ => ⟨a3, b3⟩ | 4, _ => ⟨a4, b4⟩ | 5, _ => ⟨a5, b5⟩) t0 t1 t2 t3 t4 t5 rfl
  clear a0 a1 a2 a3 a4 a5 b0 b1 b2 b3 b4 b5 t0 t1 t2 t3 t4 t5 q0 q1 q2 q3 q4 q5 z4 z5 z6 y1 y2 y3 z1
  generalize ((((((((w4.setCell ⟨w.heap.size + 1 + 1, 0, none⟩ (.int .i64 (14 + (cbits k : Int)))).setCell ⟨w.heap.size + 1 + 1 + 1, 3, none⟩ (.int .i64 (fld n (24 + rbits k) (cbits k)))).setCell ⟨w.heap.size + 1 + 1, 0, none⟩ (.int .i64 (14 + (cbits k : Int) + (rbits k : Int)))).setCell ⟨w.heap.size + 1 + 1 + 1, 4, none⟩ (.int .i64 (fld n 24 (rbits k)))).setCell ⟨w.heap.size + 1 + 1, 0, none⟩ (.int .i64 (14 + (cbits k : Int) + (rbits k : Int) + 24))).setCell ⟨w.heap.size + 1 + 1 + 1, 5, none⟩ (.int .i64 (fld n 0 24))).alloc (.cells #[.int .i64 (cbits k), .int .i64 (cdig k), .int .i64 (rbits k), .int .i64 (rdig k)] 121)).drewN (d4 + d5 + d6)) = W at *
  obtain ⟨hBW, hsz, ha, u0, u1, u2, u3, u4, u5⟩ := hO
  refine (fault_any _ _ _ _ _ _ _ hbC hbR).mono ?_
  rintro e w5 ⟨rfl, hb5⟩
  have ha5 := keep6 ha hb5
  have HB5 : Hid _ := hBW.trans (hb5.mono hBW.size)
  have v0 := keepCell hb5 u0
  have v1 := keepCell hb5 u1
  have v2 := keepCell hb5 u2
  have v3 := keepCell hb5 u3
  have v4 := keepCell hb5 u4
  have v5 := keepCell hb5 u5
  obtain ⟨a0, b0⟩ := ha5 0 (by omega)
  obtain ⟨a1, b1⟩ := ha5 1 (by omega)
  obtain ⟨a2, b2⟩ := ha5 2 (by omega)
  obtain ⟨a3, b3⟩ := ha5 3 (by omega)
  obtain ⟨a4, b4⟩ := ha5 4 (by omega)
  obtain ⟨a5, b5⟩ := ha5 5 (by omega)
  have hCf : Hid (fld n (24 + rbits k) (cbits k) = Cf n k) := by
    show _ = _
    unfold Cf; rw [show 50 - cbits k = 24 + rbits k by have := HSUM.out; omega]
  have hPk : Hid (Pf n = k) := HK.out
  clear u0 u1 u2 u3 u4 u5 ha ha5 hb5 hBW hsz
  have q1 : w.heap.size ≤ w.heap.size + 1 := by omega
  by_cases hok : okP n = true
  · have hvv := HV.out
    rw [if_pos hok] at hvv
    have hfv : faultV ((fld n 56 8 : Int) - 47) (fld n 53 3) k (fld n (24 + rbits k) (cbits k)) (fld n 24 (rbits k)) (fld n 0 24) = 0 := by
      unfold faultV
      rw [if_pos]
      unfold okP at hok
      simp only [Bool.and_eq_true] at hok
      rw [hCf.out]
      have h2 := hok.2
      rw [hPk.out] at h2
      exact h2
    have HVV : Hid _ := hvv
    rw [hfv]
    clear hvv hfv hok HV
    go_wp2
    rw [HVV.out, hPk.out, ← hCf.out]
    clear r1 r2 v0 v1 v2 v3 v4 v5
    refine bodyPost_ret (v := .tuple #[.agg #[.int .i64 ((fld n 56 8 : Int) - 47), .int .i64 (fld n 53 3), .int .i64 k, .int .i64 (fld n (24 + rbits k) (cbits k)), .int .i64 (fld n 24 (rbits k)), .int .i64 (fld n 0 24)], .bool true]) (by simp [results, Tryz.results54, go_sem, a0, a1, a2, a3, a4, a5]) rfl ⟨rfl, ?_⟩
    exact (((((HB5.out.setCell q1 _).setCell q1 _).setCell q1 _).setCell q1 _).setCell q1 _).setCell q1 _
  · have hvv := HV.out
    rw [if_neg hok] at hvv
    have hfv : faultV ((fld n 56 8 : Int) - 47) (fld n 53 3) k (fld n (24 + rbits k) (cbits k)) (fld n 24 (rbits k)) (fld n 0 24) = 1 := by
      unfold faultV
      rw [if_neg]
      intro h2
      apply hok
      unfold okP
      rw [hPk.out, ← hCf.out, Bool.and_eq_true]
      exact ⟨by simpa using hP, h2⟩
    have HVV : Hid _ := hvv
    rw [hfv]
    clear hvv hfv hok HV
    go_wp2
    rw [HVV.out]
    clear r1 r2 v0 v1 v2 v3 v4 v5
    refine bodyPost_ret (v := .tuple #[noTag, .bool false]) (by simp [results, Tryz.results54, go_sem, noTag, a0, a1, a2, a3, a4, a5]) rfl ⟨rfl, ?_⟩
    exact (((((HB5.out.setCell q1 _).setCell q1 _).setCell q1 _).setCell q1 _).setCell q1 _).setCell q1 _
end Go.Proofs.YtnahkonklkcbeabGreatDoor.TagA
