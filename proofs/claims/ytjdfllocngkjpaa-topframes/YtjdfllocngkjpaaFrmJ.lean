/-
  What guess does to the world.
-/
import Derived.Test.YtjdfllocngkjpaaFrmI
namespace Go.Proofs.Ytjdfllocngkjpaa.FrmA
open Go.RowKit FrmM
set_option maxRecDepth 100000

theorem ReadsOwn.le {V : World} {base base' : Nat} {v : Value} {rs : List Rd} (h : ReadsOwn V base v rs) (hb : base' ≤ base) : ReadsOwn V base' v rs :=
  ⟨h.own.1, h.own.2.elim Or.inl (fun ⟨g, cap, cur, hv, hg, r⟩ => Or.inr ⟨g, cap, cur, hv, Nat.le_trans hb hg, r⟩)⟩
theorem ReadsOwn.set {V : World} {base : Nat} {v : Value} {rs : List Rd} (h : ReadsOwn V base v rs) {a : Addr} (ha : a.block < base) (u : Value) : ReadsOwn (V.setCell a u) base v rs := ⟨ownsRow_setCell_below h.own ha u⟩
theorem keepFrozen {B : Nat} {w w' : World} {a : Addr} (hb : Below B w w') (ha : a.block < B) (h : w.frozen? a = false) : w'.frozen? a = false := by rw [hb.frozen ha]; exact h

/-- Two blocks of three cells, kept over a call. -/
theorem twoBlocks {w w1 : World} {x0 x1 x2 x3 x4 x5 : Value} {t t' : TypeId} (hb : Below ((w.alloc (.cells #[x0, x1, x2] t)).alloc (.cells #[x3, x4, x5] t')).heap.size ((w.alloc (.cells #[x0, x1, x2] t)).alloc (.cells #[x3, x4, x5] t')) w1) :
    (w1.cell? ⟨w.heap.size, 0, none⟩ = some x0 ∧ w1.cell? ⟨w.heap.size, 1, none⟩ = some x1 ∧ w1.cell? ⟨w.heap.size, 2, none⟩ = some x2 ∧ w1.cell? ⟨w.heap.size + 1, 0, none⟩ = some x3 ∧ w1.cell? ⟨w.heap.size + 1, 1, none⟩ = some x4 ∧ w1.cell? ⟨w.heap.size + 1, 2, none⟩ = some x5)
    ∧ Below w.heap.size w w1
    ∧ (w1.frozen? ⟨w.heap.size, 0, none⟩ = false ∧ w1.frozen? ⟨w.heap.size, 1, none⟩ = false ∧ w1.frozen? ⟨w.heap.size, 2, none⟩ = false ∧ w1.frozen? ⟨w.heap.size + 1, 0, none⟩ = false ∧ w1.frozen? ⟨w.heap.size + 1, 1, none⟩ = false ∧ w1.frozen? ⟨w.heap.size + 1, 2, none⟩ = false) := by
  refine ⟨⟨?_, ?_, ?_, ?_, ?_, ?_⟩, (((Below.refl _ w).alloc (Nat.le_refl _) _).alloc (by simp) _).trans (hb.mono (by simp; omega)), ?_, ?_, ?_, ?_, ?_, ?_⟩
  · exact keepCell hb (by simp; omega) (by go_simp)
  · exact keepCell hb (by simp; omega) (by go_simp)
  · exact keepCell hb (by simp; omega) (by go_simp)
  · exact keepCell hb (by simp) (by go_simp)
  · exact keepCell hb (by simp) (by go_simp)
  · exact keepCell hb (by simp) (by go_simp)
  · exact keepFrozen hb (by simp; omega) (by go_simp)
  · exact keepFrozen hb (by simp; omega) (by go_simp)
  · exact keepFrozen hb (by simp; omega) (by go_simp)
  · exact keepFrozen hb (by simp) (by go_simp)
  · exact keepFrozen hb (by simp) (by go_simp)
  · exact keepFrozen hb (by simp) (by go_simp)

set_option maxHeartbeats 2000000 in
theorem guess_any (b : ByteArray) (w : World) (hs : b.size ≤ 100) (h4 : 4 ≤ b.size) :
    Calls Try.prog 28 #[.string b] w fun e w' => ∃ v, e = .returned (.agg #[.int .i64 (guess b.data.toList).ty, v, .int .i64 (guess b.data.toList).wm]) ∧ ReadsOwn w' w.heap.size v (guess b.data.toList).rs ∧ Below w.heap.size w w' := by
  obtain ⟨G, hG⟩ : ∃ G, G = guess b.data.toList := ⟨_, rfl⟩
  rw [← hG]
  have i2 : 2 < b.size := by omega
  have i2I : (2 : Int) < b.size := by omega
  have h4I : (4 : Int) ≤ b.size := by omega
  have hbd : (b.data.toList.drop 3).take (b.data.toList.length - 4) = (b.extract 3 (b.size - 1)).data.toList := by
    rw [extract_list, len_list, show b.size - 4 = b.size - 1 - 3 by omega]
  have hGG : G = ⟨b[2].toNat, if b[2].toNat = 1 then gReads (b.extract 3 (b.size - 1)).data.toList else [], if b[2].toNat = 3 ∧ (b.extract 3 (b.size - 1)).data.toList ≠ [] then ((b.data.toList.getD 3 0).toNat : Int) else 0⟩ := by
    rw [hG]
    unfold guess
    rw [byte_at i2, hbd]
  have HG : Hid (G = ⟨b[2].toNat, if b[2].toNat = 1 then gReads (b.extract 3 (b.size - 1)).data.toList else [], if b[2].toNat = 3 ∧ (b.extract 3 (b.size - 1)).data.toList ≠ [] then ((b.data.toList.getD 3 0).toNat : Int) else 0⟩) := hGG
  have hxs : (b.extract 3 (b.size - 1)).size = b.size - 4 := by rw [ByteArray.size_extract]; omega
  have HXS : Hid ((b.extract 3 (b.size - 1)).size = b.size - 4) := hxs
  have hb2 := b[2].toNat_lt
  clear hGG hG hbd hxs
  by_cases h1 : b[2].toNat = 1
  · have h1I : ((b[2].toNat : Int) == 1) = true := by rw [h1]; rfl
    have hG1 : G = ⟨1, gReads (b.extract 3 (b.size - 1)).data.toList, 0⟩ := by
      rw [HG.out]
      simp [h1]
    subst hG1
    clear HG
    go_enter Try.func28, Try.ntmps28
    go_wp2_with fail
    refine (readsOf_any _ _ (by rw [HXS.out]; omega)).mono ?_
    rintro e w1 ⟨v, rfl, hro, hb1⟩
    obtain ⟨hz, hb0, hz1⟩ := twoBlocks hb1
    have HRO : Hid (ReadsOwn w1 (w.heap.size + 2) v (gReads (b.extract 3 (b.size - 1)).data.toList)) := hro.le (by simp)
    have HB : Hid (Below w.heap.size w w1) := hb0
    obtain ⟨z0, z1, z2, f0, f1, f2⟩ := hz
    obtain ⟨y0, y1, y2, g0, g1, g2⟩ := hz1
    have hv : v.oneCell' = true := by
      rcases hro.own.2 with ⟨rfl, _⟩ | ⟨g, cap, cur, rfl, _⟩ <;> rfl
    have hvs : ∃ p n c, v = .slice p n c := by
      rcases hro.own.2 with ⟨rfl, _⟩ | ⟨g, cap, cur, rfl, _⟩
      · exact ⟨_, _, _, rfl⟩
      · exact ⟨_, _, _, rfl⟩
    obtain ⟨vp, vn, vc, rfl⟩ := hvs
    clear hro hb1 hb0
    go_wp2
    refine bodyPost_ret (v := .agg #[.int .i64 1, .slice vp vn vc, .int .i64 0]) (by simp [results, Try.results28, go_sem, z0, z1, z2]) rfl ⟨_, rfl, ?_, ?_⟩
    · exact ((((HRO.out.set (by show w.heap.size + 1 < _; omega) _).set (by show w.heap.size < _; omega) _).set (by show w.heap.size < _; omega) _).set (by show w.heap.size < _; omega) _).le (by omega)
    · exact (((HB.out.setCell (by show w.heap.size ≤ w.heap.size + 1; omega) _).setCell (Nat.le_refl _) _).setCell (Nat.le_refl _) _).setCell (Nat.le_refl _) _
  · have h1I : ((b[2].toNat : Int) == 1) = false := by simp; omega
    have H1 : Hid (b[2].toNat ≠ 1) := h1
    by_cases h3 : b[2].toNat = 3
    · have h3I : ((b[2].toNat : Int) == 3) = true := by rw [h3]; rfl
      clear h1
      by_cases h0 : b.size = 4
      · have hxe : b.extract 3 (b.size - 1) = ⟨#[]⟩ := by
          have := HXS.out
          rw [h0] at this ⊢
          apply ByteArray.ext
          apply Array.eq_empty_of_size_eq_zero
          exact this
        have hG1 : G = ⟨3, [], 0⟩ := by
          rw [HG.out, hxe]
          simp [h3]
        subst hG1
        have hxl : (b.extract 3 (b.size - 1)).toList.isEmpty = true := by rw [hxe, ByteArray.toList_eq]; rfl
        clear HG hxe
        go_enter Try.func28, Try.ntmps28
        go_wp2
        refine bodyPost_ret (v := .agg #[.int .i64 3, .slice none 0 0, .int .i64 0]) (by simp [results, Try.results28, go_sem]) rfl ⟨_, rfl, ReadsOwn.nil _ _, ?_⟩
        exact ((Below.refl _ w).alloc (Nat.le_refl _) _).alloc (by simp) _
      · have hxp : (b.extract 3 (b.size - 1)).data.toList ≠ [] := by
          intro e
          have := congrArg List.length e
          rw [len_list, HXS.out] at this
          simp at this
          omega
        have hx0 : 0 < (b.extract 3 (b.size - 1)).size := by rw [HXS.out]; omega
        have hx0I : (0 : Int) < (b.extract 3 (b.size - 1)).size := by omega
        have hb3 : b.data.toList.getD 3 0 = (b.extract 3 (b.size - 1))[0] := by
          rw [← byte_at hx0, extract_list, List.getD_eq_getElem?_getD, List.getD_eq_getElem?_getD, List.getElem?_take_of_lt (by omega), List.getElem?_drop]
        have hG1 : G = ⟨3, [], ((b.extract 3 (b.size - 1))[0].toNat : Int)⟩ := by
          rw [HG.out, hb3, if_neg H1.out, if_pos ⟨h3, hxp⟩, h3]
          rfl
        subst hG1
        have hxl : (b.extract 3 (b.size - 1)).toList.isEmpty = false := by
          rw [ByteArray.toList_eq]
          simpa using hxp
        clear HG hxp hb3
        generalize hX : b.extract 3 (b.size - 1) = X at *
        have hX0 := X[0].toNat_lt
        go_enter Try.func28, Try.ntmps28
        go_wp2
        refine bodyPost_ret (v := .agg #[.int .i64 3, .slice none 0 0, .int .i64 (X[0].toNat : Int)]) (by simp [results, Try.results28, go_sem]) rfl ⟨_, rfl, ReadsOwn.nil _ _, ?_⟩
        exact ((Below.refl _ w).alloc (Nat.le_refl _) _).alloc (by simp) _
    · have h3I : ((b[2].toNat : Int) == 3) = false := by simp; omega
      have hG1 : G = ⟨b[2].toNat, [], 0⟩ := by
        rw [HG.out]
        simp [h1, h3]
      subst hG1
      clear HG h1 h3
      go_enter Try.func28, Try.ntmps28
      go_wp2
      refine bodyPost_ret (v := .agg #[.int .i64 b[2].toNat, .slice none 0 0, .int .i64 0]) (by simp [results, Try.results28, go_sem]) rfl ⟨_, rfl, ReadsOwn.nil _ _, ?_⟩
      exact ((Below.refl _ w).alloc (Nat.le_refl _) _).alloc (by simp) _
end Go.Proofs.Ytjdfllocngkjpaa.FrmA
