/-
  What guess does to the world.
-/
import Derived.Test.YtllhfbnafemoeaaDoorTagJ
namespace Go.Proofs.YtllhfbnafemoeaaDoor.TagA
open Go.RowKit TagM
set_option maxRecDepth 100000
attribute [local go_sem ↓] Go.wp_at_zero Go.wp_at_succ

/-- The number that a part spells. -/
def numAt (xs : List ByteArray) (i : Nat) : Int := ((xs[i]?).bind atoiV).getD 0

/-- The world inside guess: what was there is as it was; the result's block res, the parts' block fb, the numbers' block nb, of which k are written. -/
structure GS (w : World) (res fb nb : Nat) (xs : List ByteArray) (k : Nat) (V : World) : Prop where
  tabs : Tabs2 V
  below : Below w.heap.size w V
  resC : ∀ j : Nat, j < 6 → V.cell? ⟨res, j, none⟩ = some (.int .i64 0) ∧ V.frozen? ⟨res, j, none⟩ = false
  fldC : ∀ (i : Nat) (x : ByteArray), xs[i]? = some x → V.cell? ⟨fb, i, none⟩ = some (.string x)
  numC : ∀ j : Nat, j < 4 → V.cell? ⟨nb, j, none⟩ = some (.int .i64 (if j < k then numAt xs j else 0)) ∧ V.frozen? ⟨nb, j, none⟩ = false
  old : w.heap.size ≤ res ∧ res < fb ∧ fb < nb ∧ nb < V.heap.size
  ten : 10 ≤ w.heap.size

theorem GS.keep {w V V' : World} {res fb nb k : Nat} {xs : List ByteArray} (h : GS w res fb nb xs k V) (hb : Below V.heap.size V V') : GS w res fb nb xs k V' where
  tabs := keepTabs h.tabs hb
  below := h.below.trans (hb.mono h.below.size)
  resC := fun j hj => ⟨keepCell hb (h.resC j hj).1, by rw [hb.frozen (World.block_lt_of_cell? _ _ (h.resC j hj).1)]; exact (h.resC j hj).2⟩
  fldC := fun i x hx => keepCell hb (h.fldC i x hx)
  numC := fun j hj => ⟨keepCell hb (h.numC j hj).1, by rw [hb.frozen (World.block_lt_of_cell? _ _ (h.numC j hj).1)]; exact (h.numC j hj).2⟩
  old := ⟨h.old.1, h.old.2.1, h.old.2.2.1, Nat.lt_of_lt_of_le h.old.2.2.2 hb.size⟩
  ten := h.ten

theorem GS.set {w V : World} {res fb nb k : Nat} {xs : List ByteArray} (h : GS w res fb nb xs k V) (hk : k < 4) : GS w res fb nb xs (k + 1) (V.setCell ⟨nb, k, none⟩ (.int .i64 (numAt xs k))) := by
  have hB : Below nb V (V.setCell ⟨nb, k, none⟩ (.int .i64 (numAt xs k))) := (Below.refl nb V).setCell (p := ⟨nb, k, none⟩) (Nat.le_refl _) _
  have h3 := h.old
  have h4 := h.ten
  refine ⟨?_, ?_, ?_, ?_, ?_, ?_, h4⟩
  · exact h.tabs.below hB (by omega)
  · exact h.below.setCell (by show w.heap.size ≤ nb; omega) _
  · intro j hj
    rw [hB.cell (by show res < nb; omega), hB.frozen (by show res < nb; omega)]
    exact h.resC j hj
  · intro i x hx
    rw [hB.cell (by show fb < nb; omega)]
    exact h.fldC i x hx
  · intro j hj
    rw [World.frozen?_setCell]
    refine ⟨?_, (h.numC j hj).2⟩
    by_cases e : j = k
    · subst e
      rw [World.cell?_setCell_same' _ _ _ (by rw [(h.numC j hj).1]; rfl), if_pos (by omega)]
    · rw [World.cell?_setCell_other (a := ⟨nb, k, none⟩) (b := ⟨nb, j, none⟩) (h := by intro he; cases he; exact e rfl), (h.numC j hj).1]
      by_cases e2 : j < k
      · rw [if_pos e2, if_pos (by omega)]
      · rw [if_neg e2, if_neg (by omega)]
  · exact ⟨h3.1, h3.2.1, h3.2.2.1, by simpa using h3.2.2.2⟩

/-- What guess answers where there are not four parts, or one of them is no number. -/
def guessNo : Value := .tuple #[noTag, .bool false]
def guessYes (s : ByteArray) : Value :=
  .tuple #[tagV (kindF (cutW s) : Nat) (numAt (parts (cutR s)) 0) (6 - ((((parts (cutR s))[1]?).getD ByteArray.empty).size : Int)) (numAt (parts (cutR s)) 1) (numAt (parts (cutR s)) 2) (numAt (parts (cutR s)) 3), .bool true]

theorem drewNTabs {w : World} {d : Nat} (h : Tabs2 w) : Tabs2 (w.drewN d) := h.below (below_drewN (Below.refl w.heap.size w) d) h.size
theorem setFar6 {w : World} {r : Nat} {a : Addr} {v : Value} (v0 v1 v2 v3 v4 v5 : Value) (h : w.cell? a = some v) (hr : r ≠ a.block) :
    ((((((w.setCell ⟨r, 0, none⟩ v0).setCell ⟨r, 1, none⟩ v1).setCell ⟨r, 2, none⟩ v2).setCell ⟨r, 3, none⟩ v3).setCell ⟨r, 4, none⟩ v4).setCell ⟨r, 5, none⟩ v5).cell? a = some v := by
  rw [World.cell?_setCell_far _ _ _ _ hr, World.cell?_setCell_far _ _ _ _ hr, World.cell?_setCell_far _ _ _ _ hr, World.cell?_setCell_far _ _ _ _ hr, World.cell?_setCell_far _ _ _ _ hr, World.cell?_setCell_far _ _ _ _ hr]
  exact h
theorem drewSet (w : World) (a : Addr) (v : Value) : w.drew.setCell a v = (w.setCell a v).drew := rfl
theorem cellDrew (w : World) (a : Addr) : w.drew.cell? a = w.cell? a := rfl
theorem stored6 {W : World} {r nb fb : Nat} {m0 m1 m2 m3 m4 m5 m6 m7 m8 : Value} (e1 : r ≠ 0) (e2 : r ≠ 1) (e3 : r ≠ nb) (e4 : r ≠ fb)
    (n0 : W.cell? ⟨nb, 0, none⟩ = some m0) (n1 : W.cell? ⟨nb, 1, none⟩ = some m1) (n2 : W.cell? ⟨nb, 2, none⟩ = some m2) (n3 : W.cell? ⟨nb, 3, none⟩ = some m3) (q1 : W.cell? ⟨0, 1, none⟩ = some m4) (f1 : W.cell? ⟨fb, 1, none⟩ = some m5)
    (k0 : W.cell? ⟨1, 0, none⟩ = some m6) (k1 : W.cell? ⟨1, 1, none⟩ = some m7) (k2 : W.cell? ⟨1, 2, none⟩ = some m8) (v0 v1 v2 v3 v4 v5 : Value) :
    ((((((W.setCell ⟨r, 0, none⟩ v0).setCell ⟨r, 1, none⟩ v1).setCell ⟨r, 2, none⟩ v2).setCell ⟨r, 3, none⟩ v3).setCell ⟨r, 4, none⟩ v4).setCell ⟨r, 5, none⟩ v5).drew.cell? ⟨nb, 0, none⟩ = some m0
    ∧ ((((((W.setCell ⟨r, 0, none⟩ v0).setCell ⟨r, 1, none⟩ v1).setCell ⟨r, 2, none⟩ v2).setCell ⟨r, 3, none⟩ v3).setCell ⟨r, 4, none⟩ v4).setCell ⟨r, 5, none⟩ v5).drew.cell? ⟨nb, 1, none⟩ = some m1
    ∧ ((((((W.setCell ⟨r, 0, none⟩ v0).setCell ⟨r, 1, none⟩ v1).setCell ⟨r, 2, none⟩ v2).setCell ⟨r, 3, none⟩ v3).setCell ⟨r, 4, none⟩ v4).setCell ⟨r, 5, none⟩ v5).drew.cell? ⟨nb, 2, none⟩ = some m2
    ∧ ((((((W.setCell ⟨r, 0, none⟩ v0).setCell ⟨r, 1, none⟩ v1).setCell ⟨r, 2, none⟩ v2).setCell ⟨r, 3, none⟩ v3).setCell ⟨r, 4, none⟩ v4).setCell ⟨r, 5, none⟩ v5).drew.cell? ⟨nb, 3, none⟩ = some m3
    ∧ ((((((W.setCell ⟨r, 0, none⟩ v0).setCell ⟨r, 1, none⟩ v1).setCell ⟨r, 2, none⟩ v2).setCell ⟨r, 3, none⟩ v3).setCell ⟨r, 4, none⟩ v4).setCell ⟨r, 5, none⟩ v5).drew.cell? ⟨0, 1, none⟩ = some m4
    ∧ ((((((W.setCell ⟨r, 0, none⟩ v0).setCell ⟨r, 1, none⟩ v1).setCell ⟨r, 2, none⟩ v2).setCell ⟨r, 3, none⟩ v3).setCell ⟨r, 4, none⟩ v4).setCell ⟨r, 5, none⟩ v5).drew.cell? ⟨fb, 1, none⟩ = some m5
    ∧ ((((((W.setCell ⟨r, 0, none⟩ v0).setCell ⟨r, 1, none⟩ v1).setCell ⟨r, 2, none⟩ v2).setCell ⟨r, 3, none⟩ v3).setCell ⟨r, 4, none⟩ v4).setCell ⟨r, 5, none⟩ v5).drew.cell? ⟨1, 0, none⟩ = some m6
    ∧ ((((((W.setCell ⟨r, 0, none⟩ v0).setCell ⟨r, 1, none⟩ v1).setCell ⟨r, 2, none⟩ v2).setCell ⟨r, 3, none⟩ v3).setCell ⟨r, 4, none⟩ v4).setCell ⟨r, 5, none⟩ v5).drew.cell? ⟨1, 1, none⟩ = some m7
    ∧ ((((((W.setCell ⟨r, 0, none⟩ v0).setCell ⟨r, 1, none⟩ v1).setCell ⟨r, 2, none⟩ v2).setCell ⟨r, 3, none⟩ v3).setCell ⟨r, 4, none⟩ v4).setCell ⟨r, 5, none⟩ v5).drew.cell? ⟨1, 2, none⟩ = some m8 := by
  simp only [cellDrew]
  exact ⟨setFar6 _ _ _ _ _ _ n0 e3, setFar6 _ _ _ _ _ _ n1 e3, setFar6 _ _ _ _ _ _ n2 e3, setFar6 _ _ _ _ _ _ n3 e3, setFar6 _ _ _ _ _ _ q1 e1, setFar6 _ _ _ _ _ _ f1 e4, setFar6 _ _ _ _ _ _ k0 e2, setFar6 _ _ _ _ _ _ k1 e2, setFar6 _ _ _ _ _ _ k2 e2⟩
theorem extract_size_le (s : ByteArray) (a b : Nat) : (s.extract a b).size ≤ s.size := by
  rw [ByteArray.size_extract]; omega
theorem splitB_size (sep : ByteArray) : ∀ (k : Nat) (s x : ByteArray), x ∈ Lib.splitB sep 0 k s → x.size ≤ s.size
  | 0, s, x, h => by rw [Lib.splitB_zero] at h; simp at h; rw [h]; exact Nat.le_refl _
  | k + 1, s, x, h => by
    unfold Lib.splitB at h
    split at h
    · simp at h; rw [h]; exact Nat.le_refl _
    · rcases List.mem_cons.1 h with h | h
      · rw [h]; exact extract_size_le _ _ _
      · exact Nat.le_trans (splitB_size sep k _ x h) (extract_size_le _ _ _)
theorem parts_size {r x : ByteArray} {i : Nat} (h : (parts r)[i]? = some x) : x.size ≤ r.size := splitB_size _ _ _ _ (List.mem_of_getElem? h)
theorem after2 {w w2 : World} {d : Nat} {xs : List ByteArray} {W : World} (hT : Tabs2 w) (hW : W = (w.alloc (.cells #[.int .i64 0, .int .i64 0, .int .i64 0, .int .i64 0, .int .i64 0, .int .i64 0] 32)).drewN d)
    (hb : Below W.heap.size W w2) (hsz : w2.heap.size = W.heap.size + 1) (hc : ∀ (i : Nat) (x : ByteArray), xs[i]? = some x → w2.cell? ⟨W.heap.size, i, none⟩ = some (.string x)) :
    Tabs2 w2 ∧ Below w.heap.size w w2 ∧ w2.heap.size = w.heap.size + 1 + 1 ∧ (∀ j : Nat, j < 6 → w2.cell? ⟨w.heap.size, j, none⟩ = some (.int .i64 0) ∧ w2.frozen? ⟨w.heap.size, j, none⟩ = false) ∧ (∀ (i : Nat) (x : ByteArray), xs[i]? = some x → w2.cell? ⟨w.heap.size + 1, i, none⟩ = some (.string x)) := by
  have hs : W.heap.size = w.heap.size + 1 := by rw [hW]; simp
  have hB : Below w.heap.size w W := by rw [hW]; exact below_drewN ((Below.refl _ w).alloc (Nat.le_refl _) _) _
  refine ⟨(hT.below hB hT.size).below hb (by have := hT.size; omega), hB.trans (hb.mono (by omega)), by omega, ?_, ?_⟩
  · intro j hj
    rw [hb.cell (by show w.heap.size < _; omega), hb.frozen (by show w.heap.size < _; omega), hW]
    match j, hj with
    | 0, _ | 1, _ | 2, _ | 3, _ | 4, _ | 5, _ => exact ⟨by go_simp, by go_simp⟩
    | _ + 6, h => omega
  · intro i x hx
    rw [← hs]
    exact hc i x hx

set_option maxHeartbeats 1000000 in
theorem guess_len (s : ByteArray) (w : World) (hT : Tabs2 w) (hs : s.size < 4294967281) (h4 : (parts (cutR s)).length ≠ 4) :
    Calls Tryd.prog 34 #[.string s] w fun e w' => e = .returned guessNo ∧ Below w.heap.size w w' := by
  have h4' : (((parts (cutR s)).length : Int) != 4) = true := by simp; omega
  have hr := cutR_size s
  have HT : Hid _ := hT
  clear h4 hT
  have r1 := set_drewN
  have r2 := alloc_drewN
  go_enter Tryd.func34, Tryd.ntmps34
  go_wp2_with fail
  refine (cut_any s _ (allocTabs _ HT.out) hs).mono ?_
  rintro e w1 ⟨rfl, d1, rfl⟩
  go_wp2_with fail
  refine (split_any _ _ ?_ (by omega)).mono ?_
  · exact drewNTabs (allocTabs _ HT.out)
  rintro e w2 ⟨rfl, hb, hsz, hc⟩
  obtain ⟨z1, z2, z3, z4, z5⟩ := after2 HT.out rfl hb hsz hc
  obtain ⟨a0, b0⟩ := z4 0 (by omega)
  obtain ⟨a1, b1⟩ := z4 1 (by omega)
  obtain ⟨a2, b2⟩ := z4 2 (by omega)
  obtain ⟨a3, b3⟩ := z4 3 (by omega)
  obtain ⟨a4, b4⟩ := z4 4 (by omega)
  obtain ⟨a5, b5⟩ := z4 5 (by omega)
  have Z2 : Hid _ := z2
  clear hb hsz hc z1 z2 z3 z4 z5
  go_wp2
  clear r1 r2
  refine bodyPost_ret (v := .tuple #[noTag, .bool false]) (by simp [results, Tryd.results34, go_sem, noTag, a0, a1, a2, a3, a4, a5]) rfl ⟨rfl, ?_⟩
  exact (((((Z2.out.setCell (Nat.le_refl _) _).setCell (Nat.le_refl _) _).setCell (Nat.le_refl _) _).setCell (Nat.le_refl _) _).setCell (Nat.le_refl _) _).setCell (Nat.le_refl _) _

set_option maxHeartbeats 4000000 in
theorem guess_4 (s : ByteArray) (w : World) (hT : Tabs2 w) (hs : s.size < 4294967281) (xs : List ByteArray) (hxs : xs = parts (cutR s)) (h4 : xs.length = 4) (v : Value)
    (hv : v = if (xs[0]?.bind atoiV).isSome && (xs[1]?.bind atoiV).isSome && (xs[2]?.bind atoiV).isSome && (xs[3]?.bind atoiV).isSome then guessYes s else guessNo) :
    Calls Tryd.prog 34 #[.string s] w fun e w' => e = .returned v ∧ Below w.heap.size w w' := by
  have h4' : ((xs.length : Int) != 4) = false := by simp; omega
  have hlen : 4 ≤ xs.length := by omega
  have hr := cutR_size s
  have HT : Hid _ := hT
  have H4 : Hid (xs.length = 4) := h4
  have HV : Hid (v = _) := hv
  have HX : Hid (xs = parts (cutR s)) := hxs
  clear h4 hT hv hxs
  have r1 := set_drewN
  have r2 := alloc_drewN
  go_enter Tryd.func34, Tryd.ntmps34
  go_wp2_with fail
  refine (cut_any s _ (allocTabs _ HT.out) hs).mono ?_
  rintro e w1 ⟨rfl, d1, rfl⟩
  go_wp2_with fail
  refine (split_any _ _ ?_ (by omega)).mono ?_
  · exact drewNTabs (allocTabs _ HT.out)
  rw [← HX.out]
  rintro e w2 ⟨rfl, hb, hsz, hc⟩
  obtain ⟨z1, z2, z3, z4, z5⟩ := after2 HT.out rfl hb hsz hc
  clear hb hsz hc
  have hB2 : Below w2.heap.size w2 (w2.alloc (.cells #[.int .i64 0, .int .i64 0, .int .i64 0, .int .i64 0] 46)) := (Below.refl _ _).alloc (Nat.le_refl _) _
  have hGS : GS w w.heap.size (w.heap.size + 1) w2.heap.size xs 0 (w2.alloc (.cells #[.int .i64 0, .int .i64 0, .int .i64 0, .int .i64 0] 46)) := by
    refine ⟨allocTabs _ z1, z2.trans (hB2.mono (by omega)), fun j hj => ?_, fun i x hx => keepCell hB2 (z5 i x hx), fun j hj => ?_, ⟨Nat.le_refl _, by omega, by omega, by simp⟩, HT.out.size⟩
    · exact ⟨keepCell hB2 (z4 j hj).1, by rw [hB2.frozen (by show w.heap.size < _; omega)]; exact (z4 j hj).2⟩
    · match j, hj with
      | 0, _ | 1, _ | 2, _ | 3, _ => exact ⟨by go_simp, by go_simp⟩
      | _ + 4, h => omega
  have HG : Hid _ := hGS
  clear hGS hB2 z1 z2 z4 z5
  have Z3 : Hid _ := z3
  clear z3
  go_wp2
  go_loopw [9, 10, 11, 24] (fun _ _ _ i V => ∃ k : Nat, k ≤ 4 ∧ i = .int .i64 k ∧ GS w w.heap.size (w.heap.size + 1) w2.heap.size xs k V ∧ ∀ j : Nat, j < k → (xs[j]?.bind atoiV).isSome = true) (fun _ _ _ i _ => 4 - (intOf i).toNat)
  case atStart => exact ⟨0, Nat.zero_le _, rfl, HG.out, fun j h => by omega⟩
  case round =>
    obtain ⟨k, hk, rfl, hG, hS⟩ := hrel
    have HG2 : Hid _ := hG
    have HS : Hid _ := hS
    clear hG hS HG
    by_cases hlt : k < 4
    · have hlt' : (k : Int) < 4 := by omega
      have hlx : (k : Int) < (xs.length : Int) := by omega
      obtain ⟨x, hx⟩ : ∃ x, xs[k]? = some x := ⟨xs[k]'(by omega), List.getElem?_eq_getElem (by omega)⟩
      have HXk : Hid _ := hx
      have hfc := HG2.out.fldC k x hx
      clear hx
      have hxs : x.size < 4294967281 := by
        have := parts_size (r := cutR s) (i := k) (x := x) (by rw [← HX.out]; exact HXk.out)
        omega
      cases hav : atoiV x with
      | none =>
        have HAV : Hid _ := hav
        clear hav
        go_wp2_with fail
        refine (atoi_no x _ HG2.out.tabs hxs HAV.out).mono ?_
        rintro e w3 ⟨v3, N, rfl, hb3⟩
        have hG3 := HG2.out.keep hb3
        obtain ⟨a0, b0⟩ := hG3.resC 0 (by omega)
        obtain ⟨a1, b1⟩ := hG3.resC 1 (by omega)
        obtain ⟨a2, b2⟩ := hG3.resC 2 (by omega)
        obtain ⟨a3, b3⟩ := hG3.resC 3 (by omega)
        obtain ⟨a4, b4⟩ := hG3.resC 4 (by omega)
        obtain ⟨a5, b5⟩ := hG3.resC 5 (by omega)
        have HG3 : Hid _ := hG3
        clear hb3 hG3
        go_wp2
        have hvv : v = guessNo := by
          rw [HV.out, if_neg]
          intro hh
          simp only [Bool.and_eq_true] at hh
          have hnone : (xs[k]?.bind atoiV).isSome = false := by rw [HXk.out]; simp [HAV.out]
          match k, hlt, hnone with
          | 0, _, hn => rw [hh.1.1.1] at hn; cases hn
          | 1, _, hn => rw [hh.1.1.2] at hn; cases hn
          | 2, _, hn => rw [hh.1.2] at hn; cases hn
          | 3, _, hn => rw [hh.2] at hn; cases hn
        rw [hvv]
        clear r1 r2
        refine bodyPost_ret (v := .tuple #[noTag, .bool false]) (by simp [results, Tryd.results34, go_sem, noTag, a0, a1, a2, a3, a4, a5]) rfl ⟨rfl, ?_⟩
        exact (((((HG3.out.below.setCell (Nat.le_refl _) _).setCell (Nat.le_refl _) _).setCell (Nat.le_refl _) _).setCell (Nat.le_refl _) _).setCell (Nat.le_refl _) _).setCell (Nat.le_refl _) _
      | some n =>
        have HAV : Hid _ := hav
        clear hav
        go_wp2_with fail
        refine (atoi_ok x n _ hxs HAV.out).mono ?_
        rintro e w3 ⟨rfl, hb3⟩
        have hG3 := HG2.out.keep hb3
        obtain ⟨a0, b0⟩ := hG3.numC k hlt
        have HG3 : Hid _ := hG3
        clear hb3 hG3
        go_wp2
        go_roundw
        case rel =>
          have hn : numAt xs k = n := by unfold numAt; rw [HXk.out]; simp [HAV.out]
          refine ⟨k + 1, by omega, by go_num, by have := HG3.out.set hlt; rw [hn] at this; exact this, ?_⟩
          intro j hj
          by_cases e : j = k
          · subst e; rw [HXk.out]; simp [HAV.out]
          · exact HS.out j (by omega)
        case measure => simp [intOf]; omega
    · obtain rfl : k = 4 := by omega
      have hvv : Hid (v = guessYes s) := by
        have h0 := HS.out 0 (by omega)
        have h1 := HS.out 1 (by omega)
        have h2 := HS.out 2 (by omega)
        have h3 := HS.out 3 (by omega)
        show v = guessYes s
        rw [HV.out, if_pos]
        rw [h0, h1, h2, h3]; rfl
      obtain ⟨x1, hx1⟩ : ∃ x, xs[1]? = some x := ⟨xs[1]'(by omega), List.getElem?_eq_getElem (by omega)⟩
      have HX1 : Hid _ := hx1
      have f1 := HG2.out.fldC 1 x1 hx1
      clear hx1
      have hx1s : x1.size < 4294967281 := by
        have := parts_size (r := cutR s) (i := 1) (x := x1) (by rw [← HX.out]; exact HX1.out)
        omega
      obtain ⟨a0, b0⟩ := HG2.out.resC 0 (by omega)
      obtain ⟨a1, b1⟩ := HG2.out.resC 1 (by omega)
      obtain ⟨a2, b2⟩ := HG2.out.resC 2 (by omega)
      obtain ⟨a3, b3⟩ := HG2.out.resC 3 (by omega)
      obtain ⟨a4, b4⟩ := HG2.out.resC 4 (by omega)
      obtain ⟨a5, b5⟩ := HG2.out.resC 5 (by omega)
      have n0 := (HG2.out.numC 0 (by omega)).1
      have n1 := (HG2.out.numC 1 (by omega)).1
      have n2 := (HG2.out.numC 2 (by omega)).1
      have n3 := (HG2.out.numC 3 (by omega)).1
      rw [if_pos (by omega)] at n0 n1 n2 n3
      have k0 := HG2.out.tabs.kws 0 (by omega)
      have k1 := HG2.out.tabs.kws 1 (by omega)
      have k2 := HG2.out.tabs.kws 2 (by omega)
      have q1 := HG2.out.tabs.t.c1 0 (by omega)
      have e1 : w.heap.size ≠ 0 := by have := HG2.out.ten; omega
      have e2 : w.heap.size ≠ 1 := by have := HG2.out.ten; omega
      have e4 : w.heap.size ≠ w.heap.size + 1 := by omega
      have e3 : w.heap.size ≠ w2.heap.size := by have := Z3.out; omega
      have q1' : wr.cell? ⟨0, 1, none⟩ = some (.int .i64 6) := q1
      have hl1 : (1 : Int) < (xs.length : Int) := by omega
      have hl0 : (0 : Int) ≤ 1 := by omega
      have hwr : IntKind.i64.wrap (6 - (x1.size : Int)) = 6 - (x1.size : Int) := by
        have : -9223372036854775808 ≤ 6 - (x1.size : Int) := by omega
        simp [IntKind.wrap, IntKind.bits, IntKind.signed]; omega
      have hY : Hid (guessYes s = .tuple #[.agg #[.int .i64 (kindF (cutW s) : Nat), .int .i64 (numAt xs 0), .int .i64 (6 - (x1.size : Int)), .int .i64 (numAt xs 1), .int .i64 (numAt xs 2), .int .i64 (numAt xs 3)], .bool true]) := by
        show guessYes s = _
        unfold guessYes
        rw [← HX.out, HX1.out]
        rfl
      clear q1 hs HV HX H4 HT h4'
      have hS0 : wr.drew.cell? ⟨w2.heap.size, 0, none⟩ = some (.int .i64 (numAt xs 0)) ∧ wr.drew.cell? ⟨w2.heap.size, 1, none⟩ = some (.int .i64 (numAt xs 1)) ∧ wr.drew.cell? ⟨w2.heap.size, 2, none⟩ = some (.int .i64 (numAt xs 2)) ∧ wr.drew.cell? ⟨w2.heap.size, 3, none⟩ = some (.int .i64 (numAt xs 3)) ∧ wr.drew.cell? ⟨0, 1, none⟩ = some (.int .i64 6) ∧ wr.drew.cell? ⟨w.heap.size + 1, 1, none⟩ = some (.string x1) ∧ wr.drew.cell? ⟨1, 0, none⟩ = some (.string (kw 0)) ∧ wr.drew.cell? ⟨1, 1, none⟩ = some (.string (kw 1)) ∧ wr.drew.cell? ⟨1, 2, none⟩ = some (.string (kw 2)) := ⟨n0, n1, n2, n3, q1', f1, k0, k1, k2⟩
      have hS1 := stored6 (W := wr) e1 e2 e3 e4 n0 n1 n2 n3 q1' f1 k0 k1 k2
      go_upto_region 14 with fail
      go_region_held3 (fun V => V.cell? ⟨w2.heap.size, 0, none⟩ = some (.int .i64 (numAt xs 0)) ∧ V.cell? ⟨w2.heap.size, 1, none⟩ = some (.int .i64 (numAt xs 1)) ∧ V.cell? ⟨w2.heap.size, 2, none⟩ = some (.int .i64 (numAt xs 2)) ∧ V.cell? ⟨w2.heap.size, 3, none⟩ = some (.int .i64 (numAt xs 3)) ∧ V.cell? ⟨0, 1, none⟩ = some (.int .i64 6) ∧ V.cell? ⟨w.heap.size + 1, 1, none⟩ = some (.string x1) ∧ V.cell? ⟨1, 0, none⟩ = some (.string (kw 0)) ∧ V.cell? ⟨1, 1, none⟩ = some (.string (kw 1)) ∧ V.cell? ⟨1, 2, none⟩ = some (.string (kw 2)))
        (first | with_reducible exact hS0 | ((try simp only [drewSet]); with_reducible exact hS1 _ _ _ _ _ _))
        (first | (go_at_call 45; refine (kindOf_any _ _ hS0.2.2.2.2.2.2.1 hS0.2.2.2.2.2.2.2.1 hS0.2.2.2.2.2.2.2.2).mono ?_; rintro e w' ⟨rfl, rfl⟩))
      go_wp2
      rw [hvv.out, hY.out]
      clear r1 r2
      refine bodyPost_ret (v := .tuple #[.agg #[.int .i64 (kindF (cutW s) : Nat), .int .i64 (numAt xs 0), .int .i64 (6 - (x1.size : Int)), .int .i64 (numAt xs 1), .int .i64 (numAt xs 2), .int .i64 (numAt xs 3)], .bool true]) (by simp [results, Tryd.results34, go_sem, a0, a1, a2, a3, a4, a5]) rfl ⟨rfl, ?_⟩
      exact ((((((HG2.out.below.setCell (Nat.le_refl _) _).setCell (Nat.le_refl _) _).setCell (Nat.le_refl _) _).setCell (Nat.le_refl _) _).setCell (Nat.le_refl _) _).setCell (Nat.le_refl _) _).drew
end Go.Proofs.YtllhfbnafemoeaaDoor.TagA
