/-
  What front does to the world.
-/
import Derived.Test.YtjdfllocngkjpaaFrmJ
namespace Go.Proofs.Ytjdfllocngkjpaa.FrmA
open Go.RowKit FrmM
set_option maxRecDepth 100000

def zeroFr : Fr := ⟨0, [], 0⟩
def frontF (S : List UInt8) : Fr := match front S with | some f => f | none => zeroFr
def frontN (S : List UInt8) : Nat := match front S with | some f => (enc f).length | none => 0
theorem gReads_tags (l : List UInt8) : ∀ r ∈ gReads l, r.t.size ≤ maxLen := by
  intro r hr
  unfold gReads at hr
  obtain ⟨k, _, rfl⟩ := List.mem_map.1 hr
  unfold rdAt rdOf
  have : ((⟨(((l.drop (11 * k)).drop 3).take 8).toArray⟩ : ByteArray)).size ≤ 8 := by
    show (((l.drop (11 * k)).drop 3).take 8).toArray.size ≤ 8
    simp
    omega
  unfold maxLen
  simp only at *
  omega
theorem guess_tags (l : List UInt8) : ∀ r ∈ (guess l).rs, r.t.size ≤ maxLen := by
  intro r hr
  unfold guess at hr
  simp only at hr
  split at hr
  · exact gReads_tags _ r hr
  · cases hr

/-- A block of a frame's zero value, not frozen. -/
structure Zero3 (w : World) (r : Nat) : Prop where
  z0 : w.cell? ⟨r, 0, none⟩ = some (.int .i64 0)
  z1 : w.cell? ⟨r, 1, none⟩ = some (.slice none 0 0)
  z2 : w.cell? ⟨r, 2, none⟩ = some (.int .i64 0)
  y0 : w.frozen? ⟨r, 0, none⟩ = false
  y1 : w.frozen? ⟨r, 1, none⟩ = false
  y2 : w.frozen? ⟨r, 2, none⟩ = false
theorem Zero3.keep {B r : Nat} {w w' : World} (h : Zero3 w r) (hb : Below B w w') (hr : r < B) : Zero3 w' r :=
  ⟨keepCell hb hr h.z0, keepCell hb hr h.z1, keepCell hb hr h.z2, keepFrozen hb hr h.y0, keepFrozen hb hr h.y1, keepFrozen hb hr h.y2⟩
theorem zero3 {w w1 : World} {t : TypeId} (hb : Below (w.alloc (.cells #[.int .i64 0, .slice none 0 0, .int .i64 0] t)).heap.size (w.alloc (.cells #[.int .i64 0, .slice none 0 0, .int .i64 0] t)) w1) : Zero3 w1 w.heap.size :=
  Zero3.keep (w := w.alloc (.cells #[.int .i64 0, .slice none 0 0, .int .i64 0] t)) ⟨by go_simp, by go_simp, by go_simp, by go_simp, by go_simp, by go_simp⟩ hb (by simp)
theorem own_keepBelow {B : Nat} {w w' : World} {base : Nat} {e : TypeId} {size : Nat} {v : Value} {n : Nat} {xs : List Value} (h : w.ownsRow base e size v n xs) (hb : Below B w w') (hB : w.heap.size ≤ B) : w'.ownsRow base e size v n xs := by
  obtain ⟨h1, h2⟩ := h
  refine ⟨h1, ?_⟩
  rcases h2 with h2 | ⟨g, cap, cur, hv, hg, hh, r⟩
  · exact Or.inl h2
  · refine Or.inr ⟨g, cap, cur, hv, hg, ?_, r⟩
    have hlt : g < w.heap.size := by
      rcases Nat.lt_or_ge g w.heap.size with h | h
      · exact h
      · rw [Array.getElem?_eq_none h] at hh; cases hh
    rw [hb.block g (by omega)]
    exact hh

set_option maxHeartbeats 2000000 in
theorem front_any (s : ByteArray) (w : World) (hs : s.size ≤ 100000) :
    Calls Try.prog 22 #[.string s] w fun e w' => ∃ v, e = .returned (.tuple #[.agg #[.int .i64 (frontF s.data.toList).ty, v, .int .i64 (frontF s.data.toList).wm], .int .i64 (frontN s.data.toList : Int)]) ∧ ReadsOwn w' w.heap.size v (frontF s.data.toList).rs ∧ Below w.heap.size w w' := by
  obtain ⟨F, hF⟩ : ∃ F, F = frontF s.data.toList := ⟨_, rfl⟩
  obtain ⟨N, hN⟩ : ∃ N, N = frontN s.data.toList := ⟨_, rfl⟩
  obtain ⟨n, hn⟩ : ∃ n, n = span s.data.toList := ⟨_, rfl⟩
  have hn48 : n ≤ 48 := by rw [hn]; exact span_le _
  have HF : Hid (F = frontF s.data.toList) := hF
  have HN : Hid (N = frontN s.data.toList) := hN
  have Hn : Hid (n = span s.data.toList) := hn
  rw [← hF, ← hN]
  clear hF hN hn
  by_cases hA : n = 0 ∨ s.size < n
  · have hfr : front s.data.toList = none := by
      unfold front
      rw [if_pos]
      rw [len_list, ← Hn.out]
      exact hA
    obtain rfl : F = zeroFr := by rw [HF.out]; unfold frontF; rw [hfr]
    obtain rfl : N = 0 := by rw [HN.out]; unfold frontN; rw [hfr]
    have HA : Hid (n = 0 ∨ s.size < n) := hA
    by_cases h0 : n = 0
    · subst h0
      clear hA
      go_enter Try.func22, Try.ntmps22
      go_wp2_with fail
      refine (span_any _ _ hs).mono ?_
      rintro e w1 ⟨rfl, rfl⟩
      rw [← Hn.out]
      go_wp2
      refine bodyPost_ret (v := .tuple #[.agg #[.int .i64 0, .slice none 0 0, .int .i64 0], .int .i64 0]) (by simp [results, Try.results22, go_sem]) rfl ⟨_, rfl, ReadsOwn.nil _ _, ?_⟩
      exact (Below.refl _ w).alloc (Nat.le_refl _) _
    · have hlt : s.size < n := by omega
      have h0I : ((n : Int) == 0) = false := by simp; omega
      have hltI : (s.size : Int) < n := by omega
      clear hA h0
      go_enter Try.func22, Try.ntmps22
      go_wp2_with fail
      refine (span_any _ _ hs).mono ?_
      rintro e w1 ⟨rfl, rfl⟩
      rw [← Hn.out]
      go_wp2
      refine bodyPost_ret (v := .tuple #[.agg #[.int .i64 0, .slice none 0 0, .int .i64 0], .int .i64 0]) (by simp [results, Try.results22, go_sem]) rfl ⟨_, rfl, ReadsOwn.nil _ _, ?_⟩
      exact (Below.refl _ w).alloc (Nat.le_refl _) _
  · have h0 : n ≠ 0 := fun h => hA (Or.inl h)
    have hge : n ≤ s.size := Nat.le_of_not_lt fun h => hA (Or.inr h)
    have h0I : ((n : Int) == 0) = false := by simp; omega
    have hgeI : ¬ (s.size : Int) < n := by omega
    have hgeI2 : (n : Int) ≤ s.size := by omega
    have hgeD : decide ((s.size : Int) < n) = false := by simp; omega
    have h4 : 4 ≤ n := by
      have := Hn.out
      unfold span at this
      split at this <;> omega
    obtain ⟨B, hB⟩ : ∃ B, B = s.extract 0 n := ⟨_, rfl⟩
    have hBs : B.size = n := by rw [hB, ByteArray.size_extract]; omega
    have hBl : B.data.toList = s.data.toList.take n := by rw [hB, extract_list]; rfl
    have HBl : Hid (B.data.toList = s.data.toList.take n) := hBl
    have HBe : Hid (B = s.extract 0 n) := hB
    have HBs : Hid (B.size = n) := hBs
    have HFR : Hid (front s.data.toList = if fault (guess B.data.toList) = 0 ∧ enc (guess B.data.toList) = B.data.toList then some (guess B.data.toList) else none) := by
      show _ = _
      unfold front
      rw [if_neg, ← Hn.out, ← HBl.out]
      rw [len_list, ← Hn.out]
      exact hA
    clear hA hB hBs hBl
    go_enter Try.func22, Try.ntmps22
    go_wp2_with fail
    refine (span_any _ _ hs).mono ?_
    rintro e w1 ⟨rfl, rfl⟩
    rw [← Hn.out]
    go_wp2_with fail
    rw [← HBe.out]
    refine (clone_any B _ (by rw [HBs.out]; omega)).mono ?_
    rintro e w2 ⟨rfl, hb2⟩
    have HZ2 : Hid (Zero3 w2 w.heap.size) := zero3 hb2
    have HB2 : Hid (Below w.heap.size w w2) := ((Below.refl _ w).alloc (Nat.le_refl _) _).trans (hb2.mono (by simp))
    have hs2 : w.heap.size < w2.heap.size := by have := hb2.size; simp at this; omega
    clear hb2
    go_wp2_with fail
    refine (guess_any B _ (by rw [HBs.out]; omega) (by rw [HBs.out]; omega)).mono ?_
    rintro e w3 ⟨v, rfl, hro, hb3⟩
    obtain ⟨p, cap, rfl, hron⟩ := hro.on (guess_tags _)
    have HZ3 : Hid (Zero3 w3 w.heap.size) := HZ2.out.keep hb3 hs2
    have HB3 : Hid (Below w.heap.size w w3) := HB2.out.trans (hb3.mono (by omega))
    have hs3 : w.heap.size < w3.heap.size := by have := hb3.size; omega
    obtain ⟨G, hG⟩ : ∃ G, G = guess B.data.toList := ⟨_, rfl⟩
    rw [← hG] at hro hron ⊢
    have HG : Hid (G = guess B.data.toList) := hG
    have HRO : Hid (ReadsOwn w3 w2.heap.size (.slice p G.rs.length cap) G.rs) := hro
    have HRN : Hid (ReadsOn w3 p G.rs) := hron
    clear hG hro hron hb3
    have HFG : Hid (front s.data.toList = if fault G = 0 ∧ enc G = B.data.toList then some G else none) := by show _ = _; rw [HG.out]; exact HFR.out
    go_wp2_with fail
    refine (bytes_any G p cap _ (HRN.out.alloc _)).mono ?_
    rintro e w4 ⟨rfl, hb4⟩
    have d0 : w4.cell? ⟨w3.heap.size, 0, none⟩ = some (.int .i64 G.ty) := keepCell hb4 (by simp) (by go_simp)
    have d1 : w4.cell? ⟨w3.heap.size, 1, none⟩ = some (.slice p G.rs.length cap) := keepCell hb4 (by simp) (by go_simp)
    have d2 : w4.cell? ⟨w3.heap.size, 2, none⟩ = some (.int .i64 G.wm) := keepCell hb4 (by simp) (by go_simp)
    have hz4 : Zero3 w4 w.heap.size := (HZ3.out.keep ((Below.refl _ w3).alloc (Nat.le_refl _) (.cells #[.int .i64 G.ty, .slice p G.rs.length cap, .int .i64 G.wm] 24)) hs3).keep hb4 (by simp; omega)
    obtain ⟨z0, z1, z2, y0, y1, y2⟩ := hz4
    have HB4 : Hid (Below w.heap.size w w4) := (HB3.out.alloc (by omega) _).trans (hb4.mono (by simp; omega))
    have HRO4 : Hid (ReadsOwn w4 w2.heap.size (.slice p G.rs.length cap) G.rs) := ⟨own_keepBelow (HRO.out.own.alloc (.cells #[.int .i64 G.ty, .slice p G.rs.length cap, .int .i64 G.wm] 24)) hb4 (Nat.le_refl _)⟩
    clear hb4
    by_cases hf : fault G = 0
    · have he : errV (fault G) = .nilIface := by rw [hf]; rfl
      have hbv : bytesV G = str (enc G) := by unfold bytesV; rw [if_pos hf]
      rw [he, hbv]
      clear he hbv
      by_cases hq : enc G = B.data.toList
      · have hq1 : ((str (enc G)).toList == B.toList) = true := by rw [ByteArray.toList_eq, ByteArray.toList_eq, str_list, hq]; simp
        have hq2 : ((str (enc G)).toList != B.toList) = false := by rw [bne, hq1]; rfl
        have hfs : front s.data.toList = some G := by rw [HFG.out, if_pos ⟨hf, hq⟩]
        obtain rfl : F = G := by rw [HF.out]; unfold frontF; rw [hfs]
        have hNn : N = n := by
          rw [HN.out]; unfold frontN; rw [hfs]
          show (enc F).length = n
          rw [hq, len_list, HBs.out]
        subst hNn
        clear hq hfs hf
        go_wp2
        refine bodyPost_ret (v := .tuple #[.agg #[.int .i64 F.ty, .slice p F.rs.length cap, .int .i64 F.wm], .int .i64 N]) (by simp [results, Try.results22, go_sem, z0, z1, z2]) rfl ⟨_, rfl, ?_, ?_⟩
        · exact (((HRO4.out.set (by show w.heap.size < _; omega) _).set (by show w.heap.size < _; omega) _).set (by show w.heap.size < _; omega) _).le (by omega)
        · exact ((HB4.out.setCell (Nat.le_refl _) _).setCell (Nat.le_refl _) _).setCell (Nat.le_refl _) _
      · have hq1 : ((str (enc G)).toList == B.toList) = false := by rw [ByteArray.toList_eq, ByteArray.toList_eq, str_list]; simpa using hq
        have hq2 : ((str (enc G)).toList != B.toList) = true := by rw [bne, hq1]; rfl
        have hfs : front s.data.toList = none := by rw [HFG.out, if_neg (fun h => hq h.2)]
        obtain rfl : F = zeroFr := by rw [HF.out]; unfold frontF; rw [hfs]
        obtain rfl : N = 0 := by rw [HN.out]; unfold frontN; rw [hfs]
        clear hq hfs hf
        go_wp2
        refine bodyPost_ret (v := .tuple #[.agg #[.int .i64 0, .slice none 0 0, .int .i64 0], .int .i64 0]) (by simp [results, Try.results22, go_sem, z0, z1, z2]) rfl ⟨_, rfl, ReadsOwn.nil _ _, ?_⟩
        exact ((HB4.out.setCell (Nat.le_refl _) _).setCell (Nat.le_refl _) _).setCell (Nat.le_refl _) _
    · rw [errV_pos hf]
      have hfs : front s.data.toList = none := by rw [HFG.out, if_neg (fun h => hf h.1)]
      obtain rfl : F = zeroFr := by rw [HF.out]; unfold frontF; rw [hfs]
      obtain rfl : N = 0 := by rw [HN.out]; unfold frontN; rw [hfs]
      clear hfs hf
      generalize bytesV G = bv at *
      go_wp2
      refine bodyPost_ret (v := .tuple #[.agg #[.int .i64 0, .slice none 0 0, .int .i64 0], .int .i64 0]) (by simp [results, Try.results22, go_sem, z0, z1, z2]) rfl ⟨_, rfl, ReadsOwn.nil _ _, ?_⟩
      exact ((HB4.out.setCell (Nat.le_refl _) _).setCell (Nat.le_refl _) _).setCell (Nat.le_refl _) _
end Go.Proofs.Ytjdfllocngkjpaa.FrmA
