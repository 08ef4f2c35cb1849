/-
  What TopInside does to the world: the short ways.
-/
import Derived.Test.YtblkbogoelfjlaaDoorInG
namespace Go.Proofs.YtblkbogoelfjlaaDoor.InA
open Go.RowKit TkM TkW TkA InM Go.Maps
set_option maxRecDepth 100000

theorem light_b {E : List (List Sg)} (hl : light E = true) : ∀ l, l ∈ E → l.length ≤ 9223372036854775807 ∧ ∀ x, x ∈ l → x.g.size ≤ 9223372036854775807 := fun l hlE => by
  have h := goodL_iff.1 ((light_iff.1 hl).2 l hlE)
  exact ⟨by omega, fun x hx => by have := h.2 x hx; omega⟩
section
variable (E : List (List Sg)) (a : Option Addr) (cap : Nat) (w : World)
/-- The four boxes. -/
def boxes (span score : Int) (a : Option Addr) (N cap : Nat) (w : World) : World := (((w.alloc (.cells #[.int .i64 span] 3)).alloc (.cells #[.int .i64 score] 3)).alloc (.cells #[.slice a N cap] 44)).alloc (.cells #[.bool false] 4)
theorem boxes_is {span score : Int} {a : Option Addr} {N cap : Nat} {w : World} : Below w.heap.size w (boxes span score a N cap w) ∧ (boxes span score a N cap w).heap.size = w.heap.size + 1 + 1 + 1 + 1 ∧ (boxes span score a N cap w).heap[w.heap.size]? = some (.cells #[.int .i64 span] 3) ∧ (boxes span score a N cap w).heap[w.heap.size + 1]? = some (.cells #[.int .i64 score] 3) ∧ (boxes span score a N cap w).heap[w.heap.size + 1 + 1]? = some (.cells #[.slice a N cap] 44) ∧ (boxes span score a N cap w).heap[w.heap.size + 1 + 1 + 1]? = some (.cells #[.bool false] 4) := by
  unfold boxes
  have a1 := Go.heap_alloc_new w (.cells #[.int .i64 span] 3)
  have s1 := World.size_alloc w (.cells #[.int .i64 span] 3)
  generalize hX1 : w.alloc (.cells #[.int .i64 span] 3) = X1 at *
  have a2 := Go.heap_alloc_new X1 (.cells #[.int .i64 score] 3)
  have s2 := World.size_alloc X1 (.cells #[.int .i64 score] 3)
  have q2 := Below.heap_alloc X1 (.cells #[.int .i64 score] 3)
  generalize hX2 : X1.alloc (.cells #[.int .i64 score] 3) = X2 at *
  have a3 := Go.heap_alloc_new X2 (.cells #[.slice a N cap] 44)
  have s3 := World.size_alloc X2 (.cells #[.slice a N cap] 44)
  have q3 := Below.heap_alloc X2 (.cells #[.slice a N cap] 44)
  generalize hX3 : X2.alloc (.cells #[.slice a N cap] 44) = X3 at *
  have a4 := Go.heap_alloc_new X3 (.cells #[.bool false] 4)
  have s4 := World.size_alloc X3 (.cells #[.bool false] 4)
  have q4 := Below.heap_alloc X3 (.cells #[.bool false] 4)
  rw [s1] at a2 s2
  rw [s2] at a3 s3
  rw [s3] at a4 s4
  refine ⟨?_, s4, ?_, ?_, ?_, a4⟩
  · rw [← hX3, ← hX2, ← hX1]
    exact ((((Below.refl _ w).alloc (Nat.le_refl _) _).alloc (by simp) _).alloc (by simp; omega) _).alloc (by simp; omega) _
  · rw [q4 _ (by omega), q3 _ (by omega), q2 _ (by omega)]; exact a1
  · rw [q4 _ (by omega), q3 _ (by omega)]; exact a2
  · rw [q4 _ (by omega)]; exact a3
set_option maxHeartbeats 1000000 in
theorem in_long (W need span score : Int) (hE : EsOn w a E) (hb : ∀ l, l ∈ E → l.length ≤ 9223372036854775807 ∧ ∀ x, x ∈ l → x.g.size ≤ 9223372036854775807) (h : light E = false ∨ (light E = true ∧ 14 < E.length)) :
    Calls Tryd.prog 7 #[.int .i64 W, .int .i64 need, .int .i64 span, .int .i64 score, .slice a E.length cap] w fun e w' => e = .returned (.bool true) ∧ Below w.heap.size w w' := by
  obtain ⟨hb0, hs0, _, _, _, hb10⟩ := boxes_is (span := span) (score := score) (a := a) (N := E.length) (cap := cap) (w := w)
  have HLT : Hid (Calls Tryd.prog 23 #[.slice a E.length cap] (boxes span score a E.length cap w) fun e w' => e = .returned (.bool (light E)) ∧ w' = boxes span score a E.length cap w) := light_any E a cap _ (hE.below hb0) hb
  have HF : Hid (Below w.heap.size w ((boxes span score a E.length cap w).setCell ⟨w.heap.size + 1 + 1 + 1, 0, none⟩ (.bool true)) ∧ ((boxes span score a E.length cap w).setCell ⟨w.heap.size + 1 + 1 + 1, 0, none⟩ (.bool true)).heap[w.heap.size + 1 + 1 + 1]? = some (.cells #[.bool true] 4)) := by
    refine ⟨hb0.setCell (p := ⟨w.heap.size + 1 + 1 + 1, 0, none⟩) (by show _ ≤ w.heap.size + 1 + 1 + 1; omega) _, ?_⟩
    simp [World.setCell, Array.getElem?_modify, hb10]
  unfold boxes at HLT HF
  clear hb0 hs0 hb10 hE hb
  refine (callsIn_wide (n := 3)).1 ?_
  refine callsIn_of_wp_marks Tryd.func7 rfl trivial ?_ rfl
  refine wpIn_wide.2 ?_
  simp only [Tryd.ntmps7, List.size_toArray, List.length_cons, List.length_nil, Nat.reduceAdd, Nat.reduceSub, Array.replicate_succ, Array.replicate_zero, List.push_toArray, List.append_toArray, List.nil_append, List.cons_append]
  go_wp2_with fail
  refine HLT.out.mono ?_
  rintro e w2 ⟨rfl, hw2⟩
  subst hw2
  rcases h with h | ⟨h, h20⟩
  · rw [h]
    go_wp2
    refine ⟨.bool true, ?_, rfl, ?_⟩
    · first | (simp [results, Tryd.f7, go_sem]; done) | (have h0 := cell_of (i := 0) HF.out.2 rfl; simp [results, Tryd.f7, go_sem, h0]; done)
    · first | exact HF.out.1 | exact (((((Below.refl _ w).alloc (Nat.le_refl _) _).alloc (by simp) _).alloc (by simp; omega) _).alloc (by simp; omega) _)
  · rw [h]
    have h20I : (14 : Int) < E.length := by omega
    go_wp2
    refine ⟨.bool true, ?_, rfl, ?_⟩
    · first | (simp [results, Tryd.f7, go_sem]; done) | (have h0 := cell_of (i := 0) HF.out.2 rfl; simp [results, Tryd.f7, go_sem, h0]; done)
    · first | exact HF.out.1 | exact (((((Below.refl _ w).alloc (Nat.le_refl _) _).alloc (by simp) _).alloc (by simp; omega) _).alloc (by simp; omega) _)
set_option maxHeartbeats 1000000 in
theorem in_bad1 (W need span score : Int) (hE : EsOn w a E) (hl : light E = true) (h14 : E.length ≤ 14) (h : ¬ (1 ≤ W ∧ W ≤ 8 ∧ 1 ≤ need ∧ need ≤ W)) :
    Calls Tryd.prog 7 #[.int .i64 W, .int .i64 need, .int .i64 span, .int .i64 score, .slice a E.length cap] w fun e w' => e = .returned (.bool true) ∧ Below w.heap.size w w' := by
  obtain ⟨hb0, hs0, _, _, _, hb10⟩ := boxes_is (span := span) (score := score) (a := a) (N := E.length) (cap := cap) (w := w)
  have HLT : Hid (Calls Tryd.prog 23 #[.slice a E.length cap] (boxes span score a E.length cap w) fun e w' => e = .returned (.bool (light E)) ∧ w' = boxes span score a E.length cap w) := light_any E a cap _ (hE.below hb0) (light_b hl)
  have HF : Hid (∀ o V, V = ((boxes span score a E.length cap w).alloc o).setCell ⟨w.heap.size + 1 + 1 + 1, 0, none⟩ (.bool true) → Below w.heap.size w V ∧ V.heap[w.heap.size + 1 + 1 + 1]? = some (.cells #[.bool true] 4)) := by
    rintro o V rfl
    refine ⟨(hb0.alloc hb0.size o).setCell (p := ⟨w.heap.size + 1 + 1 + 1, 0, none⟩) (by show _ ≤ w.heap.size + 1 + 1 + 1; omega) _, ?_⟩
    have hx : ((boxes span score a E.length cap w).alloc o).heap[w.heap.size + 1 + 1 + 1]? = some (.cells #[.bool false] 4) := by rw [Below.heap_alloc _ _ _ (by omega)]; exact hb10
    simp [World.setCell, Array.getElem?_modify, hx]
  have HC : Hid (∀ o, ((boxes span score a E.length cap w).alloc o).heap[w.heap.size + 1 + 1 + 1]? = some (.cells #[.bool false] 4)) := fun o => by rw [Below.heap_alloc _ _ _ (by omega)]; exact hb10
  have hcs : decide (W < 1) = true ∨ (decide (W < 1) = false ∧ decide (8 < W) = true) ∨ (decide (W < 1) = false ∧ decide (8 < W) = false ∧ decide (need < 1) = true) ∨ (decide (W < 1) = false ∧ decide (8 < W) = false ∧ decide (need < 1) = false ∧ decide (W < need) = true) := by
    simp
    omega
  have HN : Hid (¬ (1 ≤ W ∧ W ≤ 8 ∧ 1 ≤ need ∧ need ≤ W)) := h
  have h14I : ¬ (14 : Int) < E.length := by omega
  have k10 : ∀ o, ((boxes span score a E.length cap w).alloc o).cell? ⟨w.heap.size + 1 + 1 + 1, 0, none⟩ = some (.bool false) := fun o => cell_of (i := 0) (HC.out o) rfl
  have f10 : ∀ o, ((boxes span score a E.length cap w).alloc o).frozen? ⟨w.heap.size + 1 + 1 + 1, 0, none⟩ = false := fun o => fz_of (HC.out o)
  obtain ⟨B, hB⟩ : ∃ B, B = boxes span score a E.length cap w := ⟨_, rfl⟩
  rw [← hB] at HLT HF k10 f10
  have hB' := hB
  unfold boxes at hB'
  clear hb0 hs0 hb10 hE h hB HC
  rcases hcs with h1 | ⟨h1, h2⟩ | ⟨h1, h2, h3⟩ | ⟨h1, h2, h3, h4⟩
  all_goals
    refine (callsIn_wide (n := 3)).1 ?_
    refine callsIn_of_wp_marks Tryd.func7 rfl trivial ?_ rfl
    refine wpIn_wide.2 ?_
    simp only [Tryd.ntmps7, List.size_toArray, List.length_cons, List.length_nil, Nat.reduceAdd, Nat.reduceSub, Array.replicate_succ, Array.replicate_zero, List.push_toArray, List.append_toArray, List.nil_append, List.cons_append]
    go_wp2_with fail
    rw [← hB']
    refine HLT.out.mono ?_
    rintro e w2 ⟨rfl, hw2⟩
    subst hw2
    rw [hl]
    have k9 : w2.cell? ⟨w.heap.size + 1 + 1, 0, none⟩ = some (.slice a E.length cap) := by
      have h9 := (boxes_is (span := span) (score := score) (a := a) (N := E.length) (cap := cap) (w := w)).2.2.2.2.1
      unfold boxes at h9
      rw [← hB'] at h9
      exact cell_of (i := 0) h9 rfl
    clear hB'
    go_wp2_with fail
    refine (new_bad W need _ HN.out).mono ?_
    rintro e w3 ⟨rfl, hw3⟩
    subst hw3
    go_wp2
    obtain ⟨r1, r2⟩ := HF.out _ _ rfl
    have h0 := cell_of (i := 0) r2 rfl
    exact ⟨.bool true, by simp [results, Tryd.f7, go_sem, h0], rfl, r1⟩
set_option maxHeartbeats 1000000 in
theorem in_bad2 (W need : Nat) (span score : Int) (hE : EsOn w a E) (hl : light E = true) (h14 : E.length ≤ 14) (hW1 : 1 ≤ W) (hW8 : W ≤ 8) (hn1 : 1 ≤ need) (hn8 : need ≤ W) (h : ¬ (1 ≤ span ∧ span ≤ 8 ∧ 1 ≤ score ∧ score ≤ span)) :
    Calls Tryd.prog 7 #[.int .i64 (W : Int), .int .i64 (need : Int), .int .i64 span, .int .i64 score, .slice a E.length cap] w fun e w' => e = .returned (.bool true) ∧ Below w.heap.size w w' := by
  obtain ⟨hb0, hs0, hb7, hb8, hb9, hb10⟩ := boxes_is (span := span) (score := score) (a := a) (N := E.length) (cap := cap) (w := w)
  have HLT : Hid (Calls Tryd.prog 23 #[.slice a E.length cap] (boxes span score a E.length cap w) fun e w' => e = .returned (.bool (light E)) ∧ w' = boxes span score a E.length cap w) := light_any E a cap _ (hE.below hb0) (light_b hl)
  have hcs : decide (span < 1) = true ∨ (decide (span < 1) = false ∧ decide (8 < span) = true) ∨ (decide (span < 1) = false ∧ decide (8 < span) = false ∧ decide (score < 1) = true) ∨ (decide (span < 1) = false ∧ decide (8 < span) = false ∧ decide (score < 1) = false ∧ decide (span < score) = true) := by
    simp
    omega
  have HN : Hid (¬ (1 ≤ span ∧ span ≤ 8 ∧ 1 ≤ score ∧ score ≤ span)) := h
  have h14I : ¬ (14 : Int) < E.length := by omega
  have k9 := cell_of (i := 0) hb9 rfl
  obtain ⟨B, hB⟩ : ∃ B, B = boxes span score a E.length cap w := ⟨_, rfl⟩
  rw [← hB] at HLT hb0 hs0 hb7 hb8 hb10 k9
  have HB0 : Hid (Below w.heap.size w B ∧ B.heap.size = w.heap.size + 1 + 1 + 1 + 1 ∧ B.heap[w.heap.size]? = some (.cells #[.int .i64 span] 3) ∧ B.heap[w.heap.size + 1]? = some (.cells #[.int .i64 score] 3) ∧ B.heap[w.heap.size + 1 + 1 + 1]? = some (.cells #[.bool false] 4)) := ⟨hb0, hs0, hb7, hb8, hb10⟩
  have hB' := hB
  unfold boxes at hB'
  clear hb0 hs0 hb7 hb8 hb9 hb10 hE h hB
  rcases hcs with h1 | ⟨h1, h2⟩ | ⟨h1, h2, h3⟩ | ⟨h1, h2, h3, h4⟩
  all_goals
    refine (callsIn_wide (n := 3)).1 ?_
    refine callsIn_of_wp_marks Tryd.func7 rfl trivial ?_ rfl
    refine wpIn_wide.2 ?_
    simp only [Tryd.ntmps7, List.size_toArray, List.length_cons, List.length_nil, Nat.reduceAdd, Nat.reduceSub, Array.replicate_succ, Array.replicate_zero, List.push_toArray, List.append_toArray, List.nil_append, List.cons_append]
    go_wp2_with fail
    rw [← hB']
    clear hB'
    refine HLT.out.mono ?_
    rintro e w2 ⟨rfl, hw2⟩
    subst hw2
    rw [hl]
    go_wp2_with fail
    refine (new_ok W need _ hW1 hW8 hn1 hn8).mono ?_
    rintro e w3 ⟨rfl, hs3, _, hb3⟩
    obtain ⟨tb, htb⟩ : ∃ tb, tb = w2.heap.size + 1 := ⟨_, rfl⟩
    rw [← htb]
    clear htb hs3
    have HK : Hid (∀ o V, Below w2.heap.size w2 V → (V.alloc o).cell? ⟨w.heap.size, 0, none⟩ = some (.int .i64 span) ∧ (V.alloc o).cell? ⟨w.heap.size + 1, 0, none⟩ = some (.int .i64 score) ∧ (V.alloc o).cell? ⟨w.heap.size + 1 + 1 + 1, 0, none⟩ = some (.bool false) ∧ (V.alloc o).frozen? ⟨w.heap.size + 1 + 1 + 1, 0, none⟩ = false ∧ Below w.heap.size w (V.alloc o) ∧ (V.alloc o).heap[w.heap.size + 1 + 1 + 1]? = some (.cells #[.bool false] 4)) := fun o V hV => by
      have hVo : Below w2.heap.size w2 (V.alloc o) := hV.alloc hV.size o
      have q1 := (hVo.block _ (Array.getElem?_eq_some_iff.1 HB0.out.2.2.1).1).trans HB0.out.2.2.1
      have q2 := (hVo.block _ (Array.getElem?_eq_some_iff.1 HB0.out.2.2.2.1).1).trans HB0.out.2.2.2.1
      have q3 := (hVo.block _ (Array.getElem?_eq_some_iff.1 HB0.out.2.2.2.2).1).trans HB0.out.2.2.2.2
      exact ⟨cell_of (i := 0) q1 rfl, cell_of (i := 0) q2 rfl, cell_of (i := 0) q3 rfl, fz_of q3, HB0.out.1.trans (hVo.mono HB0.out.1.size), q3⟩
    have m1 := fun o => (HK.out o w3 hb3).1
    have m2 := fun o => (HK.out o w3 hb3).2.1
    have m1' := fun o o' => (HK.out o' (w3.alloc o) (hb3.alloc hb3.size o)).1
    have m2' := fun o o' => (HK.out o' (w3.alloc o) (hb3.alloc hb3.size o)).2.1
    have m3' := fun o o' => (HK.out o' (w3.alloc o) (hb3.alloc hb3.size o)).2.2.1
    have m4' := fun o o' => (HK.out o' (w3.alloc o) (hb3.alloc hb3.size o)).2.2.2.1
    have HM5 : Hid (∀ o o', Below w.heap.size w ((w3.alloc o).alloc o') ∧ ((w3.alloc o).alloc o').heap[w.heap.size + 1 + 1 + 1]? = some (.cells #[.bool false] 4)) := fun o o' => (HK.out o' (w3.alloc o) (hb3.alloc hb3.size o)).2.2.2.2
    clear hb3 HK HB0 k9
    go_wp2_with fail
    refine (inNew_bad tb span score _ HN.out).mono ?_
    rintro e w4 ⟨rfl, hw4⟩
    subst hw4
    go_wp2
    obtain ⟨r1, r2⟩ := HM5.out (.cells #[.pointer (some ⟨tb, 0, none⟩)] 47) (.cells #[.pointer none] 51)
    have hz : (((w3.alloc (.cells #[.pointer (some ⟨tb, 0, none⟩)] 47)).alloc (.cells #[.pointer none] 51)).setCell ⟨w.heap.size + 1 + 1 + 1, 0, none⟩ (.bool true)).heap[w.heap.size + 1 + 1 + 1]? = some (.cells #[.bool true] 4) := by simp [World.setCell, Array.getElem?_modify, r2]
    have h0 := cell_of (i := 0) hz rfl
    exact ⟨.bool true, by simp [results, Tryd.f7, go_sem, h0], rfl, r1.setCell (p := ⟨w.heap.size + 1 + 1 + 1, 0, none⟩) (by show _ ≤ w.heap.size + 1 + 1 + 1; omega) _⟩
end
end Go.Proofs.YtblkbogoelfjlaaDoor.InA
