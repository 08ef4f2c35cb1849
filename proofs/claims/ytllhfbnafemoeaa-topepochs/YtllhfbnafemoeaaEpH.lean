/-
  What the document's Add does to the world.
-/
import Derived.Test.YtllhfbnafemoeaaEpG
namespace Go.Proofs.Ytllhfbnafemoeaa.EpA
open Go.RowKit EpM EpW Go.Maps
set_option maxRecDepth 100000

theorem btw_no {n lo hi : Int} (h : btw n lo hi = false) : decide (n < lo) = true ∨ (decide (n < lo) = false ∧ decide (hi < n) = true) := by
  simp [btw] at h ⊢
  omega
theorem btw_yes {n lo hi : Int} (h : btw n lo hi = true) : decide (n < lo) = false ∧ decide (hi < n) = false := by
  simp [btw] at h ⊢
  omega
theorem okS_btw (now : Nat) (x : Sg) : okS now x = (btw x.p 0 7 && btw x.s 0 255 && btw x.t 0 now && decide (x.g.size = 8)) := rfl
/-- Where a sight falls. -/
def SgBad (now : Nat) (x : Sg) : Prop :=
  decide (x.p < 0) = true
  ∨ (decide (x.p < 0) = false ∧ decide (7 < x.p) = true)
  ∨ (decide (x.p < 0) = false ∧ decide (7 < x.p) = false ∧ decide (x.s < 0) = true)
  ∨ (decide (x.p < 0) = false ∧ decide (7 < x.p) = false ∧ decide (x.s < 0) = false ∧ decide (255 < x.s) = true)
  ∨ (decide (x.p < 0) = false ∧ decide (7 < x.p) = false ∧ decide (x.s < 0) = false ∧ decide (255 < x.s) = false ∧ decide (x.t < 0) = true)
  ∨ (decide (x.p < 0) = false ∧ decide (7 < x.p) = false ∧ decide (x.s < 0) = false ∧ decide (255 < x.s) = false ∧ decide (x.t < 0) = false ∧ decide ((now : Int) < x.t) = true)
  ∨ (decide (x.p < 0) = false ∧ decide (7 < x.p) = false ∧ decide (x.s < 0) = false ∧ decide (255 < x.s) = false ∧ decide (x.t < 0) = false ∧ decide ((now : Int) < x.t) = false ∧ ((x.g.size : Int) != 8) = true)
theorem sgBad {now : Nat} {x : Sg} (h : okS now x = false) : SgBad now x := by
  rw [okS_btw] at h
  cases h1 : btw x.p 0 7 with
  | false =>
    rcases btw_no h1 with h | ⟨h, h'⟩
    · exact Or.inl h
    · exact Or.inr (Or.inl ⟨h, h'⟩)
  | true =>
    obtain ⟨a0, a1⟩ := btw_yes h1
    cases h2 : btw x.s 0 255 with
    | false =>
      rcases btw_no h2 with h | ⟨h, h'⟩
      · exact Or.inr (Or.inr (Or.inl ⟨a0, a1, h⟩))
      · exact Or.inr (Or.inr (Or.inr (Or.inl ⟨a0, a1, h, h'⟩)))
    | true =>
      obtain ⟨s0, s1⟩ := btw_yes h2
      cases h3 : btw x.t 0 now with
      | false =>
        rcases btw_no h3 with h | ⟨h, h'⟩
        · exact Or.inr (Or.inr (Or.inr (Or.inr (Or.inl ⟨a0, a1, s0, s1, h⟩))))
        · exact Or.inr (Or.inr (Or.inr (Or.inr (Or.inr (Or.inl ⟨a0, a1, s0, s1, h, h'⟩)))))
      | true =>
        obtain ⟨g0, g1⟩ := btw_yes h3
        refine Or.inr (Or.inr (Or.inr (Or.inr (Or.inr (Or.inr ⟨a0, a1, s0, s1, g0, g1, ?_⟩)))))
        simp [h1, h2, h3] at h
        simp; omega
theorem sgGood {now : Nat} {x : Sg} (h : okS now x = true) : decide (x.p < 0) = false ∧ decide (7 < x.p) = false ∧ decide (x.s < 0) = false ∧ decide (255 < x.s) = false ∧ decide (x.t < 0) = false ∧ decide ((now : Int) < x.t) = false ∧ ((x.g.size : Int) != 8) = false := by
  have ok := okS_iff.1 h
  have := ok.p0; have := ok.p1; have := ok.s0; have := ok.s1; have := ok.t0; have := ok.t1; have := ok.g
  simp; omega

section
variable {w : World} {rb : Nat} {F : Nat → Prop} {size late now : Nat} {all : List Sg}
set_option maxHeartbeats 4000000 in
theorem radd_bad (x : Sg) (d : RefAt w rb F size late now all) (hx : okS now x = false) (ht : x.g.size ≤ maxLen) :
    Calls Try.prog 26 #[.pointer (some ⟨rb, 0, none⟩), .agg #[.int .i64 x.p, .int .i64 x.s, .int .i64 x.t, .string x.g]] w fun e w' => e = .returned (.int .i64 1) ∧ Below w.heap.size w w' := by
  have mixed : Try.prog.follows .mixedOrders = true := by kernel_rfl
  obtain ⟨v, d⟩ := d.out
  have c2 := d.c2
  have hrb := d.lt
  have hbad := sgBad hx
  clear d hx
  obtain ⟨xp, xs, xt, xg⟩ := x
  simp only [SgBad] at hbad ht ⊢
  have HB : Hid (∀ q, Below w.heap.size w ((w.alloc (.cells #[.int .i64 xp, .int .i64 xs, .int .i64 xt, .string xg] 61)).drewN q)) := fun q => ((Below.refl _ w).alloc (Nat.le_refl _) _).trans ((drewN_below _ q).mono (by simp))
  rcases hbad with h0 | ⟨h0, h1⟩ | ⟨h0, h1, h2⟩ | ⟨h0, h1, h2, h3⟩ | ⟨h0, h1, h2, h3, h4⟩ | ⟨h0, h1, h2, h3, h4, h5⟩ | ⟨h0, h1, h2, h3, h4, h5, h6⟩
  all_goals
    go_enter Try.func26, Try.ntmps26
    go_wp2
    go_quiet (fail)
    go_wp2
    go_ret
    exact ⟨rfl, HB.out _⟩

set_option maxHeartbeats 1000000 in
theorem radd_late (x : Sg) (d : RefAt w rb F size late now all) (h0 : 0 < size) (h1 : size ≤ 50) (h2 : late ≤ 50) (h3 : now ≤ 1000) (hx : okS now x = true) (hl : epo size x < closedN size late now) :
    Calls Try.prog 26 #[.pointer (some ⟨rb, 0, none⟩), .agg #[.int .i64 x.p, .int .i64 x.s, .int .i64 x.t, .string x.g]] w fun e w' => e = .returned (.int .i64 6) ∧ Below w.heap.size w w' := by
  have mixed : Try.prog.follows .mixedOrders = true := by kernel_rfl
  have ok := okS_iff.1 hx
  obtain ⟨T, hT⟩ : ∃ T : Nat, x.t = (T : Int) := ⟨x.t.toNat, by have := ok.t0; omega⟩
  have hT9 : T ≤ 1000 := by have := ok.t1; omega
  obtain ⟨k, hk⟩ : ∃ k, k = epo size x := ⟨_, rfl⟩
  obtain ⟨c, hc⟩ : ∃ c, c = closedN size late now := ⟨_, rfl⟩
  have hkT : ((T : Int) / (size : Int)) = (k : Int) := by rw [hk]; unfold epo; rw [hT]; simp
  rw [← hk, ← hc] at hl
  have hc9 : c ≤ 1000 := by rw [hc]; exact Nat.le_trans closedN_le h3
  have hlI : (k : Int) < c := by omega
  have hk9 : (k : Int) ≤ 1000 := by omega
  have HC : Hid (c = closedN size late now) := hc
  obtain ⟨g0, g1, g2, g3, g4, g5, g6⟩ := sgGood hx
  have HD : Hid (RefAt w rb F size late now all) := d
  obtain ⟨v, d⟩ := d.out
  have c0 := d.c0
  have c2 := d.c2
  have hrb := d.lt
  clear d hk hc hx ok
  obtain ⟨xp, xs, xt, xg⟩ := x
  simp only at hT g0 g1 g2 g3 g4 g5 g6 ⊢
  subst hT
  have g4' : ¬ (T : Int) < 0 := by omega
  have g5' : ¬ now < T := by simp at g5; omega
  have g5'' : decide (now < T) = false := by simpa using g5'
  have g6' : ((xg.size : Int) == 8) = true := by simp at g6 ⊢; omega
  have hn : ((size : Int) == 0) = false := by simp; omega
  have HB : Hid (∀ q, Below w.heap.size w ((w.alloc (.cells #[.int .i64 xp, .int .i64 xs, .int .i64 (T : Int), .string xg] 61)).drewN q)) := fun q => ((Below.refl _ w).alloc (Nat.le_refl _) _).trans ((drewN_below _ q).mono (by simp))
  go_enter Try.func26, Try.ntmps26
  go_wp2
  go_quiet (fail)
  obtain ⟨W, hW⟩ : ∃ W, W = (w.alloc (.cells #[.int .i64 xp, .int .i64 xs, .int .i64 (T : Int), .string xg] 61)).drewN nq := ⟨_, rfl⟩
  have hbW : Below w.heap.size w W := by rw [hW]; exact HB.out _
  have HBW : Hid (Below w.heap.size w W) := hbW
  have b2 : W.cell? ⟨w.heap.size, 2, none⟩ = some (.int .i64 (T : Int)) := by rw [hW]; show (w.alloc _).cell? _ = _; simp
  have r0 : W.cell? ⟨rb, 0, none⟩ = some (.int .i64 (size : Int)) := by rw [hbW.cell hrb]; exact c0
  have HDW : Hid (RefAt W rb F size late now all) := HD.out.below hbW
  have HCL : Hid (∀ n, Calls Try.prog 29 #[.pointer (some ⟨rb, 0, none⟩)] (W.drewN n) fun e w' => e = .returned (.int .i64 (c : Int)) ∧ ∃ m, w' = W.drewN m) := fun n => (rclosed_is HC.out (HDW.out.below (drewN_below _ n)) h0 h1 h2 h3).mono (fun _ _ h => ⟨h.1, by obtain ⟨q, hq⟩ := h.2; exact ⟨n + q, by rw [hq, World.drewN_drewN]⟩⟩)
  clear hbW
  show Exit.then _ _ _ _ ((w.alloc (.cells #[.int .i64 xp, .int .i64 xs, .int .i64 (T : Int), .string xg] 61)).drewN nq)
  rw [← hW]
  clear hW c0 c2
  go_wp2
  go_big_quiet (with_reducible exact HCL.out _)
  go_wp2
  go_ret
  exact ⟨rfl, HBW.out.trans ((drewN_below _ _).mono HBW.out.size)⟩
end
end Go.Proofs.Ytllhfbnafemoeaa.EpA
