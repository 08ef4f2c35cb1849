/-
  What the document's own answer does to the world: FrameFault.
-/
import Derived.Test.YtjdfllocngkjpaaFrmD
namespace Go.Proofs.Ytjdfllocngkjpaa.FrmA
open Go.RowKit FrmM
set_option maxRecDepth 100000

theorem btw_no {n lo hi : Int} (h : btw n lo hi = false) : decide (n < lo) = true ∨ (decide (n < lo) = false ∧ decide (hi < n) = true) := by
  by_cases h1 : n < lo
  · exact Or.inl (by simpa using h1)
  · refine Or.inr ⟨by simpa using h1, ?_⟩
    have : ¬ (lo ≤ n ∧ n ≤ hi) := fun h2 => by rw [btw_true.2 h2] at h; cases h
    simp; omega
theorem btw_yes {n lo hi : Int} (h : btw n lo hi = true) : decide (n < lo) = false ∧ decide (hi < n) = false := by
  have := btw_true.1 h
  simp; omega

set_option maxHeartbeats 1000000 in
theorem ff_ty (T W : Int) (n : Nat) (p : Option Addr) (cap : Nat) (w : World) (h : btw T 1 3 = false) :
    Calls Try.prog 7 #[.agg #[.int .i64 T, .slice p n cap, .int .i64 W]] w fun e w' => e = .returned (.int .i64 1) ∧ Below w.heap.size w w' := by
  rcases btw_no h with h1 | ⟨h1, h2⟩
  · clear h
    go_enter Try.func7, Try.ntmps7
    go_wp2
    go_ret
    exact ⟨rfl, (Below.refl _ _).alloc (Nat.le_refl _) _⟩
  · clear h
    go_enter Try.func7, Try.ntmps7
    go_wp2
    go_ret
    exact ⟨rfl, (Below.refl _ _).alloc (Nat.le_refl _) _⟩
set_option maxHeartbeats 1000000 in
theorem ff_shape1 (W : Int) (n : Nat) (p : Option Addr) (cap : Nat) (w : World) (h : W ≠ 0) :
    Calls Try.prog 7 #[.agg #[.int .i64 1, .slice p n cap, .int .i64 W]] w fun e w' => e = .returned (.int .i64 3) ∧ Below w.heap.size w w' := by
  have hW : (W == 0) = false := by simpa using h
  go_enter Try.func7, Try.ntmps7
  go_wp2
  go_ret
  exact ⟨rfl, (Below.refl _ _).alloc (Nat.le_refl _) _⟩
set_option maxHeartbeats 1000000 in
theorem ff_shape2 (W : Int) (p : Option Addr) (cap : Nat) (w : World) (h : W ≠ 0) :
    Calls Try.prog 7 #[.agg #[.int .i64 2, .slice p 0 cap, .int .i64 W]] w fun e w' => e = .returned (.int .i64 3) ∧ Below w.heap.size w w' := by
  have hW : (W == 0) = false := by simpa using h
  go_enter Try.func7, Try.ntmps7
  go_wp2
  go_ret
  exact ⟨rfl, (Below.refl _ _).alloc (Nat.le_refl _) _⟩
set_option maxHeartbeats 1000000 in
theorem ff_shapeN (T W : Int) (n : Nat) (p : Option Addr) (cap : Nat) (w : World) (h : T = 2 ∨ T = 3) (hn : 0 < n) :
    Calls Try.prog 7 #[.agg #[.int .i64 T, .slice p n cap, .int .i64 W]] w fun e w' => e = .returned (.int .i64 3) ∧ Below w.heap.size w w' := by
  have hI : decide ((0 : Int) < n) = true := by simp; omega
  rcases h with rfl | rfl
  · go_enter Try.func7, Try.ntmps7
    go_wp2
    go_ret
    exact ⟨rfl, (Below.refl _ _).alloc (Nat.le_refl _) _⟩
  · go_enter Try.func7, Try.ntmps7
    go_wp2
    go_ret
    exact ⟨rfl, (Below.refl _ _).alloc (Nat.le_refl _) _⟩
set_option maxHeartbeats 1000000 in
theorem ff_warm (W : Int) (p : Option Addr) (cap : Nat) (w : World) (h : btw W 0 255 = false) :
    Calls Try.prog 7 #[.agg #[.int .i64 3, .slice p 0 cap, .int .i64 W]] w fun e w' => e = .returned (.int .i64 1) ∧ Below w.heap.size w w' := by
  rcases btw_no h with h1 | ⟨h1, h2⟩
  · clear h
    go_enter Try.func7, Try.ntmps7
    go_wp2
    go_ret
    exact ⟨rfl, (Below.refl _ _).alloc (Nat.le_refl _) _⟩
  · clear h
    go_enter Try.func7, Try.ntmps7
    go_wp2
    go_ret
    exact ⟨rfl, (Below.refl _ _).alloc (Nat.le_refl _) _⟩
set_option maxHeartbeats 1000000 in
theorem ff_many (n : Nat) (p : Option Addr) (cap : Nat) (w : World) (h : 4 < n) :
    Calls Try.prog 7 #[.agg #[.int .i64 1, .slice p n cap, .int .i64 0]] w fun e w' => e = .returned (.int .i64 2) ∧ Below w.heap.size w w' := by
  have hI : (4 : Int) < n := by omega
  go_enter Try.func7, Try.ntmps7
  go_wp2
  go_ret
  exact ⟨rfl, (Below.refl _ _).alloc (Nat.le_refl _) _⟩
set_option maxHeartbeats 1000000 in
theorem ff_none2 (p : Option Addr) (cap : Nat) (w : World) :
    Calls Try.prog 7 #[.agg #[.int .i64 2, .slice p 0 cap, .int .i64 0]] w fun e w' => e = .returned (.int .i64 0) ∧ Below w.heap.size w w' := by
  go_enter Try.func7, Try.ntmps7
  go_wp2
  go_loopw [3, 4] (fun i _ V => i = .int .i64 0 ∧ V = w.alloc (.cells #[.int .i64 2, .slice p 0 cap, .int .i64 0] 24)) (fun _ _ _ => 0)
  case atStart => exact ⟨rfl, rfl⟩
  case round =>
    obtain ⟨rfl, rfl⟩ := hrel
    go_wp2
    go_ret
    exact ⟨rfl, (Below.refl _ _).alloc (Nat.le_refl _) _⟩
set_option maxHeartbeats 1000000 in
theorem ff_none3 (W : Int) (p : Option Addr) (cap : Nat) (w : World) (h : btw W 0 255 = true) :
    Calls Try.prog 7 #[.agg #[.int .i64 3, .slice p 0 cap, .int .i64 W]] w fun e w' => e = .returned (.int .i64 0) ∧ Below w.heap.size w w' := by
  obtain ⟨h1, h2⟩ := btw_yes h
  clear h
  go_enter Try.func7, Try.ntmps7
  go_wp2
  go_loopw [3, 4] (fun i _ V => i = .int .i64 0 ∧ V = w.alloc (.cells #[.int .i64 3, .slice p 0 cap, .int .i64 W] 24)) (fun _ _ _ => 0)
  case atStart => exact ⟨rfl, rfl⟩
  case round =>
    obtain ⟨rfl, rfl⟩ := hrel
    go_wp2
    go_ret
    exact ⟨rfl, (Below.refl _ _).alloc (Nat.le_refl _) _⟩

/-- Where a read falls. -/
def RdBad (r : Rd) : Prop :=
  decide (r.a < 0) = true
  ∨ (decide (r.a < 0) = false ∧ decide (3 < r.a) = true)
  ∨ (decide (r.a < 0) = false ∧ decide (3 < r.a) = false ∧ decide (r.s < 0) = true)
  ∨ (decide (r.a < 0) = false ∧ decide (3 < r.a) = false ∧ decide (r.s < 0) = false ∧ decide (255 < r.s) = true)
  ∨ (decide (r.a < 0) = false ∧ decide (3 < r.a) = false ∧ decide (r.s < 0) = false ∧ decide (255 < r.s) = false ∧ decide (r.g < 0) = true)
  ∨ (decide (r.a < 0) = false ∧ decide (3 < r.a) = false ∧ decide (r.s < 0) = false ∧ decide (255 < r.s) = false ∧ decide (r.g < 0) = false ∧ decide (255 < r.g) = true)
  ∨ (decide (r.a < 0) = false ∧ decide (3 < r.a) = false ∧ decide (r.s < 0) = false ∧ decide (255 < r.s) = false ∧ decide (r.g < 0) = false ∧ decide (255 < r.g) = false ∧ ((r.t.size : Int) != 8) = true)
theorem rdBad {r : Rd} (h : rdOk r = false) : RdBad r := by
  cases h1 : btw r.a 0 3 with
  | false =>
    rcases btw_no h1 with h | ⟨h, h'⟩
    · exact Or.inl h
    · exact Or.inr (Or.inl ⟨h, h'⟩)
  | true =>
    obtain ⟨a0, a1⟩ := btw_yes h1
    cases h2 : btw r.s 0 255 with
    | false =>
      rcases btw_no h2 with h | ⟨h, h'⟩
      · exact Or.inr (Or.inr (Or.inl ⟨a0, a1, h⟩))
      · exact Or.inr (Or.inr (Or.inr (Or.inl ⟨a0, a1, h, h'⟩)))
    | true =>
      obtain ⟨s0, s1⟩ := btw_yes h2
      cases h3 : btw r.g 0 255 with
      | false =>
        rcases btw_no h3 with h | ⟨h, h'⟩
        · exact Or.inr (Or.inr (Or.inr (Or.inr (Or.inl ⟨a0, a1, s0, s1, h⟩))))
        · exact Or.inr (Or.inr (Or.inr (Or.inr (Or.inr (Or.inl ⟨a0, a1, s0, s1, h, h'⟩)))))
      | true =>
        obtain ⟨g0, g1⟩ := btw_yes h3
        refine Or.inr (Or.inr (Or.inr (Or.inr (Or.inr (Or.inr ⟨a0, a1, s0, s1, g0, g1, ?_⟩)))))
        simp [rdOk, h1, h2, h3] at h
        simp; omega
theorem rdGood {r : Rd} (h : rdOk r = true) : decide (r.a < 0) = false ∧ decide (3 < r.a) = false ∧ decide (r.s < 0) = false ∧ decide (255 < r.s) = false ∧ decide (r.g < 0) = false ∧ decide (255 < r.g) = false ∧ ((r.t.size : Int) == 8) = true := by
  have := rdOk_true.1 h
  simp; omega

set_option maxHeartbeats 2000000 in
theorem ff_reads (rs : List Rd) (p : Option Addr) (cap : Nat) (w : World) (h : rs.length ≤ 4) (hr : ReadsOn w p rs) :
    Calls Try.prog 7 #[.agg #[.int .i64 1, .slice p rs.length cap, .int .i64 0]] w fun e w' => e = .returned (.int .i64 ((if rs.all rdOk = true then 0 else 1 : Nat) : Int)) ∧ Below w.heap.size w w' := by
  have HR : Hid (ReadsOn w p rs) := hr
  clear hr
  obtain ⟨R, hR⟩ : ∃ R : Int, R = ((if rs.all rdOk = true then 0 else 1 : Nat) : Int) := ⟨_, rfl⟩
  have HRR : Hid (R = ((if rs.all rdOk = true then 0 else 1 : Nat) : Int)) := hR
  rw [← hR]
  clear hR
  obtain ⟨n, hn⟩ : ∃ n, n = rs.length := ⟨_, rfl⟩
  rw [← hn] at h ⊢
  have HN : Hid (n = rs.length) := hn
  have hI : ¬ (4 : Int) < n := by omega
  clear hn
  go_enter Try.func7, Try.ntmps7
  go_wp2
  go_loopw [3, 4] (fun i _ V => ∃ k : Nat, k ≤ n ∧ i = .int .i64 k ∧ Below (w.heap.size + 1) (w.alloc (.cells #[.int .i64 1, .slice p n cap, .int .i64 0] 24)) V ∧ (rs.take k).all rdOk = true) (fun i _ _ => n - (intOf i).toNat)
  case atStart => exact ⟨0, Nat.zero_le _, rfl, Below.refl _ _, rfl⟩
  case round =>
    obtain ⟨k, hk, rfl, hbl, hall⟩ := hrel
    have bx1 : wr.cell? ⟨w.heap.size, 1, none⟩ = some (.slice p n cap) := keepCell hbl (by simp) (by simp)
    by_cases hlt : k < n
    · have hkI : (k : Int) < n := by omega
      have hk' : k < rs.length := by rw [← HN.out]; exact hlt
      obtain ⟨b, o, rfl, hb, hc⟩ := HR.out.at_ (by intro e; rw [e] at hk'; simp at hk')
      have hrd := (hc k _ (List.getElem?_eq_getElem hk')).keep ((hbl.block b (by omega)).trans (Below.heap_alloc w _ b hb))
      obtain ⟨c0, c1, c2, c3⟩ := hrd
      have HB : Hid (Below w.heap.size w wr) := ((Below.refl _ w).alloc (Nat.le_refl _) _).trans (hbl.mono (by omega))
      have HBL : Hid (Below (w.heap.size + 1) (w.alloc (.cells #[.int .i64 1, .slice (some ⟨b, o, none⟩) n cap, .int .i64 0] 24)) wr) := hbl
      have hsz : w.heap.size + 1 ≤ wr.heap.size := by have := hbl.size; simpa using this
      have HA : Hid ((rs.take k).all rdOk = true) := hall
      have HK : Hid (rs.take (k + 1) = rs.take k ++ [rs[k]]) := List.take_succ_eq_append_getElem hk'
      have HD : Hid (rs.all rdOk = true → rdOk rs[k] = true) := fun h => List.all_eq_true.1 h _ (List.getElem_mem hk')
      clear hbl hc hall hb
      cases hok : rdOk rs[k]
      · have hR1 : R = 1 := by rw [HRR.out, if_neg (fun h => by have := HD.out h; rw [hok] at this; cases this)]; rfl
        subst hR1
        have hbad := rdBad hok
        have hfin : Below w.heap.size w (wr.alloc (.cells #[.int .i64 rs[k].a, .int .i64 rs[k].s, .int .i64 rs[k].g, .string rs[k].t] 27)) := HB.out.alloc (by omega) _
        have HF : Hid (Below w.heap.size w (wr.alloc (.cells #[.int .i64 rs[k].a, .int .i64 rs[k].s, .int .i64 rs[k].g, .string rs[k].t] 27))) := hfin
        clear hok hfin HD HK
        generalize rs[k] = r at *
        obtain ⟨a, s, g, t⟩ := r
        simp only at *
        rcases hbad with h0 | ⟨h0, h1⟩ | ⟨h0, h1, h2⟩ | ⟨h0, h1, h2, h3⟩ | ⟨h0, h1, h2, h3, h4⟩ | ⟨h0, h1, h2, h3, h4, h5⟩ | ⟨h0, h1, h2, h3, h4, h5, h6⟩
        all_goals (go_wp2; go_ret; exact ⟨rfl, HF.out⟩)
      · obtain ⟨h0, h1, h2, h3, h4, h5, h6⟩ := rdGood hok
        have HOK : Hid (rdOk rs[k] = true) := hok
        clear hok
        generalize rs[k] = r at *
        obtain ⟨a, s, g, t⟩ := r
        simp only at *
        go_wp2
        go_roundw
        case rel =>
          refine ⟨k + 1, by omega, by go_num, HBL.out.alloc (by omega) _, ?_⟩
          rw [HK.out, List.all_append, HA.out]
          simp [HOK.out]
        case measure => simp [intOf]; omega
    · obtain rfl : k = n := by omega
      have HA : Hid ((rs.take k).all rdOk = true) := hall
      have HB : Hid (Below w.heap.size w wr) := ((Below.refl _ w).alloc (Nat.le_refl _) _).trans (hbl.mono (by omega))
      clear hbl hall
      go_wp2
      go_ret
      refine ⟨?_, HB.out⟩
      have := HA.out
      rw [HN.out, List.take_length] at this
      rw [HRR.out, if_pos this]
      rfl
theorem ff_any (f : Fr) (p : Option Addr) (cap : Nat) (w : World) (hr : ReadsOn w p f.rs) :
    Calls Try.prog 7 #[.agg #[.int .i64 f.ty, .slice p f.rs.length cap, .int .i64 f.wm]] w fun e w' => e = .returned (.int .i64 (fault f : Int)) ∧ Below w.heap.size w w' := by
  obtain ⟨T, rs, W⟩ := f
  simp only at hr ⊢
  unfold fault
  simp only
  cases h1 : btw T 1 3 with
  | false =>
    rw [if_pos rfl]
    exact ff_ty T W rs.length p cap w h1
  | true =>
    rw [if_neg (by simp)]
    have h1' := btw_true.1 h1
    rcases (show T = 1 ∨ T = 2 ∨ T = 3 by omega) with rfl | rfl | rfl
    · by_cases hW : W = 0
      · subst hW
        rw [if_neg (by simp), if_neg (by decide)]
        by_cases h4 : 4 < rs.length
        · rw [if_pos h4]
          exact ff_many rs.length p cap w h4
        · rw [if_neg h4]
          exact ff_reads rs p cap w (by omega) hr
      · rw [if_pos (Or.inr ⟨by decide, hW⟩)]
        exact ff_shape1 W rs.length p cap w hW
    · by_cases hn : 0 < rs.length
      · rw [if_pos (Or.inl ⟨by decide, hn⟩)]
        exact ff_shapeN 2 W rs.length p cap w (Or.inl rfl) hn
      · obtain rfl : rs = [] := List.length_eq_zero_iff.1 (by omega)
        by_cases hW : W = 0
        · subst hW
          rw [if_neg (by simp), if_neg (by decide), if_neg (by simp), if_pos List.all_nil]
          exact ff_none2 p cap w
        · rw [if_pos (Or.inr ⟨by decide, hW⟩)]
          exact ff_shape2 W p cap w hW
    · by_cases hn : 0 < rs.length
      · rw [if_pos (Or.inl ⟨by decide, hn⟩)]
        exact ff_shapeN 3 W rs.length p cap w (Or.inr rfl) hn
      · obtain rfl : rs = [] := List.length_eq_zero_iff.1 (by omega)
        rw [if_neg (by simp)]
        cases hW : btw W 0 255 with
        | false =>
          rw [if_pos rfl]
          exact ff_warm W p cap w hW
        | true =>
          rw [if_neg (by simp), if_neg (by simp), if_pos List.all_nil]
          exact ff_none3 W p cap w hW
end Go.Proofs.Ytjdfllocngkjpaa.FrmA
