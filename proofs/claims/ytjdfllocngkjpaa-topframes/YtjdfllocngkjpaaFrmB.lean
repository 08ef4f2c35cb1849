/-
  What Check does to the world.
-/
import Derived.Test.YtjdfllocngkjpaaFrmA
namespace Go.Proofs.Ytjdfllocngkjpaa.FrmA
open Go.RowKit FrmM
set_option maxRecDepth 100000

/-- An error by its number; 0: none. -/
def errV (n : Nat) : Value := if n = 0 then .nilIface else .iface 55 (.int .i64 n)

set_option maxHeartbeats 1000000 in
theorem check_ty (T W : Int) (rs : List Rd) (p : Option Addr) (cap : Nat) (w : World) (h : btw T 1 3 = false) :
    Calls Try.prog 10 #[.agg #[.int .i64 T, .slice p rs.length cap, .int .i64 W]] w fun e w' => e = .returned (.iface 55 (.int .i64 1)) ∧ Below w.heap.size w w' := by
  go_enter Try.func10, Try.ntmps10
  go_wp2_with (go_at_call 20; refine (between_any _ _ _ _).mono ?_; rintro e w' ⟨rfl, rfl⟩)
  go_ret
  exact ⟨rfl, (Below.refl _ _).alloc (Nat.le_refl _) _⟩
set_option maxHeartbeats 1000000 in
theorem check_shape1 (W : Int) (n : Nat) (p : Option Addr) (cap : Nat) (w : World) (h : W ≠ 0) :
    Calls Try.prog 10 #[.agg #[.int .i64 1, .slice p n cap, .int .i64 W]] w fun e w' => e = .returned (.iface 55 (.int .i64 3)) ∧ Below w.heap.size w w' := by
  have b1 : btw 1 1 3 = true := rfl
  have hW : (W == 0) = false := by simpa using h
  go_enter Try.func10, Try.ntmps10
  go_wp2_with (go_at_call 20; refine (between_any _ _ _ _).mono ?_; rintro e w' ⟨rfl, rfl⟩)
  go_ret
  exact ⟨rfl, (Below.refl _ _).alloc (Nat.le_refl _) _⟩
set_option maxHeartbeats 1000000 in
theorem check_shape2 (W : Int) (p : Option Addr) (cap : Nat) (w : World) (h : W ≠ 0) :
    Calls Try.prog 10 #[.agg #[.int .i64 2, .slice p 0 cap, .int .i64 W]] w fun e w' => e = .returned (.iface 55 (.int .i64 3)) ∧ Below w.heap.size w w' := by
  have b1 : btw 2 1 3 = true := rfl
  have hW : (W == 0) = false := by simpa using h
  go_enter Try.func10, Try.ntmps10
  go_wp2_with (go_at_call 20; refine (between_any _ _ _ _).mono ?_; rintro e w' ⟨rfl, rfl⟩)
  go_ret
  exact ⟨rfl, (Below.refl _ _).alloc (Nat.le_refl _) _⟩
set_option maxHeartbeats 1000000 in
theorem check_shapeN (T W : Int) (n : Nat) (p : Option Addr) (cap : Nat) (w : World) (h : T = 2 ∨ T = 3) (hn : 0 < n) :
    Calls Try.prog 10 #[.agg #[.int .i64 T, .slice p n cap, .int .i64 W]] w fun e w' => e = .returned (.iface 55 (.int .i64 3)) ∧ Below w.heap.size w w' := by
  have b1 : btw T 1 3 = true := by rcases h with rfl | rfl <;> rfl
  have hT : (T == 1) = false := by rcases h with rfl | rfl <;> rfl
  clear h
  go_enter Try.func10, Try.ntmps10
  go_wp2_with (go_at_call 20; refine (between_any _ _ _ _).mono ?_; rintro e w' ⟨rfl, rfl⟩)
  go_ret
  exact ⟨rfl, (Below.refl _ _).alloc (Nat.le_refl _) _⟩
set_option maxHeartbeats 1000000 in
theorem check_warm (W : Int) (p : Option Addr) (cap : Nat) (w : World) (h : btw W 0 255 = false) :
    Calls Try.prog 10 #[.agg #[.int .i64 3, .slice p 0 cap, .int .i64 W]] w fun e w' => e = .returned (.iface 55 (.int .i64 1)) ∧ Below w.heap.size w w' := by
  have b1 : btw 3 1 3 = true := rfl
  go_enter Try.func10, Try.ntmps10
  go_wp2_with (go_at_call 20; refine (between_any _ _ _ _).mono ?_; rintro e w' ⟨rfl, rfl⟩)
  go_ret
  exact ⟨rfl, (Below.refl _ _).alloc (Nat.le_refl _) _⟩
set_option maxHeartbeats 1000000 in
theorem check_many (n : Nat) (p : Option Addr) (cap : Nat) (w : World) (h : 4 < n) :
    Calls Try.prog 10 #[.agg #[.int .i64 1, .slice p n cap, .int .i64 0]] w fun e w' => e = .returned (.iface 55 (.int .i64 2)) ∧ Below w.heap.size w w' := by
  have b1 : btw 1 1 3 = true := rfl
  have b2 : btw 0 0 255 = true := rfl
  have hI : (4 : Int) < n := by omega
  go_enter Try.func10, Try.ntmps10
  go_wp2_with (go_at_call 20; refine (between_any _ _ _ _).mono ?_; rintro e w' ⟨rfl, rfl⟩)
  go_ret
  exact ⟨rfl, (Below.refl _ _).alloc (Nat.le_refl _) _⟩
set_option maxHeartbeats 1000000 in
theorem check_none (T W : Int) (p : Option Addr) (cap : Nat) (w : World) (h : T = 2 ∧ W = 0 ∨ T = 3 ∧ btw W 0 255 = true) :
    Calls Try.prog 10 #[.agg #[.int .i64 T, .slice p 0 cap, .int .i64 W]] w fun e w' => e = .returned .nilIface ∧ Below w.heap.size w w' := by
  have b1 : btw T 1 3 = true := by rcases h with ⟨rfl, _⟩ | ⟨rfl, _⟩ <;> rfl
  have hT : (T == 1) = false := by rcases h with ⟨rfl, _⟩ | ⟨rfl, _⟩ <;> rfl
  have b2 : btw W 0 255 = true := by rcases h with ⟨_, rfl⟩ | ⟨_, h⟩; rfl; exact h
  rcases h with ⟨rfl, rfl⟩ | ⟨rfl, h⟩
  · go_enter Try.func10, Try.ntmps10
    go_wp2_with (go_at_call 20; refine (between_any _ _ _ _).mono ?_; rintro e w' ⟨rfl, rfl⟩)
    go_loopw [4, 43] (fun _ i V => i = .int .i64 0 ∧ V = w.alloc (.cells #[.int .i64 2, .slice p 0 cap, .int .i64 0] 24)) (fun _ _ _ => 0)
    case atStart => exact ⟨rfl, rfl⟩
    case round =>
      obtain ⟨rfl, rfl⟩ := hrel
      go_wp2
      go_ret
      exact ⟨rfl, (Below.refl _ _).alloc (Nat.le_refl _) _⟩
  · go_enter Try.func10, Try.ntmps10
    go_wp2_with (go_at_call 20; refine (between_any _ _ _ _).mono ?_; rintro e w' ⟨rfl, rfl⟩)
    go_loopw [4, 43] (fun _ i V => i = .int .i64 0 ∧ V = w.alloc (.cells #[.int .i64 3, .slice p 0 cap, .int .i64 W] 24)) (fun _ _ _ => 0)
    case atStart => exact ⟨rfl, rfl⟩
    case round =>
      obtain ⟨rfl, rfl⟩ := hrel
      go_wp2
      go_ret
      exact ⟨rfl, (Below.refl _ _).alloc (Nat.le_refl _) _⟩
set_option maxHeartbeats 1000000 in
theorem check_reads (rs : List Rd) (p : Option Addr) (cap : Nat) (w : World) (h : rs.length ≤ 4) (hr : ReadsOn w p rs) :
    Calls Try.prog 10 #[.agg #[.int .i64 1, .slice p rs.length cap, .int .i64 0]] w fun e w' => e = .returned (errV (if rs.all rdOk = true then 0 else 1)) ∧ Below w.heap.size w w' := by
  have HR : Hid (ReadsOn w p rs) := hr
  clear hr
  obtain ⟨R, hR⟩ : ∃ R, R = errV (if rs.all rdOk = true then 0 else 1) := ⟨_, rfl⟩
  have HRR : Hid (R = errV (if rs.all rdOk = true then 0 else 1)) := hR
  rw [← hR]
  clear hR
  have b1 : btw 1 1 3 = true := rfl
  have b2 : btw 0 0 255 = true := rfl
  obtain ⟨n, hn⟩ : ∃ n, n = rs.length := ⟨_, rfl⟩
  rw [← hn] at h ⊢
  have HN : Hid (n = rs.length) := hn
  have hI : ¬ (4 : Int) < n := by omega
  clear hn
  go_enter Try.func10, Try.ntmps10
  go_wp2_with (go_at_call 20; refine (between_any _ _ _ _).mono ?_; rintro e w' ⟨rfl, rfl⟩)
  go_loopw [4, 43] (fun _ i V => ∃ k : Nat, k ≤ n ∧ i = .int .i64 k ∧ Below (w.heap.size + 1) (w.alloc (.cells #[.int .i64 1, .slice p n cap, .int .i64 0] 24)) V ∧ (rs.take k).all rdOk = true) (fun _ i _ => n - (intOf i).toNat)
  case atStart => exact ⟨0, Nat.zero_le _, rfl, Below.refl _ _, rfl⟩
  case round =>
    obtain ⟨k, hk, rfl, hbl, hall⟩ := hrel
    by_cases hlt : k < n
    · have hkI : (k : Int) < n := by omega
      have hk' : k < rs.length := by rw [← HN.out]; exact hlt
      obtain ⟨b, o, rfl, hb, hc⟩ := HR.out.at_ (by intro e; rw [e] at hk'; simp at hk')
      have hrd := (hc k _ (List.getElem?_eq_getElem hk')).keep ((hbl.block b (by omega)).trans (Below.heap_alloc w _ b hb))
      have ht := HR.out.tags _ (List.getElem_mem hk')
      obtain ⟨c0, c1, c2, c3⟩ := hrd
      have HT : Hid (rs[k].t.size ≤ maxLen) := ht
      have HB : Hid (Below w.heap.size w wr) := ((Below.refl _ w).alloc (Nat.le_refl _) _).trans (hbl.mono (by omega))
      have HBL : Hid (Below (w.heap.size + 1) (w.alloc (.cells #[.int .i64 1, .slice (some ⟨b, o, none⟩) n cap, .int .i64 0] 24)) wr) := hbl
      have hsz : w.heap.size + 1 ≤ wr.heap.size := by have := hbl.size; simpa using this
      have HA : Hid ((rs.take k).all rdOk = true) := hall
      have HK : Hid (rs.take (k + 1) = rs.take k ++ [rs[k]]) := List.take_succ_eq_append_getElem hk'
      have HD : Hid (rs.all rdOk = true → rdOk rs[k] = true) := fun h => List.all_eq_true.1 h _ (List.getElem_mem hk')
      clear hbl hc ht hall hb
      go_wp2_with fail
      refine (isRead_any _ _ HT.out).mono ?_
      rintro e w1 ⟨rfl, hb1⟩
      have HB1 : Hid (Below (wr.alloc (.cells #[.int .i64 rs[k].a, .int .i64 rs[k].s, .int .i64 rs[k].g, .string rs[k].t] 27)).heap.size (wr.alloc (.cells #[.int .i64 rs[k].a, .int .i64 rs[k].s, .int .i64 rs[k].g, .string rs[k].t] 27)) w1) := hb1
      clear hb1 c0 c1 c2 c3
      cases hok : rdOk rs[k]
      · go_wp2
        go_ret
        refine ⟨?_, ?_⟩
        · rw [HRR.out, if_neg (fun h => by have := HD.out h; rw [hok] at this; cases this)]
          rfl
        · exact (HB.out.alloc (by omega) _).trans (HB1.out.mono (by simp; omega))
      · go_wp2
        go_roundw
        case rel =>
          refine ⟨k + 1, by omega, by go_num, (HBL.out.alloc (by omega) _).trans (HB1.out.mono (by simp; omega)), ?_⟩
          rw [HK.out, List.all_append, HA.out]
          simp [hok]
        case measure => simp [intOf]; omega
    · obtain rfl : k = n := by omega
      have HA : Hid ((rs.take k).all rdOk = true) := hall
      have HB : Hid (Below w.heap.size w wr) := ((Below.refl _ w).alloc (Nat.le_refl _) _).trans (hbl.mono (by omega))
      clear hbl hall
      go_wp2
      go_ret
      refine ⟨?_, HB.out⟩
      have := HA.out
      rw [HN.out, List.take_length] at this
      rw [HRR.out, if_pos this]
      rfl
theorem errV_pos {n : Nat} (h : n ≠ 0) : errV n = .iface 55 (.int .i64 n) := by unfold errV; rw [if_neg h]
theorem check_any (f : Fr) (p : Option Addr) (cap : Nat) (w : World) (hr : ReadsOn w p f.rs) :
    Calls Try.prog 10 #[.agg #[.int .i64 f.ty, .slice p f.rs.length cap, .int .i64 f.wm]] w fun e w' => e = .returned (errV (fault f)) ∧ Below w.heap.size w w' := by
  obtain ⟨T, rs, W⟩ := f
  simp only at hr ⊢
  unfold fault
  simp only
  cases h1 : btw T 1 3 with
  | false =>
    rw [if_pos rfl]
    exact check_ty T W rs p cap w h1
  | true =>
    rw [if_neg (by simp)]
    have h1' := btw_true.1 h1
    rcases (show T = 1 ∨ T = 2 ∨ T = 3 by omega) with rfl | rfl | rfl
    · by_cases hW : W = 0
      · subst hW
        rw [if_neg (by simp), if_neg (by decide)]
        by_cases h4 : 4 < rs.length
        · rw [if_pos h4]
          exact check_many rs.length p cap w h4
        · rw [if_neg h4]
          exact check_reads rs p cap w (by omega) hr
      · rw [if_pos (Or.inr ⟨by decide, hW⟩)]
        exact check_shape1 W rs.length p cap w hW
    · by_cases hn : 0 < rs.length
      · rw [if_pos (Or.inl ⟨by decide, hn⟩)]
        exact check_shapeN 2 W rs.length p cap w (Or.inl rfl) hn
      · obtain rfl : rs = [] := List.length_eq_zero_iff.1 (by omega)
        by_cases hW : W = 0
        · subst hW
          rw [if_neg (by simp), if_neg (by decide), if_neg (by simp), if_pos List.all_nil]
          exact check_none 2 0 p cap w (Or.inl ⟨rfl, rfl⟩)
        · rw [if_pos (Or.inr ⟨by decide, hW⟩)]
          exact check_shape2 W p cap w hW
    · by_cases hn : 0 < rs.length
      · rw [if_pos (Or.inl ⟨by decide, hn⟩)]
        exact check_shapeN 3 W rs.length p cap w (Or.inr rfl) hn
      · obtain rfl : rs = [] := List.length_eq_zero_iff.1 (by omega)
        rw [if_neg (by simp)]
        cases hW : btw W 0 255 with
        | false =>
          rw [if_pos rfl]
          exact check_warm W p cap w hW
        | true =>
          rw [if_neg (by simp), if_neg (by simp), if_pos List.all_nil]
          exact check_none 3 W p cap w (Or.inr ⟨rfl, hW⟩)
end Go.Proofs.Ytjdfllocngkjpaa.FrmA
