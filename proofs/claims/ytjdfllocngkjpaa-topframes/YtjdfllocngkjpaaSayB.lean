/-
  FrameSays, walked where there are no reads; FrameSays of any frame.
-/
import Derived.Test.YtjdfllocngkjpaaSayA
namespace Go.Proofs.Ytjdfllocngkjpaa.FrmA
open Go.RowKit FrmM
set_option maxRecDepth 100000

set_option maxHeartbeats 2000000 in
theorem says_none (f : Fr) (p : Option Addr) (cap : Nat) (w : World) (hrs : f.rs = []) :
    Calls Try.prog 3 #[.agg #[.int .i64 f.ty, .slice p 0 cap, .int .i64 f.wm]] w fun e w' => e = .returned (.bool true) ∧ Below w.heap.size w w' := by
  obtain ⟨i0, hi, hz0, hz1, hz2⟩ := info_parts info27
  have HRS : Hid (f.rs = []) := hrs
  clear hrs
  go_enter Try.func3, Try.ntmps3
  go_wp2_with fail
  refine (frames_any _).mono ?_
  rintro e w1 ⟨rfl, hb1⟩
  have c0 : w1.cell? ⟨w.heap.size, 0, none⟩ = some (.int .i64 f.ty) := keepCell hb1 (by simp) (by go_simp)
  have c1 : w1.cell? ⟨w.heap.size, 1, none⟩ = some (.slice p 0 cap) := keepCell hb1 (by simp) (by go_simp)
  have c2 : w1.cell? ⟨w.heap.size, 2, none⟩ = some (.int .i64 f.wm) := keepCell hb1 (by simp) (by go_simp)
  have HB : Hid (Below w.heap.size w w1) := ((Below.refl _ w).alloc (Nat.le_refl _) _).trans (hb1.mono (by simp))
  have hw1 : w.heap.size < w1.heap.size := by have := hb1.size; simp at this; omega
  clear hb1
  go_upto_region 5 with fail
  obtain ⟨W, hW⟩ : ∃ W, W = w1.alloc (.cells #[.int .i64 f.ty, .slice p 0 cap, .int .i64 f.wm] 24) := ⟨_, rfl⟩
  rw [← hW]
  have hWb : Below w1.heap.size w1 W := by rw [hW]; exact (Below.refl _ _).alloc (Nat.le_refl _) _
  have hWs : W.heap.size = w1.heap.size + 1 := by rw [hW]; simp
  have HWE : Hid (W = w1.alloc (.cells #[.int .i64 f.ty, .slice p 0 cap, .int .i64 f.wm] 24)) := hW
  have HWB : Hid (Below w1.heap.size w1 W) := hWb
  have hS0 : W.drew.cell? ⟨w.heap.size, 1, none⟩ = some (.slice p 0 cap) := keepCell hWb.drew hw1 c1
  clear hW hWb
  refine wp_region_held_drew (S := fun V => V.cell? ⟨w.heap.size, 1, none⟩ = some (.slice p 0 cap)) (by kernel_rfl) hS0 (fun _ => ?_)
  refine wpAnyH_take (i := 0) (v := .pointer (some ⟨w.heap.size, 1, none⟩)) rfl (by kernel_rfl) (by kernel_rfl) (by kernel_rfl) (fun _ _ _ h => h) (Or.inl ⟨by rfl, fun wx _ => by go_simp⟩) hS0 ?_
  change wpAnyH _ _ _ _ _ _ _ (Act.put _ (some 19) _) _
  simp only [Act.put, List.setIfInBounds_toArray, List.set_cons_zero, List.set_cons_succ]
  refine wpAnyH_take (i := 1) (v := .slice p 0 cap) rfl (by kernel_rfl) (by kernel_rfl) (by kernel_rfl) (fun _ _ _ h => h) (Or.inl ⟨by rfl, fun wx hS => by (try dsimp only at hS); go_simp⟩) hS0 ?_
  change wpAnyH _ _ _ _ _ _ _ (Act.put _ (some 20) _) _
  simp only [Act.put, List.setIfInBounds_toArray, List.set_cons_zero, List.set_cons_succ]
  refine wpAnyH_take (i := 3) (v := .agg #[.int .i64 0, .int .i64 0, .int .i64 77, .string ⟨#[]⟩]) rfl (by kernel_rfl) (by kernel_rfl) (by kernel_rfl) (fun _ _ _ h => h) (Or.inl ⟨by rfl, fun wx _ => by go_simp⟩) hS0 ?_
  change wpAnyH _ _ _ _ _ _ _ (Act.put _ (some 22) _) _
  simp only [Act.put, List.setIfInBounds_toArray, List.set_cons_zero, List.set_cons_succ]
  refine wpAnyH_take (i := 6) (v := .pointer (some ⟨w.heap.size, 1, none⟩)) rfl (by kernel_rfl) (by kernel_rfl) (by kernel_rfl) (fun _ _ _ h => h) (Or.inl ⟨by rfl, fun wx _ => by go_simp⟩) hS0 ?_
  change wpAnyH _ _ _ _ _ _ _ (Act.put _ (some 25) _) _
  simp only [Act.put, List.setIfInBounds_toArray, List.set_cons_zero, List.set_cons_succ]
  refine wpAnyH_take (i := 7) (v := .slice p 0 cap) rfl (by kernel_rfl) (by kernel_rfl) (by kernel_rfl) (fun _ _ _ h => h) (Or.inl ⟨by rfl, fun wx hS => by (try dsimp only at hS); go_simp⟩) hS0 ?_
  change wpAnyH _ _ _ _ _ _ _ (Act.put _ (some 26) _) _
  simp only [Act.put, List.setIfInBounds_toArray, List.set_cons_zero, List.set_cons_succ]
  refine wpAnyH_take (i := 8) (v := .int .i64 0) rfl (by kernel_rfl) (by kernel_rfl) (by kernel_rfl) (fun _ _ _ h => h) (Or.inl ⟨by rfl, fun wx _ => by go_simp⟩) hS0 ?_
  change wpAnyH _ _ _ _ _ _ _ (Act.put _ (some 27) _) _
  simp only [Act.put, List.setIfInBounds_toArray, List.set_cons_zero, List.set_cons_succ]
  refine wpAnyH_take (i := 2) (v := .slice none 0 0) rfl (by kernel_rfl) (by kernel_rfl) (by kernel_rfl) (fun _ _ _ h => h) (Or.inl ⟨by rfl, fun wx _ => by go_simp; cases p <;> rfl⟩) hS0 ?_
  change wpAnyH _ _ _ _ _ _ _ (Act.put _ (some 21) _) _
  simp only [Act.put, List.setIfInBounds_toArray, List.set_cons_zero, List.set_cons_succ]
  have hS4 : (W.alloc (.cells #[.int .i64 0, .int .i64 0, .int .i64 77, .string ⟨#[]⟩] 27)).drew.cell? ⟨w.heap.size, 1, none⟩ = some (.slice p 0 cap) := keepCell ((Below.refl _ W).alloc (Nat.le_refl _) _).drew (by show w.heap.size < _; omega) hS0
  refine wpAnyH_ready (rs := [4]) (by kernel_rfl) (by simp) ?_
  refine AllReadyH.cons rfl (fun K hK => ?_) AllReadyH.nil
  go_simp
  refine hK.out _ _ hS4 (fun _ => ?_)
  clear hK K
  have HD5 : Hid (Below (w1.heap.size + 1) W (W.alloc (.cells #[.int .i64 0, .int .i64 0, .int .i64 77, .string ⟨#[]⟩] 27)).drew) := ((Below.refl _ _).alloc (by omega) _).drew
  have HDS5 : Hid (w1.heap.size + 1 ≤ (W.alloc (.cells #[.int .i64 0, .int .i64 0, .int .i64 77, .string ⟨#[]⟩] 27)).drew.heap.size) := by show _ ≤ _; simp; omega
  have HC5 : Hid (∀ j u, (rdCells ⟨0, 0, 77, ⟨#[]⟩⟩)[j]? = some u → ((W.alloc (.cells #[.int .i64 0, .int .i64 0, .int .i64 77, .string ⟨#[]⟩] 27)).drew).cell? ((⟨w1.heap.size + 1, 0, none⟩ : Addr).add j) = some u) := by
    intro j u hj
    rw [addr_add, ← hWs]
    match j, hj with
    | 0, hj => simp [rdCells] at hj; subst hj; simp
    | 1, hj => simp [rdCells] at hj; subst hj; simp
    | 2, hj => simp [rdCells] at hj; subst hj; simp
    | 3, hj => simp [rdCells] at hj; subst hj; simp
  clear hS4
  refine wpAnyH_ready (rs := [5]) (by kernel_rfl) (by simp) ?_
  refine AllReadyH.cons rfl (fun K hK => ?_) AllReadyH.nil
  refine step_append_lies _ (by rfl) (.tmp 21) (.tmp 23) 22 (by rfl) (w1.heap.size + 1) 27 i0 (.agg #[.int .i64 0, .int .i64 0, .int .i64 0, .string ⟨#[]⟩]) 4 40 Try.underlying22 hi hz0 hz1 hz2 rfl (by omega) (.slice none 0 0) 0 [] (by rfl) (World.ownsRow_nil _ _ _ _) ⟨w1.heap.size + 1, 0, none⟩ 1 1 (rdCells ⟨0, 0, 77, ⟨#[]⟩⟩) (by rfl) rfl HC5.out (fun u hu => by simp [rdCells] at hu; rcases hu with rfl | rfl | rfl | rfl <;> rfl) (by omega) (by unfold maxLen; omega) (by omega) HDS5.out _ rfl ?_
  intro g2 cap2 V2 hown2 hgrow2 hat2 hlt2
  have hv2 : Below (w1.heap.size + 1) W V2 := HD5.out.grown hgrow2 HDS5.out (fun k hk => by cases hk)
  have HV2' : Hid (Below (w1.heap.size + 1) W V2) := hv2
  have HV2 : Hid (Below w1.heap.size w1 V2) := HWB.out.trans (hv2.mono (by omega))
  have hS2 : V2.cell? ⟨w.heap.size, 1, none⟩ = some (.slice p 0 cap) := keepCell hv2 (by show w.heap.size < _; omega) hS0
  refine hK.out _ _ hS2 (fun _ => ?_)
  clear hK K
  change wpAnyH _ _ _ _ _ _ _ (Act.put _ (some 24) _) _
  simp only [Act.put, List.setIfInBounds_toArray, List.set_cons_zero, List.set_cons_succ]
  have hcap2I : (0 : Int) ≤ cap2 := by omega
  have st1 : V2.cell? ⟨w1.heap.size, 1, none⟩ = some (.slice p 0 cap) := keepCell hv2 (by show w1.heap.size < w1.heap.size + 1; omega) (by rw [HWE.out]; go_simp)
  have st2 : V2.frozen? ⟨w1.heap.size, 1, none⟩ = false := keepFrozen hv2 (by show w1.heap.size < w1.heap.size + 1; omega) (by rw [HWE.out]; go_simp)
  clear hown2 hgrow2 hat2 hlt2 hv2
  refine wpAnyH_take (i := 9) (v := .slice (some ⟨g2, 0, none⟩) 0 cap2) rfl (by kernel_rfl) (by kernel_rfl) (by kernel_rfl) (fun _ _ _ h => h) (Or.inl ⟨by rfl, fun wx _ => by go_simp⟩) hS2 ?_
  change wpAnyH _ _ _ _ _ _ _ (Act.put _ (some 28) _) _
  simp only [Act.put, List.setIfInBounds_toArray, List.set_cons_zero, List.set_cons_succ]
  refine wpAnyH_take (i := 10) (v := .pointer (some ⟨w1.heap.size, 1, none⟩)) rfl (by kernel_rfl) (by kernel_rfl) (by kernel_rfl) (fun _ _ _ h => h) (Or.inl ⟨by rfl, fun wx _ => by go_simp⟩) hS2 ?_
  change wpAnyH _ _ _ _ _ _ _ (Act.put _ (some 29) _) _
  simp only [Act.put, List.setIfInBounds_toArray, List.set_cons_zero, List.set_cons_succ]
  refine wpAnyH_ready (rs := [11]) (by kernel_rfl) (by simp) ?_
  refine AllReadyH.cons rfl (fun K hK => ?_) AllReadyH.nil
  go_simp
  have hS3 : (V2.setCell ⟨w1.heap.size, 1, none⟩ (.slice (some ⟨g2, 0, none⟩) 0 cap2)).cell? ⟨w.heap.size, 1, none⟩ = some (.slice p 0 cap) := set_other hS2 (Or.inl (by show w.heap.size ≠ w1.heap.size; omega)) rfl rfl
  refine hK.out _ _ hS3 (fun hHeld => ?_)
  clear hHeld hK K
  refine wpAnyH_done (by kernel_rfl) ?_ _
  have hmid : SayMid (V2.setCell ⟨w1.heap.size, 1, none⟩ (.slice (some ⟨g2, 0, none⟩) 0 cap2)) w w1.heap.size f p cap (some ⟨g2, 0, none⟩) cap2 := by
    have hrs := HRS.out
    have hn : f.rs.length = 0 := by rw [hrs]; rfl
    have hbs : Below w1.heap.size w1 (V2.setCell ⟨w1.heap.size, 1, none⟩ (.slice (some ⟨g2, 0, none⟩) 0 cap2)) := HV2.out.setCell (Nat.le_refl _) _
    have k0 : V2.cell? ⟨w1.heap.size, 0, none⟩ = some (.int .i64 f.ty) := keepCell HV2'.out (by show w1.heap.size < w1.heap.size + 1; omega) (by rw [HWE.out]; go_simp)
    have k2 : V2.cell? ⟨w1.heap.size, 2, none⟩ = some (.int .i64 f.wm) := keepCell HV2'.out (by show w1.heap.size < w1.heap.size + 1; omega) (by rw [HWE.out]; go_simp)
    exact {
      c0 := keepCell hbs hw1 c0
      c1 := by rw [hn]; exact keepCell hbs hw1 c1
      c2 := keepCell hbs hw1 c2
      d0 := set_other k0 (Or.inr (by simp)) rfl rfl
      d1 := by rw [hn]; exact cell_set_here st1 rfl
      d2 := set_other k2 (Or.inr (by simp)) rfl rfl
      on := ⟨fun r h => by rw [hrs] at h; exact absurd h List.not_mem_nil, fun h => absurd hrs h⟩
      own := ⟨fun r h => by rw [hrs] at h; exact absurd h List.not_mem_nil, fun h => absurd hrs h⟩
      below := HB.out.trans (hbs.mono (Nat.le_of_lt hw1))
      ob := ⟨hw1, by have := HV2'.out.size; show w1.heap.size < (V2.heap.modify _ _).size; rw [Array.size_modify]; omega⟩ }
  have HFIN : Hid (SayMid (V2.setCell ⟨w1.heap.size, 1, none⟩ (.slice (some ⟨g2, 0, none⟩) 0 cap2)) w w1.heap.size f p cap (some ⟨g2, 0, none⟩) cap2) := hmid
  have hl : f.rs.length ≤ 10 := by rw [HRS.out]; simp
  clear hmid hS2 hS3 st1 st2 hcap2I HV2 HV2' c0 c1 c2 hS0
  generalize V2.setCell ⟨w1.heap.size, 1, none⟩ (.slice (some ⟨g2, 0, none⟩) 0 cap2) = V3 at *
  obtain ⟨c0, c1, c2, d0, d1, d2, hon, how, hbw, hob⟩ := HFIN.out
  go_wp2_with fail
  refine (ff_any f p cap _ hon).mono ?_
  rintro e V4 ⟨rfl, hb4⟩
  have HF4 : Hid (SayMid V4 w w1.heap.size f p cap (some ⟨g2, 0, none⟩) cap2) := HFIN.out.keep hb4
  clear hb4 c0 c1 c2 d0 d1 d2 hon how hbw hob HFIN
  obtain ⟨c0, c1, c2, d0, d1, d2, hon, how, hbw, hob⟩ := HF4.out
  go_wp2_with fail
  refine (bytes_any f (some ⟨g2, 0, none⟩) cap2 _ how).mono ?_
  rintro e V5 ⟨rfl, hb5⟩
  have HF5 : Hid (SayMid V5 w w1.heap.size f p cap (some ⟨g2, 0, none⟩) cap2) := HF4.out.keep hb5
  clear hb5 c0 c1 c2 d0 d1 d2 hon how hbw hob HF4
  obtain ⟨c0, c1, c2, d0, d1, d2, hon, how, hbw, hob⟩ := HF5.out
  go_wp2_with fail
  refine (check_any f (some ⟨g2, 0, none⟩) cap2 _ how).mono ?_
  rintro e V6 ⟨rfl, hb6⟩
  have HF6 : Hid (SayMid V6 w w1.heap.size f p cap (some ⟨g2, 0, none⟩) cap2) := HF5.out.keep hb6
  clear hb6 c0 c1 c2 d0 d1 d2 hon how hbw hob HF5
  obtain ⟨c0, c1, c2, d0, d1, d2, hon, how, hbw, hob⟩ := HF6.out
  go_wp2_with fail
  refine (same_any (fault f) _).mono ?_
  rintro e V7 ⟨rfl, rfl⟩
  go_wp2_with fail
  refine (same_any (fault f) _).mono ?_
  rintro e V8 ⟨rfl, rfl⟩
  have e0 : ∀ x, (V8.alloc x).cell? ⟨w.heap.size, 0, none⟩ = some (.int .i64 f.ty) := fun x => (HF6.out.keep ((Below.refl _ V8).alloc (Nat.le_refl _) x)).c0
  have e1 : ∀ x, (V8.alloc x).cell? ⟨w.heap.size, 1, none⟩ = some (.slice p f.rs.length cap) := fun x => (HF6.out.keep ((Below.refl _ V8).alloc (Nat.le_refl _) x)).c1
  have e2 : ∀ x, (V8.alloc x).cell? ⟨w.heap.size, 2, none⟩ = some (.int .i64 f.wm) := fun x => (HF6.out.keep ((Below.refl _ V8).alloc (Nat.le_refl _) x)).c2
  have HON : Hid (ReadsOn V8 p f.rs) := hon
  have HOW : Hid (ReadsOn V8 (some ⟨g2, 0, none⟩) f.rs) := how
  clear hon how hbw
  go_wp2_with fail
  refine (sameFrames_any [f] (some ⟨V8.heap.size, 0, none⟩) (some ⟨V8.heap.size + 1, 0, none⟩) 1 1 _ (by simp) ?_ ?_ ?_).mono ?_
  · exact (one_frame HOW.out).below ((Below.refl _ _).alloc (Nat.le_refl _) _) (Nat.le_refl _)
  · have h := one_frame (cap := cap) (HON.out.alloc (.cells #[.int .i64 f.ty, .slice (some ⟨g2, 0, none⟩) f.rs.length cap2, .int .i64 f.wm] 24))
    simpa using h
  · intro g hg
    simp at hg
    subst hg
    omega
  rintro e V9 ⟨rfl, hb9⟩
  have HF9 : Hid (SayMid V9 w w1.heap.size f p cap (some ⟨g2, 0, none⟩) cap2) := ((HF6.out.keep ((Below.refl _ V8).alloc (Nat.le_refl _) _)).keep ((Below.refl _ _).alloc (Nat.le_refl _) _)).keep hb9
  clear hb9 c0 c1 c2 d0 d1 d2 hob HF6 e0 e1 e2 HON HOW
  obtain ⟨c0, c1, c2, d0, d1, d2, hon, how, hbw, hob⟩ := HF9.out
  have HBW : Hid (Below w.heap.size w V9) := hbw
  clear hbw
  by_cases hf : fault f = 0
  · have hbv : bytesV f = str (enc f) := by unfold bytesV; rw [if_pos hf]
    have hok : Hid (Ok f) := fault_zero.1 hf
    have q1 : ((str (enc f)).toList == (str (enc f)).toList) = true := by simp
    rw [hbv, hf]
    clear hbv hf
    go_wp2_with fail
    refine (fb_any f p cap _ hon hok.out).mono ?_
    rintro e V10 ⟨rfl, hb10⟩
    have HB10 : Hid (Below w.heap.size w V10) := HBW.out.trans (hb10.mono (by omega))
    clear hb10 c0 c1 c2 d0 d1 d2 hon how hob
    go_wp2
    go_ret
    exact ⟨rfl, HB10.out⟩
  · have hbv : bytesV f = ⟨#[]⟩ := by unfold bytesV; rw [if_neg hf]
    have hfp : decide ((0 : Int) < ((fault f : Nat) : Int)) = true := by simp; omega
    have hfq : decide (0 < fault f) = true := by simp; omega
    rw [hbv]
    clear hbv hf hon how hob
    go_wp2
    go_ret
    exact ⟨rfl, HBW.out⟩
theorem says_any (f : Fr) (p : Option Addr) (cap : Nat) (w : World) (hr : ReadsOn w p f.rs) :
    Calls Try.prog 3 #[.agg #[.int .i64 f.ty, .slice p f.rs.length cap, .int .i64 f.wm]] w fun e w' => e = .returned (.bool true) ∧ Below w.heap.size w w' := by
  by_cases hl : f.rs.length ≤ 10
  · by_cases hne : f.rs = []
    · have h := says_none f p cap w hne
      have e : f.rs.length = 0 := by rw [hne]; rfl
      rw [e]
      exact h
    · exact says_few f p cap w hr hl hne
  · exact says_many f p cap w (by omega)
end Go.Proofs.Ytjdfllocngkjpaa.FrmA
