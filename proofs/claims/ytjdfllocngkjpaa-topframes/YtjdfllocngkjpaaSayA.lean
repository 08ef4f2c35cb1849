/-
  FrameSays, walked.
-/
import Derived.Test.YtjdfllocngkjpaaFrmS
import Derived.Test.YtjdfllocngkjpaaFrmO
import Derived.Deep.Cut
namespace Go.Proofs.Ytjdfllocngkjpaa.FrmA
open Go.RowKit FrmM
set_option maxRecDepth 100000

theorem readsCells {w : World} {b o : Nat} {rs : List Rd} (h : ∀ k r, rs[k]? = some r → RdAt w b (o + k * 4) r) : ∀ j u, (rs.flatMap rdCells)[j]? = some u → w.cell? ((⟨b, o, none⟩ : Addr).add j) = some u := by
  intro j u hj
  have hadd : (⟨b, o, none⟩ : Addr).add j = ⟨b, o + j, none⟩ := by unfold Addr.add; split <;> simp_all
  rw [hadd]
  have hlen : (rs.flatMap rdCells).length = rs.length * 4 := by
    clear h hj
    induction rs with
    | nil => rfl
    | cons r rs ih =>
      have e : (r :: rs).flatMap rdCells = rdCells r ++ rs.flatMap rdCells := rfl
      rw [e, List.length_append, ih, List.length_cons]
      show 4 + _ = _
      omega
  have hjl : j < rs.length * 4 := by
    rcases Nat.lt_or_ge j (rs.flatMap rdCells).length with h | h
    · omega
    · rw [List.getElem?_eq_none h] at hj; cases hj
  have hk : j / 4 < rs.length := by omega
  have hr := List.getElem?_eq_getElem hk
  have hc := h (j / 4) _ hr
  have e : j = j / 4 * 4 + j % 4 := by omega
  rw [e, flat_at rs (j / 4) _ (j % 4) hr (by omega)] at hj
  rw [e]
  generalize rs[j / 4] = r at *
  generalize j / 4 = k at *
  have h4 : j % 4 < 4 := by omega
  generalize j % 4 = m at *
  rw [show o + (k * 4 + m) = o + k * 4 + m by omega]
  match m, h4 with
  | 0, _ => simp [rdCells] at hj; subst hj; exact hc.c0
  | 1, _ => simp [rdCells] at hj; subst hj; exact hc.c1
  | 2, _ => simp [rdCells] at hj; subst hj; exact hc.c2
  | 3, _ => simp [rdCells] at hj; subst hj; exact hc.c3
theorem flat_len (rs : List Rd) : (rs.flatMap rdCells).length = rs.length * 4 := by
  induction rs with
  | nil => rfl
  | cons r rs ih =>
    have e : (r :: rs).flatMap rdCells = rdCells r ++ rs.flatMap rdCells := rfl
    rw [e, List.length_append, ih, List.length_cons]
    show 4 + _ = _
    omega
theorem flat_one (rs : List Rd) : ∀ u ∈ rs.flatMap rdCells, u.oneCell' = true := by
  intro u hu
  obtain ⟨r, _, hr⟩ := List.mem_flatMap.1 hu
  simp [rdCells] at hr
  rcases hr with rfl | rfl | rfl | rfl <;> rfl
set_option maxHeartbeats 1000000 in
theorem says_many (f : Fr) (p : Option Addr) (cap : Nat) (w : World) (hl : 10 < f.rs.length) :
    Calls Try.prog 3 #[.agg #[.int .i64 f.ty, .slice p f.rs.length cap, .int .i64 f.wm]] w fun e w' => e = .returned (.bool true) ∧ Below w.heap.size w w' := by
  generalize f.rs.length = n at *
  have hI : (10 : Int) < n := by omega
  go_enter Try.func3, Try.ntmps3
  go_wp2_with fail
  refine (frames_any _).mono ?_
  rintro e w1 ⟨rfl, hb1⟩
  have c1 : w1.cell? ⟨w.heap.size, 1, none⟩ = some (.slice p n cap) := keepCell hb1 (by simp) (by go_simp)
  have HB : Hid (Below w.heap.size w w1) := ((Below.refl _ w).alloc (Nat.le_refl _) _).trans (hb1.mono (by simp))
  clear hb1
  go_wp2
  go_ret
  exact ⟨rfl, HB.out⟩

/-- What lies there behind the copy. -/
structure SayMid (V w : World) (ob : Nat) (f : Fr) (p : Option Addr) (cap : Nat) (q : Option Addr) (cap2 : Nat) : Prop where
  c0 : V.cell? ⟨w.heap.size, 0, none⟩ = some (.int .i64 f.ty)
  c1 : V.cell? ⟨w.heap.size, 1, none⟩ = some (.slice p f.rs.length cap)
  c2 : V.cell? ⟨w.heap.size, 2, none⟩ = some (.int .i64 f.wm)
  d0 : V.cell? ⟨ob, 0, none⟩ = some (.int .i64 f.ty)
  d1 : V.cell? ⟨ob, 1, none⟩ = some (.slice q f.rs.length cap2)
  d2 : V.cell? ⟨ob, 2, none⟩ = some (.int .i64 f.wm)
  on : ReadsOn V p f.rs
  own : ReadsOn V q f.rs
  below : Below w.heap.size w V
  ob : w.heap.size < ob ∧ ob < V.heap.size
theorem SayMid.keep {V V' w : World} {ob : Nat} {f : Fr} {p q : Option Addr} {cap cap2 : Nat} (h : SayMid V w ob f p cap q cap2) (hb : Below V.heap.size V V') : SayMid V' w ob f p cap q cap2 := by
  have h1 := h.ob
  have h2 := hb.size
  exact {
    c0 := keepCell hb (by show w.heap.size < _; omega) h.c0
    c1 := keepCell hb (by show w.heap.size < _; omega) h.c1
    c2 := keepCell hb (by show w.heap.size < _; omega) h.c2
    d0 := keepCell hb (by show ob < _; omega) h.d0
    d1 := keepCell hb (by show ob < _; omega) h.d1
    d2 := keepCell hb (by show ob < _; omega) h.d2
    on := h.on.below hb (Nat.le_refl _)
    own := h.own.below hb (Nat.le_refl _)
    below := h.below.trans (hb.mono (by omega))
    ob := ⟨h1.1, by omega⟩ }
theorem far_block {x g b o : Nat} (h : x + 1 ≤ g) (hp : some (⟨g, 0, none⟩ : Addr) = some ⟨b, o, none⟩) : b ≠ x := by
  have hq : g = b ∧ 0 = o := by simpa using hp
  omega
theorem one_frame {V : World} {f : Fr} {p : Option Addr} {cap : Nat} (h : ReadsOn V p f.rs) : FramesOn (V.alloc (.cells #[.int .i64 f.ty, .slice p f.rs.length cap, .int .i64 f.wm] 24)) (some ⟨V.heap.size, 0, none⟩) [f] := by
  refine ⟨fun _ => ⟨V.heap.size, 0, rfl, by simp, fun k g hg => ?_⟩⟩
  match k, hg with
  | 0, hg =>
    simp at hg
    subst hg
    exact ⟨p, cap, by go_simp, by go_simp, by go_simp, h.alloc _⟩
  | k + 1, hg => simp at hg
theorem ReadsOn.front {V : World} {p : Option Addr} {xs ys : List Rd} (h : ReadsOn V p (xs ++ ys)) : ReadsOn V p xs where
  tags := fun r hr => h.tags r (List.mem_append_left _ hr)
  at_ := fun hne => by
    obtain ⟨b, o, rfl, hlt, hc⟩ := h.at_ (by intro e; exact hne (List.append_eq_nil_iff.1 e).1)
    refine ⟨b, o, rfl, hlt, fun k r hk => hc k r ?_⟩
    have hl : k < xs.length := by
      rcases Nat.lt_or_ge k xs.length with h | h
      · exact h
      · rw [List.getElem?_eq_none h] at hk; cases hk
    rw [List.getElem?_append_left hl]
    exact hk
set_option maxHeartbeats 8000000 in
theorem says_few (f : Fr) (p : Option Addr) (cap : Nat) (w : World) (hr : ReadsOn w p f.rs) (hl : f.rs.length ≤ 10) (hne : f.rs ≠ []) :
    Calls Try.prog 3 #[.agg #[.int .i64 f.ty, .slice p f.rs.length cap, .int .i64 f.wm]] w fun e w' => e = .returned (.bool true) ∧ Below w.heap.size w w' := by
  obtain ⟨i0, hi, hz0, hz1, hz2⟩ := info_parts info27
  obtain ⟨b, o, rfl, hb, hc⟩ := hr.at_ hne
  obtain ⟨n, hn⟩ : ∃ n, n = f.rs.length := ⟨_, rfl⟩
  have HN : Hid (n = f.rs.length) := hn
  have hnp : 0 < n := by rw [hn]; exact List.length_pos_iff.2 hne
  have HR : Hid (ReadsOn w (some ⟨b, o, none⟩) f.rs) := hr
  have HC : Hid (∀ k r, f.rs[k]? = some r → RdAt w b (o + k * 4) r) := hc
  rw [← hn] at hl ⊢
  have hI : decide ((10 : Int) < n) = false := by simp; omega
  have HLEN : Hid ((f.rs.flatMap rdCells).length = n * 4) := by show _ = _; rw [flat_len, HN.out]
  have HML : Hid (0 + n ≤ maxLen) := by show _ ≤ _; unfold maxLen; omega
  have HBY : Hid ((0 + n) * 40 ≤ 140737488355328) := by show _ ≤ _; omega
  clear hr hc hn hne
  go_enter Try.func3, Try.ntmps3
  go_wp2_with fail
  refine (frames_any _).mono ?_
  rintro e w1 ⟨rfl, hb1⟩
  have c0 : w1.cell? ⟨w.heap.size, 0, none⟩ = some (.int .i64 f.ty) := keepCell hb1 (by simp) (by go_simp)
  have c1 : w1.cell? ⟨w.heap.size, 1, none⟩ = some (.slice (some ⟨b, o, none⟩) n cap) := keepCell hb1 (by simp) (by go_simp)
  have c2 : w1.cell? ⟨w.heap.size, 2, none⟩ = some (.int .i64 f.wm) := keepCell hb1 (by simp) (by go_simp)
  have HB : Hid (Below w.heap.size w w1) := ((Below.refl _ w).alloc (Nat.le_refl _) _).trans (hb1.mono (by simp))
  have hw1 : w.heap.size < w1.heap.size := by have := hb1.size; simp at this; omega
  have HR1 : Hid (ReadsOn w1 (some ⟨b, o, none⟩) f.rs) := (HR.out.alloc _).below hb1 (Nat.le_refl _)
  have HC1 : Hid (∀ k r, f.rs[k]? = some r → RdAt w1 b (o + k * 4) r) := fun k r hk => (HC.out k r hk).keep ((hb1.block b (by simp; omega)).trans (Below.heap_alloc _ _ _ hb))
  clear hb1
  go_upto_region 5 with fail
  obtain ⟨W, hW⟩ : ∃ W, W = w1.alloc (.cells #[.int .i64 f.ty, .slice (some ⟨b, o, none⟩) n cap, .int .i64 f.wm] 24) := ⟨_, rfl⟩
  rw [← hW]
  have hWb : Below w1.heap.size w1 W := by rw [hW]; exact (Below.refl _ _).alloc (Nat.le_refl _) _
  have hWs : W.heap.size = w1.heap.size + 1 := by rw [hW]; simp
  have HWE : Hid (W = w1.alloc (.cells #[.int .i64 f.ty, .slice (some ⟨b, o, none⟩) n cap, .int .i64 f.wm] 24)) := hW
  have HWB : Hid (Below w1.heap.size w1 W) := hWb
  have HNEWS : Hid (∀ V : World, Below w1.heap.size w1 V → ∀ j u, (f.rs.flatMap rdCells)[j]? = some u → V.cell? ((⟨b, o, none⟩ : Addr).add j) = some u) := fun V hV => readsCells fun k r hk => (HC1.out k r hk).keep (hV.block b (by omega))
  have hS0 : W.drew.cell? ⟨w.heap.size, 1, none⟩ = some (.slice (some ⟨b, o, none⟩) n cap) := keepCell hWb.drew hw1 c1
  clear hW hWb
  refine wp_region_held_drew (S := fun V => V.cell? ⟨w.heap.size, 1, none⟩ = some (.slice (some ⟨b, o, none⟩) n cap)) (by kernel_rfl) hS0 (fun _ => ?_)
  refine wpAnyH_take (i := 0) (v := .pointer (some ⟨w.heap.size, 1, none⟩)) rfl (by kernel_rfl) (by kernel_rfl) (by kernel_rfl) (fun _ _ _ h => h) (Or.inl ⟨by rfl, fun wx _ => by go_simp⟩) hS0 ?_
  change wpAnyH _ _ _ _ _ _ _ (Act.put _ (some 19) _) _
  simp only [Act.put, List.setIfInBounds_toArray, List.set_cons_zero, List.set_cons_succ]
  refine wpAnyH_take (i := 1) (v := .slice (some ⟨b, o, none⟩) n cap) rfl (by kernel_rfl) (by kernel_rfl) (by kernel_rfl) (fun _ _ _ h => h) (Or.inl ⟨by rfl, fun wx hS => by (try dsimp only at hS); go_simp⟩) hS0 ?_
  change wpAnyH _ _ _ _ _ _ _ (Act.put _ (some 20) _) _
  simp only [Act.put, List.setIfInBounds_toArray, List.set_cons_zero, List.set_cons_succ]
  refine wpAnyH_take (i := 3) (v := .agg #[.int .i64 0, .int .i64 0, .int .i64 77, .string ⟨#[]⟩]) rfl (by kernel_rfl) (by kernel_rfl) (by kernel_rfl) (fun _ _ _ h => h) (Or.inl ⟨by rfl, fun wx _ => by go_simp⟩) hS0 ?_
  change wpAnyH _ _ _ _ _ _ _ (Act.put _ (some 22) _) _
  simp only [Act.put, List.setIfInBounds_toArray, List.set_cons_zero, List.set_cons_succ]
  refine wpAnyH_take (i := 6) (v := .pointer (some ⟨w.heap.size, 1, none⟩)) rfl (by kernel_rfl) (by kernel_rfl) (by kernel_rfl) (fun _ _ _ h => h) (Or.inl ⟨by rfl, fun wx _ => by go_simp⟩) hS0 ?_
  change wpAnyH _ _ _ _ _ _ _ (Act.put _ (some 25) _) _
  simp only [Act.put, List.setIfInBounds_toArray, List.set_cons_zero, List.set_cons_succ]
  refine wpAnyH_take (i := 7) (v := .slice (some ⟨b, o, none⟩) n cap) rfl (by kernel_rfl) (by kernel_rfl) (by kernel_rfl) (fun _ _ _ h => h) (Or.inl ⟨by rfl, fun wx hS => by (try dsimp only at hS); go_simp⟩) hS0 ?_
  change wpAnyH _ _ _ _ _ _ _ (Act.put _ (some 26) _) _
  simp only [Act.put, List.setIfInBounds_toArray, List.set_cons_zero, List.set_cons_succ]
  refine wpAnyH_take (i := 8) (v := .int .i64 n) rfl (by kernel_rfl) (by kernel_rfl) (by kernel_rfl) (fun _ _ _ h => h) (Or.inl ⟨by rfl, fun wx _ => by go_simp⟩) hS0 ?_
  change wpAnyH _ _ _ _ _ _ _ (Act.put _ (some 27) _) _
  simp only [Act.put, List.setIfInBounds_toArray, List.set_cons_zero, List.set_cons_succ]
  refine wpAnyH_ready (rs := [2, 4]) (by kernel_rfl) (by simp) ?_
  refine AllReadyH.cons rfl (fun K hK => ?_) (AllReadyH.cons rfl (fun K hK => ?_) AllReadyH.nil)
  · have HD : Hid (Below (w1.heap.size + 1) W W.drew) := (Below.refl _ _).drew
    have HD1 : Hid (Below w1.heap.size w1 W.drew) := HWB.out.drew
    have HDS : Hid (w1.heap.size + 1 ≤ W.drew.heap.size) := by show _ ≤ W.heap.size; omega
    refine step_append_lies _ (by rfl) (.const (.slice none 0 0)) (.tmp 20) 22 (by rfl) (w1.heap.size + 1) 27 i0 (.agg #[.int .i64 0, .int .i64 0, .int .i64 0, .string ⟨#[]⟩]) 4 40 Try.underlying22 hi hz0 hz1 hz2 rfl (by omega) (.slice none 0 0) 0 [] (by rfl) (World.ownsRow_nil _ _ _ _) ⟨b, o, none⟩ n cap (f.rs.flatMap rdCells) (by rfl) HLEN.out (HNEWS.out _ (HD1.out.mono (by omega))) (flat_one _) hnp HML.out HBY.out HDS.out _ rfl ?_
    intro g1 cap1 V1 hown1 hgrow1 hat1 hlt1
    have hv1 : Below (w1.heap.size + 1) W V1 := HD.out.grown hgrow1 HDS.out (fun k hk => by cases hk)
    have HV1 : Hid (Below (w1.heap.size + 1) W V1) := hv1
    have hS1 : V1.cell? ⟨w.heap.size, 1, none⟩ = some (.slice (some ⟨b, o, none⟩) n cap) := keepCell hv1 (by show w.heap.size < _; omega) hS0
    refine hK.out _ _ hS1 (fun _ => ?_)
    clear hK K
    change wpAnyH _ _ _ _ _ _ _ (Act.put _ (some 21) _) _
    simp only [Act.put, List.setIfInBounds_toArray, List.set_cons_zero, List.set_cons_succ]
    simp only [Nat.zero_add, List.nil_append] at hown1
    rw [Nat.zero_add]
    refine wpAnyH_ready (rs := [4]) (by kernel_rfl) (by simp) ?_
    refine AllReadyH.cons rfl (fun K hK => ?_) AllReadyH.nil
    go_simp
    have hS4 : ∀ x, (V1.alloc x).cell? ⟨w.heap.size, 1, none⟩ = some (.slice (some ⟨b, o, none⟩) n cap) := fun x => keepCell ((Below.refl _ V1).alloc (Nat.le_refl _) x) (by show w.heap.size < _; have := HV1.out.size; omega) hS1
    refine hK.out _ _ (hS4 _) (fun _ => ?_)
    clear hK K
    have HOW5 : Hid ((V1.alloc (.cells #[.int .i64 0, .int .i64 0, .int .i64 77, .string ⟨#[]⟩] 27)).ownsRow (w1.heap.size + 1) 27 4 (.slice (some ⟨g1, 0, none⟩) n cap1) n (f.rs.flatMap rdCells)) := hown1.alloc _
    have HD5 : Hid (Below (w1.heap.size + 1) W (V1.alloc (.cells #[.int .i64 0, .int .i64 0, .int .i64 77, .string ⟨#[]⟩] 27))) := HV1.out.alloc (by have := HV1.out.size; omega) _
    have HDS5 : Hid (w1.heap.size + 1 ≤ (V1.alloc (.cells #[.int .i64 0, .int .i64 0, .int .i64 77, .string ⟨#[]⟩] 27)).heap.size) := by show _ ≤ _; have := HV1.out.size; simp; omega
    have HC5 : Hid (∀ j u, (rdCells ⟨0, 0, 77, ⟨#[]⟩⟩)[j]? = some u → (V1.alloc (.cells #[.int .i64 0, .int .i64 0, .int .i64 77, .string ⟨#[]⟩] 27)).cell? ((⟨V1.heap.size, 0, none⟩ : Addr).add j) = some u) := by
      intro j u hj
      rw [addr_add]
      match j, hj with
      | 0, hj => simp [rdCells] at hj; subst hj; simp
      | 1, hj => simp [rdCells] at hj; subst hj; simp
      | 2, hj => simp [rdCells] at hj; subst hj; simp
      | 3, hj => simp [rdCells] at hj; subst hj; simp
    have HML5 : Hid (n + 1 ≤ maxLen) := by show _ ≤ _; unfold maxLen; omega
    have HBY5 : Hid ((n + 1) * 40 ≤ 140737488355328) := by show _ ≤ _; omega
    clear hown1 hgrow1 hat1 hlt1 hv1 hS4
    refine wpAnyH_ready (rs := [5]) (by kernel_rfl) (by simp) ?_
    refine AllReadyH.cons rfl (fun K hK => ?_) AllReadyH.nil
    refine step_append_lies _ (by rfl) (.tmp 21) (.tmp 23) 22 (by rfl) (w1.heap.size + 1) 27 i0 (.agg #[.int .i64 0, .int .i64 0, .int .i64 0, .string ⟨#[]⟩]) 4 40 Try.underlying22 hi hz0 hz1 hz2 rfl (by omega) (.slice (some ⟨g1, 0, none⟩) n cap1) n (f.rs.flatMap rdCells) (by rfl) HOW5.out ⟨V1.heap.size, 0, none⟩ 1 1 (rdCells ⟨0, 0, 77, ⟨#[]⟩⟩) (by rfl) rfl HC5.out (fun u hu => by simp [rdCells] at hu; rcases hu with rfl | rfl | rfl | rfl <;> rfl) (by omega) HML5.out HBY5.out HDS5.out _ rfl ?_
    intro g2 cap2 V2 hown2 hgrow2 hat2 hlt2
    have hv2 : Below (w1.heap.size + 1) W V2 := HD5.out.grown hgrow2 HDS5.out (fun k hk => (HOW5.out.lt k hk).1)
    have HV2' : Hid (Below (w1.heap.size + 1) W V2) := hv2
    have HV2 : Hid (Below w1.heap.size w1 V2) := HWB.out.trans (hv2.mono (by omega))
    have hS2 : V2.cell? ⟨w.heap.size, 1, none⟩ = some (.slice (some ⟨b, o, none⟩) n cap) := keepCell hv2 (by show w.heap.size < _; omega) hS0
    refine hK.out _ _ hS2 (fun _ => ?_)
    clear hK K
    change wpAnyH _ _ _ _ _ _ _ (Act.put _ (some 24) _) _
    simp only [Act.put, List.setIfInBounds_toArray, List.set_cons_zero, List.set_cons_succ]
    have hcap2 : n + 1 ≤ cap2 := by
      rcases hown2.2 with ⟨h, _⟩ | ⟨g, cp, cur, h, _, _, h2, _⟩
      · cases h
      · simp at h
        omega
    have hcap2I : (n : Int) ≤ cap2 := by omega
    have hg2 : w1.heap.size + 1 ≤ g2 := by
      obtain ⟨g, cp, h, h1, _⟩ := hown2.form (by omega)
      simp at h
      omega
    have HRO : Hid (ReadsOn V2 (some ⟨g2, 0, none⟩) f.rs) := by
      have hro : ReadsOwn V2 (w1.heap.size + 1) (.slice (some ⟨g2, 0, none⟩) (n + 1) cap2) (f.rs ++ [⟨0, 0, 77, ⟨#[]⟩⟩]) := ReadsOwn.snoc (by rw [← HN.out]; exact hown2) rfl
      obtain ⟨p', c', hv, hp⟩ := hro.on (fun r hr => by
        rcases List.mem_append.1 hr with h | h
        · exact HR1.out.tags r h
        · simp at h; subst h; show 0 ≤ maxLen; omega)
      simp at hv
      obtain ⟨rfl, _, _⟩ := hv
      exact hp.front
    have st1 : V2.cell? ⟨w1.heap.size, 1, none⟩ = some (.slice (some ⟨b, o, none⟩) n cap) := keepCell hv2 (by show w1.heap.size < w1.heap.size + 1; omega) (by rw [HWE.out]; go_simp)
    have st2 : V2.frozen? ⟨w1.heap.size, 1, none⟩ = false := keepFrozen hv2 (by show w1.heap.size < w1.heap.size + 1; omega) (by rw [HWE.out]; go_simp)
    clear hown2 hgrow2 hat2 hlt2 hv2
    refine wpAnyH_take (i := 9) (v := .slice (some ⟨g2, 0, none⟩) n cap2) rfl (by kernel_rfl) (by kernel_rfl) (by kernel_rfl) (fun _ _ _ h => h) (Or.inl ⟨by rfl, fun wx _ => by go_simp⟩) hS2 ?_
    change wpAnyH _ _ _ _ _ _ _ (Act.put _ (some 28) _) _
    simp only [Act.put, List.setIfInBounds_toArray, List.set_cons_zero, List.set_cons_succ]
    refine wpAnyH_take (i := 10) (v := .pointer (some ⟨w1.heap.size, 1, none⟩)) rfl (by kernel_rfl) (by kernel_rfl) (by kernel_rfl) (fun _ _ _ h => h) (Or.inl ⟨by rfl, fun wx _ => by go_simp⟩) hS2 ?_
    change wpAnyH _ _ _ _ _ _ _ (Act.put _ (some 29) _) _
    simp only [Act.put, List.setIfInBounds_toArray, List.set_cons_zero, List.set_cons_succ]
    refine wpAnyH_ready (rs := [11]) (by kernel_rfl) (by simp) ?_
    refine AllReadyH.cons rfl (fun K hK => ?_) AllReadyH.nil
    go_simp
    have hS3 : (V2.setCell ⟨w1.heap.size, 1, none⟩ (.slice (some ⟨g2, 0, none⟩) n cap2)).cell? ⟨w.heap.size, 1, none⟩ = some (.slice (some ⟨b, o, none⟩) n cap) := set_other hS2 (Or.inl (by show w.heap.size ≠ w1.heap.size; omega)) rfl rfl
    refine hK.out _ _ hS3 (fun _ => ?_)
    clear hK K
    refine wpAnyH_done (by kernel_rfl) ?_ _
    have hmid : SayMid (V2.setCell ⟨w1.heap.size, 1, none⟩ (.slice (some ⟨g2, 0, none⟩) n cap2)) w w1.heap.size f (some ⟨b, o, none⟩) cap (some ⟨g2, 0, none⟩) cap2 := by
      have hn := HN.out
      have hbs : Below w1.heap.size w1 (V2.setCell ⟨w1.heap.size, 1, none⟩ (.slice (some ⟨g2, 0, none⟩) n cap2)) := HV2.out.setCell (Nat.le_refl _) _
      have k0 : V2.cell? ⟨w1.heap.size, 0, none⟩ = some (.int .i64 f.ty) := keepCell HV2'.out (by show w1.heap.size < w1.heap.size + 1; omega) (by rw [HWE.out]; go_simp)
      have k1 : V2.cell? ⟨w1.heap.size, 1, none⟩ = some (.slice (some ⟨b, o, none⟩) n cap) := keepCell HV2'.out (by show w1.heap.size < w1.heap.size + 1; omega) (by rw [HWE.out]; go_simp)
      have k2 : V2.cell? ⟨w1.heap.size, 2, none⟩ = some (.int .i64 f.wm) := keepCell HV2'.out (by show w1.heap.size < w1.heap.size + 1; omega) (by rw [HWE.out]; go_simp)
      exact {
        c0 := keepCell hbs hw1 c0
        c1 := by rw [← hn]; exact keepCell hbs hw1 c1
        c2 := keepCell hbs hw1 c2
        d0 := set_other k0 (Or.inr (by simp)) rfl rfl
        d1 := by rw [← hn]; exact cell_set_here k1 rfl
        d2 := set_other k2 (Or.inr (by simp)) rfl rfl
        on := HR1.out.below hbs (Nat.le_refl _)
        own := HRO.out.move (by simp [World.setCell]) (fun b' o' hp _ => Below.heap_setCell _ _ _ _ (far_block hg2 hp))
        below := HB.out.trans (hbs.mono (Nat.le_of_lt hw1))
        ob := ⟨hw1, by have := HV2'.out.size; show w1.heap.size < (V2.heap.modify _ _).size; rw [Array.size_modify]; omega⟩ }
    have HFIN : Hid (SayMid (V2.setCell ⟨w1.heap.size, 1, none⟩ (.slice (some ⟨g2, 0, none⟩) n cap2)) w w1.heap.size f (some ⟨b, o, none⟩) cap (some ⟨g2, 0, none⟩) cap2) := hmid
    clear hmid hS2 hS3 st1 st2 hcap2 hcap2I HRO HV2 HV2' c0 c1 c2 hS0 hS1
    obtain rfl := HN.out
    generalize V2.setCell ⟨w1.heap.size, 1, none⟩ (.slice (some ⟨g2, 0, none⟩) f.rs.length cap2) = V3 at *
    obtain ⟨c0, c1, c2, d0, d1, d2, hon, how, hbw, hob⟩ := HFIN.out
    go_wp2_with fail
    refine (ff_any f (some ⟨b, o, none⟩) cap _ hon).mono ?_
    rintro e V4 ⟨rfl, hb4⟩
    have HF4 : Hid (SayMid V4 w w1.heap.size f (some ⟨b, o, none⟩) cap (some ⟨g2, 0, none⟩) cap2) := HFIN.out.keep hb4
    clear hb4 c0 c1 c2 d0 d1 d2 hon how hbw hob HFIN
    obtain ⟨c0, c1, c2, d0, d1, d2, hon, how, hbw, hob⟩ := HF4.out
    go_wp2_with fail
    refine (bytes_any f (some ⟨g2, 0, none⟩) cap2 _ how).mono ?_
    rintro e V5 ⟨rfl, hb5⟩
    have HF5 : Hid (SayMid V5 w w1.heap.size f (some ⟨b, o, none⟩) cap (some ⟨g2, 0, none⟩) cap2) := HF4.out.keep hb5
    clear hb5 c0 c1 c2 d0 d1 d2 hon how hbw hob HF4
    obtain ⟨c0, c1, c2, d0, d1, d2, hon, how, hbw, hob⟩ := HF5.out
    go_wp2_with fail
    refine (check_any f (some ⟨g2, 0, none⟩) cap2 _ how).mono ?_
    rintro e V6 ⟨rfl, hb6⟩
    have HF6 : Hid (SayMid V6 w w1.heap.size f (some ⟨b, o, none⟩) cap (some ⟨g2, 0, none⟩) cap2) := HF5.out.keep hb6
    clear hb6 c0 c1 c2 d0 d1 d2 hon how hbw hob HF5
    obtain ⟨c0, c1, c2, d0, d1, d2, hon, how, hbw, hob⟩ := HF6.out
    go_wp2_with fail
    refine (same_any (fault f) _).mono ?_
    rintro e V7 ⟨rfl, rfl⟩
    go_wp2_with fail
    refine (same_any (fault f) _).mono ?_
    rintro e V8 ⟨rfl, rfl⟩
    have e0 : ∀ x, (V8.alloc x).cell? ⟨w.heap.size, 0, none⟩ = some (.int .i64 f.ty) := fun x => (HF6.out.keep ((Below.refl _ V8).alloc (Nat.le_refl _) x)).c0
    have e1 : ∀ x, (V8.alloc x).cell? ⟨w.heap.size, 1, none⟩ = some (.slice (some ⟨b, o, none⟩) f.rs.length cap) := fun x => (HF6.out.keep ((Below.refl _ V8).alloc (Nat.le_refl _) x)).c1
    have e2 : ∀ x, (V8.alloc x).cell? ⟨w.heap.size, 2, none⟩ = some (.int .i64 f.wm) := fun x => (HF6.out.keep ((Below.refl _ V8).alloc (Nat.le_refl _) x)).c2
    have HON : Hid (ReadsOn V8 (some ⟨b, o, none⟩) f.rs) := hon
    have HOW : Hid (ReadsOn V8 (some ⟨g2, 0, none⟩) f.rs) := how
    clear hon how hbw
    go_wp2_with fail
    refine (sameFrames_any [f] (some ⟨V8.heap.size, 0, none⟩) (some ⟨V8.heap.size + 1, 0, none⟩) 1 1 _ (by simp) ?_ ?_ ?_).mono ?_
    · exact (one_frame HOW.out).below ((Below.refl _ _).alloc (Nat.le_refl _) _) (Nat.le_refl _)
    · have h := one_frame (cap := cap) (HON.out.alloc (.cells #[.int .i64 f.ty, .slice (some ⟨g2, 0, none⟩) f.rs.length cap2, .int .i64 f.wm] 24))
      simpa using h
    · intro g hg
      simp at hg
      subst hg
      omega
    rintro e V9 ⟨rfl, hb9⟩
    have HF9 : Hid (SayMid V9 w w1.heap.size f (some ⟨b, o, none⟩) cap (some ⟨g2, 0, none⟩) cap2) := ((HF6.out.keep ((Below.refl _ V8).alloc (Nat.le_refl _) _)).keep ((Below.refl _ _).alloc (Nat.le_refl _) _)).keep hb9
    clear hb9 c0 c1 c2 d0 d1 d2 hob HF6 e0 e1 e2 HON HOW
    obtain ⟨c0, c1, c2, d0, d1, d2, hon, how, hbw, hob⟩ := HF9.out
    have HBW : Hid (Below w.heap.size w V9) := hbw
    clear hbw
    by_cases hf : fault f = 0
    · have hbv : bytesV f = str (enc f) := by unfold bytesV; rw [if_pos hf]
      have hok : Hid (Ok f) := fault_zero.1 hf
      have q1 : ((str (enc f)).toList == (str (enc f)).toList) = true := by simp
      rw [hbv, hf]
      clear hbv hf
      go_wp2_with fail
      refine (fb_any f (some ⟨b, o, none⟩) cap _ hon hok.out).mono ?_
      rintro e V10 ⟨rfl, hb10⟩
      have HB10 : Hid (Below w.heap.size w V10) := HBW.out.trans (hb10.mono (by omega))
      clear hb10 c0 c1 c2 d0 d1 d2 hon how hob
      go_wp2
      go_ret
      exact ⟨rfl, HB10.out⟩
    · have hbv : bytesV f = ⟨#[]⟩ := by unfold bytesV; rw [if_neg hf]
      have hfp : decide ((0 : Int) < ((fault f : Nat) : Int)) = true := by simp; omega
      have hfq : decide (0 < fault f) = true := by simp; omega
      rw [hbv]
      clear hbv hf hon how hob
      go_wp2
      go_ret
      exact ⟨rfl, HBW.out⟩
  · have hS4 : (W.alloc (.cells #[.int .i64 0, .int .i64 0, .int .i64 77, .string ⟨#[]⟩] 27)).drew.cell? ⟨w.heap.size, 1, none⟩ = some (.slice (some ⟨b, o, none⟩) n cap) := keepCell ((Below.refl _ W).alloc (Nat.le_refl _) _).drew (by show w.heap.size < _; omega) hS0
    go_simp
    refine hK.out _ _ hS4 (fun _ => ?_)
    clear hK K
    have HD : Hid (Below (w1.heap.size + 1) W (W.alloc (.cells #[.int .i64 0, .int .i64 0, .int .i64 77, .string ⟨#[]⟩] 27)).drew) := ((Below.refl _ _).alloc (by omega) _).drew
    have HD1 : Hid (Below w1.heap.size w1 (W.alloc (.cells #[.int .i64 0, .int .i64 0, .int .i64 77, .string ⟨#[]⟩] 27)).drew) := (HWB.out.alloc (by omega) _).drew
    have HDS : Hid (w1.heap.size + 1 ≤ (W.alloc (.cells #[.int .i64 0, .int .i64 0, .int .i64 77, .string ⟨#[]⟩] 27)).drew.heap.size) := by show _ ≤ _; simp; omega
    refine wpAnyH_ready (rs := [2]) (by kernel_rfl) (by simp) ?_
    refine AllReadyH.cons rfl (fun K hK => ?_) AllReadyH.nil
    refine step_append_lies _ (by rfl) (.const (.slice none 0 0)) (.tmp 20) 22 (by rfl) (w1.heap.size + 1) 27 i0 (.agg #[.int .i64 0, .int .i64 0, .int .i64 0, .string ⟨#[]⟩]) 4 40 Try.underlying22 hi hz0 hz1 hz2 rfl (by omega) (.slice none 0 0) 0 [] (by rfl) (World.ownsRow_nil _ _ _ _) ⟨b, o, none⟩ n cap (f.rs.flatMap rdCells) (by rfl) HLEN.out (HNEWS.out _ (HD1.out.mono (by omega))) (flat_one _) hnp HML.out HBY.out HDS.out _ rfl ?_
    intro g1 cap1 V1 hown1 hgrow1 hat1 hlt1
    have hv1 : Below (w1.heap.size + 1) W V1 := HD.out.grown hgrow1 HDS.out (fun k hk => by cases hk)
    have HV1 : Hid (Below (w1.heap.size + 1) W V1) := hv1
    have hS1 : V1.cell? ⟨w.heap.size, 1, none⟩ = some (.slice (some ⟨b, o, none⟩) n cap) := keepCell hv1 (by show w.heap.size < _; omega) hS0
    refine hK.out _ _ hS1 (fun _ => ?_)
    clear hK K
    change wpAnyH _ _ _ _ _ _ _ (Act.put _ (some 21) _) _
    simp only [Act.put, List.setIfInBounds_toArray, List.set_cons_zero, List.set_cons_succ]
    simp only [Nat.zero_add, List.nil_append] at hown1
    rw [Nat.zero_add]
    have HOW5 : Hid (V1.ownsRow (w1.heap.size + 1) 27 4 (.slice (some ⟨g1, 0, none⟩) n cap1) n (f.rs.flatMap rdCells)) := hown1
    have HD5 : Hid (Below (w1.heap.size + 1) W V1) := HV1.out
    have HDS5 : Hid (w1.heap.size + 1 ≤ V1.heap.size) := by show _ ≤ _; have := HV1.out.size; omega
    have HC5 : Hid (∀ j u, (rdCells ⟨0, 0, 77, ⟨#[]⟩⟩)[j]? = some u → V1.cell? ((⟨w1.heap.size + 1, 0, none⟩ : Addr).add j) = some u) := by
      intro j u hj
      rw [addr_add, ← hWs]
      have hk : ∀ x, ((W.alloc (.cells #[.int .i64 0, .int .i64 0, .int .i64 77, .string ⟨#[]⟩] 27)).drew).cell? ⟨W.heap.size, j, none⟩ = some x → V1.cell? ⟨W.heap.size, j, none⟩ = some x := fun x hx => hgrow1.cell hx (by intro e; cases e)
      match j, hj with
      | 0, hj => simp [rdCells] at hj; subst hj; exact hk _ (by simp)
      | 1, hj => simp [rdCells] at hj; subst hj; exact hk _ (by simp)
      | 2, hj => simp [rdCells] at hj; subst hj; exact hk _ (by simp)
      | 3, hj => simp [rdCells] at hj; subst hj; exact hk _ (by simp)
    have HML5 : Hid (n + 1 ≤ maxLen) := by show _ ≤ _; unfold maxLen; omega
    have HBY5 : Hid ((n + 1) * 40 ≤ 140737488355328) := by show _ ≤ _; omega
    clear hown1 hgrow1 hat1 hlt1 hv1 hS4
    refine wpAnyH_ready (rs := [5]) (by kernel_rfl) (by simp) ?_
    refine AllReadyH.cons rfl (fun K hK => ?_) AllReadyH.nil
    refine step_append_lies _ (by rfl) (.tmp 21) (.tmp 23) 22 (by rfl) (w1.heap.size + 1) 27 i0 (.agg #[.int .i64 0, .int .i64 0, .int .i64 0, .string ⟨#[]⟩]) 4 40 Try.underlying22 hi hz0 hz1 hz2 rfl (by omega) (.slice (some ⟨g1, 0, none⟩) n cap1) n (f.rs.flatMap rdCells) (by rfl) HOW5.out ⟨w1.heap.size + 1, 0, none⟩ 1 1 (rdCells ⟨0, 0, 77, ⟨#[]⟩⟩) (by rfl) rfl HC5.out (fun u hu => by simp [rdCells] at hu; rcases hu with rfl | rfl | rfl | rfl <;> rfl) (by omega) HML5.out HBY5.out HDS5.out _ rfl ?_
    intro g2 cap2 V2 hown2 hgrow2 hat2 hlt2
    have hv2 : Below (w1.heap.size + 1) W V2 := HD5.out.grown hgrow2 HDS5.out (fun k hk => (HOW5.out.lt k hk).1)
    have HV2' : Hid (Below (w1.heap.size + 1) W V2) := hv2
    have HV2 : Hid (Below w1.heap.size w1 V2) := HWB.out.trans (hv2.mono (by omega))
    have hS2 : V2.cell? ⟨w.heap.size, 1, none⟩ = some (.slice (some ⟨b, o, none⟩) n cap) := keepCell hv2 (by show w.heap.size < _; omega) hS0
    refine hK.out _ _ hS2 (fun _ => ?_)
    clear hK K
    change wpAnyH _ _ _ _ _ _ _ (Act.put _ (some 24) _) _
    simp only [Act.put, List.setIfInBounds_toArray, List.set_cons_zero, List.set_cons_succ]
    have hcap2 : n + 1 ≤ cap2 := by
      rcases hown2.2 with ⟨h, _⟩ | ⟨g, cp, cur, h, _, _, h2, _⟩
      · cases h
      · simp at h
        omega
    have hcap2I : (n : Int) ≤ cap2 := by omega
    have hg2 : w1.heap.size + 1 ≤ g2 := by
      obtain ⟨g, cp, h, h1, _⟩ := hown2.form (by omega)
      simp at h
      omega
    have HRO : Hid (ReadsOn V2 (some ⟨g2, 0, none⟩) f.rs) := by
      have hro : ReadsOwn V2 (w1.heap.size + 1) (.slice (some ⟨g2, 0, none⟩) (n + 1) cap2) (f.rs ++ [⟨0, 0, 77, ⟨#[]⟩⟩]) := ReadsOwn.snoc (by rw [← HN.out]; exact hown2) rfl
      obtain ⟨p', c', hv, hp⟩ := hro.on (fun r hr => by
        rcases List.mem_append.1 hr with h | h
        · exact HR1.out.tags r h
        · simp at h; subst h; show 0 ≤ maxLen; omega)
      simp at hv
      obtain ⟨rfl, _, _⟩ := hv
      exact hp.front
    have st1 : V2.cell? ⟨w1.heap.size, 1, none⟩ = some (.slice (some ⟨b, o, none⟩) n cap) := keepCell hv2 (by show w1.heap.size < w1.heap.size + 1; omega) (by rw [HWE.out]; go_simp)
    have st2 : V2.frozen? ⟨w1.heap.size, 1, none⟩ = false := keepFrozen hv2 (by show w1.heap.size < w1.heap.size + 1; omega) (by rw [HWE.out]; go_simp)
    clear hown2 hgrow2 hat2 hlt2 hv2
    refine wpAnyH_take (i := 9) (v := .slice (some ⟨g2, 0, none⟩) n cap2) rfl (by kernel_rfl) (by kernel_rfl) (by kernel_rfl) (fun _ _ _ h => h) (Or.inl ⟨by rfl, fun wx _ => by go_simp⟩) hS2 ?_
    change wpAnyH _ _ _ _ _ _ _ (Act.put _ (some 28) _) _
    simp only [Act.put, List.setIfInBounds_toArray, List.set_cons_zero, List.set_cons_succ]
    refine wpAnyH_take (i := 10) (v := .pointer (some ⟨w1.heap.size, 1, none⟩)) rfl (by kernel_rfl) (by kernel_rfl) (by kernel_rfl) (fun _ _ _ h => h) (Or.inl ⟨by rfl, fun wx _ => by go_simp⟩) hS2 ?_
    change wpAnyH _ _ _ _ _ _ _ (Act.put _ (some 29) _) _
    simp only [Act.put, List.setIfInBounds_toArray, List.set_cons_zero, List.set_cons_succ]
    refine wpAnyH_ready (rs := [11]) (by kernel_rfl) (by simp) ?_
    refine AllReadyH.cons rfl (fun K hK => ?_) AllReadyH.nil
    go_simp
    have hS3 : (V2.setCell ⟨w1.heap.size, 1, none⟩ (.slice (some ⟨g2, 0, none⟩) n cap2)).cell? ⟨w.heap.size, 1, none⟩ = some (.slice (some ⟨b, o, none⟩) n cap) := set_other hS2 (Or.inl (by show w.heap.size ≠ w1.heap.size; omega)) rfl rfl
    refine hK.out _ _ hS3 (fun _ => ?_)
    clear hK K
    refine wpAnyH_done (by kernel_rfl) ?_ _
    have hmid : SayMid (V2.setCell ⟨w1.heap.size, 1, none⟩ (.slice (some ⟨g2, 0, none⟩) n cap2)) w w1.heap.size f (some ⟨b, o, none⟩) cap (some ⟨g2, 0, none⟩) cap2 := by
      have hn := HN.out
      have hbs : Below w1.heap.size w1 (V2.setCell ⟨w1.heap.size, 1, none⟩ (.slice (some ⟨g2, 0, none⟩) n cap2)) := HV2.out.setCell (Nat.le_refl _) _
      have k0 : V2.cell? ⟨w1.heap.size, 0, none⟩ = some (.int .i64 f.ty) := keepCell HV2'.out (by show w1.heap.size < w1.heap.size + 1; omega) (by rw [HWE.out]; go_simp)
      have k1 : V2.cell? ⟨w1.heap.size, 1, none⟩ = some (.slice (some ⟨b, o, none⟩) n cap) := keepCell HV2'.out (by show w1.heap.size < w1.heap.size + 1; omega) (by rw [HWE.out]; go_simp)
      have k2 : V2.cell? ⟨w1.heap.size, 2, none⟩ = some (.int .i64 f.wm) := keepCell HV2'.out (by show w1.heap.size < w1.heap.size + 1; omega) (by rw [HWE.out]; go_simp)
      exact {
        c0 := keepCell hbs hw1 c0
        c1 := by rw [← hn]; exact keepCell hbs hw1 c1
        c2 := keepCell hbs hw1 c2
        d0 := set_other k0 (Or.inr (by simp)) rfl rfl
        d1 := by rw [← hn]; exact cell_set_here k1 rfl
        d2 := set_other k2 (Or.inr (by simp)) rfl rfl
        on := HR1.out.below hbs (Nat.le_refl _)
        own := HRO.out.move (by simp [World.setCell]) (fun b' o' hp _ => Below.heap_setCell _ _ _ _ (far_block hg2 hp))
        below := HB.out.trans (hbs.mono (Nat.le_of_lt hw1))
        ob := ⟨hw1, by have := HV2'.out.size; show w1.heap.size < (V2.heap.modify _ _).size; rw [Array.size_modify]; omega⟩ }
    have HFIN : Hid (SayMid (V2.setCell ⟨w1.heap.size, 1, none⟩ (.slice (some ⟨g2, 0, none⟩) n cap2)) w w1.heap.size f (some ⟨b, o, none⟩) cap (some ⟨g2, 0, none⟩) cap2) := hmid
    clear hmid hS2 hS3 st1 st2 hcap2 hcap2I HRO HV2 HV2' c0 c1 c2 hS0 hS1
    obtain rfl := HN.out
    generalize V2.setCell ⟨w1.heap.size, 1, none⟩ (.slice (some ⟨g2, 0, none⟩) f.rs.length cap2) = V3 at *
    obtain ⟨c0, c1, c2, d0, d1, d2, hon, how, hbw, hob⟩ := HFIN.out
    go_wp2_with fail
    refine (ff_any f (some ⟨b, o, none⟩) cap _ hon).mono ?_
    rintro e V4 ⟨rfl, hb4⟩
    have HF4 : Hid (SayMid V4 w w1.heap.size f (some ⟨b, o, none⟩) cap (some ⟨g2, 0, none⟩) cap2) := HFIN.out.keep hb4
    clear hb4 c0 c1 c2 d0 d1 d2 hon how hbw hob HFIN
    obtain ⟨c0, c1, c2, d0, d1, d2, hon, how, hbw, hob⟩ := HF4.out
    go_wp2_with fail
    refine (bytes_any f (some ⟨g2, 0, none⟩) cap2 _ how).mono ?_
    rintro e V5 ⟨rfl, hb5⟩
    have HF5 : Hid (SayMid V5 w w1.heap.size f (some ⟨b, o, none⟩) cap (some ⟨g2, 0, none⟩) cap2) := HF4.out.keep hb5
    clear hb5 c0 c1 c2 d0 d1 d2 hon how hbw hob HF4
    obtain ⟨c0, c1, c2, d0, d1, d2, hon, how, hbw, hob⟩ := HF5.out
    go_wp2_with fail
    refine (check_any f (some ⟨g2, 0, none⟩) cap2 _ how).mono ?_
    rintro e V6 ⟨rfl, hb6⟩
    have HF6 : Hid (SayMid V6 w w1.heap.size f (some ⟨b, o, none⟩) cap (some ⟨g2, 0, none⟩) cap2) := HF5.out.keep hb6
    clear hb6 c0 c1 c2 d0 d1 d2 hon how hbw hob HF5
    obtain ⟨c0, c1, c2, d0, d1, d2, hon, how, hbw, hob⟩ := HF6.out
    go_wp2_with fail
    refine (same_any (fault f) _).mono ?_
    rintro e V7 ⟨rfl, rfl⟩
    go_wp2_with fail
    refine (same_any (fault f) _).mono ?_
    rintro e V8 ⟨rfl, rfl⟩
    have e0 : ∀ x, (V8.alloc x).cell? ⟨w.heap.size, 0, none⟩ = some (.int .i64 f.ty) := fun x => (HF6.out.keep ((Below.refl _ V8).alloc (Nat.le_refl _) x)).c0
    have e1 : ∀ x, (V8.alloc x).cell? ⟨w.heap.size, 1, none⟩ = some (.slice (some ⟨b, o, none⟩) f.rs.length cap) := fun x => (HF6.out.keep ((Below.refl _ V8).alloc (Nat.le_refl _) x)).c1
    have e2 : ∀ x, (V8.alloc x).cell? ⟨w.heap.size, 2, none⟩ = some (.int .i64 f.wm) := fun x => (HF6.out.keep ((Below.refl _ V8).alloc (Nat.le_refl _) x)).c2
    have HON : Hid (ReadsOn V8 (some ⟨b, o, none⟩) f.rs) := hon
    have HOW : Hid (ReadsOn V8 (some ⟨g2, 0, none⟩) f.rs) := how
    clear hon how hbw
    go_wp2_with fail
    refine (sameFrames_any [f] (some ⟨V8.heap.size, 0, none⟩) (some ⟨V8.heap.size + 1, 0, none⟩) 1 1 _ (by simp) ?_ ?_ ?_).mono ?_
    · exact (one_frame HOW.out).below ((Below.refl _ _).alloc (Nat.le_refl _) _) (Nat.le_refl _)
    · have h := one_frame (cap := cap) (HON.out.alloc (.cells #[.int .i64 f.ty, .slice (some ⟨g2, 0, none⟩) f.rs.length cap2, .int .i64 f.wm] 24))
      simpa using h
    · intro g hg
      simp at hg
      subst hg
      omega
    rintro e V9 ⟨rfl, hb9⟩
    have HF9 : Hid (SayMid V9 w w1.heap.size f (some ⟨b, o, none⟩) cap (some ⟨g2, 0, none⟩) cap2) := ((HF6.out.keep ((Below.refl _ V8).alloc (Nat.le_refl _) _)).keep ((Below.refl _ _).alloc (Nat.le_refl _) _)).keep hb9
    clear hb9 c0 c1 c2 d0 d1 d2 hob HF6 e0 e1 e2 HON HOW
    obtain ⟨c0, c1, c2, d0, d1, d2, hon, how, hbw, hob⟩ := HF9.out
    have HBW : Hid (Below w.heap.size w V9) := hbw
    clear hbw
    by_cases hf : fault f = 0
    · have hbv : bytesV f = str (enc f) := by unfold bytesV; rw [if_pos hf]
      have hok : Hid (Ok f) := fault_zero.1 hf
      have q1 : ((str (enc f)).toList == (str (enc f)).toList) = true := by simp
      rw [hbv, hf]
      clear hbv hf
      go_wp2_with fail
      refine (fb_any f (some ⟨b, o, none⟩) cap _ hon hok.out).mono ?_
      rintro e V10 ⟨rfl, hb10⟩
      have HB10 : Hid (Below w.heap.size w V10) := HBW.out.trans (hb10.mono (by omega))
      clear hb10 c0 c1 c2 d0 d1 d2 hon how hob
      go_wp2
      go_ret
      exact ⟨rfl, HB10.out⟩
    · have hbv : bytesV f = ⟨#[]⟩ := by unfold bytesV; rw [if_neg hf]
      have hfp : decide ((0 : Int) < ((fault f : Nat) : Int)) = true := by simp; omega
      have hfq : decide (0 < fault f) = true := by simp; omega
      rw [hbv]
      clear hbv hf hon how hob
      go_wp2
      go_ret
      exact ⟨rfl, HBW.out⟩
end Go.Proofs.Ytjdfllocngkjpaa.FrmA
