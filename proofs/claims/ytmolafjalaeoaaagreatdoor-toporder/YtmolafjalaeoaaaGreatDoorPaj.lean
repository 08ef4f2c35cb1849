/-
  What keep does to the world: a tag that is new. · What beats, best, count and Where do to the world.
-/
import Derived.Test.YtmolafjalaeoaaaGreatDoorPai
import Derived.Deep.OwnRows
namespace Go.Proofs.YtmolafjalaeoaaaGreatDoor.TkA
open Go.RowKit TkM TkW Go.Maps
set_option maxRecDepth 100000
section
variable {w : World} {tb : Nat} {who : Nat → Nat × ByteArray × Nat} {W need n r : Nat} {ep : Nat → List Sg}
theorem mid_a (x : Sg) {mb m : Nat} {D : DataW Value} {tr : ByteArray → Option Nat} {sp : ByteArray → Nat → Option Nat} {w4 V' : World} (d : TrIn w tb mb m D tr sp who W need n r ep) (hT : tr x.g = none) (h4 : ∀ b, b < w.heap.size → of who b → b ≠ mb → w4.heap[b]? = w.heap[b]?) (kp : Kp (of who) w w4) (hsz : w.heap.size + 2 ≤ w4.heap.size) (hbx : w4.heap[w.heap.size]? = some (.cells #[.int .i64 x.p, .int .i64 x.s, .int .i64 x.t, .string x.g] 43))
    (hm : w4.ownsMap Tryz.prog 9 heldV mb (m + 1) (D.put (.string x.g.data.toList) (.held (.map (some (w.heap.size + 1)))))) (hg : (w4.alloc (.map #[] 0)).grownBy V' (some (w.heap.size + 1))) (ho : V'.ownsMap Tryz.prog 3 heldV (w.heap.size + 1) (0 + 1) ((DataW.map []).put (.int .i64 (n : Int)) (.held (.map (some w4.heap.size))))) :
    Mid w V' x tb mb m (m + 1) (w.heap.size + 1) w4.heap.size 1 0 D (D.put (.string x.g.data.toList) (.held (.map (some (w.heap.size + 1))))) ((DataW.map []).put (.int .i64 (n : Int)) (.held (.map (some w4.heap.size)))) (.map []) tr sp who W need n r ep := by
  have hr := d.room
  have hmlt := d.mlt
  have hsp : ∀ e, sp x.g e = none := fun e => by
    cases h : sp x.g e with
    | none => rfl
    | some b =>
      have h1 := d.tolde x.g e
      rw [h] at h1
      have := (d.told x.g).2 ⟨e, h1.symm⟩
      rw [hT] at this
      cases this
  have hse : ∀ e, seenG x.g (ep e) = false := fun e => by rw [← d.tolde, hsp]; rfl
  have old : ∀ b, b < w4.heap.size → b ≠ w.heap.size + 1 → V'.heap[b]? = w4.heap[b]? := fun b h1 h2 => by
    rw [hg.block b (by simp; omega) (fun e => h2 (by simpa using e))]
    exact Below.heap_alloc w4 _ b h1
  refine ⟨d, Or.inr ⟨hT, by omega⟩, Or.inr ⟨hsp n, by omega⟩, by omega, map_keep hm (old mb (by omega) (by omega)), by omega, fun g zd => ?_, ho, by omega, fun e zd => ?_, ?_, Nat.zero_le _, fun p zd => ?_, ?_, ?_, fun b h1 h2 h3 h4' => ?_⟩
  · by_cases h : g = x.g
    · rw [if_pos h, h, Maps.atKey_put_same d.own.isMap (keyStr _)]
      rfl
    · rw [if_neg h, Maps.atKey_put_other (fun e => h (bytes_ext (by simpa using e))), d.key]
  · by_cases h : e = n
    · rw [if_pos h, h, Maps.atKey_put_same (World.ownsMap_made w4 Tryz.prog 3 heldV).isMap (keyInt n)]
      rfl
    · rw [if_neg h, Maps.atKey_put_other (fun e' => h (by simp at e'; omega)), hsp]
      rfl
  · refine map_keep (World.ownsMap_made w4 Tryz.prog 3 (plainElem Tryz.prog 2)) (hg.block _ (by simp) (fun e => ?_))
    simp at e
    omega
  · rw [spot_none (hse n)]
    rfl
  · rw [old _ (by omega) (by omega)]
    exact hbx
  · exact kp.then ((alloc_kp (fun b => b = w.heap.size + 1) w4 _).trans (grown_kp hg (fun k hk => by simpa using hk.symm))) (fun i hi h => by have h : i = w.heap.size + 1 := h; omega)
  · rw [old b (by omega) (by omega)]
    exact h4 b h1 h2 h3
set_option maxHeartbeats 2000000 in
theorem keep_a (x : Sg) {mb m : Nat} {D : DataW Value} {tr : ByteArray → Option Nat} {sp : ByteArray → Nat → Option Nat} (d : TrIn w tb mb m D tr sp who W need n r ep) (hx : okS x = true) (hg : x.g.size ≤ 100000) (hn : n ≤ 1000) (hr : r ≤ 100000) (hl : (ep n).length < 6000) (hT : tr x.g = none) :
    Calls Tryz.prog 108 #[.pointer (some ⟨tb, 0, none⟩), .agg #[.int .i64 x.p, .int .i64 x.s, .int .i64 x.t, .string x.g]] w fun e w' => e = .returned (.tuple #[]) ∧ ∃ who', TrAt w' tb who' W need n (r + 1) (ep1 ep n x) ∧ Kp (of who) w w' ∧ ∀ b, of who' b → of who b ∨ w.heap.size ≤ b := by
  have mixed : Tryz.prog.follows .mixedOrders = true := by kernel_rfl
  have hmm := @run_makeMap Tryz.prog
  have HX : Hid (okS x = true) := hx
  have HL : Hid ((ep n).length < 6000) := hl
  have HSB : Hid (∀ y, y ∈ ep n → 0 ≤ y.s ∧ y.s ≤ 255) := fun y hy => (okS_iff.1 (d.ok n y hy)).2
  obtain ⟨⟨xp0, xp1⟩, xs0, xs1⟩ := okS_iff.1 hx
  have hbq : ∀ q, Below w.heap.size w ((w.alloc (.cells #[.int .i64 x.p, .int .i64 x.s, .int .i64 x.t, .string x.g] 43)).drewN q) := fun q => ((Below.refl _ w).alloc (Nat.le_refl _) _).trans ((drewN_below _ q).mono (by simp))
  obtain ⟨xp, xs, xt, xg⟩ := x
  simp only at hT hg xp0 xp1 xs0 xs1 hbq ⊢
  have hd1 : ∀ q, TrIn ((w.alloc (.cells #[.int .i64 xp, .int .i64 xs, .int .i64 xt, .string xg] 43)).drewN q) tb mb m D tr sp who W need n r ep := fun q => d.below (hbq q)
  have hrun : ∀ q, (Instr.lookup 162 (.map (some mb)) (.string xg) false).run Tryz.prog ((w.alloc (.cells #[.int .i64 xp, .int .i64 xs, .int .i64 xt, .string xg] 43)).drewN q) = .ok (.map none) ((w.alloc (.cells #[.int .i64 xp, .int .i64 xs, .int .i64 xt, .string xg] 43)).drewN q) := fun q => held_run (hd1 q).own law9 Tryz.underlying162 zero125 (key9 (g := xg) (by unfold maxLen; omega)) (fun zd => by rw [d.key xg, hT])
  have hd0 : TrIn (w.alloc (.cells #[.int .i64 xp, .int .i64 xs, .int .i64 xt, .string xg] 43)) tb mb m D tr sp who W need n r ep := d.below ((Below.refl _ w).alloc (Nat.le_refl _) _)
  have c3 := hd0.c3
  have q1 := eqn125
  have HD : Hid (TrIn w tb mb m D tr sp who W need n r ep) := d
  clear hd1 hd0 hx hl d hbq
  go_enter Tryz.func108, Tryz.ntmps108
  go_wp2
  go_quiet (fail)
  go_wp2
  clear hrun c3 q1 hmm
  have hb1 : Below w.heap.size w ((((w.alloc (.cells #[.int .i64 xp, .int .i64 xs, .int .i64 xt, .string xg] 43)).drewN nq).alloc (.map #[] 0))) := (((Below.refl _ w).alloc (Nat.le_refl _) _).trans ((drewN_below _ nq).mono (by simp))).alloc (by show _ ≤ (w.alloc _).heap.size; simp) _
  have hd1 : TrIn ((((w.alloc (.cells #[.int .i64 xp, .int .i64 xs, .int .i64 xt, .string xg] 43)).drewN nq).alloc (.map #[] 0))) tb mb m D tr sp who W need n r ep := HD.out.below hb1
  have hbx : ((((w.alloc (.cells #[.int .i64 xp, .int .i64 xs, .int .i64 xt, .string xg] 43)).drewN nq).alloc (.map #[] 0))).heap[w.heap.size]? = some (.cells #[.int .i64 xp, .int .i64 xs, .int .i64 xt, .string xg] 43) := by
    rw [Below.heap_alloc _ _ _ (by show _ < (w.alloc _).heap.size; simp)]
    exact Go.heap_alloc_new w _
  have hT1 : ((((w.alloc (.cells #[.int .i64 xp, .int .i64 xs, .int .i64 xt, .string xg] 43)).drewN nq).alloc (.map #[] 0))).ownsMap Tryz.prog 3 heldV (w.heap.size + 1) 0 (.map []) := by
    have := World.ownsMap_made (((w.alloc (.cells #[.int .i64 xp, .int .i64 xs, .int .i64 xt, .string xg] 43))).drewN nq) Tryz.prog 3 heldV
    rw [show (((w.alloc (.cells #[.int .i64 xp, .int .i64 xs, .int .i64 xt, .string xg] 43))).drewN nq).heap.size = w.heap.size + 1 by show (w.alloc _).heap.size = _; simp] at this
    exact this
  have hsz1 : ((((w.alloc (.cells #[.int .i64 xp, .int .i64 xs, .int .i64 xt, .string xg] 43)).drewN nq).alloc (.map #[] 0))).heap.size = w.heap.size + 2 := by
    rw [World.size_alloc]
    show (w.alloc _).heap.size + 1 = _
    simp
  obtain ⟨V, hV⟩ : ∃ V, V = (((w.alloc (.cells #[.int .i64 xp, .int .i64 xs, .int .i64 xt, .string xg] 43)).drewN nq).alloc (.map #[] 0)) := ⟨_, rfl⟩
  rw [← hV] at hb1 hd1 hbx hT1 hsz1 ⊢
  clear hV
  have hS0 : V.drew.cell? ⟨tb, 3, none⟩ = some (.map (some mb)) ∧ V.drew.cell? ⟨w.heap.size, 3, none⟩ = some (.string xg) := ⟨hd1.c3, by show V.cell? _ = _; simp [World.cell?, hbx]⟩
  have HB1 : Hid (Below w.heap.size w V) := hb1
  have HD1 : Hid (TrIn V tb mb m D tr sp who W need n r ep) := hd1
  have HBX : Hid (V.heap[w.heap.size]? = some (.cells #[.int .i64 xp, .int .i64 xs, .int .i64 xt, .string xg] 43)) := hbx
  have HT1 : Hid (V.ownsMap Tryz.prog 3 heldV (w.heap.size + 1) 0 (.map [])) := hT1
  clear hb1 hd1 hbx hT1
  refine wp_region_held_drew (S := fun U => U.cell? ⟨tb, 3, none⟩ = some (.map (some mb)) ∧ U.cell? ⟨w.heap.size, 3, none⟩ = some (.string xg)) (by kernel_rfl) hS0 (fun _ => ?_)
  refine wpAnyH_take (i := 0) (v := .pointer (some ⟨tb, 0, none⟩)) rfl (by kernel_rfl) (by kernel_rfl) (by kernel_rfl) (fun _ _ _ h => h) (Or.inl ⟨by rfl, fun wx _ => by go_simp⟩) hS0 ?_
  change wpAnyH _ _ _ _ _ _ _ (Act.put _ (some 15) _) _
  simp only [Act.put, List.setIfInBounds_toArray, List.set_cons_zero, List.set_cons_succ]
  refine wpAnyH_take (i := 1) (v := .pointer (some ⟨tb, 0, none⟩)) rfl (by kernel_rfl) (by kernel_rfl) (by kernel_rfl) (fun _ _ _ h => h) (Or.inl ⟨by rfl, fun wx _ => by go_simp⟩) hS0 ?_
  change wpAnyH _ _ _ _ _ _ _ (Act.put _ (some 16) _) _
  simp only [Act.put, List.setIfInBounds_toArray, List.set_cons_zero, List.set_cons_succ]
  refine wpAnyH_take (i := 2) (v := .pointer (some ⟨tb, 3, none⟩)) rfl (by kernel_rfl) (by kernel_rfl) (by kernel_rfl) (fun _ _ _ h => h) (Or.inl ⟨by rfl, fun wx _ => by go_simp⟩) hS0 ?_
  change wpAnyH _ _ _ _ _ _ _ (Act.put _ (some 17) _) _
  simp only [Act.put, List.setIfInBounds_toArray, List.set_cons_zero, List.set_cons_succ]
  refine wpAnyH_take (i := 3) (v := .map (some mb)) rfl (by kernel_rfl) (by kernel_rfl) (by kernel_rfl) (fun _ _ _ h => h) (Or.inl ⟨by rfl, fun wx hS => by (try dsimp only at hS); obtain ⟨s1, s2⟩ := hS; go_simp⟩) hS0 ?_
  change wpAnyH _ _ _ _ _ _ _ (Act.put _ (some 18) _) _
  simp only [Act.put, List.setIfInBounds_toArray, List.set_cons_zero, List.set_cons_succ]
  refine wpAnyH_take (i := 4) (v := .pointer (some ⟨w.heap.size, 3, none⟩)) rfl (by kernel_rfl) (by kernel_rfl) (by kernel_rfl) (fun _ _ _ h => h) (Or.inl ⟨by rfl, fun wx _ => by go_simp⟩) hS0 ?_
  change wpAnyH _ _ _ _ _ _ _ (Act.put _ (some 19) _) _
  simp only [Act.put, List.setIfInBounds_toArray, List.set_cons_zero, List.set_cons_succ]
  refine wpAnyH_take (i := 5) (v := .string xg) rfl (by kernel_rfl) (by kernel_rfl) (by kernel_rfl) (fun _ _ _ h => h) (Or.inl ⟨by rfl, fun wx hS => by (try dsimp only at hS); obtain ⟨s1, s2⟩ := hS; go_simp⟩) hS0 ?_
  change wpAnyH _ _ _ _ _ _ _ (Act.put _ (some 20) _) _
  simp only [Act.put, List.setIfInBounds_toArray, List.set_cons_zero, List.set_cons_succ]
  refine wpAnyH_take (i := 7) (v := .map (some (w.heap.size + 1))) rfl (by kernel_rfl) (by kernel_rfl) (by kernel_rfl) (fun _ _ _ h => h) (Or.inl ⟨by rfl, fun wx _ => by go_simp⟩) hS0 ?_
  change wpAnyH _ _ _ _ _ _ _ (Act.put _ (some 22) _) _
  simp only [Act.put, List.setIfInBounds_toArray, List.set_cons_zero, List.set_cons_succ]
  refine wpAnyH_ready (rs := [6]) (by kernel_rfl) (by simp) ?_
  refine AllReadyH.cons rfl (fun K hK => ?_) AllReadyH.nil
  go_simp
  refine (clone_any xg _ hg).mono ?_
  rintro e w3 ⟨rfl, hb3⟩
  have hb3' : Below V.heap.size V w3 := (drewN_below V 1).trans hb3
  have hd3 : TrIn w3 tb mb m D tr sp who W need n r ep := HD1.out.below hb3'
  have hbx3 : w3.heap[w.heap.size]? = some (.cells #[.int .i64 xp, .int .i64 xs, .int .i64 xt, .string xg] 43) := by rw [hb3'.block _ (by omega)]; exact HBX.out
  have hS3 : w3.cell? ⟨tb, 3, none⟩ = some (.map (some mb)) ∧ w3.cell? ⟨w.heap.size, 3, none⟩ = some (.string xg) := ⟨hd3.c3, by simp [World.cell?, hbx3]⟩
  obtain ⟨w4, hrun4, hm4, hg4⟩ := hd3.own.update (val := .map (some (w.heap.size + 1))) (d := .held (.map (some (w.heap.size + 1)))) (ps := []) law9 Tryz.underlying162 (by have := hd3.room; unfold maxLen; omega) (key9 (g := xg) (by unfold maxLen; omega)) rfl
  have hmlt := HD.out.mlt
  have hS4 : w4.cell? ⟨tb, 3, none⟩ = some (.map (some mb)) ∧ w4.cell? ⟨w.heap.size, 3, none⟩ = some (.string xg) := ⟨hg4.cell hS3.1 (fun e => hd3.ne (by simpa using e.symm)), hg4.cell hS3.2 (fun e => by simp at e; omega)⟩
  have hsz3 := hb3'.size
  have hsz4 := hg4.size
  have HT4 : Hid (w4.ownsMap Tryz.prog 3 heldV (w.heap.size + 1) 0 (.map [])) := by
    refine map_keep HT1.out ?_
    rw [hg4.block _ (by omega) (fun e => by simp at e; omega), hb3'.block _ (by omega)]
  have HA : Hid (∀ V', (w4.alloc (.map #[] 0)).grownBy V' (some (w.heap.size + 1)) → V'.ownsMap Tryz.prog 3 heldV (w.heap.size + 1) (0 + 1) ((DataW.map []).put (.int .i64 (n : Int)) (.held (.map (some w4.heap.size)))) → Mid w V' ⟨xp, xs, xt, xg⟩ tb mb m (m + 1) (w.heap.size + 1) w4.heap.size 1 0 D (D.put (.string xg.data.toList) (.held (.map (some (w.heap.size + 1))))) ((DataW.map []).put (.int .i64 (n : Int)) (.held (.map (some w4.heap.size)))) (.map []) tr sp who W need n r ep) := by
    intro V' h1 h2
    refine mid_a ⟨xp, xs, xt, xg⟩ HD.out hT (fun b b1 _ b3 => ?_) ?_ (by omega) ?_ hm4 h1 h2
    · rw [hg4.block b (by omega) (fun e => b3 (by simpa using e)), hb3'.block b (by omega), HB1.out.block b b1]
    · exact ((below_kp HB1.out _).then (below_kp hb3' (of who)) (fun _ _ h => h)).trans (grown_kp hg4 (fun k hk => by simp at hk; rw [← hk]; exact HD.out.fm))
    · rw [hg4.block _ (by omega) (fun e => by simp at e; omega)]; exact hbx3
  have HC2 : Hid (w4.cell? ⟨tb, 2, none⟩ = some (.int .i64 (n : Int))) := hg4.cell hd3.c2 (fun e => hd3.ne (by simpa using e.symm))
  clear hd3 hbx3 hm4 hg4 hb3 hb3'
  refine hK.out _ _ hS3 (fun _ => ?_)
  clear hK K
  refine wpAnyH_ready (rs := [8]) (by kernel_rfl) (by simp) ?_
  refine AllReadyH.cons rfl (fun K hK => ?_) AllReadyH.nil
  go_simp
  clear hrun4
  refine hK.out _ _ hS4 (fun _ => ?_)
  clear hK K
  refine wpAnyH_done (by kernel_rfl) ?_ _
  have hrun2 : (Instr.lookup 192 (.map (some (w.heap.size + 1))) (.int .i64 (n : Int)) false).run Tryz.prog w4 = .ok (.map none) w4 := held_run HT4.out law3 Tryz.underlying192 zero142 (key3 (by omega) (by omega)) (fun zd => rfl)
  have q2 := eqn142
  have hmm := @run_makeMap Tryz.prog
  have c2 := HC2.out
  have hown5 : (w4.alloc (.map #[] 0)).ownsMap Tryz.prog 3 heldV (w.heap.size + 1) 0 (.map []) := HT4.out.alloc _
  clear HT1 HBX HD1 HB1 hS3 hS4 hS0 HT4 HC2
  go_wp2_with (first | (at_mapUpdate; refine wpList_mapUpdate_own _ rfl _ _ _ 192 rfl 3 235 law3 Tryz.underlying192 _ (w.heap.size + 1) 0 (.map []) rfl hown5 (by unfold maxLen; omega) _ _ _ rfl rfl (key3 (k := (n : Int)) (by omega) (by omega)) _ [] rfl ?_; intro V5 hown1 hgrow1))
  have hM := HA.out V5 hgrow1 hown1
  clear hown1 hgrow1 hrun2 q2 hmm c2 hown5 HA HD hsz1 hsz3 hsz4 hmlt
  obtain ⟨S, hSS⟩ : ∃ S, S = w4.heap.size := ⟨_, rfl⟩
  obtain ⟨T, hTT⟩ : ∃ T, T = w.heap.size + 1 := ⟨_, rfl⟩
  obtain ⟨DT', hDT⟩ : ∃ DT', DT' = (DataW.map [] : DataW Value).put (.int .i64 (n : Int)) (.held (.map (some w4.heap.size))) := ⟨_, rfl⟩
  obtain ⟨D', hD'⟩ : ∃ D', D' = D.put (.string xg.data.toList) (.held (.map (some (w.heap.size + 1)))) := ⟨_, rfl⟩
  rw [← hDT, ← hD', ← hSS, ← hTT] at hM
  simp only [← hTT]
  clear hDT hD' hTT hT
  have HM : Hid (Mid w V5 ⟨xp, xs, xt, xg⟩ tb mb m (m + 1) T S 1 0 D D' DT' (.map []) tr sp who W need n r ep) := hM
  have HS0 : Hid (∀ V, Mid w V ⟨xp, xs, xt, xg⟩ tb mb m (m + 1) T S 1 0 D D' DT' (.map []) tr sp who W need n r ep → V.drew.cell? ⟨tb, 2, none⟩ = some (.int .i64 (n : Int)) ∧ V.drew.cell? ⟨w.heap.size, 0, none⟩ = some (.int .i64 xp) ∧ V.drew.cell? ⟨w.heap.size, 1, none⟩ = some (.int .i64 xs) ∧ V.drew.ownsMap Tryz.prog 3 heldV T 1 DT') := fun V h => mid_cells h
  clear hM hSS
  have hs0 : V5.drew.cell? ⟨tb, 2, none⟩ = some (.int .i64 (n : Int)) ∧ V5.drew.cell? ⟨w.heap.size, 0, none⟩ = some (.int .i64 xp) ∧ V5.drew.cell? ⟨w.heap.size, 1, none⟩ = some (.int .i64 xs) ∧ V5.drew.ownsMap Tryz.prog 3 heldV T 1 DT' := HS0.out V5 HM.out
  have hS0 := hs0
  have HLT : Hid (∀ U : World, U.ownsMap Tryz.prog 3 heldV T 1 DT' → (Instr.lookup 192 (.map (some T)) (.int .i64 (n : Int)) false).run Tryz.prog U = .ok (.map (some S)) U) := fun U hU => held_run hU law3 Tryz.underlying192 zero142 (key3 (by omega) (by omega)) (fun zd => by rw [HM.out.htk, if_pos rfl])
  obtain ⟨c, hrunc, hatc, hwc⟩ := HM.out.hs.lookup_int law3 Tryz.underlying235 Tryz.underlying2 (zero2 V5) (key3 (k := xp) (by omega) (by omega))
  have HC : Hid (c = sumAt xg xp (ep n)) := by
    rw [HM.out.hsk] at hatc
    unfold spot at hatc
    cases hse : seenAt xg xp (ep n)
    · rw [hse] at hatc
      simp at hatc
      show c = _
      rw [sumAt_none hse]
      omega
    · rw [hse] at hatc
      simp at hatc
      exact hatc.symm
  have hcb := sumAt_bound xg xp (ep n) HSB.out
  rw [← HC.out] at hcb
  have hc0 : 0 ≤ c := hcb.1
  have hc1 : c ≤ 1530000 := by have := hcb.2; have := HL.out; omega
  have hrunc' : (Instr.lookup 235 (.map (some S)) (.int .i64 xp) false).run Tryz.prog V5.drew = .ok (.int .i64 c) V5.drew := by
    obtain ⟨c', hr', ha', _⟩ := (HM.out.hs.drew).lookup_int law3 Tryz.underlying235 Tryz.underlying2 (zero2 V5.drew) (key3 (k := xp) (by omega) (by omega))
    rw [hatc] at ha'
    simp at ha'
    rw [ha']; exact hr'
  obtain ⟨w6, hrun4, hm4, hg4⟩ := (HM.out.hs.drew).update (val := .int .i64 (c + xs)) (d := .lit (.int .i64 (c + xs))) (ps := []) law3 Tryz.underlying235 (by have := HM.out.hmS; unfold maxLen; omega) (key3 (k := xp) (by omega) (by omega)) (plainElem_int Tryz.underlying2 (WalkArith.wf_i64 (n := c + xs) (by omega)))
  have HR : Hid ((Instr.lookup 235 (.map (some S)) (.int .i64 xp) false).run Tryz.prog V5.drew = .ok (.int .i64 c) V5.drew) := hrunc'
  have HU : Hid ((Instr.mapUpdate 235 (.map (some S)) (.int .i64 xp) (.int .i64 (c + xs))).run Tryz.prog V5.drew = .ok () w6) := hrun4
  have HFIN : Hid (∃ who', TrAt w6 tb who' W need n (r + 1) (ep1 ep n ⟨xp, xs, xt, xg⟩) ∧ Kp (of who) w w6 ∧ ∀ b, of who' b → of who b ∨ w.heap.size ≤ b) := HM.out.drew.done (x := ⟨xp, xs, xt, xg⟩) HX.out HL.out hg4 HC.out hm4
  have HS6 : Hid (w6.cell? ⟨tb, 2, none⟩ = some (.int .i64 (n : Int)) ∧ w6.cell? ⟨w.heap.size, 0, none⟩ = some (.int .i64 xp) ∧ w6.cell? ⟨w.heap.size, 1, none⟩ = some (.int .i64 xs) ∧ w6.ownsMap Tryz.prog 3 heldV T 1 DT') := by
    obtain ⟨s1, s2, s3, s4⟩ := hs0
    have hne := HM.out.sne
    exact ⟨hg4.cell s1 (fun e => hne.2.1 (by simpa using e.symm)), hg4.cell s2 (fun e => hne.2.2 (by simpa using e.symm)), hg4.cell s3 (fun e => hne.2.2 (by simpa using e.symm)), s4.kept hg4 (fun e => HM.out.hTS (by simpa using e))⟩
  clear hrunc hatc hwc hcb hrunc' hrun4 hm4 hg4 hs0
  refine wp_region_held_drew (S := fun U => U.cell? ⟨tb, 2, none⟩ = some (.int .i64 (n : Int)) ∧ U.cell? ⟨w.heap.size, 0, none⟩ = some (.int .i64 xp) ∧ U.cell? ⟨w.heap.size, 1, none⟩ = some (.int .i64 xs) ∧ U.ownsMap Tryz.prog 3 heldV T 1 DT') (by kernel_rfl) hS0 (fun _ => ?_)
  refine wpAnyH_take (i := 0) (v := .map (some T)) rfl (by kernel_rfl) (by kernel_rfl) (by kernel_rfl) (fun _ _ _ h => h) (Or.inl ⟨by rfl, fun wx _ => by go_simp⟩) hS0 ?_
  change wpAnyH _ _ _ _ _ _ _ (Act.put _ (some 36) _) _
  simp only [Act.put, List.setIfInBounds_toArray, List.set_cons_zero, List.set_cons_succ]
  refine wpAnyH_take (i := 1) (v := .pointer (some ⟨tb, 0, none⟩)) rfl (by kernel_rfl) (by kernel_rfl) (by kernel_rfl) (fun _ _ _ h => h) (Or.inl ⟨by rfl, fun wx _ => by go_simp⟩) hS0 ?_
  change wpAnyH _ _ _ _ _ _ _ (Act.put _ (some 37) _) _
  simp only [Act.put, List.setIfInBounds_toArray, List.set_cons_zero, List.set_cons_succ]
  refine wpAnyH_take (i := 2) (v := .pointer (some ⟨tb, 0, none⟩)) rfl (by kernel_rfl) (by kernel_rfl) (by kernel_rfl) (fun _ _ _ h => h) (Or.inl ⟨by rfl, fun wx _ => by go_simp⟩) hS0 ?_
  change wpAnyH _ _ _ _ _ _ _ (Act.put _ (some 38) _) _
  simp only [Act.put, List.setIfInBounds_toArray, List.set_cons_zero, List.set_cons_succ]
  refine wpAnyH_take (i := 3) (v := .pointer (some ⟨tb, 2, none⟩)) rfl (by kernel_rfl) (by kernel_rfl) (by kernel_rfl) (fun _ _ _ h => h) (Or.inl ⟨by rfl, fun wx _ => by go_simp⟩) hS0 ?_
  change wpAnyH _ _ _ _ _ _ _ (Act.put _ (some 39) _) _
  simp only [Act.put, List.setIfInBounds_toArray, List.set_cons_zero, List.set_cons_succ]
  refine wpAnyH_take (i := 4) (v := .int .i64 (n : Int)) rfl (by kernel_rfl) (by kernel_rfl) (by kernel_rfl) (fun _ _ _ h => h) (Or.inl ⟨by rfl, fun wx hS => by (try dsimp only at hS); obtain ⟨s1, s2, s3, s4⟩ := hS; go_simp⟩) hS0 ?_
  change wpAnyH _ _ _ _ _ _ _ (Act.put _ (some 40) _) _
  simp only [Act.put, List.setIfInBounds_toArray, List.set_cons_zero, List.set_cons_succ]
  refine wpAnyH_take (i := 5) (v := .map (some S)) rfl (by kernel_rfl) (by kernel_rfl) (by kernel_rfl) (fun _ _ _ h => h) (Or.inl ⟨by rfl, fun wx hS => by (try dsimp only at hS); obtain ⟨s1, s2, s3, s4⟩ := hS; have hrun := HLT.out _ s4; go_simp⟩) hS0 ?_
  change wpAnyH _ _ _ _ _ _ _ (Act.put _ (some 41) _) _
  simp only [Act.put, List.setIfInBounds_toArray, List.set_cons_zero, List.set_cons_succ]
  refine wpAnyH_take (i := 6) (v := .pointer (some ⟨w.heap.size, 0, none⟩)) rfl (by kernel_rfl) (by kernel_rfl) (by kernel_rfl) (fun _ _ _ h => h) (Or.inl ⟨by rfl, fun wx _ => by go_simp⟩) hS0 ?_
  change wpAnyH _ _ _ _ _ _ _ (Act.put _ (some 42) _) _
  simp only [Act.put, List.setIfInBounds_toArray, List.set_cons_zero, List.set_cons_succ]
  refine wpAnyH_take (i := 7) (v := .int .i64 xp) rfl (by kernel_rfl) (by kernel_rfl) (by kernel_rfl) (fun _ _ _ h => h) (Or.inl ⟨by rfl, fun wx hS => by (try dsimp only at hS); obtain ⟨s1, s2, s3, s4⟩ := hS; go_simp⟩) hS0 ?_
  change wpAnyH _ _ _ _ _ _ _ (Act.put _ (some 43) _) _
  simp only [Act.put, List.setIfInBounds_toArray, List.set_cons_zero, List.set_cons_succ]
  refine wpAnyH_take (i := 9) (v := .pointer (some ⟨w.heap.size, 1, none⟩)) rfl (by kernel_rfl) (by kernel_rfl) (by kernel_rfl) (fun _ _ _ h => h) (Or.inl ⟨by rfl, fun wx _ => by go_simp⟩) hS0 ?_
  change wpAnyH _ _ _ _ _ _ _ (Act.put _ (some 45) _) _
  simp only [Act.put, List.setIfInBounds_toArray, List.set_cons_zero, List.set_cons_succ]
  refine wpAnyH_take (i := 10) (v := .int .i64 xs) rfl (by kernel_rfl) (by kernel_rfl) (by kernel_rfl) (fun _ _ _ h => h) (Or.inl ⟨by rfl, fun wx hS => by (try dsimp only at hS); obtain ⟨s1, s2, s3, s4⟩ := hS; go_simp⟩) hS0 ?_
  change wpAnyH _ _ _ _ _ _ _ (Act.put _ (some 46) _) _
  simp only [Act.put, List.setIfInBounds_toArray, List.set_cons_zero, List.set_cons_succ]
  refine wpAnyH_ready (rs := [8]) (by kernel_rfl) (by simp) ?_
  refine AllReadyH.cons rfl (fun K hK => ?_) AllReadyH.nil
  have hrun := HR.out
  go_simp
  clear hrun
  refine hK.out _ _ hS0 (fun _ => ?_)
  clear hK K
  refine wpAnyH_take (i := 11) (v := .int .i64 (c + xs)) rfl (by kernel_rfl) (by kernel_rfl) (by kernel_rfl) (fun _ _ _ h => h) (Or.inl ⟨by rfl, fun wx _ => by go_simp; exact IntWalk.i64_in _ (by omega)⟩) hS0 ?_
  change wpAnyH _ _ _ _ _ _ _ (Act.put _ (some 47) _) _
  simp only [Act.put, List.setIfInBounds_toArray, List.set_cons_zero, List.set_cons_succ]
  refine wpAnyH_ready (rs := [12]) (by kernel_rfl) (by simp) ?_
  refine AllReadyH.cons rfl (fun K hK => ?_) AllReadyH.nil
  have hrun := HU.out
  go_simp
  clear hrun
  refine hK.out _ _ HS6.out (fun _ => ?_)
  clear hK K
  refine wpAnyH_done (by kernel_rfl) ?_ _
  clear HS6 HU HR HM
  go_wp2
  go_end0
  exact ⟨rfl, HFIN.out⟩
theorem keep_any (x : Sg) (d : TrAt w tb who W need n r ep) (hx : okS x = true) (hg : x.g.size ≤ 100000) (hn : n ≤ 1000) (hr : r ≤ 100000) (hl : (ep n).length < 6000) :
    Calls Tryz.prog 108 #[.pointer (some ⟨tb, 0, none⟩), .agg #[.int .i64 x.p, .int .i64 x.s, .int .i64 x.t, .string x.g]] w fun e w' => e = .returned (.tuple #[]) ∧ ∃ who', TrAt w' tb who' W need n (r + 1) (ep1 ep n x) ∧ Kp (of who) w w' ∧ ∀ b, of who' b → of who b ∨ w.heap.size ≤ b := by
  obtain ⟨mb, m, D, tr, sp, d⟩ := d.out
  cases hT : tr x.g with
  | none => exact keep_a x d hx hg hn hr hl hT
  | some T =>
    cases hS : sp x.g n with
    | none => exact keep_b x d hx hg hn hr hl hT hS
    | some S => exact keep_c x d hx hg hn hr hl hT hS
end
end Go.Proofs.YtmolafjalaeoaaaGreatDoor.TkA
namespace Go.Proofs.YtmolafjalaeoaaaGreatDoor.TkA
open Go.RowKit TkM TkW Go.Maps
set_option maxRecDepth 100000
set_option maxHeartbeats 400000 in
theorem beats_any (c c' : Nat) (s s' : Int) (w : World) :
    Calls Tryz.prog 130 #[.agg #[.int .i64 (c : Int), .int .i64 s], .agg #[.int .i64 (c' : Int), .int .i64 s']] w fun e w' => e = .returned (.bool (beats c s c' s')) ∧ Below w.heap.size w w' := by
  have hb : ∀ o o' : Obj, Below w.heap.size w ((w.alloc o).alloc o') := fun o o' => ((Below.refl _ w).alloc (Nat.le_refl _) o).alloc (by simp) o'
  have HB : Hid (∀ o o' : Obj, Below w.heap.size w ((w.alloc o).alloc o')) := hb
  clear hb
  unfold beats
  by_cases h : c = c'
  · subst h
    rw [if_pos rfl]
    have he : (!((c : Int) == (c : Int))) = false := by simp
    go_enter Tryz.func130, Tryz.ntmps130
    go_wp2
    go_ret
    exact ⟨rfl, HB.out _ _⟩
  · rw [if_neg h]
    have he : (!((c : Int) == (c' : Int))) = true := by simp; omega
    go_enter Tryz.func130, Tryz.ntmps130
    go_wp2
    go_ret
    exact ⟨rfl, HB.out _ _⟩
end Go.Proofs.YtmolafjalaeoaaaGreatDoor.TkA
