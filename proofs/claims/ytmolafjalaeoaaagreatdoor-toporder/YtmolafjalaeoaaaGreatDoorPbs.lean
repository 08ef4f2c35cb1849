/-
  Whose bytes come first is one, as long as no more tags are read than a watch may know. · Whose bytes come first is one: acts. · Acts in another order within a tick: what a watch tells is the same.
-/
import Derived.Test.YtmolafjalaeoaaaGreatDoorPar
import Derived.Test.YtmolafjalaeoaaaGreatDoorPbk
import Derived.Test.YtmolafjalaeoaaaGreatDoorPbm
namespace Go.Proofs.YtmolafjalaeoaaaGreatDoor.WbO
open WaM
open TkM (Sg epOf)
set_option maxRecDepth 100000
/-- Two states that differ by the order of sights alone. -/
structure Eqv (s t : St) : Prop where
  rest : s.rest = t.rest
  lost : s.lost = t.lost
  warm : s.warm = t.warm
  now : s.now = t.now
  bad : s.bad = t.bad
  nowh : s.nowh = t.nowh
  late : s.late = t.late
  full : s.full = t.full
  all : s.all.Perm t.all
theorem Eqv.refl (s : St) : Eqv s s := ⟨rfl, rfl, rfl, rfl, rfl, rfl, rfl, rfl, List.Perm.refl _⟩
theorem Eqv.trans {a b c : St} (h : Eqv a b) (k : Eqv b c) : Eqv a c :=
  ⟨h.rest.trans k.rest, h.lost.trans k.lost, h.warm.trans k.warm, h.now.trans k.now, h.bad.trans k.bad, h.nowh.trans k.nowh, h.late.trans k.late, h.full.trans k.full, h.all.trans k.all⟩
/-- What becomes of a read, if there is room. -/
def sgN (c : Cf) (r now : Nat) (x : FrmM.Rd) : Sg := ⟨c.pl r x.a.toNat, x.s, (now : Int) - x.g, x.t⟩
def rk (c : Cf) (r now : Nat) (x : FrmM.Rd) : Nat := if InA.knd x.t = 0 then 0 else if c.pl r x.a.toNat = -1 then 1 else if EpM.addF c.len c.late now (sgN c r now x) ≠ 0 then 2 else 3
def bump (s : St) (k : Nat) (g : Sg) : St :=
  if k = 0 then { s with bad := s.bad + 1 } else if k = 1 then { s with nowh := s.nowh + 1 } else if k = 2 then { s with late := s.late + 1 } else { s with all := s.all ++ [g] }
def In (U : List ByteArray) (s : St) : Prop := ∀ y, y ∈ s.all → y.g ∈ U
theorem sub_len : ∀ {L U : List ByteArray}, L.Nodup → (∀ g, g ∈ L → g ∈ U) → L.length ≤ U.length
  | [], _, _, _ => Nat.zero_le _
  | g :: L, U, hn, hs => by
    have hg := hs g List.mem_cons_self
    obtain ⟨A, B, rfl⟩ := List.append_of_mem hg
    have hn' := List.nodup_cons.1 hn
    have ih := sub_len (L := L) (U := A ++ B) hn'.2 (fun x hx => by
      have h1 := hs x (List.mem_cons_of_mem _ hx)
      rcases List.mem_append.1 h1 with h2 | h2
      · exact List.mem_append_left _ h2
      · rcases List.mem_cons.1 h2 with h3 | h3
        · rw [h3] at hx; exact absurd hx hn'.1
        · exact List.mem_append_right _ h3)
    simp at ih ⊢
    omega
section
variable {c : Cf} {U : List ByteArray}
theorem read_bump (hU : U.length ≤ 12) {s : St} {r : Nat} {x : FrmM.Rd} (hx : InA.knd x.t ≠ 0 → x.t ∈ U) (hs : In U s) : s.read c r x = bump s (rk c r s.now x) (sgN c r s.now x) := by
  unfold St.read rk bump
  have e : sight c r s x = sgN c r s.now x := rfl
  rw [e]
  by_cases h0 : InA.knd x.t = 0
  · simp [h0]
  · rw [if_neg h0, if_neg h0]
    by_cases h1 : c.pl r x.a.toNat = -1
    · simp [h1]
    · rw [if_neg h1, if_neg h1]
      have hf : ¬ (hasT (kn s.all) x.t = false ∧ 12 ≤ (kn s.all).length) := by
        rintro ⟨h2, h3⟩
        have h4 : x.t ∉ kn s.all := hasT_not.1 h2
        have h5 : (x.t :: kn s.all).Nodup := List.nodup_cons.2 ⟨h4, kn_nodup _⟩
        have h6 := sub_len (U := U) h5 (fun g hg => by
          rcases List.mem_cons.1 hg with h7 | h7
          · rw [h7]; exact hx h0
          · obtain ⟨y, hy, rfl⟩ := (kn_mem _ _).1 h7
            exact hs y hy)
        simp at h6
        omega
      rw [if_neg hf]
      by_cases h2 : EpM.addF c.len c.late s.now (sgN c r s.now x) ≠ 0
      · simp [h2]
      · simp [h2]
theorem bump_now (s : St) (k : Nat) (g : Sg) : (bump s k g).now = s.now ∧ (bump s k g).rest = s.rest ∧ (bump s k g).lost = s.lost ∧ (bump s k g).warm = s.warm := by
  unfold bump
  repeat' split
  all_goals exact ⟨rfl, rfl, rfl, rfl⟩
theorem bump_in {s : St} {k : Nat} {g : Sg} (hs : In U s) (hg : 3 ≤ k → g.g ∈ U) : In U (bump s k g) := by
  unfold bump
  by_cases h0 : k = 0
  · rw [if_pos h0]; exact hs
  · rw [if_neg h0]
    by_cases h1 : k = 1
    · rw [if_pos h1]; exact hs
    · rw [if_neg h1]
      by_cases h2 : k = 2
      · rw [if_pos h2]; exact hs
      · rw [if_neg h2]
        intro y hy
        rcases List.mem_append.1 hy with h3 | h3
        · exact hs y h3
        · simp at h3; subst h3; exact hg (by omega)
theorem bump_eqv {s t : St} (h : Eqv s t) (k : Nat) (g : Sg) : Eqv (bump s k g) (bump t k g) := by
  unfold bump
  repeat' split
  · exact ⟨h.rest, h.lost, h.warm, h.now, by simp [h.bad], h.nowh, h.late, h.full, h.all⟩
  · exact ⟨h.rest, h.lost, h.warm, h.now, h.bad, by simp [h.nowh], h.late, h.full, h.all⟩
  · exact ⟨h.rest, h.lost, h.warm, h.now, h.bad, h.nowh, by simp [h.late], h.full, h.all⟩
  · exact ⟨h.rest, h.lost, h.warm, h.now, h.bad, h.nowh, h.late, h.full, h.all.append_right _⟩
theorem bump_swap (s : St) (k k' : Nat) (g g' : Sg) : Eqv (bump (bump s k g) k' g') (bump (bump s k' g') k g) := by
  unfold bump
  by_cases a0 : k = 0 <;> by_cases a1 : k = 1 <;> by_cases a2 : k = 2 <;> by_cases b0 : k' = 0 <;> by_cases b1 : k' = 1 <;> by_cases b2 : k' = 2 <;> simp only [a0, a1, a2, b0, b1, b2, if_true, if_false] <;> first | (exfalso; omega) | exact Eqv.refl _ | (refine ⟨rfl, rfl, rfl, rfl, rfl, rfl, rfl, rfl, ?_⟩; simp only [List.append_assoc]; exact List.Perm.append_left _ (List.Perm.swap _ _ []))
/-- Reads, one behind the other, if there is room. -/
def bumps (c : Cf) (r now : Nat) (l : List FrmM.Rd) (s : St) : St := l.foldl (fun s x => bump s (rk c r now x) (sgN c r now x)) s
theorem bumps_cons (c : Cf) (r now : Nat) (x : FrmM.Rd) (l : List FrmM.Rd) (s : St) : bumps c r now (x :: l) s = bumps c r now l (bump s (rk c r now x) (sgN c r now x)) := rfl
theorem bumps_append (c : Cf) (r now : Nat) (l m : List FrmM.Rd) (s : St) : bumps c r now (l ++ m) s = bumps c r now m (bumps c r now l s) := by unfold bumps; rw [List.foldl_append]
theorem bumps_now (r now : Nat) : ∀ (l : List FrmM.Rd) (s : St), (bumps c r now l s).now = s.now ∧ (bumps c r now l s).rest = s.rest ∧ (bumps c r now l s).lost = s.lost ∧ (bumps c r now l s).warm = s.warm
  | [], s => ⟨rfl, rfl, rfl, rfl⟩
  | x :: l, s => by
    obtain ⟨h1, h2, h3, h4⟩ := bumps_now r now l (bump s (rk c r now x) (sgN c r now x))
    obtain ⟨k1, k2, k3, k4⟩ := bump_now s (rk c r now x) (sgN c r now x)
    exact ⟨h1.trans k1, h2.trans k2, h3.trans k3, h4.trans k4⟩
def Good (U : List ByteArray) (l : List FrmM.Rd) : Prop := ∀ x, x ∈ l → InA.knd x.t ≠ 0 → x.t ∈ U
theorem rk_in {r now : Nat} {x : FrmM.Rd} (hx : InA.knd x.t ≠ 0 → x.t ∈ U) (h : 3 ≤ rk c r now x) : (sgN c r now x).g ∈ U := by
  refine hx (fun h0 => ?_)
  unfold rk at h
  rw [if_pos h0] at h
  omega
theorem bumps_in (r now : Nat) : ∀ (l : List FrmM.Rd) (s : St), Good U l → In U s → In U (bumps c r now l s)
  | [], _, _, h => h
  | x :: l, _, hg, h => bumps_in r now l _ (fun y hy => hg y (List.mem_cons_of_mem _ hy)) (bump_in h (fun h3 => rk_in (hg x List.mem_cons_self) h3))
theorem reads_bumps (hU : U.length ≤ 12) (r : Nat) : ∀ (l : List FrmM.Rd) (s : St), Good U l → In U s → l.foldl (St.read c r) s = bumps c r s.now l s
  | [], _, _, _ => rfl
  | x :: l, s, hg, h => by
    rw [List.foldl_cons, bumps_cons, read_bump hU (hg x List.mem_cons_self) h]
    have h1 := reads_bumps hU r l (bump s (rk c r s.now x) (sgN c r s.now x)) (fun y hy => hg y (List.mem_cons_of_mem _ hy)) (bump_in h (fun h3 => rk_in (hg x List.mem_cons_self) h3))
    rw [h1, (bump_now s _ _).1]
theorem bumps_eqv (r now : Nat) : ∀ (l : List FrmM.Rd) {s t : St}, Eqv s t → Eqv (bumps c r now l s) (bumps c r now l t)
  | [], _, _, h => h
  | _ :: l, _, _, h => bumps_eqv r now l (bump_eqv h _ _)
theorem bump_bumps (r now k : Nat) (g : Sg) : ∀ (l : List FrmM.Rd) (s : St), Eqv (bumps c r now l (bump s k g)) (bump (bumps c r now l s) k g)
  | [], s => Eqv.refl _
  | x :: l, s => by
    rw [bumps_cons, bumps_cons]
    exact (bumps_eqv r now l (bump_swap s k _ g _)).trans (bump_bumps r now k g l _)
theorem bumps_swap (r r' now now' : Nat) : ∀ (l l' : List FrmM.Rd) (s : St), Eqv (bumps c r' now' l' (bumps c r now l s)) (bumps c r now l (bumps c r' now' l' s))
  | [], _, s => Eqv.refl _
  | x :: l, l', s => by
    rw [bumps_cons, bumps_cons]
    refine (bumps_swap r r' now now' l l' _).trans (bumps_eqv r now l ?_)
    exact bump_bumps r' now' _ _ l' s
/-- How warm readers say that they are. -/
def heats (r : Nat) (fs : List FrmM.Fr) (s : St) : St := fs.foldl (St.heat r) s
theorem heat_bump (r : Nat) (s : St) (k : Nat) (g : Sg) (f : FrmM.Fr) : (bump s k g).heat r f = bump (s.heat r f) k g := by
  unfold St.heat bump
  repeat' split
  all_goals rfl
theorem heat_bumps (r r' now : Nat) (f : FrmM.Fr) : ∀ (l : List FrmM.Rd) (s : St), (bumps c r' now l s).heat r f = bumps c r' now l (s.heat r f)
  | [], _ => rfl
  | x :: l, s => by rw [bumps_cons, bumps_cons, heat_bumps r r' now f l, heat_bump]
theorem heats_bumps (r r' now : Nat) (l : List FrmM.Rd) : ∀ (fs : List FrmM.Fr) (s : St), heats r fs (bumps c r' now l s) = bumps c r' now l (heats r fs s)
  | [], _ => rfl
  | f :: fs, s => by
    show heats r fs ((bumps c r' now l s).heat r f) = bumps c r' now l (heats r fs (s.heat r f))
    rw [heat_bumps, heats_bumps r r' now l fs]
theorem heat_now (r : Nat) (s : St) (f : FrmM.Fr) : (s.heat r f).now = s.now ∧ (s.heat r f).rest = s.rest ∧ (s.heat r f).lost = s.lost ∧ (s.heat r f).all = s.all := by
  unfold St.heat
  split <;> exact ⟨rfl, rfl, rfl, rfl⟩
theorem heats_now (r : Nat) : ∀ (fs : List FrmM.Fr) (s : St), (heats r fs s).now = s.now ∧ (heats r fs s).rest = s.rest ∧ (heats r fs s).lost = s.lost ∧ (heats r fs s).all = s.all
  | [], s => ⟨rfl, rfl, rfl, rfl⟩
  | f :: fs, s => by
    obtain ⟨h1, h2, h3, h4⟩ := heats_now r fs (s.heat r f)
    obtain ⟨k1, k2, k3, k4⟩ := heat_now r s f
    exact ⟨h1.trans k1, h2.trans k2, h3.trans k3, h4.trans k4⟩
theorem hears_bumps (hU : U.length ≤ 12) (r : Nat) : ∀ (fs : List FrmM.Fr) (s : St), Good U (fs.flatMap (·.rs)) → In U s → fs.foldl (St.hear c r) s = bumps c r s.now (fs.flatMap (·.rs)) (heats r fs s)
  | [], _, _, _ => rfl
  | f :: fs, s, hg, h => by
    have hg1 : Good U f.rs := fun x hx => hg x (by rw [List.flatMap_cons]; exact List.mem_append_left _ hx)
    have hg2 : Good U (fs.flatMap (·.rs)) := fun x hx => hg x (by rw [List.flatMap_cons]; exact List.mem_append_right _ hx)
    obtain ⟨k1, _, _, k4⟩ := heat_now r s f
    have hin : In U (s.heat r f) := fun y hy => h y (by rw [← k4]; exact hy)
    have e1 : s.hear c r f = bumps c r s.now f.rs (s.heat r f) := by
      unfold St.hear
      rw [reads_bumps hU r f.rs _ hg1 hin, k1]
    rw [List.foldl_cons, e1, hears_bumps hU r fs _ hg2 (bumps_in r _ _ _ hg1 hin), (bumps_now r _ _ _).1, k1, List.flatMap_cons, bumps_append, heats_bumps]
    rfl
/-- The frames that bytes make. -/
def frs (s : St) (r : Nat) (b : List UInt8) : List FrmM.Fr := (FrmM.feed (s.rest r ++ b)).1
def rds (s : St) (r : Nat) (b : List UInt8) : List FrmM.Rd := (frs s r b).flatMap (·.rs)
def pre (s : St) (r : Nat) (b : List UInt8) : St := heats r (frs s r b) (s.line r (FrmM.feed (s.rest r ++ b)).2.2 (s.lost r + (FrmM.feed (s.rest r ++ b)).2.1))
theorem pre_in {s : St} (r : Nat) (b : List UInt8) (h : In U s) : In U (pre s r b) := fun y hy => h y (by
  unfold pre at hy
  rw [(heats_now r _ _).2.2.2] at hy
  exact hy)
theorem feed_bumps (hU : U.length ≤ 12) {s : St} {r : Nat} {b : List UInt8} (hg : Good U (rds s r b)) (h : In U s) : s.feed c r b = bumps c r s.now (rds s r b) (pre s r b) := by
  have h1 := hears_bumps (c := c) hU r (frs s r b) (s.line r (FrmM.feed (s.rest r ++ b)).2.2 (s.lost r + (FrmM.feed (s.rest r ++ b)).2.1)) hg h
  exact h1
theorem feed_in (hU : U.length ≤ 12) {s : St} {r : Nat} {b : List UInt8} (hg : Good U (rds s r b)) (h : In U s) : In U (s.feed c r b) := by
  rw [feed_bumps hU hg h]
  exact bumps_in r _ _ _ hg (pre_in r b h)
theorem line_bump (r : Nat) (s : St) (k : Nat) (g : Sg) (R : List UInt8) (n : Nat) : (bump s k g).line r R n = bump (s.line r R n) k g := by
  unfold St.line bump
  repeat' split
  all_goals rfl
theorem line_bumps (r r' now : Nat) (R : List UInt8) (n : Nat) : ∀ (l : List FrmM.Rd) (s : St), (bumps c r' now l s).line r R n = bumps c r' now l (s.line r R n)
  | [], _ => rfl
  | x :: l, s => by rw [bumps_cons, bumps_cons, line_bumps r r' now R n l, line_bump]
theorem heats_line (r r' : Nat) (R : List UInt8) (n : Nat) : ∀ (fs : List FrmM.Fr) (s : St), (heats r fs s).line r' R n = heats r fs (s.line r' R n)
  | [], _ => rfl
  | f :: fs, s => by
    show (heats r fs (s.heat r f)).line r' R n = heats r fs ((s.line r' R n).heat r f)
    rw [heats_line r r' R n fs, heat_line]
theorem upd_swap {α : Type} (f : Nat → α) {i j : Nat} (h : i ≠ j) (a b : α) : upd (upd f i a) j b = upd (upd f j b) i a := by
  funext k
  unfold upd
  by_cases h1 : k = j
  · by_cases h2 : k = i
    · exact absurd (h2.symm.trans h1) h
    · rw [if_pos h1, if_neg h2, if_pos h1]
  · simp [h1]
theorem line_swap (s : St) {r r' : Nat} (h : r ≠ r') (R R' : List UInt8) (n n' : Nat) : (s.line r R n).line r' R' n' = (s.line r' R' n').line r R n := by
  unfold St.line
  simp only
  rw [upd_swap s.rest h, upd_swap s.lost h]
theorem heat_swap (s : St) {r r' : Nat} (h : r ≠ r') (f f' : FrmM.Fr) : (s.heat r f).heat r' f' = (s.heat r' f').heat r f := by
  unfold St.heat
  by_cases h1 : f.ty = 3 <;> by_cases h2 : f'.ty = 3 <;> simp [h1, h2]
  rw [upd_swap s.warm h]
theorem heats_heat {r r' : Nat} (h : r ≠ r') (f : FrmM.Fr) : ∀ (fs : List FrmM.Fr) (s : St), heats r fs (s.heat r' f) = (heats r fs s).heat r' f
  | [], _ => rfl
  | g :: fs, s => by
    show heats r fs ((s.heat r' f).heat r g) = (heats r fs (s.heat r g)).heat r' f
    rw [← heat_swap s h, heats_heat h f fs]
theorem heats_swap {r r' : Nat} (h : r ≠ r') (fs : List FrmM.Fr) : ∀ (fs' : List FrmM.Fr) (s : St), heats r fs (heats r' fs' s) = heats r' fs' (heats r fs s)
  | [], _ => rfl
  | f :: fs', s => by
    show heats r fs (heats r' fs' (s.heat r' f)) = heats r' fs' ((heats r fs s).heat r' f)
    rw [heats_swap h fs fs', heats_heat h]
theorem feed_rest {s : St} {r r' : Nat} {b : List UInt8} (h : r' ≠ r) : (s.feed c r b).rest r' = s.rest r' ∧ (s.feed c r b).lost r' = s.lost r' := by
  unfold St.feed
  obtain ⟨k1, k2, _⟩ := hears_rest c r (FrmM.feed (s.rest r ++ b)).1 (s.line r (FrmM.feed (s.rest r ++ b)).2.2 (s.lost r + (FrmM.feed (s.rest r ++ b)).2.1))
  rw [k1, k2]
  unfold St.line
  exact ⟨upd_other _ _ h, upd_other _ _ h⟩
theorem rds_feed {s : St} {r r' : Nat} {b b' : List UInt8} (h : r' ≠ r) : rds (s.feed c r b) r' b' = rds s r' b' ∧ frs (s.feed c r b) r' b' = frs s r' b' := by
  unfold rds frs
  rw [(feed_rest (c := c) (s := s) (b := b) h).1]
  exact ⟨rfl, rfl⟩
/-- Bytes of two readers. -/
theorem feed_swap (hU : U.length ≤ 12) {s : St} {r r' : Nat} {b b' : List UInt8} (h : r ≠ r') (hg : Good U (rds s r b)) (hg' : Good U (rds s r' b')) (hs : In U s) : Eqv ((s.feed c r b).feed c r' b') ((s.feed c r' b').feed c r b) := by
  have e1 := rds_feed (c := c) (s := s) (r := r) (r' := r') (b := b) (b' := b') (fun e => h e.symm)
  have e2 := rds_feed (c := c) (s := s) (r := r') (r' := r) (b := b') (b' := b) h
  have f1 := feed_rest (c := c) (s := s) (r := r) (r' := r') (b := b) (fun e => h e.symm)
  have f2 := feed_rest (c := c) (s := s) (r := r') (r' := r) (b := b') h
  rw [feed_bumps hU (s := s.feed c r b) (by rw [e1.1]; exact hg') (feed_in hU hg hs), feed_bumps hU (s := s.feed c r' b') (by rw [e2.1]; exact hg) (feed_in hU hg' hs)]
  rw [e1.1, e2.1, feed_now, feed_now]
  unfold pre
  rw [e1.2, e2.2, f1.1, f1.2, f2.1, f2.2, feed_bumps hU hg hs, feed_bumps hU hg' hs]
  rw [line_bumps, line_bumps, heats_bumps, heats_bumps]
  unfold pre
  rw [heats_line, heats_line, line_swap s h, heats_swap h]
  exact bumps_swap r r' s.now s.now _ _ _
theorem Eqv.in_ {s t : St} (h : Eqv s t) (hs : In U s) : In U t := fun y hy => hs y (h.all.mem_iff.2 hy)
theorem heats_eqv (r : Nat) : ∀ (fs : List FrmM.Fr) {s t : St}, Eqv s t → Eqv (heats r fs s) (heats r fs t)
  | [], _, _, h => h
  | f :: fs, s, t, h => by
    refine heats_eqv r fs (s := s.heat r f) (t := t.heat r f) ?_
    unfold St.heat
    split
    · exact ⟨h.rest, h.lost, by simp [h.warm], h.now, h.bad, h.nowh, h.late, h.full, h.all⟩
    · exact h
theorem feed_eqv (hU : U.length ≤ 12) {s t : St} {r : Nat} {b : List UInt8} (h : Eqv s t) (hg : Good U (rds s r b)) (hs : In U s) : Eqv (s.feed c r b) (t.feed c r b) := by
  have e : rds t r b = rds s r b := by unfold rds frs; rw [h.rest]
  rw [feed_bumps hU hg hs, feed_bumps hU (s := t) (by rw [e]; exact hg) (h.in_ hs), e, ← h.now]
  refine bumps_eqv r s.now _ ?_
  unfold pre frs
  rw [← h.rest, ← h.lost]
  refine heats_eqv r _ ⟨?_, ?_, h.warm, h.now, h.bad, h.nowh, h.late, h.full, h.all⟩
  · unfold St.line; simp only; rw [h.rest]
  · unfold St.line; simp only; rw [h.lost]
end
end Go.Proofs.YtmolafjalaeoaaaGreatDoor.WbO
namespace Go.Proofs.YtmolafjalaeoaaaGreatDoor.WbA
open WaM WbO
set_option maxRecDepth 100000
abbrev live (a : Ac) : Prop := (0 ≤ a.n ∧ a.n ≤ 3) ∧ a.st.size ≤ 2000
/-- Acts are fed, whatever they are. -/
def fl (c : Cf) (A : List Ac) (s : St) : St := A.foldl (fun s a => pf c a.n a.st s) s
theorem fl_append (c : Cf) (A B : List Ac) (s : St) : fl c (A ++ B) s = fl c B (fl c A s) := by unfold fl; rw [List.foldl_append]
theorem fl_cons (c : Cf) (a : Ac) (A : List Ac) (s : St) : fl c (a :: A) s = fl c A (pf c a.n a.st s) := rfl
theorem pf_live {c : Cf} {a : Ac} {s : St} (h : live a) : pf c a.n a.st s = s.feed c a.n.toNat a.st.data.toList := by unfold pf; unfold live at h; rw [if_pos h]
theorem pf_dead {c : Cf} {a : Ac} {s : St} (h : ¬ live a) : pf c a.n a.st s = s := by unfold pf; unfold live at h; rw [if_neg h]
/-- All that is read is among these tags. -/
def G1 (U : List ByteArray) (s : St) (a : Ac) : Prop := live a → WbO.Good U (rds s a.n.toNat a.st.data.toList)
def GA (c : Cf) (U : List ByteArray) : List Ac → St → Prop
  | [], _ => True
  | a :: A, s => G1 U s a ∧ GA c U A (pf c a.n a.st s)
section
variable {c : Cf} {U : List ByteArray}
theorem g1_rest {s t : St} {a : Ac} (h : s.rest = t.rest) (hg : G1 U s a) : G1 U t a := fun hl => by
  have := hg hl
  unfold rds frs at this ⊢
  rw [← h]
  exact this
theorem pf_rest {s t : St} {r : Int} {b : ByteArray} (h : s.rest = t.rest) : (pf c r b s).rest = (pf c r b t).rest := by
  unfold pf
  split
  · unfold St.feed
    rw [(hears_rest c _ _ _).1, (hears_rest c _ _ _).1]
    unfold St.line
    simp only
    rw [h]
  · exact h
theorem ga_rest : ∀ {A : List Ac} {s t : St}, s.rest = t.rest → GA c U A s → GA c U A t
  | [], _, _, _, _ => trivial
  | _ :: _, _, _, h, hg => ⟨g1_rest h hg.1, ga_rest (pf_rest h) hg.2⟩
theorem pf_eqv (hU : U.length ≤ 12) {s t : St} {a : Ac} (h : Eqv s t) (hg : G1 U s a) (hs : In U s) : Eqv (pf c a.n a.st s) (pf c a.n a.st t) := by
  by_cases hl : live a
  · rw [pf_live hl, pf_live hl]
    exact feed_eqv hU h (hg hl) hs
  · rw [pf_dead hl, pf_dead hl]
    exact h
theorem pf_in (hU : U.length ≤ 12) {s : St} {a : Ac} (hg : G1 U s a) (hs : In U s) : In U (pf c a.n a.st s) := by
  by_cases hl : live a
  · rw [pf_live hl]
    exact feed_in hU (hg hl) hs
  · rw [pf_dead hl]
    exact hs
theorem fl_eqv (hU : U.length ≤ 12) : ∀ {A : List Ac} {s t : St}, Eqv s t → GA c U A s → In U s → Eqv (fl c A s) (fl c A t)
  | [], _, _, h, _, _ => h
  | a :: A, s, t, h, hg, hs => by
    rw [fl_cons, fl_cons]
    exact fl_eqv hU (pf_eqv hU h hg.1 hs) hg.2 (pf_in hU hg.1 hs)
theorem fl_in (hU : U.length ≤ 12) : ∀ {A : List Ac} {s : St}, GA c U A s → In U s → In U (fl c A s)
  | [], _, _, hs => hs
  | a :: A, s, hg, hs => by
    rw [fl_cons]
    exact fl_in hU hg.2 (pf_in hU hg.1 hs)
theorem ga_append : ∀ {A B : List Ac} {s : St}, GA c U (A ++ B) s ↔ GA c U A s ∧ GA c U B (fl c A s)
  | [], _, _ => by simp [GA, fl]
  | a :: A, B, s => by
    show G1 U s a ∧ GA c U (A ++ B) (pf c a.n a.st s) ↔ (G1 U s a ∧ GA c U A (pf c a.n a.st s)) ∧ GA c U B (fl c A (pf c a.n a.st s))
    rw [ga_append, and_assoc]
/-- Two acts change places. -/
theorem pf_swap (hU : U.length ≤ 12) {s : St} {a b : Ac} (h : a.n ≠ b.n) (ha : G1 U s a) (hb : G1 U (pf c a.n a.st s) b) (hs : In U s) :
    Eqv (pf c b.n b.st (pf c a.n a.st s)) (pf c a.n a.st (pf c b.n b.st s)) ∧ G1 U s b ∧ G1 U (pf c b.n b.st s) a := by
  by_cases la : live a
  · by_cases lb : live b
    · have hne : a.n.toNat ≠ b.n.toNat := by unfold live at la lb; omega
      have hb' := hb lb
      rw [pf_live la, (rds_feed (c := c) (fun e => hne e.symm)).1] at hb'
      rw [pf_live la, pf_live lb, pf_live lb, pf_live la]
      refine ⟨feed_swap hU hne (ha la) hb' hs, fun _ => hb', fun _ => ?_⟩
      rw [(rds_feed (c := c) hne).1]
      exact ha la
    · rw [pf_dead lb, pf_dead lb]
      exact ⟨Eqv.refl _, fun hl => absurd hl lb, ha⟩
  · rw [pf_dead la] at hb ⊢
    rw [pf_dead la]
    exact ⟨Eqv.refl _, hb, fun hl => absurd hl la⟩
/-- Orders that differ by such changes. -/
structure Sw (A B : List Ac) : Prop where
  out : ∀ R : List Ac → List Ac → Prop, (∀ A, R A A) → (∀ (P : List Ac) (a b : Ac) (Q : List Ac), a.n ≠ b.n → R (P ++ a :: b :: Q) (P ++ b :: a :: Q)) → (∀ A B C, R A B → R B C → R A C) → R A B
theorem Sw.refl (A : List Ac) : Sw A A := ⟨fun _ h _ _ => h A⟩
theorem Sw.step (P : List Ac) (a b : Ac) (Q : List Ac) (h : a.n ≠ b.n) : Sw (P ++ a :: b :: Q) (P ++ b :: a :: Q) := ⟨fun _ _ k _ => k P a b Q h⟩
theorem Sw.trans {A B C : List Ac} (h : Sw A B) (k : Sw B C) : Sw A C := ⟨fun R h1 h2 h3 => h3 _ _ _ (h.out R h1 h2 h3) (k.out R h1 h2 h3)⟩
theorem sw_eqv (hU : U.length ≤ 12) {A B : List Ac} (h : Sw A B) : ∀ {s : St}, GA c U A s → In U s → Eqv (fl c A s) (fl c B s) ∧ GA c U B s := by
  refine @(h.out (fun A B => ∀ s : St, GA c U A s → In U s → Eqv (fl c A s) (fl c B s) ∧ GA c U B s) ?_ ?_ ?_)
  · intro A s hg hs; exact ⟨Eqv.refl _, hg⟩
  · intro P a b Q hne s hg hs
    rw [fl_append, fl_append]
    rw [ga_append] at hg ⊢
    obtain ⟨hg1, hg2⟩ := hg
    have hs' := fl_in hU hg1 hs
    generalize fl c P s = t at *
    obtain ⟨ha, hb, hq⟩ := hg2
    obtain ⟨k1, k2, k3⟩ := pf_swap hU hne ha hb hs'
    refine ⟨?_, hg1, k2, k3, ga_rest k1.rest hq⟩
    rw [fl_cons, fl_cons, fl_cons, fl_cons]
    exact fl_eqv hU k1 hq (pf_in hU hb (pf_in hU ha hs'))
  · intro A B C ih1 ih2 s hg hs
    obtain ⟨h1, h2⟩ := ih1 s hg hs
    obtain ⟨h3, h4⟩ := ih2 s h2 hs
    exact ⟨h1.trans h3, h4⟩
theorem Sw.pre (P : List Ac) {A B : List Ac} (h : Sw A B) : Sw (P ++ A) (P ++ B) := by
  refine h.out (fun A B => Sw (P ++ A) (P ++ B)) ?_ ?_ ?_
  · intro A; exact Sw.refl _
  · intro Q a b R hne
    rw [← List.append_assoc, ← List.append_assoc]; exact Sw.step (P ++ Q) a b R hne
  · intro A B C h1 h2; exact h1.trans h2
/-- An act goes behind others, of other readers. -/
theorem Sw.past (a : Ac) (Q : List Ac) : ∀ F : List Ac, (∀ b, b ∈ F → a.n ≠ b.n) → Sw (a :: (F ++ Q)) (F ++ a :: Q)
  | [], _ => Sw.refl _
  | b :: F, h => (Sw.step [] a b (F ++ Q) (h b List.mem_cons_self)).trans (Sw.pre [b] (Sw.past a Q F (fun x hx => h x (List.mem_cons_of_mem _ hx))))
def fr (A : List Ac) (r : Int) : List Ac := A.filter (fun a => decide (a.n = r))
def grouped (A : List Ac) : List Ac := fr A 3 ++ (fr A 2 ++ (fr A 1 ++ fr A 0))
theorem fr_n {A : List Ac} {r : Int} {b : Ac} (h : b ∈ fr A r) : b.n = r := by
  unfold fr at h
  exact of_decide_eq_true (List.mem_filter.1 h).2
theorem fr_same {a : Ac} {A : List Ac} {r : Int} (h : a.n = r) : fr (a :: A) r = a :: fr A r := by unfold fr; rw [List.filter_cons, if_pos (by simp [h])]
theorem fr_other {a : Ac} {A : List Ac} {r : Int} (h : a.n ≠ r) : fr (a :: A) r = fr A r := by unfold fr; rw [List.filter_cons, if_neg (by simp [h])]
theorem sw_grouped : ∀ A : List Ac, (∀ a, a ∈ A → 0 ≤ a.n ∧ a.n ≤ 3) → Sw A (grouped A)
  | [], _ => Sw.refl _
  | a :: A, h => by
    have ih := (sw_grouped A (fun x hx => h x (List.mem_cons_of_mem _ hx))).pre [a]
    refine ih.trans ?_
    have ha := h a List.mem_cons_self
    unfold grouped
    show Sw (a :: (fr A 3 ++ (fr A 2 ++ (fr A 1 ++ fr A 0)))) _
    rcases (show a.n = 0 ∨ a.n = 1 ∨ a.n = 2 ∨ a.n = 3 by omega) with e | e | e | e
    · rw [fr_other (by omega), fr_other (by omega), fr_other (by omega), fr_same e]
      refine (Sw.past a _ (fr A 3) (fun b hb => by rw [fr_n hb]; omega)).trans (Sw.pre _ ?_)
      refine (Sw.past a _ (fr A 2) (fun b hb => by rw [fr_n hb]; omega)).trans (Sw.pre _ ?_)
      exact Sw.past a _ (fr A 1) (fun b hb => by rw [fr_n hb]; omega)
    · rw [fr_other (by omega), fr_other (by omega), fr_same e, fr_other (by omega)]
      refine (Sw.past a _ (fr A 3) (fun b hb => by rw [fr_n hb]; omega)).trans (Sw.pre _ ?_)
      exact Sw.past a _ (fr A 2) (fun b hb => by rw [fr_n hb]; omega)
    · rw [fr_other (by omega), fr_same e, fr_other (by omega), fr_other (by omega)]
      exact Sw.past a _ (fr A 3) (fun b hb => by rw [fr_n hb]; omega)
    · rw [fr_same e, fr_other (by omega), fr_other (by omega), fr_other (by omega)]
      exact Sw.refl _
end
end Go.Proofs.YtmolafjalaeoaaaGreatDoor.WbA
namespace Go.Proofs.YtmolafjalaeoaaaGreatDoor.WbA
open WaM WaW WaB WbO
open TkM (Sg)
set_option maxRecDepth 100000
section
variable {c : Cf}
theorem Eqv.ag {s t : St} (h : Eqv s t) : Ag c s t where
  now := h.now
  dv := by unfold dv los; rw [h.lost, h.bad, h.nowh, h.late, h.full]
  ep := fun j _ => by
    unfold Ep
    apply List.map_congr_left
    intro k _
    exact EpM.sorted_perm (EpM.grp_perm h.all k)
theorem Eqv.tick {s t : St} (h : Eqv s t) (n : Int) : Eqv (pt n s) (pt n t) := by
  unfold pt
  rw [← h.now]
  split
  · exact ⟨h.rest, h.lost, h.warm, by unfold St.tick; simp only; rw [h.now], h.bad, h.nowh, h.late, h.full, h.all⟩
  · exact h
/-- Those of a reader at all. -/
def inr (A : List Ac) : List Ac := A.filter (fun a => decide (0 ≤ a.n ∧ a.n ≤ 3))
theorem fl_inr : ∀ (A : List Ac) (s : St), fl c (inr A) s = fl c A s
  | [], _ => rfl
  | a :: A, s => by
    unfold inr
    rw [List.filter_cons]
    by_cases h : 0 ≤ a.n ∧ a.n ≤ 3
    · rw [if_pos (by simp [h]), fl_cons, fl_cons]
      exact fl_inr A _
    · rw [if_neg (by simp only [decide_eq_true_eq]; exact h), fl_cons, pf_dead (fun hl => h hl.1)]
      exact fl_inr A s
theorem ga_inr {U : List ByteArray} : ∀ {A : List Ac} {s : St}, GA c U A s → GA c U (inr A) s
  | [], _, _ => trivial
  | a :: A, s, hg => by
    unfold inr
    rw [List.filter_cons]
    by_cases h : 0 ≤ a.n ∧ a.n ≤ 3
    · rw [if_pos (by simp [h])]
      exact ⟨hg.1, ga_inr hg.2⟩
    · rw [if_neg (by simp only [decide_eq_true_eq]; exact h)]
      have h2 := hg.2
      rw [pf_dead (fun hl => h hl.1)] at h2
      exact ga_inr h2
theorem fr_inr {A : List Ac} {r : Int} (h0 : 0 ≤ r) (h3 : r ≤ 3) : fr (inr A) r = fr A r := by
  unfold fr inr
  rw [List.filter_filter]
  apply List.filter_congr
  intro a _
  by_cases h : a.n = r
  · simp [h, h0, h3]
  · simp [h]
/-- Acts of one tick, reader by reader. -/
theorem grouped_eqv {U : List ByteArray} (hU : U.length ≤ 12) {A : List Ac} {s t : St} (h : Eqv s t) (hg : GA c U A s) (hs : In U s) : Eqv (fl c A s) (fl c (grouped A) t) := by
  have e : grouped (inr A) = grouped A := by
    unfold grouped
    rw [fr_inr (by omega) (by omega), fr_inr (by omega) (by omega), fr_inr (by omega) (by omega), fr_inr (by omega) (by omega)]
  obtain ⟨h1, h2⟩ := sw_eqv (c := c) hU (sw_grouped (inr A) (fun a ha => by
    have := (List.mem_filter.1 ha).2
    simpa using this)) (s := s) (ga_inr hg) hs
  rw [fl_inr, e] at h1
  rw [e] at h2
  exact h1.trans (fl_eqv hU h h2 hs)
/-- The same lines. -/
theorem tgs_rest (ac : List Ac) : ∀ j, j ≤ ac.length → (tgs (ac.take j)).rest = (plays c (ac.take j) St.zero).rest
  | 0, _ => rfl
  | j + 1, hj => by
    have ih := tgs_rest ac j (by omega)
    have hj' := List.getElem?_eq_getElem (l := ac) (i := j) (by omega)
    rw [tgs_succ hj', plays_succ hj']
    generalize ac[j] = a
    unfold Tg.step pact
    by_cases hk : a.kd = tickW
    · rw [if_pos (show skips a from Or.inl hk), if_pos hk, ih]
      unfold pt
      split <;> rfl
    · rw [if_neg hk]
      by_cases hl : live a
      · rw [if_neg (show ¬ skips a from fun hs => by unfold skips at hs; unfold live at hl; rcases hs with h | h | h | h; exact hk h; omega; omega; omega), pf_live hl]
        unfold Tg.feed St.feed
        rw [(hears_rest c _ _ _).1]
        unfold St.line
        simp only
        rw [ih]
      · rw [if_pos (show skips a by unfold skips; unfold live at hl; omega), pf_dead hl]
        exact ih
theorem addO_sub {T : List ByteArray} {g x : ByteArray} (h : x ∈ T) : x ∈ addO T g := by
  unfold addO
  split
  · exact List.mem_append_left _ h
  · exact h
theorem foldO_sub : ∀ (l : List ByteArray) {T : List ByteArray} {x : ByteArray}, x ∈ T → x ∈ l.foldl addO T
  | [], _, _, h => h
  | _ :: l, _, _, h => foldO_sub l (addO_sub h)
theorem addO_mono (T : List ByteArray) (g : ByteArray) : T.length ≤ (addO T g).length := by
  unfold addO
  split
  · simp
  · exact Nat.le_refl _
theorem foldO_mono : ∀ (l : List ByteArray) (T : List ByteArray), T.length ≤ (l.foldl addO T).length
  | [], _ => Nat.le_refl _
  | g :: l, T => Nat.le_trans (addO_mono T g) (foldO_mono l _)
theorem addO_has {T : List ByteArray} {g : ByteArray} (h : T.length < 40) : g ∈ addO T g := by
  unfold addO
  cases hh : hasT T g with
  | true => rw [if_neg (by simp)]; exact hasT_iff.1 hh
  | false => rw [if_pos ⟨h, rfl⟩]; simp
theorem foldO_has : ∀ (l : List ByteArray) {T : List ByteArray} {x : ByteArray}, (l.foldl addO T).length < 40 → x ∈ l → x ∈ l.foldl addO T
  | g :: l, T, x, h, hx => by
    rw [List.foldl_cons] at h ⊢
    rcases List.mem_cons.1 hx with rfl | hx
    · exact foldO_sub l (addO_has (by have := foldO_mono l (addO T x); have := addO_mono T x; omega))
    · exact foldO_has l h hx
theorem step_mono (t : Tg) (a : Ac) : t.out.length ≤ (t.step a).out.length ∧ ∀ x, x ∈ t.out → x ∈ (t.step a).out := by
  unfold Tg.step
  split
  · exact ⟨Nat.le_refl _, fun x h => h⟩
  · exact ⟨foldO_mono _ _, fun x h => foldO_sub _ h⟩
theorem steps_mono : ∀ (l : List Ac) (t : Tg), t.out.length ≤ (l.foldl Tg.step t).out.length ∧ ∀ x, x ∈ t.out → x ∈ (l.foldl Tg.step t).out
  | [], _ => ⟨Nat.le_refl _, fun x h => h⟩
  | a :: l, t => by
    obtain ⟨h1, h2⟩ := step_mono t a
    obtain ⟨h3, h4⟩ := steps_mono l (t.step a)
    exact ⟨Nat.le_trans h1 h3, fun x h => h4 x (h2 x h)⟩
/-- What an act reads is among the tags. -/
theorem reads_in {ac : List Ac} (h40 : (tgs ac).out.length < 40) {j : Nat} {a : Ac} (hj : ac[j]? = some a) (hk : a.kd ≠ tickW) : G1 (tgs ac).out (plays c (ac.take j) St.zero) a := fun hl => by
  have hjl : j < ac.length := (List.getElem?_eq_some_iff.1 hj).1
  intro x hx _
  have e1 : tgs ac = (ac.drop (j + 1)).foldl Tg.step (tgs (ac.take (j + 1))) := by
    unfold tgs
    rw [← List.foldl_append, List.take_append_drop]
  obtain ⟨m1, m2⟩ := steps_mono (ac.drop (j + 1)) (tgs (ac.take (j + 1)))
  rw [← e1] at m1 m2
  refine m2 _ ?_
  have h40' : (tgs (ac.take (j + 1))).out.length < 40 := by omega
  rw [tgs_succ hj] at h40' ⊢
  have hsk : ¬ skips a := by
    unfold skips
    unfold live at hl
    rintro (h | h | h | h)
    · exact hk h
    · omega
    · omega
    · omega
  unfold Tg.step at h40' ⊢
  rw [if_neg hsk] at h40' ⊢
  unfold Tg.feed at h40' ⊢
  simp only at h40' ⊢
  refine foldO_has _ h40' ?_
  unfold rds frs at hx
  rw [← tgs_rest (c := c) ac j (by omega)] at hx
  unfold ftags
  obtain ⟨f, hf, hxf⟩ := List.mem_flatMap.1 hx
  exact List.mem_flatMap.2 ⟨f, hf, List.mem_map.2 ⟨x, hxf, rfl⟩⟩
end
end Go.Proofs.YtmolafjalaeoaaaGreatDoor.WbA
