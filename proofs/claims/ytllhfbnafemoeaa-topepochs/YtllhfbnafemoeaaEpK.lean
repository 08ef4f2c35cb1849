/-
  What the document's Tick does to the world.
-/
import Derived.Test.YtllhfbnafemoeaaEpJ
namespace Go.Proofs.Ytllhfbnafemoeaa.EpA
open Go.RowKit EpM EpW Go.Maps
set_option maxRecDepth 100000

section
variable {w : World} {rb : Nat} {F : Nat → Prop} {size late now : Nat} {all : List Sg}
set_option maxHeartbeats 400000 in
theorem rtick_bad (n : Int) (d : RefAt w rb F size late now all) (h3 : now ≤ 1000) (hn : ¬ (0 ≤ n ∧ n ≤ 1000 - now)) :
    Calls Try.prog 23 #[.pointer (some ⟨rb, 0, none⟩), .int .i64 n] w fun e w' => e = .returned (.tuple #[.slice none 0 0, .int .i64 1]) ∧ w' = w := by
  obtain ⟨v, d⟩ := d.out
  have c2 := d.c2
  clear d
  by_cases h0 : n < 0
  · have h0' : decide (n < 0) = true := by simpa using h0
    go_enter Try.func23, Try.ntmps23
    go_wp2
    go_ret2
    exact ⟨rfl, rfl⟩
  · have h0' : decide (n < 0) = false := by simpa using h0
    have h1 : decide (1000 - (now : Int) < n) = true := by simp; omega
    go_enter Try.func23, Try.ntmps23
    go_wp2
    go_ret2
    exact ⟨rfl, rfl⟩

set_option maxHeartbeats 1000000 in
theorem rtick_any (n : Nat) (d : RefAt w rb F size late now all) (hF : ∀ b, F b → b < w.heap.size) (h0 : 0 < size) (h1 : size ≤ 50) (h2 : late ≤ 50) (h3 : now + n ≤ 1000) (hal : all.length ≤ 100000) (hT : ∀ x ∈ all, epo size x ≤ 1000) :
    Calls Try.prog 23 #[.pointer (some ⟨rb, 0, none⟩), .int .i64 (n : Int)] w fun e w' => ∃ v, e = .returned (.tuple #[v, .int .i64 0]) ∧ EpsOwn w' w.heap.size (fun b => w.heap.size ≤ b) v (tells size all (closedN size late now) (closedN size late (now + n))) ∧ RefAt w' rb F size late (now + n) all ∧ Kp F w w' := by
  obtain ⟨i0, hi, hz0, hz1, hz2⟩ := info_parts info75
  obtain ⟨c0, hc0⟩ : ∃ c, c = closedN size late now := ⟨_, rfl⟩
  obtain ⟨c1, hc1⟩ : ∃ c, c = closedN size late (now + n) := ⟨_, rfl⟩
  have hcc : c0 ≤ c1 := by rw [hc0, hc1]; exact closedN_mono (by omega)
  have hc9 : c1 ≤ 1000 := by rw [hc1]; exact Nat.le_trans closedN_le h3
  have HC1 : Hid (c1 = closedN size late (now + n)) := hc1
  rw [← hc0, ← hc1]
  have HC0 : Hid (c0 = closedN size late now) := hc0
  clear hc0 hc1
  have HD : Hid (RefAt w rb F size late now all) := d
  have HT : Hid (∀ x ∈ all, epo size x ≤ 1000) := hT
  have HF : Hid (∀ b, F b → b < w.heap.size) := hF
  have c2 : w.cell? ⟨rb, 2, none⟩ = some (.int .i64 (now : Int)) := by obtain ⟨v, d⟩ := d.out; exact d.c2
  have z2 : w.frozen? ⟨rb, 2, none⟩ = false := by obtain ⟨v, d⟩ := d.out; exact d.fz 2
  have hrb := d.lt
  clear d hT hF
  have b0 : decide ((n : Int) < 0) = false := by simp
  have b1 : decide (1000 - (now : Int) < (n : Int)) = false := by simp; omega
  have b1' : ¬ 1000 - (now : Int) < (n : Int) := by omega
  go_enter Try.func23, Try.ntmps23
  go_wp2_with fail
  refine (rclosed_is HC0.out HD.out h0 h1 h2 (by omega)).mono ?_
  rintro e w2 ⟨rfl, q, rfl⟩
  have HSt : Hid (RefAt ((w.drewN q).setCell ⟨rb, 2, none⟩ (.int .i64 ((now : Int) + n))) rb F size late (now + n) all) := by
    obtain ⟨v, d⟩ := (HD.out.below (drewN_below _ q)).out
    exact ⟨v, d.tick (now + n) (by omega)⟩
  have HKp : Hid (Kp F w ((w.drewN q).setCell ⟨rb, 2, none⟩ (.int .i64 ((now : Int) + n)))) := (below_kp (drewN_below _ q) F).trans (set_kp _ _ _ (by obtain ⟨v, d⟩ := HD.out.out; exact d.fd))
  clear HD
  go_wp2_with fail
  go_loopw [7, 8] (fun l i V => ∃ (k : Nat), c0 ≤ k ∧ k ≤ c1 ∧ i = .int .i64 (k : Int) ∧ EpsOwn V w.heap.size (fun b => w.heap.size ≤ b) l (tells size all c0 k) ∧ RefAt V rb F size late (now + n) all ∧ Kp F w V) (fun _ i _ => c1 - (intOf i).toNat)
  case atStart =>
    refine ⟨c0, Nat.le_refl _, hcc, rfl, ?_, HSt.out, HKp.out⟩
    rw [tells_nil all (Nat.le_refl _)]
    exact EpsOwn.nil _ _ _
  case round =>
    obtain ⟨k, hk0, hk1, rfl, heo, hda, hkp⟩ := hrel
    have HEO : Hid (EpsOwn wr w.heap.size (fun b => w.heap.size ≤ b) u7 (tells size all c0 k)) := heo
    have HDA : Hid (RefAt wr rb F size late (now + n) all) := hda
    have HK : Hid (Kp F w wr) := hkp
    have hsz : w.heap.size ≤ wr.heap.size := hkp.size
    clear heo hda hkp HSt HKp
    go_wp2_with fail
    refine (rclosed_is HC1.out HDA.out h0 h1 h2 h3).mono ?_
    rintro e w2 ⟨rfl, q2, rfl⟩
    have HDA2 : Hid (RefAt (wr.drewN q2) rb F size late (now + n) all) := HDA.out.below (drewN_below _ _)
    have HEO2 : Hid (EpsOwn (wr.drewN q2) w.heap.size (fun b => w.heap.size ≤ b) u7 (tells size all c0 k)) := HEO.out.below (drewN_below _ _)
    have HK2 : Hid (Kp F w (wr.drewN q2)) := HK.out.trans (below_kp (drewN_below _ _) F)
    have hsz2 : w.heap.size ≤ (wr.drewN q2).heap.size := hsz
    clear HDA HEO HK hsz
    generalize wr.drewN q2 = V at *
    by_cases hlt : k < c1
    case neg =>
      have hkk : k = c1 := by omega
      subst hkk
      have hI : ¬ (k : Int) < k := by omega
      clear hlt
      go_wp2
      go_ret2
      exact ⟨_, rfl, HEO2.out, HDA2.out, HK2.out⟩
    case pos =>
      have hI : (k : Int) < c1 := by omega
      go_wp2_with fail
      refine (of_any k HDA2.out hal HT.out).mono ?_
      rintro e w3 ⟨v, rfl, hrow, hb3⟩
      obtain ⟨p, cap, rfl, hsg⟩ := own_sgs (by rw [← sorted_length (grp size all k)] at hrow; exact hrow)
      obtain ⟨L, hL⟩ : ∃ L, L = sorted (grp size all k) := ⟨_, rfl⟩
      rw [← hL] at hsg hrow ⊢
      have HLL : Hid (L = sorted (grp size all k)) := hL
      have HSG : Hid (SgsOn w3 p L) := hsg
      have HVB : Hid (∀ b, (Value.slice p L.length cap).ownBlock = some b → V.heap.size ≤ b) := fun b hb => (hrow.lt b hb).1
      have HDA3 : Hid (RefAt w3 rb F size late (now + n) all) := HDA2.out.below hb3
      have HK3 : Hid (Kp F w w3) := HK2.out.trans (below_kp hb3 F)
      have hsz3 : V.heap.size ≤ w3.heap.size := hb3.size
      have heo3 : EpsOwn w3 w.heap.size (fun b => w.heap.size ≤ b) u7 (tells size all c0 k) := HEO2.out.below hb3
      have HNEW : Hid (∀ b, u7.ownBlock = some b → w.heap.size ≤ b ∧ b < V.heap.size) := fun b hb => by
        obtain ⟨ps, _, ho, _⟩ := HEO2.out.out
        exact ho.lt b hb
      obtain ⟨ps, hpl, hpo, hpr⟩ := (heo3.alloc (.cells #[.int .i64 (k : Int), .slice p L.length cap] 75)).out
      have HPR : Hid (∀ (j : Nat) (e : Nat × List Sg) (pc : Option Addr × Nat), (tells size all c0 k)[j]? = some e → ps[j]? = some pc → SgsOn (w3.alloc (.cells #[.int .i64 (k : Int), .slice p L.length cap] 75)) pc.1 e.2 ∧ (e.2 ≠ [] → ∃ b o, pc.1 = some ⟨b, o, none⟩ ∧ w.heap.size ≤ b ∧ u7.ownBlock ≠ some b)) := hpr
      have HPL : Hid (ps.length = (tells size all c0 k).length) := hpl
      have hTl : (tells size all c0 k).length ≤ 1000 := by unfold tells; simp; omega
      clear hrow hL hsg hb3 heo3 hpl hpr HDA2 HEO2 HK2
      go_wp2_with (at_builtin; refine wpList_append_lies _ rfl _ _ 64 rfl w.heap.size 75 i0 (.agg #[.int .i64 0, .slice none 0 0]) 2 32 Try.underlying64 hi hz0 hz1 hz2 rfl (by decide) _ _ _ rfl hpo ⟨w3.heap.size, 0, none⟩ 1 1 [.int .i64 (k : Int), .slice p L.length cap] rfl rfl ?q1 ?q2 (by omega) ?q3 ?q4 ?q5 (w3.heap.size + 1) ?q6 ?_)
      case q1 =>
        intro j u hj
        match j, hj with
        | 0, hj => simp at hj; subst hj; simp [Addr.add]
        | 1, hj => simp at hj; subst hj; simp [Addr.add]
      case q2 => intro u hu; simp at hu; rcases hu with rfl | rfl <;> rfl
      case q3 => unfold maxLen; omega
      case q4 => omega
      case q5 => simp; omega
      case q6 => simp
      intro g cap' w4 hown4 hgrow4 hat hlt4
      have hk4 : Kp (fun b => w.heap.size ≤ b) w3 w4 := (alloc_kp _ w3 _).trans (grown_kp hgrow4 (fun b hb => (HNEW.out b hb).1))
      have HEO4 : Hid (EpsOwn w4 w.heap.size (fun b => w.heap.size ≤ b) (.slice (some ⟨g, 0, none⟩) ((tells size all c0 k).length + 1) cap') (tells size all c0 (k + 1))) := by
        show EpsOwn _ _ _ _ _
        rw [tells_snoc all hk0, ← HLL.out]
        refine EpsOwn.snoc (p := p) (c := cap) (f := (k, L)) HPL.out HPR.out hown4 hgrow4 (by rcases hat with h | h; exact Or.inl h; exact Or.inr (by rw [h]; simp)) (HSG.out.move (by simp) (fun b o _ hb => Below.heap_alloc _ _ _ hb)) ?_
        intro hne
        obtain ⟨b, o, hp, _⟩ := HSG.out.at_ hne
        have hb := HVB.out b (by rw [hp]; rfl)
        refine ⟨b, o, hp, by omega, fun e => ?_⟩
        have h1 := HNEW.out b e
        omega
      have HDA4 : Hid (RefAt w4 rb F size late (now + n) all) := HDA3.out.move (fun b hb h => hk4.block b hb (fun h' => by
        have h2 := HF.out b h
        omega))
      have HK4 : Hid (Kp F w w4) := HK3.out.then hk4 (fun b hb h => by omega)
      clear hown4 hgrow4 hat hlt4 hk4 hpo
      go_wp2
      go_roundw
      case rel => exact ⟨k + 1, by omega, by omega, by go_num, HEO4.out, HDA4.out, HK4.out⟩
      case measure => simp [intOf]; omega
end
end Go.Proofs.Ytllhfbnafemoeaa.EpA
