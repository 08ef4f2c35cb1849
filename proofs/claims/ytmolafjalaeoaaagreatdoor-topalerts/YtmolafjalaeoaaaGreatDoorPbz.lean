/-
  Alerts, as mathematics: which there are, that each is there once, and how they are counted. · The tags of acts: each once, and every tag that a watch knows is among them if there is room.
-/
import Derived.Test.YtmolafjalaeoaaaGreatDoorPar
import Derived.Test.YtmolafjalaeoaaaGreatDoorPby
import Derived.Test.YtmolafjalaeoaaaGreatDoorPbs
namespace Go.Proofs.YtmolafjalaeoaaaGreatDoor.WdM
open WaM
open TkM (Sg epOf told whr seenG)
open TkA (wv isA comesB)
open RuM (Rl)
open HlA (cm ws wasB)
set_option maxRecDepth 100000
theorem epOf_le {c : Cf} {s : St} {K e j : Nat} (he : e < K) (hj : j ≤ e) : epOf (Ep c s (e + 1)) j = epOf (Ep c s K) j := by
  rw [epOf_Ep, epOf_Ep, if_pos (by omega), if_pos (by omega)]
theorem whr_le {c : Cf} {s : St} {K e j : Nat} (g : ByteArray) (W need : Nat) (he : e < K) (hj : j ≤ e) : whr g (epOf (Ep c s (e + 1))) W need j = whr g (epOf (Ep c s K)) W need j :=
  TkM.whr_congr (fun p k hk => by rw [epOf_le he (by omega)]) (fun p k hk => by rw [epOf_le he (by omega)])
theorem wv_le {c : Cf} {s : St} {K e : Nat} (g : ByteArray) (W need : Nat) (he : e < K) {x : Int} (hx : x ≤ (e : Int)) :
    wv (e + 1) true x (whr g (epOf (Ep c s (e + 1))) W need x.toNat) = wv K true x (whr g (epOf (Ep c s K)) W need x.toNat) := by
  unfold wv
  by_cases h0 : 0 ≤ x
  · rw [if_pos (show 0 ≤ x ∧ x < ((e + 1 : Nat) : Int) by omega), if_pos (show 0 ≤ x ∧ x < (K : Int) by omega), whr_le g W need he (by omega)]
  · rw [if_neg (fun h => h0 h.1), if_neg (fun h => h0 h.1)]
theorem isA_le {c : Cf} {s : St} {K e : Nat} (g : ByteArray) (W need : Nat) (he : e < K) {p x : Int} (hx : x ≤ (e : Int)) :
    isA (e + 1) true p x (whr g (epOf (Ep c s (e + 1))) W need x.toNat) = isA K true p x (whr g (epOf (Ep c s K)) W need x.toNat) := by
  unfold isA
  rw [wv_le g W need he hx]
theorem cm_le {c : Cf} {s : St} {K e : Nat} (g : ByteArray) (W need : Nat) (he : e < K) {p x : Int} (hx : x ≤ (e : Int)) :
    cm g (epOf (Ep c s (e + 1))) W need (e + 1) true p x = cm g (epOf (Ep c s K)) W need K true p x := by
  unfold cm comesB
  simp only
  rw [isA_le g W need he hx, isA_le g W need he (show x - 1 ≤ (e : Int) by omega)]
theorem ws_le {c : Cf} {s : St} {K e : Nat} (g : ByteArray) (W need : Nat) (he : e < K) {p x : Int} (hx : x ≤ (e : Int)) :
    ws g (epOf (Ep c s (e + 1))) W need (e + 1) true p x = ws g (epOf (Ep c s K)) W need K true p x := by
  unfold ws wasB
  rw [wv_le g W need he hx]
theorem told_le {c : Cf} {s : St} {K e : Nat} {g : ByteArray} (he : e < K) (h : told g (Ep c s (e + 1)) = true) : told g (Ep c s K) = true := by
  rw [TkM.told_iff] at h ⊢
  obtain ⟨j, hj⟩ := h
  by_cases hje : j ≤ e
  · exact ⟨j, by rw [← epOf_le he hje]; exact hj⟩
  · rw [epOf_Ep, if_neg (by omega)] at hj
    cases hj
theorem untold {c : Cf} {s : St} {K e : Nat} {g : ByteArray} (hn : 1 ≤ c.need) (he : e < K) (h : told g (Ep c s (e + 1)) = false) : whr g (epOf (Ep c s K)) c.W c.need e = -1 := by
  rw [← whr_le g c.W c.need he (Nat.le_refl _)]
  refine InM.whr_unseen hn (fun j => ?_)
  cases hj : seenG g (epOf (Ep c s (e + 1)) j) with
  | false => rfl
  | true =>
    have := TkM.told_iff.2 ⟨j, hj⟩
    rw [h] at this
    cases this
/-- What was held of a tag when an epoch was told, and what is held of it behind. -/
theorem holds_later {c : Cf} {s : St} {K e : Nat} {g : ByteArray} {r : Rl} (hn : 1 ≤ c.need) (he : e < K) :
    (told g (Ep c s (e + 1)) = true ∧ HlA.HoldsP g (epOf (Ep c s (e + 1))) c.W c.need (e + 1) true r (e : Int)) ↔ HlA.HoldsP g (epOf (Ep c s K)) c.W c.need K (told g (Ep c s K)) r (e : Int) := by
  cases ht : told g (Ep c s (e + 1)) with
  | true =>
    rw [told_le he ht]
    unfold HlA.HoldsP RuN.Back
    rw [cm_le g c.W c.need he (Int.le_refl _)]
    constructor
    · rintro ⟨_, h1, h2, h3, y, h4, h5, h6, h7⟩
      refine ⟨h1, h2, h3, y, h4, h5, by rw [← cm_le g c.W c.need he (by omega)]; exact h6, fun x h8 h9 => by rw [← ws_le g c.W c.need he (by omega)]; exact h7 x h8 h9⟩
    · rintro ⟨h1, h2, h3, y, h4, h5, h6, h7⟩
      refine ⟨rfl, h1, h2, h3, y, h4, h5, by rw [cm_le g c.W c.need he (by omega)]; exact h6, fun x h8 h9 => by rw [ws_le g c.W c.need he (by omega)]; exact h7 x h8 h9⟩
  | false =>
    constructor
    · rintro ⟨h, _⟩
      cases h
    · rintro ⟨_, _, h3, _⟩
      exfalso
      have hu := untold hn he ht
      unfold cm comesB at h3
      rw [Bool.and_eq_true] at h3
      have h4 : isA K (told g (Ep c s K)) r.t (e : Int) (whr g (epOf (Ep c s K)) c.W c.need ((e : Int).toNat)) = true := h3.1
      rw [Int.toNat_natCast, hu] at h4
      unfold isA wv at h4
      rw [if_pos ⟨by omega, by omega⟩] at h4
      cases hk : told g (Ep c s K) with
      | true =>
        rw [hk] at h4
        simp at h4
        omega
      | false =>
        rw [hk] at h4
        simp at h4
theorem mem_alsFrom {W need : Nat} {ep : Nat → List Sg} {L : List ByteArray} {e : Nat} {a : Al} : ∀ {rs : List Rl} {i : Nat}, a ∈ alsFrom W need ep L e rs i ↔ ∃ j r, rs[j]? = some r ∧ a.rule = i + j ∧ a.ep = e ∧ a.g ∈ L ∧ hb a.g ep W need r e = true
  | [], i => by simp [alsFrom]
  | r :: rs, i => by
    unfold alsFrom
    rw [List.mem_append, mem_alsFrom (rs := rs)]
    constructor
    · rintro (h | ⟨j, r', h1, h2, h3⟩)
      · unfold alR at h
        obtain ⟨g, hg, rfl⟩ := List.mem_map.1 h
        rw [List.mem_filter] at hg
        exact ⟨0, r, rfl, rfl, rfl, hg.1, hg.2⟩
      · exact ⟨j + 1, r', by simpa using h1, by omega, h3⟩
    · rintro ⟨j, r', h1, h2, h3, h4, h5⟩
      cases j with
      | zero =>
        left
        simp only [List.getElem?_cons_zero, Option.some.injEq] at h1
        subst h1
        unfold alR
        refine List.mem_map.2 ⟨a.g, List.mem_filter.2 ⟨h4, h5⟩, ?_⟩
        obtain ⟨a1, a2, a3⟩ := a
        simp only at *
        rw [h2, h3]
        rfl
      | succ j => exact Or.inr ⟨j, r', by simpa using h1, by omega, h3, h4, h5⟩
theorem mem_alerts {c : Cf} {rs : List Rl} {s : St} {K : Nat} {a : Al} : a ∈ alerts c rs s K ↔ a.ep < K ∧ ∃ r, rs[a.rule]? = some r ∧ told a.g (Ep c s (a.ep + 1)) = true ∧ hb a.g (epOf (Ep c s (a.ep + 1))) c.W c.need r a.ep = true := by
  unfold alerts
  rw [List.mem_flatMap]
  constructor
  · rintro ⟨e, he, h⟩
    unfold alE als at h
    obtain ⟨j, r, h1, h2, h3, h4, h5⟩ := mem_alsFrom.1 h
    rw [Nat.zero_add] at h2
    subst h2 h3
    exact ⟨List.mem_range.1 he, r, h1, tagsL_mem.1 h4, h5⟩
  · rintro ⟨he, r, h1, h2, h3⟩
    refine ⟨a.ep, List.mem_range.2 he, ?_⟩
    unfold alE als
    exact mem_alsFrom.2 ⟨a.rule, r, h1, by omega, rfl, tagsL_mem.2 h2, h3⟩
/-- There is an alert just where the rule holds by what is known now. -/
theorem alert_iff {c : Cf} {rs : List Rl} {s : St} {K i e : Nat} {g : ByteArray} {r : Rl} (hn : 1 ≤ c.need) (hr : rs[i]? = some r) (hok : r.ok) (he : e < K) : (⟨i, e, g⟩ : Al) ∈ alerts c rs s K ↔ HlA.HoldsP g (epOf (Ep c s K)) c.W c.need K (told g (Ep c s K)) r (e : Int) := by
  rw [mem_alerts, ← holds_later hn he]
  constructor
  · rintro ⟨_, r', h1, h2, h3⟩
    simp only at h1 h2 h3
    rw [hr] at h1
    obtain rfl := Option.some.inj h1
    exact ⟨h2, (hb_iff hok).1 h3⟩
  · rintro ⟨h2, h3⟩
    exact ⟨he, r, hr, h2, (hb_iff hok).2 h3⟩
theorem alR_nodup {W need : Nat} {ep : Nat → List Sg} {L : List ByteArray} (hL : L.Nodup) (e : Nat) (r : Rl) (i : Nat) : (alR W need ep L e r i).Nodup := by
  unfold alR List.Nodup
  rw [List.pairwise_map]
  exact List.Pairwise.imp (fun h e => h (Al.mk.inj e).2.2) (List.Pairwise.filter _ hL)
theorem alsFrom_nodup {W need : Nat} {ep : Nat → List Sg} {L : List ByteArray} (hL : L.Nodup) (e : Nat) : ∀ (rs : List Rl) (i : Nat), (alsFrom W need ep L e rs i).Nodup
  | [], _ => List.nodup_nil
  | r :: rs, i => by
    unfold alsFrom
    rw [List.nodup_append]
    refine ⟨alR_nodup hL e r i, alsFrom_nodup hL e rs (i + 1), fun a ha b hb e => ?_⟩
    subst e
    unfold alR at ha
    obtain ⟨g, _, rfl⟩ := List.mem_map.1 ha
    obtain ⟨j, r', _, h2, _⟩ := mem_alsFrom.1 hb
    simp only at h2
    omega
theorem alerts_nodup (c : Cf) (rs : List Rl) (s : St) (K : Nat) : (alerts c rs s K).Nodup := by
  induction K with
  | zero => rw [alerts_zero]; exact List.nodup_nil
  | succ K ih =>
    rw [alerts_snoc, List.nodup_append]
    refine ⟨ih, alsFrom_nodup (srt_nodup (tagsL_srt _)) _ _ _, fun a ha b hb e => ?_⟩
    subst e
    have h1 := (mem_alerts.1 ha).1
    unfold alE als at hb
    obtain ⟨_, _, _, _, h3, _⟩ := mem_alsFrom.1 hb
    omega
theorem cnt_congr {p q : Al → Bool} : ∀ {A : List Al}, (∀ a, a ∈ A → p a = q a) → A.countP p = A.countP q
  | [], _ => rfl
  | a :: A, h => by
    rw [List.countP_cons, List.countP_cons, h a List.mem_cons_self, cnt_congr (fun b hb => h b (List.mem_cons_of_mem _ hb))]
theorem cnt_same {p q : Al → Bool} {x : Al} {A : List Al} (hx : x ∉ A) (hq : ∀ a, a ∈ A → (q a = true ↔ p a = true ∨ a = x)) : A.countP q = A.countP p :=
  cnt_congr fun a ha => by
    rw [Bool.eq_iff_iff, hq a ha]
    constructor
    · rintro (h | h)
      · exact h
      · subst h; exact absurd ha hx
    · exact Or.inl
theorem cnt_more {p q : Al → Bool} {x : Al} : ∀ {A : List Al}, A.Nodup → x ∈ A → p x = false → (∀ a, a ∈ A → (q a = true ↔ p a = true ∨ a = x)) → A.countP q = A.countP p + 1
  | [], _, hx, _, _ => by cases hx
  | a :: A, hn, hx, hp, hq => by
    obtain ⟨h1, h2⟩ := List.nodup_cons.1 hn
    rw [List.countP_cons, List.countP_cons]
    rcases List.mem_cons.1 hx with e | e
    · subst e
      rw [hp, cnt_same h1 (fun b hb => hq b (List.mem_cons_of_mem _ hb)), (hq x List.mem_cons_self).2 (Or.inr rfl)]
      rfl
    · have hax : a ≠ x := fun e' => h1 (e' ▸ e)
      have hqa : q a = p a := by
        rw [Bool.eq_iff_iff, hq a List.mem_cons_self]
        exact ⟨fun h => h.resolve_right hax, Or.inl⟩
      rw [cnt_more h2 e hp (fun b hb => hq b (List.mem_cons_of_mem _ hb)), hqa]
      omega
/-- What was passed so far: the tags ahead of i, and of this one the rules ahead of k, and of this one the epochs ahead of e. -/
def ps (T : List ByteArray) (i k e : Nat) (a : Al) : Bool := hasT (T.take i) a.g || (decide (T[i]? = some a.g) && (decide (a.rule < k) || (decide (a.rule = k) && decide (a.ep < e))))
theorem ps_iff {T : List ByteArray} {i k e : Nat} {a : Al} : ps T i k e a = true ↔ a.g ∈ T.take i ∨ (T[i]? = some a.g ∧ (a.rule < k ∨ (a.rule = k ∧ a.ep < e))) := by
  unfold ps
  simp only [Bool.or_eq_true, Bool.and_eq_true, decide_eq_true_eq, hasT_iff]
theorem ps_zero {T : List ByteArray} {A : List Al} : A.countP (ps T 0 0 0) = 0 := by
  rw [List.countP_eq_zero]
  intro a _ h
  rw [ps_iff] at h
  rcases h with h | ⟨_, h | ⟨_, h⟩⟩
  · simp at h
  · omega
  · omega
theorem ps_epoch {T : List ByteArray} {i k e : Nat} {g : ByteArray} (hg : T[i]? = some g) (a : Al) : ps T i k (e + 1) a = true ↔ ps T i k e a = true ∨ a = ⟨k, e, g⟩ := by
  rw [ps_iff, ps_iff, hg]
  obtain ⟨a1, a2, a3⟩ := a
  simp only [Option.some.injEq, Al.mk.injEq]
  constructor
  · rintro (h | ⟨h1, h2 | ⟨h2, h3⟩⟩)
    · exact Or.inl (Or.inl h)
    · exact Or.inl (Or.inr ⟨h1, Or.inl h2⟩)
    · by_cases hx : a2 = e
      · exact Or.inr ⟨h2, hx, h1.symm⟩
      · exact Or.inl (Or.inr ⟨h1, Or.inr ⟨h2, by omega⟩⟩)
  · rintro ((h | ⟨h1, h2 | ⟨h2, h3⟩⟩) | ⟨h1, h2, h3⟩)
    · exact Or.inl h
    · exact Or.inr ⟨h1, Or.inl h2⟩
    · exact Or.inr ⟨h1, Or.inr ⟨h2, by omega⟩⟩
    · exact Or.inr ⟨h3.symm, Or.inr ⟨h1, by omega⟩⟩
theorem ps_fresh {T : List ByteArray} {i k e : Nat} {g : ByteArray} (hT : T.Nodup) (hg : T[i]? = some g) : ps T i k e ⟨k, e, g⟩ = false := by
  rw [← Bool.not_eq_true, ps_iff]
  rintro (h | ⟨_, h | ⟨_, h⟩⟩)
  · obtain ⟨j, hj⟩ := List.getElem?_of_mem h
    rw [List.getElem?_take] at hj
    split at hj
    · rename_i hji
      have hi : i < T.length := by
        rcases Nat.lt_or_ge i T.length with h | h
        · exact h
        · rw [List.getElem?_eq_none h] at hg; cases hg
      have hjl : j < T.length := by omega
      rw [List.getElem?_eq_getElem hjl] at hj
      rw [List.getElem?_eq_getElem hi] at hg
      exact absurd ((Option.some.inj hj).trans (Option.some.inj hg).symm) (List.pairwise_iff_getElem.1 hT j i hjl hi hji)
    · cases hj
  · simp only at h; omega
  · simp only at h; omega
section
variable {T : List ByteArray} {c : Cf} {rs : List Rl} {s : St} {K : Nat}
theorem ps_rule {i k : Nat} : (alerts c rs s K).countP (ps T i k K) = (alerts c rs s K).countP (ps T i (k + 1) 0) :=
  cnt_congr fun a ha => by
    have h1 := (mem_alerts.1 ha).1
    rw [Bool.eq_iff_iff, ps_iff, ps_iff]
    constructor
    · rintro (h | ⟨h, h2 | ⟨h2, _⟩⟩)
      · exact Or.inl h
      · exact Or.inr ⟨h, Or.inl (by omega)⟩
      · exact Or.inr ⟨h, Or.inl (by omega)⟩
    · rintro (h | ⟨h, h2 | ⟨_, h2⟩⟩)
      · exact Or.inl h
      · by_cases hk : a.rule = k
        · exact Or.inr ⟨h, Or.inr ⟨hk, h1⟩⟩
        · exact Or.inr ⟨h, Or.inl (by omega)⟩
      · omega
theorem take_mem {i : Nat} {g x : ByteArray} (hg : T[i]? = some g) : x ∈ T.take (i + 1) ↔ x ∈ T.take i ∨ x = g := by
  rw [List.take_add_one, hg, List.mem_append]
  simp
theorem ps_tag {i : Nat} {g : ByteArray} (hg : T[i]? = some g) : (alerts c rs s K).countP (ps T i rs.length 0) = (alerts c rs s K).countP (ps T (i + 1) 0 0) :=
  cnt_congr fun a ha => by
    obtain ⟨_, r, hr, _⟩ := mem_alerts.1 ha
    have hlt : a.rule < rs.length := by
      rcases Nat.lt_or_ge a.rule rs.length with h | h
      · exact h
      · rw [List.getElem?_eq_none h] at hr; cases hr
    rw [Bool.eq_iff_iff, ps_iff, ps_iff, take_mem hg, hg, Option.some.injEq]
    constructor
    · rintro (h | ⟨h, _⟩)
      · exact Or.inl (Or.inl h)
      · exact Or.inl (Or.inr h.symm)
    · rintro ((h | h) | ⟨_, h | ⟨_, h⟩⟩)
      · exact Or.inl h
      · exact Or.inr ⟨h.symm, Or.inl hlt⟩
      · omega
      · omega
theorem ps_skip {i : Nat} {g : ByteArray} (hg : T[i]? = some g) (hno : ∀ a, a ∈ alerts c rs s K → a.g ≠ g) : (alerts c rs s K).countP (ps T i 0 0) = (alerts c rs s K).countP (ps T (i + 1) 0 0) :=
  cnt_congr fun a ha => by
    have := hno a ha
    rw [Bool.eq_iff_iff, ps_iff, ps_iff, take_mem hg]
    constructor
    · rintro (h | ⟨_, h | ⟨_, h⟩⟩)
      · exact Or.inl (Or.inl h)
      · omega
      · omega
    · rintro ((h | h) | ⟨_, h | ⟨_, h⟩⟩)
      · exact Or.inl h
      · exact absurd h this
      · omega
      · omega
theorem ps_all (hin : ∀ a, a ∈ alerts c rs s K → a.g ∈ T) : (alerts c rs s K).countP (ps T T.length 0 0) = (alerts c rs s K).length := by
  rw [List.countP_eq_length]
  intro a ha
  rw [ps_iff, List.take_of_length_le (Nat.le_refl _)]
  exact Or.inl (hin a ha)
end
end Go.Proofs.YtmolafjalaeoaaaGreatDoor.WdM
namespace Go.Proofs.YtmolafjalaeoaaaGreatDoor.WbA
open Go.RowKit TkW WaM WaW WaB WbO Go.Maps
open RuM (Rl)
set_option maxRecDepth 100000
theorem addO_nodup {T : List ByteArray} (h : T.Nodup) (g : ByteArray) : (addO T g).Nodup := by
  unfold addO
  split
  · rename_i hc
    rw [List.nodup_append]
    refine ⟨h, by simp, fun a ha b hb e => ?_⟩
    simp only [List.mem_singleton] at hb
    subst hb e
    have := hasT_iff.2 ha
    rw [hc.2] at this
    cases this
  · exact h
theorem foldO_nodup : ∀ (l : List ByteArray) {T : List ByteArray}, T.Nodup → (l.foldl addO T).Nodup
  | [], _, h => h
  | g :: l, _, h => foldO_nodup l (addO_nodup h g)
theorem step_nodup {t : Tg} (h : t.out.Nodup) (a : Ac) : (t.step a).out.Nodup := by
  unfold Tg.step
  split
  · exact h
  · exact foldO_nodup _ h
theorem steps_nodup : ∀ (l : List Ac) {t : Tg}, t.out.Nodup → (l.foldl Tg.step t).out.Nodup
  | [], _, h => h
  | a :: l, _, h => steps_nodup l (step_nodup h a)
theorem tgs_nodup (ac : List Ac) : (tgs ac).out.Nodup := steps_nodup ac (by simp [Tg.zero])
section
variable {c : Cf} {U : List ByteArray}
theorem read_in' {s : St} {r : Nat} {x : FrmM.Rd} (hx : InA.knd x.t ≠ 0 → x.t ∈ U) (hs : In U s) : In U (s.read c r x) := by
  unfold St.read
  by_cases h0 : InA.knd x.t = 0
  · rw [if_pos h0]; exact hs
  · rw [if_neg h0]
    repeat' split
    · exact hs
    · exact hs
    · exact hs
    · intro y hy
      rcases List.mem_append.1 hy with h | h
      · exact hs y h
      · simp only [List.mem_singleton] at h
        subst h
        exact hx h0
theorem reads_in' (r : Nat) : ∀ (l : List FrmM.Rd) {s : St}, WbO.Good U l → In U s → In U (l.foldl (St.read c r) s)
  | [], _, _, h => h
  | x :: l, _, hg, h => reads_in' r l (fun y hy => hg y (List.mem_cons_of_mem _ hy)) (read_in' (hg x List.mem_cons_self) h)
theorem hears_in' (r : Nat) : ∀ (fs : List FrmM.Fr) {s : St}, WbO.Good U (fs.flatMap (·.rs)) → In U s → In U (fs.foldl (St.hear c r) s)
  | [], _, _, h => h
  | f :: fs, s, hg, h => by
    refine hears_in' r fs (fun y hy => hg y (by rw [List.flatMap_cons]; exact List.mem_append_right _ hy)) ?_
    refine reads_in' r f.rs (fun y hy => hg y (by rw [List.flatMap_cons]; exact List.mem_append_left _ hy)) ?_
    intro y hy
    rw [(heat_now r s f).2.2.2] at hy
    exact h y hy
theorem feed_in' {s : St} {r : Nat} {b : List UInt8} (hg : WbO.Good U (rds s r b)) (h : In U s) : In U (s.feed c r b) :=
  hears_in' r _ hg (fun y hy => h y hy)
theorem plays_in' {ac : List Ac} (hU : (tgs ac).out.length < 40) : ∀ j, j ≤ ac.length → In (tgs ac).out (plays c (ac.take j) St.zero)
  | 0, _ => fun y hy => by simp [plays, St.zero] at hy
  | j + 1, hj => by
    have ih := plays_in' hU j (by omega)
    have hj' := List.getElem?_eq_getElem (l := ac) (i := j) (by omega)
    rw [plays_succ hj']
    unfold pact
    by_cases hk : ac[j].kd = tickW
    · rw [if_pos hk]
      intro y hy
      refine ih y ?_
      unfold pt at hy
      split at hy
      · exact hy
      · exact hy
    · rw [if_neg hk]
      have hg := reads_in (c := c) hU hj' hk
      by_cases hl : live ac[j]
      · rw [pf_live hl]
        exact feed_in' (hg hl) ih
      · rw [pf_dead hl]
        exact ih
/-- An alert's tag was read. -/
theorem alert_tag {ac : List Ac} {rs : List Rl} {K : Nat} (hU : (tgs ac).out.length < 40) {a : Al} (h : a ∈ alerts c rs (plays c ac St.zero) K) : a.g ∈ (tgs ac).out := by
  obtain ⟨_, r, _, h2, _⟩ := WdM.mem_alerts.1 h
  have h3 := tags_sub (tagsL_mem.2 h2)
  rw [kn_mem] at h3
  obtain ⟨x, hx, hxg⟩ := h3
  rw [← hxg]
  have := plays_in' (c := c) hU ac.length (Nat.le_refl _)
  rw [List.take_of_length_le (Nat.le_refl _)] at this
  exact this x hx
end
end Go.Proofs.YtmolafjalaeoaaaGreatDoor.WbA
