/-
  Lists of epochs as they are handed in.
-/
import Derived.Test.YtnahkonklkcbeabGreatDoorTkI
import Derived.ProofKit
import Derived.Deep.Slices
import Derived.OpenShut
namespace Go.Proofs.YtnahkonklkcbeabGreatDoor.TkA
open Go.ChangeShapes Go.WideShapes Go.ChangeAt Go.RowKit Go.Deep TkM TkW
set_option maxRecDepth 100000

theorem own : ownKnob Tryz.prog.godebug = none := by kernel_rfl
theorem laidOut : laidOutB Tryz.prog = true := by kernel_rfl
theorem cells3 : Tryz.prog.cellsOf 3 = 1 := by kernel_rfl
theorem cells9 : Tryz.prog.cellsOf 9 = 1 := by kernel_rfl
theorem cells61 : Tryz.prog.cellsOf 53 = 4 := by kernel_rfl
theorem cells73 : Tryz.prog.cellsOf 51 = 1 := by kernel_rfl
theorem list_of {α : Type} {Q : Nat → α → Prop} (n : Nat) (h : ∀ i, i < n → ∃ r, Q i r) : ∃ l : List α, l.length = n ∧ ∀ (k : Nat) (r : α), l[k]? = some r → Q k r := by
  induction n with
  | zero => exact ⟨[], rfl, fun k r hk => by simp at hk⟩
  | succ n ih =>
    obtain ⟨l, hl, hq⟩ := ih (fun i hi => h i (by omega))
    obtain ⟨r, hr⟩ := h n (by omega)
    refine ⟨l ++ [r], by simp [hl], fun k x hk => ?_⟩
    rcases Nat.lt_or_ge k l.length with hlt | hge
    · rw [List.getElem?_append_left hlt] at hk
      exact hq k x hk
    · rw [List.getElem?_append_right hge] at hk
      have : k = n := by
        rcases Nat.lt_or_ge (k - l.length) 1 with h1 | h1
        · omega
        · rw [List.getElem?_eq_none (by simp; omega)] at hk; cases hk
      subst this
      rw [hl, Nat.sub_self] at hk
      simp at hk
      subst hk
      exact hr
theorem add_zero (a : Addr) : a.add 0 = a := by unfold Addr.add; simp
theorem plain_addr {a : Addr} {w : World} {v : Value} (h : w.cell? a = some v) : ∃ b o, a = ⟨b, o, none⟩ ∧ b < w.heap.size := by
  obtain ⟨b, o, sp⟩ := a
  have hlt : b < w.heap.size := by
    rcases Nat.lt_or_ge b w.heap.size with h1 | h1
    · exact h1
    · simp [World.cell?, Array.getElem?_eq_none h1] at h
  cases sp with
  | none => exact ⟨b, o, rfl, hlt⟩
  | some sp =>
    exfalso
    unfold World.cell? at h
    split at h <;> simp at h
theorem cells_slice {v : Value} {p : Option Addr} {n c : Nat} (hv : ∃ p' n' c', v = .slice p' n' c') (h : v.cells.toList = [.slice p n c]) : v = .slice p n c := by
  obtain ⟨p', n', c', rfl⟩ := hv
  simpa [Value.cells] using h
section
variable {H : Type} {enc : TypeId × Value → H} {w : World} {base : Nat} {spare : Nat → Bool} {held : Bool}
theorem open_sight {fuel : Nat} {cs : List Value} {x : DataW H × List MemPlace} (hlen : cs.length = 4) (h : DataW.trod enc Tryz.prog w base spare held fuel 53 cs = some x) : ∃ r : Sg, cs = sgc r ∧ r.g.size ≤ maxLen := by
  match cs, hlen with
  | [v0, v1, v2, v3], _ =>
    obtain ⟨xs, n, _, hx, _, hl, he⟩ := DataW.trod_struct Tryz.underlying53 h
    match xs, hl with
    | [y0, y1, y2, y3], _ =>
      have e0 : DataW.trod enc Tryz.prog w base spare held n 3 (([v0, v1, v2, v3].drop 0).take (Tryz.prog.cellsOf 3)) = some y0 := he 0 _ rfl
      have e1 : DataW.trod enc Tryz.prog w base spare held n 3 (([v0, v1, v2, v3].drop 1).take (Tryz.prog.cellsOf 3)) = some y1 := he 1 _ rfl
      have e2 : DataW.trod enc Tryz.prog w base spare held n 3 (([v0, v1, v2, v3].drop 2).take (Tryz.prog.cellsOf 3)) = some y2 := he 2 _ rfl
      have e3 : DataW.trod enc Tryz.prog w base spare held n 9 (([v0, v1, v2, v3].drop 3).take (Tryz.prog.cellsOf 9)) = some y3 := he 3 _ rfl
      obtain ⟨a0, q0, _, _⟩ := DataW.trod_int Tryz.underlying3 e0
      obtain ⟨a1, q1, _, _⟩ := DataW.trod_int Tryz.underlying3 e1
      obtain ⟨a2, q2, _, _⟩ := DataW.trod_int Tryz.underlying3 e2
      obtain ⟨a3, q3, _, w3⟩ := DataW.trod_string Tryz.underlying9 e3
      rw [cells3] at q0 q1 q2
      rw [cells9] at q3
      simp at q0 q1 q2 q3
      subst q0 q1 q2 q3
      exact ⟨⟨a0, a1, a2, a3⟩, rfl, w3⟩
theorem open_sights {fuel : Nat} {cs : List Value} {x : DataW H × List MemPlace} (h : DataW.trod enc Tryz.prog w base spare held fuel 51 cs = some x) : ∃ p cap l, cs = [.slice p (List.length l) cap] ∧ SgsOn w p l ∧ l.length ≤ maxLen ∧ ∀ r : Sg, r ∈ l → r.g.size ≤ maxLen := by
  rcases open_slice Tryz.underlying51 h with ⟨rfl, _⟩ | ⟨a, len, cap, m, n, D, Pl, rfl, hb, hle, hcap, hm, _, hel⟩
  · exact ⟨none, 0, [], rfl, SgsOn.empty, Nat.zero_le _, fun r hr => absurd hr List.not_mem_nil⟩
  · have hml : len ≤ m := by rw [hm]; split <;> omega
    obtain ⟨rs, hrl, hrs⟩ := list_of (Q := fun i (r : Sg) => r.g.size ≤ maxLen ∧ ∀ j u, (sgc r)[j]? = some u → w.cell? ((a.add (i * 4)).add j) = some u) len (fun i hi => by
      obtain ⟨cs', hc, ht⟩ := hel i (by omega)
      rw [cells61] at hc
      obtain ⟨_, hlen, hcell⟩ := World.cells?_some hc
      obtain ⟨r, rfl, hrt⟩ := open_sight hlen ht
      refine ⟨r, hrt, fun j u hj => ?_⟩
      have hj7 : j < 4 := by
        rcases Nat.lt_or_ge j 4 with h | h
        · exact h
        · rw [List.getElem?_eq_none (by show 4 ≤ j; exact h)] at hj; cases hj
      rw [hcell j hj7]
      exact hj)
    refine ⟨some a, cap, rs, by rw [hrl], ⟨fun hne => ?_⟩, by omega, fun r hr => ?_⟩
    · have h0 : 0 < rs.length := List.length_pos_iff.2 hne
      have hf := (hrs 0 _ (List.getElem?_eq_getElem h0)).2 0 _ rfl
      rw [Nat.zero_mul, add_zero, add_zero] at hf
      obtain ⟨b, o, rfl, hlt⟩ := plain_addr hf
      refine ⟨b, o, rfl, hlt, fun k r hk => ?_⟩
      have hc := (hrs k r hk).2
      have e1 : (⟨b, o, none⟩ : Addr).add (k * 4) = ⟨b, o + k * 4, none⟩ := by unfold Addr.add; split <;> simp_all
      have e2 : ∀ j, (⟨b, o + k * 4, none⟩ : Addr).add j = ⟨b, o + k * 4 + j, none⟩ := fun j => by unfold Addr.add; split <;> simp_all
      rw [e1] at hc
      have k0 := hc 0 _ rfl
      have k1 := hc 1 _ rfl
      have k2 := hc 2 _ rfl
      have k3 := hc 3 _ rfl
      rw [e2] at k0 k1 k2 k3
      exact ⟨k0, k1, k2, k3⟩
    · obtain ⟨k, hk⟩ := List.getElem?_of_mem hr
      exact (hrs k r hk).1
theorem open_epochs {fuel : Nat} {cs : List Value} {x : DataW H × List MemPlace} (h : DataW.trod enc Tryz.prog w base spare held fuel 24 cs = some x) : ∃ p cap E, cs = [.slice p (List.length E) cap] ∧ EsOn w p E ∧ ∀ l : List Sg, l ∈ E → l.length ≤ 9223372036854775807 ∧ ∀ r, r ∈ l → r.g.size ≤ 9223372036854775807 := by
  have hmx : maxLen = 9223372036854775807 := by decide
  rcases open_slice Tryz.underlying24 h with ⟨rfl, _⟩ | ⟨a, len, cap, m, n, D, Pl, rfl, hb, hle, hcap, hm, _, hel⟩
  · exact ⟨none, 0, [], rfl, ⟨fun hn => absurd rfl hn⟩, fun r hr => absurd hr List.not_mem_nil⟩
  · have hml : len ≤ m := by rw [hm]; split <;> omega
    obtain ⟨rs, hrl, hrs⟩ := list_of (Q := fun i (l : List Sg) => ((l.length ≤ maxLen ∧ ∀ r : Sg, r ∈ l → r.g.size ≤ maxLen)) ∧ ∃ p cp, w.cell? (a.add i) = some (.slice p l.length cp) ∧ SgsOn w p l) len (fun i hi => by
      obtain ⟨cs', hc, ht⟩ := hel i (by omega)
      rw [cells73] at hc
      obtain ⟨_, hlen, hcell⟩ := World.cells?_some hc
      obtain ⟨p, cp, l, rfl, hon, h1, h2⟩ := open_sights ht
      refine ⟨l, ⟨h1, h2⟩, p, cp, ?_, hon⟩
      have := hcell 0 (by omega)
      rw [add_zero, Nat.mul_one] at this
      rw [this]
      rfl)
    refine ⟨some a, cap, rs, by rw [hrl], ⟨fun hne => ?_⟩, fun l hl => ?_⟩
    · have h0 : 0 < rs.length := List.length_pos_iff.2 hne
      obtain ⟨p0, c0, hf, _⟩ := (hrs 0 _ (List.getElem?_eq_getElem h0)).2
      rw [add_zero] at hf
      obtain ⟨b, o, rfl, hlt⟩ := plain_addr hf
      refine ⟨b, o, rfl, hlt, fun k l hk => ?_⟩
      obtain ⟨p, cp, hc, hon⟩ := (hrs k l hk).2
      have e1 : (⟨b, o, none⟩ : Addr).add k = ⟨b, o + k, none⟩ := by unfold Addr.add; split <;> simp_all
      rw [e1] at hc
      exact ⟨p, cp, hc, hon⟩
    · obtain ⟨k, hk⟩ := List.getElem?_of_mem hl
      have h := (hrs k l hk).1
      rw [hmx] at h
      exact h
end
end Go.Proofs.YtnahkonklkcbeabGreatDoor.TkA
