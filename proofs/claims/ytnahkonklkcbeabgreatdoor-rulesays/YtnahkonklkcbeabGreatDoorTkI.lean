/-
  Epochs in memory; what LightEpochs does to the world.
-/
import Derived.Test.YtnahkonklkcbeabGreatDoorTkH
namespace Go.Proofs.YtnahkonklkcbeabGreatDoor.TkA
open Go.RowKit TkM TkW Go.Maps
set_option maxRecDepth 100000

/-- A list of epochs, wherever it lies. -/
structure EsOn (w : World) (a : Option Addr) (E : List (List Sg)) : Prop where
  at_ : E ≠ [] → ∃ b o, a = some ⟨b, o, none⟩ ∧ b < w.heap.size ∧ ∀ k l, E[k]? = some l → ∃ p cap, w.cell? ⟨b, o + k, none⟩ = some (.slice p l.length cap) ∧ SgsOn w p l
theorem EsOn.below {w w' : World} {a : Option Addr} {E : List (List Sg)} (h : EsOn w a E) (hb : Below w.heap.size w w') : EsOn w' a E where
  at_ := fun hne => by
    obtain ⟨b, o, rfl, hlt, hc⟩ := h.at_ hne
    refine ⟨b, o, rfl, Nat.lt_of_lt_of_le hlt hb.size, fun k l hl => ?_⟩
    obtain ⟨p, cap, h1, h2⟩ := hc k l hl
    exact ⟨p, cap, by rw [hb.cell hlt]; exact h1, h2.below hb⟩
def goodL (l : List Sg) : Bool := decide (l.length ≤ 25) && l.all (fun x => decide (x.g.size ≤ 20))
def light (E : List (List Sg)) : Bool := decide (E.length ≤ 25) && E.all goodL
theorem goodL_iff {l : List Sg} : goodL l = true ↔ l.length ≤ 25 ∧ ∀ x, x ∈ l → x.g.size ≤ 20 := by simp [goodL]
theorem light_iff {E : List (List Sg)} : light E = true ↔ E.length ≤ 25 ∧ ∀ l, l ∈ E → goodL l = true := by simp [light]
theorem light_long (a : Option Addr) (N cap : Nat) (w : World) (hn : 25 < N) :
    Calls Tryz.prog 5 #[.slice a N cap] w fun e w' => e = .returned (.bool false) ∧ w' = w := by
  have hI : (25 : Int) < N := by omega
  go_enter Tryz.func5, Tryz.ntmps5
  go_wp2
  go_ret
  exact ⟨rfl, rfl⟩
set_option maxHeartbeats 1000000 in
theorem light_short (E : List (List Sg)) (a : Option Addr) (cap : Nat) (w : World) (hE : EsOn w a E) (hn : E.length ≤ 25) (hb : ∀ l, l ∈ E → l.length ≤ 9223372036854775807 ∧ ∀ x, x ∈ l → x.g.size ≤ 9223372036854775807) :
    Calls Tryz.prog 5 #[.slice a E.length cap] w fun e w' => e = .returned (.bool (light E)) ∧ w' = w := by
  obtain ⟨N, hN⟩ : ∃ N, N = E.length := ⟨_, rfl⟩
  obtain ⟨r, hr⟩ : ∃ r, r = light E := ⟨_, rfl⟩
  have HN : Hid (N = E.length) := hN
  have HR : Hid (r = light E) := hr
  have HE : Hid (EsOn w a E) := hE
  have HBD : Hid (∀ l, l ∈ E → l.length ≤ 9223372036854775807 ∧ ∀ x, x ∈ l → x.g.size ≤ 9223372036854775807) := hb
  rw [← hN] at hn ⊢
  rw [← hr]
  have hI : ¬ (25 : Int) < N := by omega
  clear hN hr hE hb
  go_enter Tryz.func5, Tryz.ntmps5
  go_wp2
  go_loopw [3, 4] (fun i _ V => ∃ k : Nat, k ≤ N ∧ i = .int .i64 (k : Int) ∧ V = w ∧ ∀ l, l ∈ E.take k → goodL l = true) (fun i _ _ => N - (intOf i).toNat)
  case atStart => exact ⟨0, Nat.zero_le _, rfl, rfl, fun l hl => by simp at hl⟩
  case round =>
    obtain ⟨k, hk, rfl, rfl, hall⟩ := hrel
    by_cases hlt : k < N
    case neg =>
      have hkk : k = N := by omega
      subst hkk
      have hrt : r = true := by rw [HR.out, light_iff]; rw [HN.out, List.take_length] at hall; exact ⟨by rw [← HN.out]; exact hn, hall⟩
      have hII : ¬ (k : Int) < k := by omega
      clear hall hlt
      go_wp2
      go_ret
      exact ⟨rfl, rfl⟩
    case pos =>
      have hkI : (k : Int) < N := by omega
      have hk' : k < E.length := by rw [← HN.out]; exact hlt
      obtain ⟨b, o, rfl, hbl, hc⟩ := HE.out.at_ (by intro e; rw [e] at hk'; simp at hk')
      obtain ⟨p, cp, c0, hs⟩ := hc k _ (List.getElem?_eq_getElem hk')
      have hmem := List.getElem_mem hk'
      obtain ⟨hb1, hb2⟩ := HBD.out _ hmem
      have HA : Hid (goodL E[k] = true → ∀ l, l ∈ E.take (k + 1) → goodL l = true) := fun h l hl => by
        rw [List.take_add_one, List.getElem?_eq_getElem hk'] at hl
        rcases List.mem_append.1 hl with h' | h'
        · exact hall l h'
        · simp at h'; rw [h']; exact h
      have HF : Hid (goodL E[k] = false → r = false) := fun h => by
        cases hrr : r
        · rfl
        · rw [HR.out, light_iff] at hrr
          have := hrr.2 _ hmem
          rw [h] at this; cases this
      generalize E[k] = l at *
      obtain ⟨m, hm⟩ : ∃ m, m = l.length := ⟨_, rfl⟩
      have HM : Hid (m = l.length) := hm
      rw [← hm] at c0 hb1
      have HS : Hid (SgsOn wr p l) := hs
      have HB2 : Hid (∀ x, x ∈ l → x.g.size ≤ 9223372036854775807) := hb2
      clear hc hmem hall hm hs hb2
      by_cases hm25 : 25 < m
      · have hmI : (25 : Int) < m := by omega
        have hrf : r = false := HF.out (by cases h : goodL l; rfl; have := (goodL_iff.1 h).1; rw [← HM.out] at this; omega)
        go_wp2
        go_ret
        exact ⟨congrArg (fun x => Ending.returned (.bool x)) hrf.symm, rfl⟩
      · have hmI : ¬ (25 : Int) < m := by omega
        go_wp2
        go_loopw [4] (fun i V => ∃ j : Nat, j ≤ m ∧ i = .int .i64 (j : Int) ∧ V = wr ∧ ∀ x, x ∈ l.take j → x.g.size ≤ 20) (fun i _ => m - (intOf i).toNat)
        case atStart => exact ⟨0, Nat.zero_le _, rfl, rfl, fun x hx => by simp at hx⟩
        case round =>
          obtain ⟨j, hj, rfl, rfl, hal⟩ := hrel
          by_cases hlj : j < m
          case neg =>
            have hjj : j = m := by omega
            subst hjj
            have hII : ¬ (j : Int) < j := by omega
            have HG : Hid (goodL l = true) := goodL_iff.2 ⟨by rw [← HM.out]; omega, by rw [HM.out, List.take_length] at hal; exact hal⟩
            clear hal hlj
            go_wp2
            refine ⟨⟨k + 1, by omega, by go_num, trivial, HA.out HG.out⟩, by simp [intOf]; omega⟩
          case pos =>
            have hjI : (j : Int) < m := by omega
            have hj' : j < l.length := by rw [← HM.out]; exact hlj
            obtain ⟨b', o', rfl, hbl', hc'⟩ := HS.out.at_ (by intro e; rw [e] at hj'; simp at hj')
            have a3 := (hc' j _ (List.getElem?_eq_getElem hj')).c3
            have hm2 := List.getElem_mem hj'
            have hgb := HB2.out _ hm2
            have HA2 : Hid (l[j].g.size ≤ 20 → ∀ x, x ∈ l.take (j + 1) → x.g.size ≤ 20) := fun h x hx => by
              rw [List.take_add_one, List.getElem?_eq_getElem hj'] at hx
              rcases List.mem_append.1 hx with h' | h'
              · exact hal x h'
              · simp at h'; rw [h']; exact h
            have HF2 : Hid (20 < l[j].g.size → r = false) := fun h => HF.out (by
              cases hg : goodL l
              · rfl
              · have := (goodL_iff.1 hg).2 _ hm2; omega)
            generalize l[j] = x at *
            obtain ⟨xp, xs, xt, xg⟩ := x
            simp only at a3 hgb
            clear hc' hm2 hal
            by_cases hg : 20 < xg.size
            · have hgI : (20 : Int) < xg.size := by omega
              have hrf : r = false := HF2.out hg
              go_wp2
              go_ret
              exact ⟨rfl, rfl⟩
            · have hgI : ¬ (20 : Int) < xg.size := by omega
              go_wp2
              go_roundw
              case rel => exact ⟨j + 1, by omega, by go_num, trivial, HA2.out (by simp only; omega)⟩
              case measure => simp [intOf]; omega
theorem light_any (E : List (List Sg)) (a : Option Addr) (cap : Nat) (w : World) (hE : EsOn w a E) (hb : ∀ l, l ∈ E → l.length ≤ 9223372036854775807 ∧ ∀ x, x ∈ l → x.g.size ≤ 9223372036854775807) :
    Calls Tryz.prog 5 #[.slice a E.length cap] w fun e w' => e = .returned (.bool (light E)) ∧ w' = w := by
  by_cases h : E.length ≤ 25
  · exact light_short E a cap w hE h hb
  · have e : light E = false := by simp [light, h]
    rw [e]
    exact light_long a _ cap w (by omega)
end Go.Proofs.YtnahkonklkcbeabGreatDoor.TkA
