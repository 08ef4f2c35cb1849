/-
  PROVED: EpochSays returns true, whatever the numbers and the acts; the list reads as before. No condition.
-/
import Derived.Test.YtllhfbnafemoeaaRows
import Derived.Test.YtllhfbnafemoeaaEpP
import Derived.ProofKit
import Derived.Deep.Slices
import Derived.OpenShut
namespace Go.Proofs.Ytllhfbnafemoeaa.EpA
open Go.ChangeShapes Go.WideShapes Go.ChangeAt Go.RowKit Go.Deep EpM EpW
set_option maxRecDepth 100000

theorem own : ownKnob Try.prog.godebug = none := by kernel_rfl
theorem laidOut : laidOutB Try.prog = true := by kernel_rfl
theorem cells3 : Try.prog.cellsOf 3 = 1 := by kernel_rfl
theorem cells9 : Try.prog.cellsOf 9 = 1 := by kernel_rfl
theorem cells61 : Try.prog.cellsOf 61 = 4 := by kernel_rfl
theorem cells63 : Try.prog.cellsOf 63 = 7 := by kernel_rfl
theorem list_of {α : Type} {Q : Nat → α → Prop} (n : Nat) (h : ∀ i, i < n → ∃ r, Q i r) : ∃ l : List α, l.length = n ∧ ∀ (k : Nat) (r : α), l[k]? = some r → Q k r := by
  induction n with
  | zero => exact ⟨[], rfl, fun k r hk => by simp at hk⟩
  | succ n ih =>
    obtain ⟨l, hl, hq⟩ := ih (fun i hi => h i (by omega))
    obtain ⟨r, hr⟩ := h n (by omega)
    refine ⟨l ++ [r], by simp [hl], fun k x hk => ?_⟩
    rcases Nat.lt_or_ge k l.length with hlt | hge
    · rw [List.getElem?_append_left hlt] at hk
      exact hq k x hk
    · rw [List.getElem?_append_right hge] at hk
      have : k = n := by
        rcases Nat.lt_or_ge (k - l.length) 1 with h1 | h1
        · omega
        · rw [List.getElem?_eq_none (by simp; omega)] at hk; cases hk
      subst this
      rw [hl, Nat.sub_self] at hk
      simp at hk
      subst hk
      exact hr
theorem add_zero (a : Addr) : a.add 0 = a := by unfold Addr.add; simp
theorem plain_addr {a : Addr} {w : World} {v : Value} (h : w.cell? a = some v) : ∃ b o, a = ⟨b, o, none⟩ ∧ b < w.heap.size := by
  obtain ⟨b, o, sp⟩ := a
  have hlt : b < w.heap.size := by
    rcases Nat.lt_or_ge b w.heap.size with h1 | h1
    · exact h1
    · simp [World.cell?, Array.getElem?_eq_none h1] at h
  cases sp with
  | none => exact ⟨b, o, rfl, hlt⟩
  | some sp =>
    exfalso
    unfold World.cell? at h
    split at h <;> simp at h
theorem cells_slice {v : Value} {p : Option Addr} {n c : Nat} (hv : ∃ p' n' c', v = .slice p' n' c') (h : v.cells.toList = [.slice p n c]) : v = .slice p n c := by
  obtain ⟨p', n', c', rfl⟩ := hv
  simpa [Value.cells] using h
def acCells (a : Ac) : List Value := [.string a.kd, .int .i64 a.n, .string a.st, .int .i64 a.x.p, .int .i64 a.x.s, .int .i64 a.x.t, .string a.x.g]
section
variable {H : Type} {enc : TypeId × Value → H} {w : World} {base : Nat} {spare : Nat → Bool} {held : Bool}
theorem open_sight {fuel : Nat} {cs : List Value} {x : DataW H × List MemPlace} (hlen : cs.length = 4) (h : DataW.trod enc Try.prog w base spare held fuel 61 cs = some x) : ∃ r : Sg, cs = sgc r ∧ r.g.size ≤ maxLen := by
  match cs, hlen with
  | [v0, v1, v2, v3], _ =>
    obtain ⟨xs, n, _, hx, _, hl, he⟩ := DataW.trod_struct Try.underlying61 h
    match xs, hl with
    | [y0, y1, y2, y3], _ =>
      have e0 : DataW.trod enc Try.prog w base spare held n 3 (([v0, v1, v2, v3].drop 0).take (Try.prog.cellsOf 3)) = some y0 := he 0 _ rfl
      have e1 : DataW.trod enc Try.prog w base spare held n 3 (([v0, v1, v2, v3].drop 1).take (Try.prog.cellsOf 3)) = some y1 := he 1 _ rfl
      have e2 : DataW.trod enc Try.prog w base spare held n 3 (([v0, v1, v2, v3].drop 2).take (Try.prog.cellsOf 3)) = some y2 := he 2 _ rfl
      have e3 : DataW.trod enc Try.prog w base spare held n 9 (([v0, v1, v2, v3].drop 3).take (Try.prog.cellsOf 9)) = some y3 := he 3 _ rfl
      obtain ⟨a0, q0, _, _⟩ := DataW.trod_int Try.underlying3 e0
      obtain ⟨a1, q1, _, _⟩ := DataW.trod_int Try.underlying3 e1
      obtain ⟨a2, q2, _, _⟩ := DataW.trod_int Try.underlying3 e2
      obtain ⟨a3, q3, _, w3⟩ := DataW.trod_string Try.underlying9 e3
      rw [cells3] at q0 q1 q2
      rw [cells9] at q3
      simp at q0 q1 q2 q3
      subst q0 q1 q2 q3
      exact ⟨⟨a0, a1, a2, a3⟩, rfl, w3⟩
theorem open_act {fuel : Nat} {cs : List Value} {x : DataW H × List MemPlace} (hlen : cs.length = 7) (h : DataW.trod enc Try.prog w base spare held fuel 63 cs = some x) : ∃ a : Ac, cs = acCells a ∧ a.x.g.size ≤ maxLen := by
  match cs, hlen with
  | [v0, v1, v2, v3, v4, v5, v6], _ =>
    obtain ⟨xs, n, _, hx, _, hl, he⟩ := DataW.trod_struct Try.underlying63 h
    match xs, hl with
    | [y0, y1, y2, y3], _ =>
      have e0 : DataW.trod enc Try.prog w base spare held n 9 (([v0, v1, v2, v3, v4, v5, v6].drop 0).take (Try.prog.cellsOf 9)) = some y0 := he 0 _ rfl
      have e1 : DataW.trod enc Try.prog w base spare held n 3 (([v0, v1, v2, v3, v4, v5, v6].drop 1).take (Try.prog.cellsOf 3)) = some y1 := he 1 _ rfl
      have e2 : DataW.trod enc Try.prog w base spare held n 9 (([v0, v1, v2, v3, v4, v5, v6].drop 2).take (Try.prog.cellsOf 9)) = some y2 := he 2 _ rfl
      have e3 : DataW.trod enc Try.prog w base spare held n 61 (([v0, v1, v2, v3, v4, v5, v6].drop 3).take (Try.prog.cellsOf 61)) = some y3 := he 3 _ rfl
      obtain ⟨a0, q0, _, _⟩ := DataW.trod_string Try.underlying9 e0
      obtain ⟨a1, q1, _, _⟩ := DataW.trod_int Try.underlying3 e1
      obtain ⟨a2, q2, _, _⟩ := DataW.trod_string Try.underlying9 e2
      obtain ⟨r, q3, hr⟩ := open_sight (by rw [cells61]; rfl) e3
      rw [cells9] at q0 q2
      rw [cells3] at q1
      rw [cells61] at q3
      simp [sgc] at q0 q1 q2 q3
      obtain ⟨q3, q4, q5, q6⟩ := q3
      subst q0 q1 q2 q3 q4 q5 q6
      exact ⟨⟨a0, a1, a2, r⟩, rfl, hr⟩
theorem open_acts {fuel : Nat} {cs : List Value} {x : DataW H × List MemPlace} (h : DataW.trod enc Try.prog w base spare held fuel 52 cs = some x) : ∃ p cap ac, cs = [.slice p (List.length ac) cap] ∧ AcsOn w p ac := by
  rcases open_slice Try.underlying52 h with ⟨rfl, _⟩ | ⟨a, len, cap, m, n, D, Pl, rfl, hb, hle, hcap, hm, _, hel⟩
  · exact ⟨none, 0, [], rfl, fun r hr => absurd hr List.not_mem_nil, fun hn => absurd rfl hn⟩
  · have hml : len ≤ m := by rw [hm]; split <;> omega
    obtain ⟨rs, hrl, hrs⟩ := list_of (Q := fun i (r : Ac) => r.x.g.size ≤ maxLen ∧ ∀ j u, (acCells r)[j]? = some u → w.cell? ((a.add (i * 7)).add j) = some u) len (fun i hi => by
      obtain ⟨cs', hc, ht⟩ := hel i (by omega)
      rw [cells63] at hc
      obtain ⟨_, hlen, hcell⟩ := World.cells?_some hc
      obtain ⟨r, rfl, hrt⟩ := open_act hlen ht
      refine ⟨r, hrt, fun j u hj => ?_⟩
      have hj7 : j < 7 := by
        rcases Nat.lt_or_ge j 7 with h | h
        · exact h
        · rw [List.getElem?_eq_none (by show 7 ≤ j; exact h)] at hj; cases hj
      rw [hcell j hj7]
      exact hj)
    refine ⟨some a, cap, rs, by rw [hrl], fun r hr => ?_, fun hne => ?_⟩
    · obtain ⟨k, hk⟩ := List.getElem?_of_mem hr
      exact (hrs k r hk).1
    · have h0 : 0 < rs.length := List.length_pos_iff.2 hne
      have hf := (hrs 0 _ (List.getElem?_eq_getElem h0)).2 0 _ rfl
      rw [Nat.zero_mul, add_zero, add_zero] at hf
      obtain ⟨b, o, rfl, hlt⟩ := plain_addr hf
      refine ⟨b, o, rfl, hlt, fun k r hk => ?_⟩
      have hc := (hrs k r hk).2
      have e1 : (⟨b, o, none⟩ : Addr).add (k * 7) = ⟨b, o + k * 7, none⟩ := by unfold Addr.add; split <;> simp_all
      have e2 : ∀ j, (⟨b, o + k * 7, none⟩ : Addr).add j = ⟨b, o + k * 7 + j, none⟩ := fun j => by unfold Addr.add; split <;> simp_all
      rw [e1] at hc
      have k0 := hc 0 _ rfl
      have k1 := hc 1 _ rfl
      have k2 := hc 2 _ rfl
      have k3 := hc 3 _ rfl
      have k4 := hc 4 _ rfl
      have k5 := hc 5 _ rfl
      have k6 := hc 6 _ rfl
      rw [e2] at k0 k1 k2 k3 k4 k5 k6
      exact ⟨k0, k1, k2, k3, k4, k5, k6⟩
end
theorem epoch_any (size late : Int) (acts : List Ac) (p : Option Addr) (cap : Nat) (w : World) (ha : AcsOn w p acts) :
    Calls Try.prog 6 #[.int .i64 size, .int .i64 late, .slice p acts.length cap] w fun e w' => e = .returned (.bool true) ∧ Below w.heap.size w w' := by
  by_cases hn : 120 < acts.length
  · exact epoch_long size late p _ cap w hn
  by_cases h : 1 ≤ size ∧ size ≤ 50 ∧ 0 ≤ late ∧ late ≤ 50
  · obtain ⟨s, rfl⟩ : ∃ s : Nat, size = (s : Int) := ⟨size.toNat, by omega⟩
    obtain ⟨l, rfl⟩ : ∃ l : Nat, late = (l : Int) := ⟨late.toNat, by omega⟩
    exact epoch_main s l acts p cap w (by omega) (by omega) (by omega) (by omega) ha
  · exact epoch_bad size late p _ cap w (by omega) h
theorem epoch_lifted (os : Os) (started : os.Started) (H : Type) (enc : TypeId × Value → H) :
    ReturnsInHanded {} Try.checked os 6 .any (Rows.epochSaysSpec.pre6 enc Try.prog Try.f6 Rows.epochSaysRow.domain false) (Rows.epochSaysSpec.post enc Try.prog Try.f6 false true false false) := by
  refine returnsInHanded_of_change (C := Try.checked) own started (by kernel_rfl) Try.func6
    (ChangeSpec.witness6 (enc := enc) (C := Try.checked) false ⟨#[], #[.int .i64 0, .int .i64 0, .slice none 0 0], []⟩ 8 (by kernel_rfl) (by kernel_rfl) (by kernel_rfl) (by kernel_rfl)) ?_
  intro W base args ds gs before hval0 hW hcnd _
  have hval : ∀ (j : Nat) t v, Try.f6.params[j]? = some t → args[j]? = some v → Value.okWide Try.prog W .any base t v := hval0
  have hW' := hW
  obtain ⟨p, q, hA0, hV, rfl, hfz, hnd⟩ := hW
  have hA : DataW.TrodAll enc Try.prog W 0 (fun _ => true) true Try.f6.params.toList args.toList ds p := hA0
  rw [Try.params6] at hA hval
  obtain ⟨v0, v1, v2, d0, d1, d2, p0, p1, p2, hargs, rfl, rfl, h0, h1, h2⟩ := trodAll_three hA
  obtain rfl : args = #[v0, v1, v2] := by cases args; simp_all
  obtain ⟨rfl, rfl⟩ := trodVars_none hV
  simp only [List.append_nil] at hW'
  have hlt := hW'.lt
  have hlt0 : ∀ x ∈ p0, x.block < W.heap.size := fun x hx => hlt x (by simp [hx])
  have hlt1 : ∀ x ∈ p1, x.block < W.heap.size := fun x hx => hlt x (by simp [hx])
  have hlt2 : ∀ x ∈ p2, x.block < W.heap.size := fun x hx => hlt x (by simp [hx])
  have k0 := h0
  have k1 := h1
  have k2 := h2
  obtain ⟨fuel2, hf2⟩ := h2
  obtain ⟨pa, ca, ac, hcs2, hr2⟩ := open_acts hf2
  obtain rfl := cells_slice (okWide_slice Try.underlying52 (hval 2 52 _ rfl rfl)) hcs2
  obtain ⟨s, rfl, _⟩ := open_int Try.underlying3 (hval 0 3 _ rfl rfl) h0
  obtain ⟨l, rfl, _⟩ := open_int Try.underlying3 (hval 1 3 _ rfl rfl) h1
  refine (epoch_any s l ac pa ca W hr2).mono fun e W' ⟨he, hbel⟩ => ?_
  subst he
  exact ⟨_, rfl, _, _, _, [], p0 ++ (p1 ++ (p2 ++ [])), [], hW', trodAll_mk1 (shut_bool Try.underlying4 _),
    trodAll_cons_mk (Below.trod laidOut (by kernel_rfl) (of_decide_eq_true (by kernel_rfl)) k0 hbel hlt0) (trodAll_cons_mk (Below.trod laidOut (by kernel_rfl) (of_decide_eq_true (by kernel_rfl)) k1 hbel hlt1) (trodAll_cons_mk (Below.trod laidOut (by kernel_rfl) (of_decide_eq_true (by kernel_rfl)) k2 hbel hlt2) trodAll_mk0)), rfl, hbel.frame _, fun h => by cases h⟩
end Go.Proofs.Ytllhfbnafemoeaa.EpA
namespace Go.Proofs.Ytllhfbnafemoeaa
set_option maxRecDepth 100000
theorem epochSays_holds : Rows.EpochSaysSaid :=
  OpenClaim.holds_of_wide 6 Try.f6 rfl rfl rfl rfl rfl rfl rfl ⟨rfl, rfl, rfl, rfl, rfl⟩ rfl rfl rfl rfl rfl (by kernel_rfl) Try.func6 (by kernel_rfl)
    (of_decide_eq_true (by kernel_rfl)) (by unfold Func.isWrapper; first | (rw [if_pos (by decide +kernel)]; kernel_rfl) | (rw [if_neg (by decide +kernel)]; exact ⟨rfl, rfl⟩))
    (fun os started H enc _ => EpA.epoch_lifted os started H enc)
#print axioms epochSays_holds
end Go.Proofs.Ytllhfbnafemoeaa
