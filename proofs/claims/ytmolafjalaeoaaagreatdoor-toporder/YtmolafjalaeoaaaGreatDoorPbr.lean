/-
  What is handed in: a configuration, rules, acts, numbers. · A configuration that is handed in. · What the row's list gives: the table of splits lies in the world as package tag reads it.
-/
import Derived.Test.YtmolafjalaeoaaaGreatDoorPbq
import Derived.ProofKit
import Derived.Deep.Slices
import Derived.OpenShut
import Derived.Test.YtmolafjalaeoaaaGreatDoorRows
import Derived.LaidMore
import Derived.Lib.LaidTab
import Derived.Lib.SmallJoins
namespace Go.Proofs.YtmolafjalaeoaaaGreatDoor.WbA
open Go.ChangeShapes Go.WideShapes Go.ChangeAt Go.RowKit Go.Deep TkW WaM WaW WaB
open RuM (Rl)
open TkM (Sg)
set_option maxRecDepth 100000
theorem own : ownKnob Tryz.prog.godebug = none := by kernel_rfl
theorem laidOut : laidOutB Tryz.prog = true := by kernel_rfl
theorem cells3 : Tryz.prog.cellsOf 3 = 1 := by kernel_rfl
theorem cells9 : Tryz.prog.cellsOf 9 = 1 := by kernel_rfl
theorem cells43 : Tryz.prog.cellsOf 43 = 4 := by kernel_rfl
theorem cells45 : Tryz.prog.cellsOf 45 = 7 := by kernel_rfl
theorem cells32 : Tryz.prog.cellsOf 32 = 6 := by kernel_rfl
theorem cells25 : Tryz.prog.cellsOf 25 = 22 := by kernel_rfl
theorem cells23 : Tryz.prog.cellsOf 23 = 16 := by kernel_rfl
theorem cells22 : Tryz.prog.cellsOf 22 = 4 := by kernel_rfl
theorem list_of {α : Type} {Q : Nat → α → Prop} (n : Nat) (h : ∀ i, i < n → ∃ r, Q i r) : ∃ l : List α, l.length = n ∧ ∀ (k : Nat) (r : α), l[k]? = some r → Q k r := by
  induction n with
  | zero => exact ⟨[], rfl, fun k r hk => by simp at hk⟩
  | succ n ih =>
    obtain ⟨l, hl, hq⟩ := ih (fun i hi => h i (by omega))
    obtain ⟨r, hr⟩ := h n (by omega)
    refine ⟨l ++ [r], by simp [hl], fun k x hk => ?_⟩
    rcases Nat.lt_or_ge k l.length with hlt | hge
    · rw [List.getElem?_append_left hlt] at hk
      exact hq k x hk
    · rw [List.getElem?_append_right hge] at hk
      have : k = n := by
        rcases Nat.lt_or_ge (k - l.length) 1 with h1 | h1
        · omega
        · rw [List.getElem?_eq_none (by simp; omega)] at hk; cases hk
      subst this
      rw [hl, Nat.sub_self] at hk
      simp at hk
      subst hk
      exact hr
theorem add_zero (a : Addr) : a.add 0 = a := by unfold Addr.add; simp
theorem plain_addr {a : Addr} {w : World} {v : Value} (h : w.cell? a = some v) : ∃ b o, a = ⟨b, o, none⟩ ∧ b < w.heap.size := by
  obtain ⟨b, o, sp⟩ := a
  have hlt : b < w.heap.size := by
    rcases Nat.lt_or_ge b w.heap.size with h1 | h1
    · exact h1
    · simp [World.cell?, Array.getElem?_eq_none h1] at h
  cases sp with
  | none => exact ⟨b, o, rfl, hlt⟩
  | some sp =>
    exfalso
    unfold World.cell? at h
    split at h <;> simp at h
theorem cells_slice {v : Value} {p : Option Addr} {n c : Nat} (hv : ∃ p' n' c', v = .slice p' n' c') (h : v.cells.toList = [.slice p n c]) : v = .slice p n c := by
  obtain ⟨p', n', c', rfl⟩ := hv
  simpa [Value.cells] using h
def sgc (x : Sg) : List Value := [.int .i64 x.p, .int .i64 x.s, .int .i64 x.t, .string x.g]
def acc (a : Ac) : List Value := [.string a.kd, .int .i64 a.n, .string a.st] ++ sgc a.x
section
variable {H : Type} {enc : TypeId × Value → H} {w : World} {base : Nat} {spare : Nat → Bool} {held : Bool}
theorem open_sight {fuel : Nat} {cs : List Value} {x : DataW H × List MemPlace} (hlen : cs.length = 4) (h : DataW.trod enc Tryz.prog w base spare held fuel 43 cs = some x) : ∃ r : Sg, cs = sgc r := by
  match cs, hlen with
  | [v0, v1, v2, v3], _ =>
    obtain ⟨xs, n, _, hx, _, hl, he⟩ := DataW.trod_struct Tryz.underlying43 h
    match xs, hl with
    | [y0, y1, y2, y3], _ =>
      have e0 : DataW.trod enc Tryz.prog w base spare held n 3 (([v0, v1, v2, v3].drop 0).take (Tryz.prog.cellsOf 3)) = some y0 := he 0 _ rfl
      have e1 : DataW.trod enc Tryz.prog w base spare held n 3 (([v0, v1, v2, v3].drop 1).take (Tryz.prog.cellsOf 3)) = some y1 := he 1 _ rfl
      have e2 : DataW.trod enc Tryz.prog w base spare held n 3 (([v0, v1, v2, v3].drop 2).take (Tryz.prog.cellsOf 3)) = some y2 := he 2 _ rfl
      have e3 : DataW.trod enc Tryz.prog w base spare held n 9 (([v0, v1, v2, v3].drop 3).take (Tryz.prog.cellsOf 9)) = some y3 := he 3 _ rfl
      obtain ⟨a0, q0, _, _⟩ := DataW.trod_int Tryz.underlying3 e0
      obtain ⟨a1, q1, _, _⟩ := DataW.trod_int Tryz.underlying3 e1
      obtain ⟨a2, q2, _, _⟩ := DataW.trod_int Tryz.underlying3 e2
      obtain ⟨a3, q3, _, _⟩ := DataW.trod_string Tryz.underlying9 e3
      rw [cells3] at q0 q1 q2
      rw [cells9] at q3
      simp at q0 q1 q2 q3
      subst q0 q1 q2 q3
      exact ⟨⟨a0, a1, a2, a3⟩, rfl⟩
theorem open_act {fuel : Nat} {cs : List Value} {x : DataW H × List MemPlace} (hlen : cs.length = 7) (h : DataW.trod enc Tryz.prog w base spare held fuel 45 cs = some x) : ∃ a : Ac, cs = acc a ∧ a.st.size ≤ maxLen := by
  match cs, hlen with
  | [v0, v1, v2, v3, v4, v5, v6], _ =>
    obtain ⟨xs, n, _, hx, _, hl, he⟩ := DataW.trod_struct Tryz.underlying45 h
    match xs, hl with
    | [y0, y1, y2, y3], _ =>
      have e0 : DataW.trod enc Tryz.prog w base spare held n 9 (([v0, v1, v2, v3, v4, v5, v6].drop 0).take (Tryz.prog.cellsOf 9)) = some y0 := he 0 _ rfl
      have e1 : DataW.trod enc Tryz.prog w base spare held n 3 (([v0, v1, v2, v3, v4, v5, v6].drop 1).take (Tryz.prog.cellsOf 3)) = some y1 := he 1 _ rfl
      have e2 : DataW.trod enc Tryz.prog w base spare held n 9 (([v0, v1, v2, v3, v4, v5, v6].drop 2).take (Tryz.prog.cellsOf 9)) = some y2 := he 2 _ rfl
      have e3 : DataW.trod enc Tryz.prog w base spare held n 43 (([v0, v1, v2, v3, v4, v5, v6].drop 3).take (Tryz.prog.cellsOf 43)) = some y3 := he 3 _ rfl
      obtain ⟨a0, q0, _, _⟩ := DataW.trod_string Tryz.underlying9 e0
      obtain ⟨a1, q1, _, _⟩ := DataW.trod_int Tryz.underlying3 e1
      obtain ⟨a2, q2, _, w2⟩ := DataW.trod_string Tryz.underlying9 e2
      obtain ⟨r, q3⟩ := open_sight (by rw [cells43]; rfl) e3
      rw [cells9] at q0 q2
      rw [cells3] at q1
      rw [cells43] at q3
      simp [sgc] at q0 q1 q2 q3
      obtain ⟨q3, q4, q5, q6⟩ := q3
      subst q0 q1 q2 q3 q4 q5 q6
      exact ⟨⟨a0, a1, a2, r⟩, rfl, w2⟩
theorem open_acts {fuel : Nat} {cs : List Value} {x : DataW H × List MemPlace} (h : DataW.trod enc Tryz.prog w base spare held fuel 27 cs = some x) : ∃ p cap ac, cs = [.slice p (List.length ac) cap] ∧ AcsOn w.heap.size w p ac ∧ ac.length ≤ 9223372036854775807 := by
  have hmx : maxLen = 9223372036854775807 := by decide
  rcases open_slice Tryz.underlying27 h with ⟨rfl, _⟩ | ⟨a, len, cap, m, n, D, Pl, rfl, hb, hle, hcap, hm, _, hel⟩
  · exact ⟨none, 0, [], rfl, ⟨fun r hr => absurd hr List.not_mem_nil, fun hn => absurd rfl hn⟩, by simp⟩
  · have hml : len ≤ m := by rw [hm]; split <;> omega
    obtain ⟨rs, hrl, hrs⟩ := list_of (Q := fun i (r : Ac) => r.st.size ≤ maxLen ∧ ∀ j u, (acc r)[j]? = some u → w.cell? ((a.add (i * 7)).add j) = some u) len (fun i hi => by
      obtain ⟨cs', hc, ht⟩ := hel i (by omega)
      rw [cells45] at hc
      obtain ⟨_, hlen, hcell⟩ := World.cells?_some hc
      obtain ⟨r, rfl, hrt⟩ := open_act hlen ht
      refine ⟨r, hrt, fun j u hj => ?_⟩
      have hj7 : j < 7 := by
        rcases Nat.lt_or_ge j 7 with h | h
        · exact h
        · rw [List.getElem?_eq_none (by show 7 ≤ j; exact h)] at hj; cases hj
      rw [hcell j hj7]
      exact hj)
    refine ⟨some a, cap, rs, by rw [hrl], ⟨fun r hr => ?_, fun hne => ?_⟩, by omega⟩
    · obtain ⟨k, hk⟩ := List.getElem?_of_mem hr
      rw [← hmx]
      exact (hrs k r hk).1
    · have h0 : 0 < rs.length := List.length_pos_iff.2 hne
      have hf := (hrs 0 _ (List.getElem?_eq_getElem h0)).2 0 _ rfl
      rw [Nat.zero_mul, add_zero, add_zero] at hf
      obtain ⟨b, o, rfl, hlt⟩ := plain_addr hf
      refine ⟨b, o, rfl, hlt, fun k r hk => ?_⟩
      have hc := (hrs k r hk).2
      have e1 : (⟨b, o, none⟩ : Addr).add (k * 7) = ⟨b, o + k * 7, none⟩ := by unfold Addr.add; split <;> simp_all
      have e2 : ∀ j, (⟨b, o + k * 7, none⟩ : Addr).add j = ⟨b, o + k * 7 + j, none⟩ := fun j => by unfold Addr.add; split <;> simp_all
      rw [e1] at hc
      have k0 := hc 0 _ rfl
      have k1 := hc 1 _ rfl
      have k2 := hc 2 _ rfl
      have k3 := hc 3 _ rfl
      have k4 := hc 4 _ rfl
      have k5 := hc 5 _ rfl
      have k6 := hc 6 _ rfl
      rw [e2] at k0 k1 k2 k3 k4 k5 k6
      exact ⟨k0, k1, k2, k3, k4, k5, k6⟩
theorem open_ruleC {fuel : Nat} {cs : List Value} {x : DataW H × List MemPlace} (hlen : cs.length = 6) (h : DataW.trod enc Tryz.prog w base spare held fuel 32 cs = some x) : ∃ r : Rl, cs = rcl r ∧ r.nm.size ≤ maxLen := by
  match cs, hlen with
  | [v0, v1, v2, v3, v4, v5], _ =>
    obtain ⟨xs, n, _, hx, _, hl, he⟩ := DataW.trod_struct Tryz.underlying32 h
    match xs, hl with
    | [y0, y1, y2, y3, y4, y5], _ =>
      have e0 : DataW.trod enc Tryz.prog w base spare held n 9 (([v0, v1, v2, v3, v4, v5].drop 0).take (Tryz.prog.cellsOf 9)) = some y0 := he 0 _ rfl
      have e1 : DataW.trod enc Tryz.prog w base spare held n 3 (([v0, v1, v2, v3, v4, v5].drop 1).take (Tryz.prog.cellsOf 3)) = some y1 := he 1 _ rfl
      have e2 : DataW.trod enc Tryz.prog w base spare held n 3 (([v0, v1, v2, v3, v4, v5].drop 2).take (Tryz.prog.cellsOf 3)) = some y2 := he 2 _ rfl
      have e3 : DataW.trod enc Tryz.prog w base spare held n 3 (([v0, v1, v2, v3, v4, v5].drop 3).take (Tryz.prog.cellsOf 3)) = some y3 := he 3 _ rfl
      have e4 : DataW.trod enc Tryz.prog w base spare held n 3 (([v0, v1, v2, v3, v4, v5].drop 4).take (Tryz.prog.cellsOf 3)) = some y4 := he 4 _ rfl
      have e5 : DataW.trod enc Tryz.prog w base spare held n 3 (([v0, v1, v2, v3, v4, v5].drop 5).take (Tryz.prog.cellsOf 3)) = some y5 := he 5 _ rfl
      obtain ⟨a0, q0, _, w0⟩ := DataW.trod_string Tryz.underlying9 e0
      obtain ⟨a1, q1, _, _⟩ := DataW.trod_int Tryz.underlying3 e1
      obtain ⟨a2, q2, _, _⟩ := DataW.trod_int Tryz.underlying3 e2
      obtain ⟨a3, q3, _, _⟩ := DataW.trod_int Tryz.underlying3 e3
      obtain ⟨a4, q4, _, _⟩ := DataW.trod_int Tryz.underlying3 e4
      obtain ⟨a5, q5, _, _⟩ := DataW.trod_int Tryz.underlying3 e5
      rw [cells9] at q0
      rw [cells3] at q1 q2 q3 q4 q5
      simp at q0 q1 q2 q3 q4 q5
      subst q0 q1 q2 q3 q4 q5
      exact ⟨⟨a0, a1, a2, a3, a4, a5⟩, rfl, w0⟩
theorem open_rules {fuel : Nat} {cs : List Value} {x : DataW H × List MemPlace} (h : DataW.trod enc Tryz.prog w base spare held fuel 26 cs = some x) : ∃ p cap rs, cs = [.slice p (List.length rs) cap] ∧ RsIn w p cap rs := by
  have hmx : maxLen = 9223372036854775807 := by decide
  rcases open_slice Tryz.underlying26 h with ⟨rfl, _⟩ | ⟨a, len, cap, m, n, D, Pl, rfl, hb, hle, hcap, hm, _, hel⟩
  · exact ⟨none, 0, [], rfl, ⟨fun hn => absurd rfl hn⟩, fun _ => ⟨rfl, rfl⟩, Nat.le_refl _, Nat.zero_le _, fun r hr => absurd hr List.not_mem_nil⟩
  · have hml : len ≤ m := by rw [hm]; split <;> omega
    obtain ⟨rs, hrl, hrs⟩ := list_of (Q := fun i (r : Rl) => r.nm.size ≤ maxLen ∧ ∀ j u, (rcl r)[j]? = some u → w.cell? ((a.add (i * 6)).add j) = some u) len (fun i hi => by
      obtain ⟨cs', hc, ht⟩ := hel i (by omega)
      rw [cells32] at hc
      obtain ⟨_, hlen, hcell⟩ := World.cells?_some hc
      obtain ⟨r, rfl, hrt⟩ := open_ruleC hlen ht
      refine ⟨r, hrt, fun j u hj => ?_⟩
      have hj7 : j < 6 := by
        rcases Nat.lt_or_ge j 6 with h | h
        · exact h
        · rw [List.getElem?_eq_none (by show 6 ≤ j; exact h)] at hj; cases hj
      rw [hcell j hj7]
      exact hj)
    refine ⟨some a, cap, rs, by rw [hrl], ⟨⟨fun hne => ?_⟩, (fun e => by cases e), by omega, by omega, fun r hr => ?_⟩⟩
    · have h0 : 0 < rs.length := List.length_pos_iff.2 hne
      have hf := (hrs 0 _ (List.getElem?_eq_getElem h0)).2 0 _ rfl
      rw [Nat.zero_mul, add_zero, add_zero] at hf
      obtain ⟨b, o, rfl, hlt⟩ := plain_addr hf
      refine ⟨b, o, rfl, hlt, fun k r hk => ?_⟩
      have hc := (hrs k r hk).2
      have e1 : (⟨b, o, none⟩ : Addr).add (k * 6) = ⟨b, o + k * 6, none⟩ := by unfold Addr.add; split <;> simp_all
      have e2 : ∀ j, (⟨b, o + k * 6, none⟩ : Addr).add j = ⟨b, o + k * 6 + j, none⟩ := fun j => by unfold Addr.add; split <;> simp_all
      rw [e1] at hc
      have k0 := hc 0 _ rfl
      have k1 := hc 1 _ rfl
      have k2 := hc 2 _ rfl
      have k3 := hc 3 _ rfl
      have k4 := hc 4 _ rfl
      have k5 := hc 5 _ rfl
      rw [e2] at k0 k1 k2 k3 k4 k5
      exact ⟨k0, k1, k2, k3, k4, k5⟩
    · obtain ⟨k, hk⟩ := List.getElem?_of_mem hr
      rw [← hmx]
      exact (hrs k r hk).1
theorem open_ints {fuel : Nat} {cs : List Value} {x : DataW H × List MemPlace} (h : DataW.trod enc Tryz.prog w base spare held fuel 70 cs = some x) : ∃ p cap l, cs = [.slice p (List.length l) cap] ∧ IsOn w.heap.size w p l ∧ l.length ≤ 9223372036854775807 := by
  have hmx : maxLen = 9223372036854775807 := by decide
  rcases open_slice Tryz.underlying70 h with ⟨rfl, _⟩ | ⟨a, len, cap, m, n, D, Pl, rfl, hb, hle, hcap, hm, _, hel⟩
  · exact ⟨none, 0, [], rfl, ⟨fun hn => absurd rfl hn⟩, Nat.zero_le _⟩
  · have hml : len ≤ m := by rw [hm]; split <;> omega
    obtain ⟨rs, hrl, hrs⟩ := list_of (Q := fun i (r : Int) => w.cell? (a.add i) = some (.int .i64 r)) len (fun i hi => by
      obtain ⟨cs', hc, ht⟩ := hel i (by omega)
      rw [cells3, Nat.mul_one] at hc
      obtain ⟨_, hlen, hcell⟩ := World.cells?_some hc
      obtain ⟨r, rfl, _, _⟩ := DataW.trod_int Tryz.underlying3 ht
      have h0 := hcell 0 (by omega)
      rw [add_zero] at h0
      exact ⟨r, by rw [h0]; rfl⟩)
    refine ⟨some a, cap, rs, by rw [hrl], ⟨fun hne => ?_⟩, by omega⟩
    have h0 : 0 < rs.length := List.length_pos_iff.2 hne
    have hf := hrs 0 _ (List.getElem?_eq_getElem h0)
    rw [add_zero] at hf
    obtain ⟨b, o, rfl, hlt⟩ := plain_addr hf
    refine ⟨b, o, rfl, hlt, fun k r hk => ?_⟩
    have hc := hrs k r hk
    have e1 : (⟨b, o, none⟩ : Addr).add k = ⟨b, o + k, none⟩ := by unfold Addr.add; split <;> simp_all
    rw [e1] at hc
    exact hc
end
end Go.Proofs.YtmolafjalaeoaaaGreatDoor.WbA
namespace Go.Proofs.YtmolafjalaeoaaaGreatDoor.WbA
open Go.ChangeShapes Go.WideShapes Go.ChangeAt Go.RowKit Go.Deep TkW WaM WaW WaB
set_option maxRecDepth 100000
section
variable {H : Type} {enc : TypeId × Value → H} {w : World} {base : Nat} {spare : Nat → Bool} {held : Bool}
theorem open_row4 {fuel : Nat} {cs : List Value} {x : DataW H × List MemPlace} (hlen : cs.length = 4) (h : DataW.trod enc Tryz.prog w base spare held fuel 22 cs = some x) : ∃ f : Nat → Int, cs = [.int .i64 (f 0), .int .i64 (f 1), .int .i64 (f 2), .int .i64 (f 3)] := by
  match cs, hlen with
  | [v0, v1, v2, v3], _ =>
    obtain ⟨xs, n, _, hx, _, hl, he⟩ := DataW.trod_array Tryz.underlying22 h
    have key : ∀ i, i < 4 → ∃ z : Int, ([v0, v1, v2, v3].drop i).take 1 = [.int .i64 z] := fun i hi => by
      have e := he i hi
      rw [cells3, Nat.mul_one] at e
      have hi' : i < xs.length := by omega
      rw [List.getElem?_eq_getElem hi'] at e
      obtain ⟨z, q, _, _⟩ := DataW.trod_int Tryz.underlying3 e
      exact ⟨z, q⟩
    obtain ⟨a0, q0⟩ := key 0 (by omega)
    obtain ⟨a1, q1⟩ := key 1 (by omega)
    obtain ⟨a2, q2⟩ := key 2 (by omega)
    obtain ⟨a3, q3⟩ := key 3 (by omega)
    simp at q0 q1 q2 q3
    subst q0 q1 q2 q3
    exact ⟨fun i => if i = 0 then a0 else if i = 1 then a1 else if i = 2 then a2 else a3, rfl⟩
theorem open_where {fuel : Nat} {cs : List Value} {x : DataW H × List MemPlace} (hlen : cs.length = 16) (h : DataW.trod enc Tryz.prog w base spare held fuel 23 cs = some x) : ∃ pl : Nat → Nat → Int, cs = (plw pl).toList := by
  obtain ⟨xs, n, _, hx, _, hl, he⟩ := DataW.trod_array Tryz.underlying23 h
  have key : ∀ i, i < 4 → ∃ f : Nat → Int, (cs.drop (i * 4)).take 4 = [.int .i64 (f 0), .int .i64 (f 1), .int .i64 (f 2), .int .i64 (f 3)] := fun i hi => by
    have e := he i hi
    rw [cells22] at e
    have hi' : i < xs.length := by omega
    rw [List.getElem?_eq_getElem hi'] at e
    exact open_row4 (by rw [List.length_take, List.length_drop]; omega) e
  obtain ⟨f0, q0⟩ := key 0 (by omega)
  obtain ⟨f1, q1⟩ := key 1 (by omega)
  obtain ⟨f2, q2⟩ := key 2 (by omega)
  obtain ⟨f3, q3⟩ := key 3 (by omega)
  refine ⟨fun i => if i = 0 then f0 else if i = 1 then f1 else if i = 2 then f2 else f3, ?_⟩
  have e0 : cs = (cs.drop 0).take 4 ++ ((cs.drop 4).take 4 ++ ((cs.drop 8).take 4 ++ (cs.drop 12).take 4)) := by
    have h1 : cs = cs.take 4 ++ cs.drop 4 := (List.take_append_drop 4 cs).symm
    have h2 : cs.drop 4 = (cs.drop 4).take 4 ++ cs.drop 8 := by
      have := (List.take_append_drop 4 (cs.drop 4)).symm
      rw [List.drop_drop] at this
      exact this
    have h3 : cs.drop 8 = (cs.drop 8).take 4 ++ cs.drop 12 := by
      have := (List.take_append_drop 4 (cs.drop 8)).symm
      rw [List.drop_drop] at this
      exact this
    have h4 : (cs.drop 12).take 4 = cs.drop 12 := List.take_of_length_le (by rw [List.length_drop]; omega)
    rw [h4, ← h3, ← h2, List.drop_zero]
    exact h1
  have q0' : (cs.drop 0).take 4 = _ := q0
  have q1' : (cs.drop 4).take 4 = _ := q1
  have q2' : (cs.drop 8).take 4 = _ := q2
  have q3' : (cs.drop 12).take 4 = _ := q3
  rw [e0, q0', q1', q2', q3']
  rfl
/-- The configuration, opened. -/
theorem open_config {fuel : Nat} {cs : List Value} {x : DataW H × List MemPlace} (hlen : cs.length = 22) (h : DataW.trod enc Tryz.prog w base spare held fuel 25 cs = some x) : ∃ y : Ci, cs = (cfw y).toList := by
  obtain ⟨xs, n, _, hx, _, hl, he⟩ := DataW.trod_struct Tryz.underlying25 h
  have hl7 : xs.length = 7 := hl
  have gi : ∀ i, i < 7 → xs[i]? = some (xs[i]?.getD default) := fun i hi => by rw [List.getElem?_eq_getElem (by omega)]; rfl
  have e0 : DataW.trod enc Tryz.prog w base spare held n 3 ((cs.drop 0).take (Tryz.prog.cellsOf 3)) = xs[0]? := he 0 _ rfl
  have e1 : DataW.trod enc Tryz.prog w base spare held n 3 ((cs.drop 1).take (Tryz.prog.cellsOf 3)) = xs[1]? := he 1 _ rfl
  have e2 : DataW.trod enc Tryz.prog w base spare held n 3 ((cs.drop 2).take (Tryz.prog.cellsOf 3)) = xs[2]? := he 2 _ rfl
  have e3 : DataW.trod enc Tryz.prog w base spare held n 3 ((cs.drop 3).take (Tryz.prog.cellsOf 3)) = xs[3]? := he 3 _ rfl
  have e4 : DataW.trod enc Tryz.prog w base spare held n 3 ((cs.drop 4).take (Tryz.prog.cellsOf 3)) = xs[4]? := he 4 _ rfl
  have e5 : DataW.trod enc Tryz.prog w base spare held n 3 ((cs.drop 5).take (Tryz.prog.cellsOf 3)) = xs[5]? := he 5 _ rfl
  have e6 : DataW.trod enc Tryz.prog w base spare held n 23 ((cs.drop 6).take (Tryz.prog.cellsOf 23)) = xs[6]? := he 6 _ rfl
  rw [List.getElem?_eq_getElem (by omega)] at e0 e1 e2 e3 e4 e5 e6
  rw [cells3] at e0 e1 e2 e3 e4 e5
  rw [cells23] at e6
  obtain ⟨a0, q0, _, _⟩ := DataW.trod_int Tryz.underlying3 e0
  obtain ⟨a1, q1, _, _⟩ := DataW.trod_int Tryz.underlying3 e1
  obtain ⟨a2, q2, _, _⟩ := DataW.trod_int Tryz.underlying3 e2
  obtain ⟨a3, q3, _, _⟩ := DataW.trod_int Tryz.underlying3 e3
  obtain ⟨a4, q4, _, _⟩ := DataW.trod_int Tryz.underlying3 e4
  obtain ⟨a5, q5, _, _⟩ := DataW.trod_int Tryz.underlying3 e5
  obtain ⟨pl, q6⟩ := open_where (by rw [List.length_take, List.length_drop]; omega) e6
  refine ⟨⟨a0, a1, a2, a3, a4, a5, pl⟩, ?_⟩
  have step : ∀ k, (cs.drop k) = (cs.drop k).take 1 ++ cs.drop (k + 1) := fun k => by
    have := (List.take_append_drop 1 (cs.drop k)).symm
    rw [List.drop_drop] at this
    exact this
  have e : cs = (cs.drop 0).take 1 ++ ((cs.drop 1).take 1 ++ ((cs.drop 2).take 1 ++ ((cs.drop 3).take 1 ++ ((cs.drop 4).take 1 ++ ((cs.drop 5).take 1 ++ (cs.drop 6).take 16))))) := by
    have h6 : (cs.drop 6).take 16 = cs.drop 6 := List.take_of_length_le (by rw [List.length_drop]; omega)
    rw [h6, ← step 5, ← step 4, ← step 3, ← step 2, ← step 1, ← step 0, List.drop_zero]
  rw [e, q0, q1, q2, q3, q4, q5, q6]
  rfl
end
end Go.Proofs.YtmolafjalaeoaaaGreatDoor.WbA
namespace Go.Proofs.YtmolafjalaeoaaaGreatDoor.WcA
open Go.RowKit TagM
set_option maxRecDepth 100000
theorem laid_at {P : Program} {w : World} : ∀ {l : List (String × DataW Unit)} {ps : List MemPlace}, DataW.LaidVars P w l ps → ∀ n d, (n, d) ∈ l →
    ∃ g t cs fuel p, P.globalNamed n = some g ∧ (P.globals[g]?).map (·.type) = some t ∧ w.var? P n = some cs ∧ DataW.trod (fun _ => ()) P w 0 (fun _ => true) false fuel t cs.toList = some (d, p)
  | [], _, _, n, d, h => by cases h
  | (m, x) :: r, ps, hl, n, d, h => by
    obtain ⟨g, t, cs, fuel, p, q, h1, h2, h3, h4, h5, h6⟩ := hl
    rcases List.mem_cons.1 h with e | e
    · cases e
      exact ⟨g, t, cs, fuel, p, h1, h2, h3, h4⟩
    · exact laid_at h5 n d e
section
variable {P : Program} {w : World} {base : Nat} {spare : Nat → Bool} {held : Bool} {fuel : Nat}
theorem arr_elem {t e : TypeId} {n i : Nat} {cs : List Value} {ds : List (DataW Unit)} {d : DataW Unit} {p : List MemPlace} (ht : P.underlying t = some (.array n e))
    (h : DataW.trod (fun _ => ()) P w base spare held fuel t cs = some (.agg ds, p)) (hi : i < n) (hd : ds[i]? = some d) :
    ∃ m q, DataW.trod (fun _ => ()) P w base spare held m e ((cs.drop (i * P.cellsOf e)).take (P.cellsOf e)) = some (d, q) := by
  obtain ⟨xs, m, _, hx, _, hl, he⟩ := DataW.trod_array ht h
  simp only [Prod.mk.injEq, DataW.agg.injEq] at hx
  obtain ⟨rfl, _⟩ := hx
  rw [List.getElem?_map] at hd
  obtain ⟨y, hy, rfl⟩ := Option.map_eq_some_iff.1 hd
  exact ⟨m, y.2, by rw [he i hi, hy]⟩
theorem struct_elem {t : TypeId} {fs : Array Field} {f : Field} {i : Nat} {cs : List Value} {ds : List (DataW Unit)} {d : DataW Unit} {p : List MemPlace} (ht : P.underlying t = some (.struct fs))
    (h : DataW.trod (fun _ => ()) P w base spare held fuel t cs = some (.agg ds, p)) (hf : fs[i]? = some f) (hd : ds[i]? = some d) :
    ∃ m q, DataW.trod (fun _ => ()) P w base spare held m f.type ((cs.drop f.offset).take (P.cellsOf f.type)) = some (d, q) := by
  obtain ⟨xs, m, _, hx, _, hl, he⟩ := DataW.trod_struct ht h
  simp only [Prod.mk.injEq, DataW.agg.injEq] at hx
  obtain ⟨rfl, _⟩ := hx
  rw [List.getElem?_map] at hd
  obtain ⟨y, hy, rfl⟩ := Option.map_eq_some_iff.1 hd
  exact ⟨m, y.2, by rw [he i f hf, hy]⟩
theorem int_elem {t : TypeId} {k : IntKind} {cs : List Value} {z : Int} {p : List MemPlace} (ht : P.underlying t = some (.int k))
    (h : DataW.trod (fun _ => ()) P w base spare held fuel t cs = some (.lit (.int k z), p)) : cs = [.int k z] := by
  obtain ⟨n, rfl, hx, _⟩ := DataW.trod_int ht h
  simp only [Prod.mk.injEq, DataW.lit.injEq, Lit.int.injEq, true_and] at hx
  rw [hx.1]
end
theorem pick1 {l : List Value} {a b j : Nat} {x : Value} (h : (((l.drop a).take b).drop j).take 1 = [x]) : l[a + j]? = some x := by
  have := congrArg (·[0]?) h
  simp only [List.getElem?_take, List.getElem?_drop, Nat.add_zero, List.getElem?_cons_zero] at this
  revert this
  simp only [Nat.lt_one_iff, if_true]
  intro h2
  split at h2
  · exact h2
  · cases h2
theorem c3 : Tryz.prog.cellsOf 3 = 1 := by kernel_rfl
theorem cSp : Tryz.prog.cellsOf 149 = 4 := by kernel_rfl
theorem gSp : Tryz.prog.globalNamed "cratewatch/tag.splits" = some 0 := by kernel_rfl
theorem tySp : (Tryz.prog.globals[0]?).map (·.type) = some 150 := by kernel_rfl
def rowD (k : Nat) : DataW Unit := .agg [.lit (.int .i64 (cbits k)), .lit (.int .i64 (cdig k)), .lit (.int .i64 (rbits k)), .lit (.int .i64 (rdig k))]
theorem splitsD : (Rows.laid_cratewatch_tag_splits : DataW Unit) = .agg [rowD 0, rowD 1, rowD 2, rowD 3, rowD 4, rowD 5] := rfl
/-- What the list gives. -/
theorem tabs_of {W : World} {ps : List MemPlace} {l : List (String × DataW Unit)} (h : DataW.LaidVars Tryz.prog W l ps)
    (m0 : ("cratewatch/tag.splits", Rows.laid_cratewatch_tag_splits) ∈ l) (hsz : 1 ≤ W.heap.size) : TagA.Tabs W := by
  have hsp : ∀ k j : Nat, k < 6 → ∀ (f : Field) (z : Int), (match Tryz.prog.underlying 149 with | some (.struct fs) => fs[j]? | _ => none) = some f → f.type = 3 → f.offset = j → (match rowD k with | .agg ds => ds[j]? | _ => none) = some (.lit (.int .i64 z)) → W.cell? ⟨0, k * 4 + j, none⟩ = some (.int .i64 z) := by
    intro k j hk f z hf hft hfo hz
    obtain ⟨g, t, cs, fuel, p, hg, ht, hv, hd⟩ := laid_at h _ _ m0
    obtain rfl := Option.some.inj (gSp.symm.trans hg)
    obtain rfl := Option.some.inj (tySp.symm.trans ht)
    rw [splitsD] at hd
    have hrow : ([rowD 0, rowD 1, rowD 2, rowD 3, rowD 4, rowD 5] : List (DataW Unit))[k]? = some (rowD k) := by
      match k, hk with
      | 0, _ | 1, _ | 2, _ | 3, _ | 4, _ | 5, _ => rfl
    obtain ⟨m, q, he⟩ := arr_elem Tryz.underlying150 hd hk hrow
    rw [cSp] at he
    unfold rowD at he hz
    rw [Tryz.underlying149] at hf
    obtain ⟨m', q', he'⟩ := struct_elem Tryz.underlying149 he hf hz
    rw [hft, hfo, c3] at he'
    have := pick1 (int_elem Tryz.underlying3 he')
    rw [World.var?_cell hg hv]
    simpa using this
  refine ⟨hsz, ?_, ?_, ?_, ?_⟩
  · intro k hk
    exact hsp k 0 hk _ _ (by rw [Tryz.underlying149]; rfl) rfl rfl rfl
  · intro k hk
    exact hsp k 1 hk _ _ (by rw [Tryz.underlying149]; rfl) rfl rfl rfl
  · intro k hk
    exact hsp k 2 hk _ _ (by rw [Tryz.underlying149]; rfl) rfl rfl rfl
  · intro k hk
    exact hsp k 3 hk _ _ (by rw [Tryz.underlying149]; rfl) rfl rfl rfl
theorem row0 : (((begin Tryz.prog (fun _ _ => 0) default).world.heap[0]?).bind Obj.row?).isSome = true := by kernel_rfl
theorem glob1 : 0 < Tryz.prog.globals.size := of_decide_eq_true (by kernel_rfl)
theorem heap1 {W : World} (h : W.ShapedOpen Tryz.prog) : 1 ≤ W.heap.size := by
  obtain ⟨⟨z, t⟩, hz⟩ := Option.isSome_iff_exists.1 row0
  obtain ⟨cs, hc, _⟩ := h.1 0 z t glob1 hz
  rcases Nat.lt_or_ge 0 W.heap.size with h | h
  · omega
  · rw [Array.getElem?_eq_none h] at hc; cases hc
end Go.Proofs.YtmolafjalaeoaaaGreatDoor.WcA
