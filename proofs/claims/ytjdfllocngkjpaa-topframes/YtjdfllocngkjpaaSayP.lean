/-
  PROVED: FrameSays returns true, whatever the frame; the frame reads as before. No condition.
-/
import Derived.Test.YtjdfllocngkjpaaRows
import Derived.Test.YtjdfllocngkjpaaSayB
import Derived.ProofKit
import Derived.Deep.Slices
import Derived.OpenShut
namespace Go.Proofs.Ytjdfllocngkjpaa.FrmA
open Go.ChangeShapes Go.WideShapes Go.ChangeAt Go.RowKit Go.Deep FrmM
set_option maxRecDepth 100000

theorem own : ownKnob Try.prog.godebug = none := by kernel_rfl
theorem laidOut : laidOutB Try.prog = true := by kernel_rfl
theorem cells3 : Try.prog.cellsOf 3 = 1 := by kernel_rfl
theorem cells9 : Try.prog.cellsOf 9 = 1 := by kernel_rfl
theorem cells22 : Try.prog.cellsOf 22 = 1 := by kernel_rfl
theorem cells24 : Try.prog.cellsOf 24 = 3 := by kernel_rfl
theorem cells27 : Try.prog.cellsOf 27 = 4 := by kernel_rfl
theorem list_of {α : Type} {Q : Nat → α → Prop} (n : Nat) (h : ∀ i, i < n → ∃ r, Q i r) : ∃ l : List α, l.length = n ∧ ∀ (k : Nat) (r : α), l[k]? = some r → Q k r := by
  induction n with
  | zero => exact ⟨[], rfl, fun k r hk => by simp at hk⟩
  | succ n ih =>
    obtain ⟨l, hl, hq⟩ := ih (fun i hi => h i (by omega))
    obtain ⟨r, hr⟩ := h n (by omega)
    refine ⟨l ++ [r], by simp [hl], fun k x hk => ?_⟩
    rcases Nat.lt_or_ge k l.length with hlt | hge
    · rw [List.getElem?_append_left hlt] at hk
      exact hq k x hk
    · rw [List.getElem?_append_right hge] at hk
      have : k = n := by
        rcases Nat.lt_or_ge (k - l.length) 1 with h1 | h1
        · omega
        · rw [List.getElem?_eq_none (by simp; omega)] at hk; cases hk
      subst this
      rw [hl, Nat.sub_self] at hk
      simp at hk
      subst hk
      exact hr
theorem add_zero (a : Addr) : a.add 0 = a := by unfold Addr.add; simp
theorem plain_addr {a : Addr} {w : World} {v : Value} (h : w.cell? a = some v) : ∃ b o, a = ⟨b, o, none⟩ ∧ b < w.heap.size := by
  obtain ⟨b, o, sp⟩ := a
  have hlt : b < w.heap.size := by
    rcases Nat.lt_or_ge b w.heap.size with h1 | h1
    · exact h1
    · simp [World.cell?, Array.getElem?_eq_none h1] at h
  cases sp with
  | none => exact ⟨b, o, rfl, hlt⟩
  | some sp =>
    exfalso
    unfold World.cell? at h
    split at h <;> simp at h

section
variable {H : Type} {enc : TypeId × Value → H} {w : World} {base : Nat} {spare : Nat → Bool} {held : Bool}
theorem open_read {fuel : Nat} {cs : List Value} {x : DataW H × List MemPlace} (hlen : cs.length = 4) (h : DataW.trod enc Try.prog w base spare held fuel 27 cs = some x) : ∃ r : Rd, cs = rdCells r ∧ r.t.size ≤ maxLen := by
  match cs, hlen with
  | [v0, v1, v2, v3], _ =>
    obtain ⟨xs, n, _, hx, _, hl, he⟩ := DataW.trod_struct Try.underlying27 h
    match xs, hl with
    | [y0, y1, y2, y3], _ =>
      have e0 : DataW.trod enc Try.prog w base spare held n 3 (([v0, v1, v2, v3].drop 0).take (Try.prog.cellsOf 3)) = some y0 := he 0 _ rfl
      have e1 : DataW.trod enc Try.prog w base spare held n 3 (([v0, v1, v2, v3].drop 1).take (Try.prog.cellsOf 3)) = some y1 := he 1 _ rfl
      have e2 : DataW.trod enc Try.prog w base spare held n 3 (([v0, v1, v2, v3].drop 2).take (Try.prog.cellsOf 3)) = some y2 := he 2 _ rfl
      have e3 : DataW.trod enc Try.prog w base spare held n 9 (([v0, v1, v2, v3].drop 3).take (Try.prog.cellsOf 9)) = some y3 := he 3 _ rfl
      obtain ⟨a0, q0, _, _⟩ := DataW.trod_int Try.underlying3 e0
      obtain ⟨a1, q1, _, _⟩ := DataW.trod_int Try.underlying3 e1
      obtain ⟨a2, q2, _, _⟩ := DataW.trod_int Try.underlying3 e2
      obtain ⟨a3, q3, _, w3⟩ := DataW.trod_string Try.underlying9 e3
      rw [cells3] at q0 q1 q2
      rw [cells9] at q3
      simp at q0 q1 q2 q3
      subst q0 q1 q2 q3
      exact ⟨⟨a0, a1, a2, a3⟩, rfl, w3⟩
theorem open_reads {fuel : Nat} {cs : List Value} {x : DataW H × List MemPlace} (h : DataW.trod enc Try.prog w base spare held fuel 22 cs = some x) : ∃ p cap rs, cs = [.slice p (List.length rs) cap] ∧ ReadsOn w p rs := by
  rcases open_slice Try.underlying22 h with ⟨rfl, _⟩ | ⟨a, len, cap, m, n, D, Pl, rfl, hb, hle, hcap, hm, _, hel⟩
  · exact ⟨none, 0, [], rfl, fun r hr => absurd hr List.not_mem_nil, fun hn => absurd rfl hn⟩
  · have hml : len ≤ m := by rw [hm]; split <;> omega
    obtain ⟨rs, hrl, hrs⟩ := list_of (Q := fun i (r : Rd) => r.t.size ≤ maxLen ∧ ∀ j u, (rdCells r)[j]? = some u → w.cell? ((a.add (i * 4)).add j) = some u) len (fun i hi => by
      obtain ⟨cs', hc, ht⟩ := hel i (by omega)
      rw [cells27] at hc
      obtain ⟨_, hlen, hcell⟩ := World.cells?_some hc
      obtain ⟨r, rfl, hrt⟩ := open_read hlen ht
      refine ⟨r, hrt, fun j u hj => ?_⟩
      have hj4 : j < 4 := by
        rcases Nat.lt_or_ge j 4 with h | h
        · exact h
        · rw [List.getElem?_eq_none (by show 4 ≤ j; exact h)] at hj; cases hj
      rw [hcell j hj4]
      exact hj)
    refine ⟨some a, cap, rs, by rw [hrl], fun r hr => ?_, fun hne => ?_⟩
    · obtain ⟨k, hk⟩ := List.getElem?_of_mem hr
      exact (hrs k r hk).1
    · have h0 : 0 < rs.length := List.length_pos_iff.2 hne
      have hf := (hrs 0 _ (List.getElem?_eq_getElem h0)).2 0 _ rfl
      rw [Nat.zero_mul, add_zero, add_zero] at hf
      obtain ⟨b, o, rfl, hlt⟩ := plain_addr hf
      refine ⟨b, o, rfl, hlt, fun k r hk => ?_⟩
      have hc := (hrs k r hk).2
      have e1 : (⟨b, o, none⟩ : Addr).add (k * 4) = ⟨b, o + k * 4, none⟩ := by unfold Addr.add; split <;> simp_all
      have e2 : ∀ j, (⟨b, o + k * 4, none⟩ : Addr).add j = ⟨b, o + k * 4 + j, none⟩ := fun j => by unfold Addr.add; split <;> simp_all
      rw [e1] at hc
      have c0 := hc 0 _ rfl
      have c1 := hc 1 _ rfl
      have c2 := hc 2 _ rfl
      have c3 := hc 3 _ rfl
      rw [e2] at c0 c1 c2 c3
      exact ⟨c0, c1, c2, c3⟩
/-- The three cells of a frame. -/
theorem open_frame {fuel : Nat} {cs : List Value} {x : DataW H × List MemPlace} (hlen : cs.length = 3) (h : DataW.trod enc Try.prog w base spare held fuel 24 cs = some x) : ∃ (f : Fr) (p : Option Addr) (cap : Nat), cs = [.int .i64 f.ty, .slice p f.rs.length cap, .int .i64 f.wm] ∧ ReadsOn w p f.rs := by
  match cs, hlen with
  | [v0, v1, v2], _ =>
    obtain ⟨xs, n, _, hx, _, hl, he⟩ := DataW.trod_struct Try.underlying24 h
    match xs, hl with
    | [y0, y1, y2], _ =>
      have e0 : DataW.trod enc Try.prog w base spare held n 3 (([v0, v1, v2].drop 0).take (Try.prog.cellsOf 3)) = some y0 := he 0 _ rfl
      have e1 : DataW.trod enc Try.prog w base spare held n 22 (([v0, v1, v2].drop 1).take (Try.prog.cellsOf 22)) = some y1 := he 1 _ rfl
      have e2 : DataW.trod enc Try.prog w base spare held n 3 (([v0, v1, v2].drop 2).take (Try.prog.cellsOf 3)) = some y2 := he 2 _ rfl
      obtain ⟨a0, q0, _, _⟩ := DataW.trod_int Try.underlying3 e0
      obtain ⟨p, cap, rs, q1, hr⟩ := open_reads e1
      obtain ⟨a2, q2, _, _⟩ := DataW.trod_int Try.underlying3 e2
      rw [cells3] at q0 q2
      rw [cells22] at q1
      simp at q0 q1 q2
      subst q0 q1 q2
      exact ⟨⟨a0, rs, a2⟩, p, cap, rfl, hr⟩
end
theorem says_lifted (os : Os) (started : os.Started) (H : Type) (enc : TypeId × Value → H) :
    ReturnsInHanded {} Try.checked os 3 .any (Rows.frameSaysSpec.pre6 enc Try.prog Try.f3 Rows.frameSaysRow.domain false) (Rows.frameSaysSpec.post enc Try.prog Try.f3 false true false false) := by
  refine returnsInHanded_of_change (C := Try.checked) own started (by kernel_rfl) Try.func3
    (ChangeSpec.witness6 (enc := enc) (C := Try.checked) false ⟨#[], #[.agg #[.int .i64 0, .slice none 0 0, .int .i64 0]], []⟩ 8 (by kernel_rfl) (by kernel_rfl) (by kernel_rfl) (by kernel_rfl)) ?_
  intro W base args ds gs before hval0 hW hcnd _
  have hval : ∀ (j : Nat) t v, Try.f3.params[j]? = some t → args[j]? = some v → Value.okWide Try.prog W .any base t v := hval0
  have hW' := hW
  obtain ⟨p, q, hA0, hV, rfl, hfz, hnd⟩ := hW
  have hA : DataW.TrodAll enc Try.prog W 0 (fun _ => true) true Try.f3.params.toList args.toList ds p := hA0
  rw [Try.params3] at hA hval
  obtain ⟨v0, d0, hargs, rfl, h0⟩ := trodAll_one hA
  obtain rfl : args = #[v0] := by cases args; simp_all
  obtain ⟨rfl, rfl⟩ := trodVars_none hV
  simp only [List.append_nil] at hW'
  have hlt := hW'.lt
  obtain ⟨cs, rfl, hsz⟩ := okWide_struct Try.underlying24 (hval 0 24 _ rfl rfl)
  obtain ⟨fuel, hf⟩ := h0
  obtain ⟨f, pr, cap, hcs, hr⟩ := open_frame (cs := cs.toList) (by rw [Array.length_toList, hsz, cells24]) hf
  have hcs' : cs = #[.int .i64 f.ty, .slice pr f.rs.length cap, .int .i64 f.wm] := by
    apply Array.toList_inj.1
    rw [hcs]
  subst hcs'
  refine (says_any f pr cap W hr).mono fun e W' ⟨he, hbel⟩ => ?_
  subst he
  exact ⟨_, rfl, _, _, _, [], p ++ [], [], hW', trodAll_mk1 (shut_bool Try.underlying4 _),
    trodAll_cons_mk (Below.trod laidOut (by kernel_rfl) (of_decide_eq_true (by kernel_rfl)) ⟨fuel, hf⟩ hbel hlt) trodAll_mk0, rfl, hbel.frame _, fun h => by cases h⟩
end Go.Proofs.Ytjdfllocngkjpaa.FrmA
namespace Go.Proofs.Ytjdfllocngkjpaa
set_option maxRecDepth 100000
theorem frameSays_holds : Rows.FrameSaysSaid :=
  OpenClaim.holds_of_wide 3 Try.f3 rfl rfl rfl rfl rfl rfl rfl ⟨rfl, rfl, rfl, rfl, rfl⟩ rfl rfl rfl rfl rfl (by kernel_rfl) Try.func3 (by kernel_rfl)
    (of_decide_eq_true (by kernel_rfl)) (by unfold Func.isWrapper; first | (rw [if_pos (by decide +kernel)]; kernel_rfl) | (rw [if_neg (by decide +kernel)]; exact ⟨rfl, rfl⟩))
    (fun os started H enc _ => FrmA.says_lifted os started H enc)
#print axioms frameSays_holds
end Go.Proofs.Ytjdfllocngkjpaa
