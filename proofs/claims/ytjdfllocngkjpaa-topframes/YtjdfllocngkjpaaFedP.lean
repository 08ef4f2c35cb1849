/-
  PROVED: FeedSays returns true, whatever the texts; the list reads as before. No condition.
-/
import Derived.Test.YtjdfllocngkjpaaSayP
import Derived.Test.YtjdfllocngkjpaaFedA
namespace Go.Proofs.Ytjdfllocngkjpaa.FrmA
open Go.ChangeShapes Go.WideShapes Go.ChangeAt Go.RowKit Go.Deep FrmM
set_option maxRecDepth 100000

theorem cells_slice {v : Value} {p : Option Addr} {n c : Nat} (hv : ∃ p' n' c', v = .slice p' n' c') (h : v.cells.toList = [.slice p n c]) : v = .slice p n c := by
  obtain ⟨p', n', c', rfl⟩ := hv
  simpa [Value.cells] using h
section
variable {H : Type} {enc : TypeId × Value → H} {w : World} {base : Nat} {spare : Nat → Bool} {held : Bool}
theorem open_texts {fuel : Nat} {cs : List Value} {x : DataW H × List MemPlace} (h : DataW.trod enc Try.prog w base spare held fuel 39 cs = some x) : ∃ p cap ts, cs = [.slice p (List.length ts) cap] ∧ TextsOn w p ts := by
  rcases open_slice Try.underlying39 h with ⟨rfl, _⟩ | ⟨a, len, cap, m, n, D, Pl, rfl, hb, hle, hcap, hm, _, hel⟩
  · exact ⟨none, 0, [], rfl, fun r hr => absurd hr List.not_mem_nil, fun hn => absurd rfl hn⟩
  · have hml : len ≤ m := by rw [hm]; split <;> omega
    obtain ⟨ts, htl, hts⟩ := list_of (Q := fun i (t : ByteArray) => t.size ≤ maxLen ∧ w.cell? (a.add i) = some (.string t)) len (fun i hi => by
      obtain ⟨cs', hc, ht⟩ := hel i (by omega)
      rw [cells9] at hc
      obtain ⟨_, hlen, hcell⟩ := World.cells?_some hc
      obtain ⟨s, rfl, _, hs⟩ := DataW.trod_string Try.underlying9 ht
      refine ⟨s, hs, ?_⟩
      have := hcell 0 (by omega)
      rw [add_zero, Nat.mul_one] at this
      exact this)
    refine ⟨some a, cap, ts, by rw [htl], fun r hr => ?_, fun hne => ?_⟩
    · obtain ⟨k, hk⟩ := List.getElem?_of_mem hr
      exact (hts k r hk).1
    · have h0 : 0 < ts.length := List.length_pos_iff.2 hne
      have hf := (hts 0 _ (List.getElem?_eq_getElem h0)).2
      rw [add_zero] at hf
      obtain ⟨b, o, rfl, hlt⟩ := plain_addr hf
      refine ⟨b, o, rfl, hlt, fun k r hk => ?_⟩
      have hc := (hts k r hk).2
      have e1 : (⟨b, o, none⟩ : Addr).add k = ⟨b, o + k, none⟩ := by unfold Addr.add; split <;> simp_all
      rw [e1] at hc
      exact hc
end
theorem fed_lifted (os : Os) (started : os.Started) (H : Type) (enc : TypeId × Value → H) :
    ReturnsInHanded {} Try.checked os 4 .any (Rows.feedSaysSpec.pre6 enc Try.prog Try.f4 Rows.feedSaysRow.domain false) (Rows.feedSaysSpec.post enc Try.prog Try.f4 false true false false) := by
  refine returnsInHanded_of_change (C := Try.checked) own started (by kernel_rfl) Try.func4
    (ChangeSpec.witness6 (enc := enc) (C := Try.checked) false ⟨#[], #[.slice none 0 0], []⟩ 8 (by kernel_rfl) (by kernel_rfl) (by kernel_rfl) (by kernel_rfl)) ?_
  intro W base args ds gs before hval0 hW hcnd _
  have hval : ∀ (j : Nat) t v, Try.f4.params[j]? = some t → args[j]? = some v → Value.okWide Try.prog W .any base t v := hval0
  have hW' := hW
  obtain ⟨p, q, hA0, hV, rfl, hfz, hnd⟩ := hW
  have hA : DataW.TrodAll enc Try.prog W 0 (fun _ => true) true Try.f4.params.toList args.toList ds p := hA0
  rw [Try.params4] at hA hval
  obtain ⟨v0, d0, hargs, rfl, h0⟩ := trodAll_one hA
  obtain rfl : args = #[v0] := by cases args; simp_all
  obtain ⟨rfl, rfl⟩ := trodVars_none hV
  simp only [List.append_nil] at hW'
  have hlt := hW'.lt
  obtain ⟨fuel, hf⟩ := h0
  obtain ⟨pr, cap, ts, hcs, hr⟩ := open_texts hf
  obtain rfl := cells_slice (okWide_slice Try.underlying39 (hval 0 39 _ rfl rfl)) hcs
  refine (fed_any ts pr cap W hr).mono fun e W' ⟨he, hbel⟩ => ?_
  subst he
  exact ⟨_, rfl, _, _, _, [], p ++ [], [], hW', trodAll_mk1 (shut_bool Try.underlying4 _),
    trodAll_cons_mk (Below.trod laidOut (by kernel_rfl) (of_decide_eq_true (by kernel_rfl)) ⟨fuel, hf⟩ hbel hlt) trodAll_mk0, rfl, hbel.frame _, fun h => by cases h⟩
end Go.Proofs.Ytjdfllocngkjpaa.FrmA
namespace Go.Proofs.Ytjdfllocngkjpaa
set_option maxRecDepth 100000
theorem feedSays_holds : Rows.FeedSaysSaid :=
  OpenClaim.holds_of_wide 4 Try.f4 rfl rfl rfl rfl rfl rfl rfl ⟨rfl, rfl, rfl, rfl, rfl⟩ rfl rfl rfl rfl rfl (by kernel_rfl) Try.func4 (by kernel_rfl)
    (of_decide_eq_true (by kernel_rfl)) (by unfold Func.isWrapper; first | (rw [if_pos (by decide +kernel)]; kernel_rfl) | (rw [if_neg (by decide +kernel)]; exact ⟨rfl, rfl⟩))
    (fun os started H enc _ => FrmA.fed_lifted os started H enc)
#print axioms feedSays_holds
end Go.Proofs.Ytjdfllocngkjpaa
