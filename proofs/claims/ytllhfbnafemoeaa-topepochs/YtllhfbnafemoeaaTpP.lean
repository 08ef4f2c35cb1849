/-
  PROVED: TopEpochs returns true, whatever the numbers and the acts; the list reads as before. No condition.
-/
import Derived.Test.YtllhfbnafemoeaaEpQ
import Derived.Test.YtllhfbnafemoeaaTpC
namespace Go.Proofs.Ytllhfbnafemoeaa.EpA
open Go.ChangeShapes Go.WideShapes Go.ChangeAt Go.RowKit Go.Deep EpM EpW
set_option maxRecDepth 100000

theorem top_any (size late : Int) (acts : List Ac) (p : Option Addr) (cap : Nat) (w : World) (ha : AcsOn w p acts) :
    Calls Try.prog 7 #[.int .i64 size, .int .i64 late, .slice p acts.length cap] w fun e w' => e = .returned (.bool true) ∧ Below w.heap.size w w' := by
  by_cases h : 1 ≤ size ∧ size ≤ 50 ∧ 0 ≤ late ∧ late ≤ 50
  · obtain ⟨s, rfl⟩ : ∃ s : Nat, size = (s : Int) := ⟨size.toNat, by omega⟩
    obtain ⟨l, rfl⟩ : ∃ l : Nat, late = (l : Int) := ⟨late.toNat, by omega⟩
    by_cases hn : 80 < acts.length
    · exact top_long s l p _ cap w hn (by omega) (by omega) (by omega)
    · exact top_main s l acts p cap w (by omega) (by omega) (by omega) (by omega) ha
  · exact top_bad size late p _ cap w h
theorem top_lifted (os : Os) (started : os.Started) (H : Type) (enc : TypeId × Value → H) :
    ReturnsInHanded {} Try.checked os 7 .any (Rows.topEpochsSpec.pre6 enc Try.prog Try.f7 Rows.topEpochsRow.domain false) (Rows.topEpochsSpec.post enc Try.prog Try.f7 false true false false) := by
  refine returnsInHanded_of_change (C := Try.checked) own started (by kernel_rfl) Try.func7
    (ChangeSpec.witness6 (enc := enc) (C := Try.checked) false ⟨#[], #[.int .i64 0, .int .i64 0, .slice none 0 0], []⟩ 8 (by kernel_rfl) (by kernel_rfl) (by kernel_rfl) (by kernel_rfl)) ?_
  intro W base args ds gs before hval0 hW hcnd _
  have hval : ∀ (j : Nat) t v, Try.f7.params[j]? = some t → args[j]? = some v → Value.okWide Try.prog W .any base t v := hval0
  have hW' := hW
  obtain ⟨p, q, hA0, hV, rfl, hfz, hnd⟩ := hW
  have hA : DataW.TrodAll enc Try.prog W 0 (fun _ => true) true Try.f7.params.toList args.toList ds p := hA0
  rw [Try.params7] at hA hval
  obtain ⟨v0, v1, v2, d0, d1, d2, p0, p1, p2, hargs, rfl, rfl, h0, h1, h2⟩ := trodAll_three hA
  obtain rfl : args = #[v0, v1, v2] := by cases args; simp_all
  obtain ⟨rfl, rfl⟩ := trodVars_none hV
  simp only [List.append_nil] at hW'
  have hlt := hW'.lt
  have hlt0 : ∀ x ∈ p0, x.block < W.heap.size := fun x hx => hlt x (by simp [hx])
  have hlt1 : ∀ x ∈ p1, x.block < W.heap.size := fun x hx => hlt x (by simp [hx])
  have hlt2 : ∀ x ∈ p2, x.block < W.heap.size := fun x hx => hlt x (by simp [hx])
  have k0 := h0
  have k1 := h1
  have k2 := h2
  obtain ⟨fuel2, hf2⟩ := h2
  obtain ⟨pa, ca, ac, hcs2, hr2⟩ := open_acts hf2
  obtain rfl := cells_slice (okWide_slice Try.underlying52 (hval 2 52 _ rfl rfl)) hcs2
  obtain ⟨s, rfl, _⟩ := open_int Try.underlying3 (hval 0 3 _ rfl rfl) h0
  obtain ⟨l, rfl, _⟩ := open_int Try.underlying3 (hval 1 3 _ rfl rfl) h1
  refine (top_any s l ac pa ca W hr2).mono fun e W' ⟨he, hbel⟩ => ?_
  subst he
  exact ⟨_, rfl, _, _, _, [], p0 ++ (p1 ++ (p2 ++ [])), [], hW', trodAll_mk1 (shut_bool Try.underlying4 _),
    trodAll_cons_mk (Below.trod laidOut (by kernel_rfl) (of_decide_eq_true (by kernel_rfl)) k0 hbel hlt0) (trodAll_cons_mk (Below.trod laidOut (by kernel_rfl) (of_decide_eq_true (by kernel_rfl)) k1 hbel hlt1) (trodAll_cons_mk (Below.trod laidOut (by kernel_rfl) (of_decide_eq_true (by kernel_rfl)) k2 hbel hlt2) trodAll_mk0)), rfl, hbel.frame _, fun h => by cases h⟩
end Go.Proofs.Ytllhfbnafemoeaa.EpA
namespace Go.Proofs.Ytllhfbnafemoeaa
set_option maxRecDepth 100000
theorem topEpochs_holds : Rows.TopEpochsSaid :=
  OpenClaim.holds_of_wide 7 Try.f7 rfl rfl rfl rfl rfl rfl rfl ⟨rfl, rfl, rfl, rfl, rfl⟩ rfl rfl rfl rfl rfl (by kernel_rfl) Try.func7 (by kernel_rfl)
    (of_decide_eq_true (by kernel_rfl)) (by unfold Func.isWrapper; first | (rw [if_pos (by decide +kernel)]; kernel_rfl) | (rw [if_neg (by decide +kernel)]; exact ⟨rfl, rfl⟩))
    (fun os started H enc _ => EpA.top_lifted os started H enc)
#print axioms topEpochs_holds
end Go.Proofs.Ytllhfbnafemoeaa
