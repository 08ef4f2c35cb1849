/-
  PROVED: TopTrack returns true, whatever the numbers and the epochs; the lists read as before. No condition.
-/
import Derived.Test.YtbmaioklmcgkbaaRows
import Derived.Test.YtbmaioklmcgkbaaTtC
import Derived.Test.YtbmaioklmcgkbaaTkZ
import Derived.Carry
import Derived.ChangeMaps5
namespace Go.Proofs.Ytbmaioklmcgkbaa.TkA
open Go.ChangeShapes Go.WideShapes Go.ChangeAt Go.RowKit Go.Deep TkM TkW
set_option maxRecDepth 100000

theorem top_any (W need : Int) (E : List (List Sg)) (a : Option Addr) (cap : Nat) (w : World) (hE : EsOn w a E) (hb : ∀ l, l ∈ E → l.length ≤ 9223372036854775807 ∧ ∀ x, x ∈ l → x.g.size ≤ 9223372036854775807) :
    Calls Try.prog 9 #[.int .i64 W, .int .i64 need, .slice a E.length cap] w fun e w' => e = .returned (.bool true) ∧ Below w.heap.size w w' := by
  cases hl : light E with
  | false => exact top_long E a cap w W need hE hb (Or.inl hl)
  | true =>
    by_cases h12 : 12 < E.length
    · exact top_long E a cap w W need hE hb (Or.inr ⟨hl, h12⟩)
    by_cases h : 1 ≤ W ∧ W ≤ 8 ∧ 1 ≤ need ∧ need ≤ W
    · obtain ⟨s, rfl⟩ : ∃ s : Nat, W = (s : Int) := ⟨W.toNat, by omega⟩
      obtain ⟨l, rfl⟩ : ∃ l : Nat, need = (l : Int) := ⟨need.toNat, by omega⟩
      exact top_main s l E a cap w (by omega) (by omega) (by omega) (by omega) hE hl (by omega)
    · exact top_bad E a cap w W need hE hl (by omega) h
theorem top_lifted (os : Os) (started : os.Started) (H : Type) (enc : TypeId × Value → H) :
    ReturnsInHanded {} Try.checked os 9 .any (Rows.topTrackSpec.pre6 enc Try.prog Try.f9 Rows.topTrackRow.domain false) (Rows.topTrackSpec.post enc Try.prog Try.f9 false true false false) := by
  refine returnsInHanded_of_change (C := Try.checked) own started (by kernel_rfl) Try.func9
    (ChangeSpec.witness6 (enc := enc) (C := Try.checked) false ⟨#[], #[.int .i64 0, .int .i64 0, .slice none 0 0], []⟩ 8 (by kernel_rfl) (by kernel_rfl) (by kernel_rfl) (by kernel_rfl)) ?_
  intro W base args ds gs before hval0 hW hcnd _
  have hval : ∀ (j : Nat) t v, Try.f9.params[j]? = some t → args[j]? = some v → Value.okWide Try.prog W .any base t v := hval0
  have hW' := hW
  obtain ⟨p, q, hA0, hV, rfl, hfz, hnd⟩ := hW
  have hA : DataW.TrodAll enc Try.prog W 0 (fun _ => true) true Try.f9.params.toList args.toList ds p := hA0
  rw [Try.params9] at hA hval
  obtain ⟨v0, v1, v2, d0, d1, d2, p0, p1, p2, hargs, rfl, rfl, h0, h1, h2⟩ := trodAll_three hA
  obtain rfl : args = #[v0, v1, v2] := by cases args; simp_all
  obtain ⟨rfl, rfl⟩ := trodVars_none hV
  simp only [List.append_nil] at hW'
  have hlt := hW'.lt
  have hlt0 : ∀ x ∈ p0, x.block < W.heap.size := fun x hx => hlt x (by simp [hx])
  have hlt1 : ∀ x ∈ p1, x.block < W.heap.size := fun x hx => hlt x (by simp [hx])
  have hlt2 : ∀ x ∈ p2, x.block < W.heap.size := fun x hx => hlt x (by simp [hx])
  have k0 := h0
  have k1 := h1
  have k2 := h2
  obtain ⟨fuel2, hf2⟩ := h2
  obtain ⟨pa, ca, E, hcs2, hr2, hbE⟩ := open_epochs hf2
  obtain rfl := cells_slice (okWide_slice Try.underlying76 (hval 2 76 _ rfl rfl)) hcs2
  obtain ⟨s, rfl, _⟩ := open_int Try.underlying3 (hval 0 3 _ rfl rfl) h0
  obtain ⟨l, rfl, _⟩ := open_int Try.underlying3 (hval 1 3 _ rfl rfl) h1
  refine (top_any s l E pa ca W hr2 hbE).mono fun e W' ⟨he, hbel⟩ => ?_
  subst he
  exact ⟨_, rfl, _, _, _, [], p0 ++ (p1 ++ (p2 ++ [])), [], hW', trodAll_mk1 (shut_bool Try.underlying4 _),
    trodAll_cons_mk (Below.trod laidOut (by kernel_rfl) (of_decide_eq_true (by kernel_rfl)) k0 hbel hlt0) (trodAll_cons_mk (Below.trod laidOut (by kernel_rfl) (of_decide_eq_true (by kernel_rfl)) k1 hbel hlt1) (trodAll_cons_mk (Below.trod laidOut (by kernel_rfl) (of_decide_eq_true (by kernel_rfl)) k2 hbel hlt2) trodAll_mk0)), rfl, hbel.frame _, fun h => by cases h⟩
end Go.Proofs.Ytbmaioklmcgkbaa.TkA
namespace Go.Proofs.Ytbmaioklmcgkbaa
set_option maxRecDepth 100000
theorem topTrack_holds : Rows.TopTrackSaid :=
  OpenClaim.holds_of_wide 9 Try.f9 rfl rfl rfl rfl rfl rfl rfl ⟨rfl, rfl, rfl, rfl, rfl⟩ rfl rfl rfl rfl rfl (by kernel_rfl) Try.func9 (by kernel_rfl)
    (of_decide_eq_true (by kernel_rfl)) (by unfold Func.isWrapper; first | (rw [if_pos (by decide +kernel)]; kernel_rfl) | (rw [if_neg (by decide +kernel)]; exact ⟨rfl, rfl⟩))
    (fun os started H enc _ => TkA.top_lifted os started H enc)
#print axioms topTrack_holds
end Go.Proofs.Ytbmaioklmcgkbaa
