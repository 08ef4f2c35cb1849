/-
  PROVED: TrackSays returns true, whatever the numbers, the epochs and the tag; the lists read as before. No condition.
-/
import Derived.Test.YtbmaioklmcgkbaaRows
import Derived.Test.YtbmaioklmcgkbaaTkY
import Derived.Test.YtbmaioklmcgkbaaTkZ
import Derived.Carry
import Derived.ChangeMaps5
namespace Go.Proofs.Ytbmaioklmcgkbaa.TkA
open Go.ChangeShapes Go.WideShapes Go.ChangeAt Go.RowKit Go.Deep TkM TkW
open Go.ChangeMaps (open_string)
set_option maxRecDepth 100000

theorem track_any (W need : Int) (E : List (List Sg)) (a : Option Addr) (cap : Nat) (other : ByteArray) (w : World) (hE : EsOn w a E) (hb : ∀ l, l ∈ E → l.length ≤ 9223372036854775807 ∧ ∀ x, x ∈ l → x.g.size ≤ 9223372036854775807) (ho : other.size ≤ maxLen) :
    Calls Try.prog 8 #[.int .i64 W, .int .i64 need, .slice a E.length cap, .string other] w fun e w' => e = .returned (.bool true) ∧ Below w.heap.size w w' := by
  have hmx : maxLen = 9223372036854775807 := by decide
  rw [hmx] at ho
  cases hl : light E with
  | false => exact track_long E a cap other w W need hE hb ho (Or.inl hl)
  | true =>
    by_cases h20 : 20 < other.size
    · exact track_long E a cap other w W need hE hb ho (Or.inr ⟨hl, h20⟩)
    by_cases h : 1 ≤ W ∧ W ≤ 8 ∧ 1 ≤ need ∧ need ≤ W
    · obtain ⟨s, rfl⟩ : ∃ s : Nat, W = (s : Int) := ⟨W.toNat, by omega⟩
      obtain ⟨l, rfl⟩ : ∃ l : Nat, need = (l : Int) := ⟨need.toNat, by omega⟩
      exact track_ok E a cap other w s l hE hl (by omega) (by omega) (by omega) (by omega) (by omega)
    · exact track_bad E a cap other w W need hE hl (by omega) h
theorem track_lifted (os : Os) (started : os.Started) (H : Type) (enc : TypeId × Value → H) :
    ReturnsInHanded {} Try.checked os 8 .any (Rows.trackSaysSpec.pre6 enc Try.prog Try.f8 Rows.trackSaysRow.domain false) (Rows.trackSaysSpec.post enc Try.prog Try.f8 false true false false) := by
  refine returnsInHanded_of_change (C := Try.checked) own started (by kernel_rfl) Try.func8
    (ChangeSpec.witness6 (enc := enc) (C := Try.checked) false ⟨#[], #[.int .i64 0, .int .i64 0, .slice none 0 0, .string ⟨#[]⟩], []⟩ 8 (by kernel_rfl) (by kernel_rfl) (by kernel_rfl) (by kernel_rfl)) ?_
  intro W base args ds gs before hval0 hW hcnd _
  have hval : ∀ (j : Nat) t v, Try.f8.params[j]? = some t → args[j]? = some v → Value.okWide Try.prog W .any base t v := hval0
  have hW' := hW
  obtain ⟨p, q, hA0, hV, rfl, hfz, hnd⟩ := hW
  have hA : DataW.TrodAll enc Try.prog W 0 (fun _ => true) true Try.f8.params.toList args.toList ds p := hA0
  rw [Try.params8] at hA hval
  obtain ⟨v0, v1, v2, v3, d0, d1, d2, d3, p0, p1, p2, p3, hargs, rfl, rfl, h0, h1, h2, h3⟩ := trodAll_four hA
  obtain rfl : args = #[v0, v1, v2, v3] := by cases args; simp_all
  obtain ⟨rfl, rfl⟩ := trodVars_none hV
  simp only [List.append_nil] at hW'
  have hlt := hW'.lt
  have hlt0 : ∀ x ∈ p0, x.block < W.heap.size := fun x hx => hlt x (by simp [hx])
  have hlt1 : ∀ x ∈ p1, x.block < W.heap.size := fun x hx => hlt x (by simp [hx])
  have hlt2 : ∀ x ∈ p2, x.block < W.heap.size := fun x hx => hlt x (by simp [hx])
  have hlt3 : ∀ x ∈ p3, x.block < W.heap.size := fun x hx => hlt x (by simp [hx])
  have k0 := h0
  have k1 := h1
  have k2 := h2
  have k3 := h3
  obtain ⟨fuel2, hf2⟩ := h2
  obtain ⟨pa, ca, E, hcs2, hr2, hbE⟩ := open_epochs hf2
  obtain rfl := cells_slice (okWide_slice Try.underlying76 (hval 2 76 _ rfl rfl)) hcs2
  obtain ⟨s, rfl, _⟩ := open_int Try.underlying3 (hval 0 3 _ rfl rfl) h0
  obtain ⟨l, rfl, _⟩ := open_int Try.underlying3 (hval 1 3 _ rfl rfl) h1
  obtain ⟨o, rfl, _, _, hos⟩ := open_string Try.underlying9 (hval 3 9 _ rfl rfl) h3
  refine (track_any s l E pa ca o W hr2 hbE hos).mono fun e W' ⟨he, hbel⟩ => ?_
  subst he
  exact ⟨_, rfl, _, _, _, [], p0 ++ (p1 ++ (p2 ++ (p3 ++ []))), [], hW', trodAll_mk1 (shut_bool Try.underlying4 _),
    trodAll_cons_mk (Below.trod laidOut (by kernel_rfl) (of_decide_eq_true (by kernel_rfl)) k0 hbel hlt0) (trodAll_cons_mk (Below.trod laidOut (by kernel_rfl) (of_decide_eq_true (by kernel_rfl)) k1 hbel hlt1) (trodAll_cons_mk (Below.trod laidOut (by kernel_rfl) (of_decide_eq_true (by kernel_rfl)) k2 hbel hlt2) (trodAll_cons_mk (Below.trod laidOut (by kernel_rfl) (of_decide_eq_true (by kernel_rfl)) k3 hbel hlt3) trodAll_mk0))), rfl, hbel.frame _, fun h => by cases h⟩
end Go.Proofs.Ytbmaioklmcgkbaa.TkA
namespace Go.Proofs.Ytbmaioklmcgkbaa
set_option maxRecDepth 100000
theorem trackSays_holds : Rows.TrackSaysSaid :=
  OpenClaim.holds_of_wide 8 Try.f8 rfl rfl rfl rfl rfl rfl rfl ⟨rfl, rfl, rfl, rfl, rfl⟩ rfl rfl rfl rfl rfl (by kernel_rfl) Try.func8 (by kernel_rfl)
    (of_decide_eq_true (by kernel_rfl)) (by unfold Func.isWrapper; first | (rw [if_pos (by decide +kernel)]; kernel_rfl) | (rw [if_neg (by decide +kernel)]; exact ⟨rfl, rfl⟩))
    (fun os started H enc _ => TkA.track_lifted os started H enc)
#print axioms trackSays_holds
end Go.Proofs.Ytbmaioklmcgkbaa
