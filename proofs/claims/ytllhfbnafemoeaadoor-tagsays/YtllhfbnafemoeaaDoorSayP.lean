/-
  What TagSays gives for every argument.
-/
import Derived.Test.YtllhfbnafemoeaaDoorTopP
import Derived.Test.YtllhfbnafemoeaaDoorSayC
namespace Go.Proofs.YtllhfbnafemoeaaDoor.TagA
open Go.ChangeShapes Go.WideShapes Go.ChangeAt Go.RowKit
open Go.ChangeMaps (open_string shut_string)
set_option maxRecDepth 100000

theorem wf_le {n : Int} (h : (Lit.int .i64 n).wf = true) : n ≤ 9223372036854775807 := by
  simp [Lit.wf] at h
  exact h.2
theorem says_contract (H : Type) (enc : TypeId × Value → H) (W : World) (base : Nat) (args : Array Value) (ds gs : List (DataW H)) (before : List MemPlace)
    (hval0 : ∀ (j : Nat) t v, Tryd.f4.params[j]? = some t → args[j]? = some v → Value.okWide Tryd.prog W .any base t v)
    (hW : DataW.Whole enc Tryd.prog Tryd.f4.params.toList Rows.tagSaysSpec.vars false W args.toList ds gs before) (hL : laidMetH Tryd.prog Rows.tagSaysRow.laid W) (hsh : W.ShapedOpen Tryd.prog) :
    Calls Tryd.prog 4 args W fun e W' => ∃ v, e = .returned v ∧ Rows.tagSaysSpec.post enc Tryd.prog Tryd.f4 false true false false W args v W' := by
  have hval := hval0
  have hW' := hW
  obtain ⟨p, q, hA0, hV, rfl, hfz, hnd⟩ := hW
  have hA : DataW.TrodAll enc Tryd.prog W 0 (fun _ => true) true Tryd.f4.params.toList args.toList ds p := hA0
  rw [Tryd.params4] at hA hval
  obtain ⟨v0, v1, v2, d0, d1, d2, p0, p1, p2, hargs, rfl, rfl, h0, h1, h2⟩ := trodAll_three hA
  obtain rfl : args = #[v0, v1, v2] := by cases args; simp_all
  obtain ⟨rfl, rfl⟩ := trodVars_none hV
  obtain ⟨K, F, P, C, R, S, rfl, rfl, rfl, a0, a1, a2, a3, a4, a5⟩ := open_tag (hval 0 32 _ rfl rfl) h0
  obtain ⟨b, rfl, rfl, rfl, hb⟩ := open_string Tryd.underlying9 (hval 1 9 _ rfl rfl) h1
  obtain ⟨s, rfl, rfl, rfl, hs⟩ := open_string Tryd.underlying9 (hval 2 9 _ rfl rfl) h2
  clear hA0 hval0 hval h0 h1 h2 hA hV
  simp only [List.append_nil] at hW'
  rw [MakeChecks.laidMetH_plain _ _ _ (by kernel_rfl)] at hL
  obtain ⟨ps, hLV, _, _⟩ := hL
  have hT : Tabs2 W := tabs_of hLV hsh (by simp [Rows.tagSaysRow]) (by simp [Rows.tagSaysRow]) (by simp [Rows.tagSaysRow]) (by simp [Rows.tagSaysRow]) (by simp [Rows.tagSaysRow]) (heap10 hsh)
  have walk : Calls Tryd.prog 4 #[.agg #[.int .i64 K, .int .i64 F, .int .i64 P, .int .i64 C, .int .i64 R, .int .i64 S], .string b, .string s] W fun e w' => e = .returned (.bool true) ∧ Below W.heap.size W w' := by
    cases hok : TagM.okB K F P C R S with
    | true => exact says_yes K F P C R S b s W hT (wf_le a3) (wf_le a4) hb hs hok
    | false => exact says_no K F P C R S b s W hT (wf_le a3) (wf_le a4) hb hs hok
  refine walk.mono fun e W' ⟨he, hbel⟩ => ?_
  subst he
  exact ⟨_, rfl, _, _, _, [], [], [], hW', trodAll_mk1 (shut_bool Tryd.underlying4 _),
    trodAll_cons_mk (shut_tag a0 a1 a2 a3 a4 a5) (trodAll_cons_mk (shut_string Tryd.underlying9 hb) (trodAll_cons_mk (shut_string Tryd.underlying9 hs) trodAll_mk0)), rfl, hbel.frame _, fun h => by cases h⟩
theorem says_met (os : Os) : laidMetH Tryd.prog Rows.tagSaysRow.laid (({ World.doorLaid Tryd.prog 2000 os with heap := (World.doorLaid Tryd.prog 2000 os).heap.modify 8 turnRow } : World).forCall (fun _ _ => 0) ⟨#[], #[zeroTag, .string ⟨#[]⟩, .string ⟨#[]⟩], []⟩).memory :=
  laidMetH_of_parts3 (fuel := 8) (laidMet_of_run' 8 (by kernel_rfl) (by kernel_rfl)) (by kernel_rfl) (by kernel_rfl)
end Go.Proofs.YtllhfbnafemoeaaDoor.TagA
