/-
  PROVED: TopTag returns true at every two tags, bytes and text; its arguments read as before; the package variables that its row lists are tied to the program's text (the card).
-/
import Derived.Test.YtllhfbnafemoeaaDoorTopP
namespace Go.Proofs.YtllhfbnafemoeaaDoor.TagA
open Go.ChangeShapes Go.WideShapes Go.ChangeAt Go.RowKit
set_option maxRecDepth 100000

theorem top_reads (os : Os) {H : Type} (enc : TypeId × Value → H) : ∃ places, DataW.whole enc Tryd.prog (({ World.doorLaid Tryd.prog 2000 os with heap := (World.doorLaid Tryd.prog 2000 os).heap.modify 8 turnRow } : World).forCall (fun _ _ => 0) ⟨#[], #[zeroTag, zeroTag, .string ⟨#[]⟩, .string ⟨#[]⟩], []⟩).memory Tryd.f5.params.toList Rows.topTagSpec.vars false (#[zeroTag, zeroTag, .string ⟨#[]⟩, .string ⟨#[]⟩] : Array Value).toList 8 = some ([zeroD, zeroD, .lit (.string []), .lit (.string [])], [], places) :=
  ⟨[], by kernel_rfl⟩

theorem top_lifted (os : Os) (started : os.Started) (H : Type) (enc : TypeId × Value → H) (F : Stop.Interp) :
    ReturnsInHanded {} Tryd.checked os 5 .any ((OpenSpec.ofChange Rows.topTagSpec).preRow enc Tryd.prog Tryd.f5 Rows.topTagRow.domain false Rows.topTagRow.laid) (((OpenSpec.ofChange Rows.topTagSpec).at F).post enc Tryd.prog Tryd.f5 false true false false) := by
  obtain ⟨places, hx⟩ := top_reads os enc
  refine returnsInHanded_of_row (C := Tryd.checked) (s := OpenSpec.ofChange Rows.topTagSpec) own started (by kernel_rfl) Tryd.func5
    (witness_row_atRef (enc := enc) (C := Tryd.checked) false ({ World.doorLaid Tryd.prog 2000 os with heap := (World.doorLaid Tryd.prog 2000 os).heap.modify 8 turnRow } : World) #[zeroTag, zeroTag, .string ⟨#[]⟩, .string ⟨#[]⟩] rfl (by kernel_rfl) (by kernel_rfl) (by kernel_rfl)
      (OpenSpec.preRow_of_cond 8 hx (by kernel_rfl) (fun k hk => by cases hk) (by kernel_rfl) (laid_met os))) ?_
  intro W base args ds gs before hval hW _ _ _ hL hsh _
  exact top_contract H enc W base args ds gs before hval hW hL hsh

theorem top_said : Rows.TopTagSaid :=
  OpenClaim.holds_of_cond 5 Tryd.f5 rfl rfl rfl rfl rfl rfl rfl ⟨rfl, rfl, rfl, rfl, rfl⟩ rfl rfl rfl rfl rfl (by kernel_rfl) Tryd.func5 (by kernel_rfl)
    (of_decide_eq_true (by kernel_rfl)) (by unfold Func.isWrapper; first | (rw [if_pos (by decide +kernel)]; kernel_rfl) | (rw [if_neg (by decide +kernel)]; exact ⟨rfl, rfl⟩))
    (fun os started H enc _ F => by rw [OpenClaim.pre_eq_preRow]; exact top_lifted os started H enc F)

theorem top_plain (f : FuncId) (fn : Func) (hf : Tryd.pinned.checked.prog.funcNamed "cratewatch/cratewatchtop.TopTag" = some f) (hfn : Tryd.pinned.checked.prog.funcs[f]? = some fn) :
    true = Tryd.pinned.checked.prog.looks [] ∧ ∀ (j : Nat) t, fn.params[j]? = some t → Tryd.pinned.checked.prog.wantsStandIn t = false := by
  obtain rfl : f = 5 := Option.some.inj ((show Tryd.prog.funcNamed "cratewatch/cratewatchtop.TopTag" = some 5 by kernel_rfl).symm.trans hf) |>.symm
  obtain rfl : fn = Tryd.f5 := (Option.some.inj (Tryd.func5.symm.trans hfn)).symm
  refine ⟨by kernel_rfl, fun j t ht => ?_⟩
  rw [Tryd.params5] at ht
  have hm : t ∈ [32, 32, 9, 9] := by simpa using Array.mem_of_getElem? ht
  have hall : ([32, 32, 9, 9].all fun u => !Tryd.prog.wantsStandIn u) = true := by kernel_rfl
  exact (show Tryd.prog.wantsStandIn t = false by simpa using List.all_eq_true.1 hall t hm)
end Go.Proofs.YtllhfbnafemoeaaDoor.TagA
namespace Go.Proofs.YtllhfbnafemoeaaDoor
set_option maxRecDepth 100000
theorem topTag_holds : Rows.TopTagCardSaid :=
  Claim7.holds_tied_plain_at .later [] _ _ _ _ TagA.top_said (fun _ h => by cases h) (by kernel_rfl) (fun _ h => by cases h) topTag_row_tie rfl ⟨rfl, rfl⟩ (by kernel_rfl) rfl TagA.top_plain (by kernel_rfl)
#print axioms topTag_holds
end Go.Proofs.YtllhfbnafemoeaaDoor
