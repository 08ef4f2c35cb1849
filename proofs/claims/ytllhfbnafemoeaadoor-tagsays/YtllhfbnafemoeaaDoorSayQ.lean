/-
  PROVED: TagSays returns true at every tag, bytes and text; its arguments read as before; the package variables that its row lists are tied to the program's text (the card).
-/
import Derived.Test.YtllhfbnafemoeaaDoorSayP
namespace Go.Proofs.YtllhfbnafemoeaaDoor.TagA
open Go.ChangeShapes Go.WideShapes Go.ChangeAt Go.RowKit
set_option maxRecDepth 100000

theorem says_reads (os : Os) {H : Type} (enc : TypeId × Value → H) : ∃ places, DataW.whole enc Tryd.prog (({ World.doorLaid Tryd.prog 2000 os with heap := (World.doorLaid Tryd.prog 2000 os).heap.modify 8 turnRow } : World).forCall (fun _ _ => 0) ⟨#[], #[zeroTag, .string ⟨#[]⟩, .string ⟨#[]⟩], []⟩).memory Tryd.f4.params.toList Rows.tagSaysSpec.vars false (#[zeroTag, .string ⟨#[]⟩, .string ⟨#[]⟩] : Array Value).toList 8 = some ([zeroD, .lit (.string []), .lit (.string [])], [], places) :=
  ⟨[], by kernel_rfl⟩

theorem says_lifted (os : Os) (started : os.Started) (H : Type) (enc : TypeId × Value → H) (F : Stop.Interp) :
    ReturnsInHanded {} Tryd.checked os 4 .any ((OpenSpec.ofChange Rows.tagSaysSpec).preRow enc Tryd.prog Tryd.f4 Rows.tagSaysRow.domain false Rows.tagSaysRow.laid) (((OpenSpec.ofChange Rows.tagSaysSpec).at F).post enc Tryd.prog Tryd.f4 false true false false) := by
  obtain ⟨places, hx⟩ := says_reads os enc
  refine returnsInHanded_of_row (C := Tryd.checked) (s := OpenSpec.ofChange Rows.tagSaysSpec) own started (by kernel_rfl) Tryd.func4
    (witness_row_atRef (enc := enc) (C := Tryd.checked) false ({ World.doorLaid Tryd.prog 2000 os with heap := (World.doorLaid Tryd.prog 2000 os).heap.modify 8 turnRow } : World) #[zeroTag, .string ⟨#[]⟩, .string ⟨#[]⟩] rfl (by kernel_rfl) (by kernel_rfl) (by kernel_rfl)
      (OpenSpec.preRow_of_cond 8 hx (by kernel_rfl) (fun k hk => by cases hk) (by kernel_rfl) (says_met os))) ?_
  intro W base args ds gs before hval hW _ _ _ hL hsh _
  exact says_contract H enc W base args ds gs before hval hW hL hsh

theorem says_said : Rows.TagSaysSaid :=
  OpenClaim.holds_of_cond 4 Tryd.f4 rfl rfl rfl rfl rfl rfl rfl ⟨rfl, rfl, rfl, rfl, rfl⟩ rfl rfl rfl rfl rfl (by kernel_rfl) Tryd.func4 (by kernel_rfl)
    (of_decide_eq_true (by kernel_rfl)) (by unfold Func.isWrapper; first | (rw [if_pos (by decide +kernel)]; kernel_rfl) | (rw [if_neg (by decide +kernel)]; exact ⟨rfl, rfl⟩))
    (fun os started H enc _ F => by rw [OpenClaim.pre_eq_preRow]; exact says_lifted os started H enc F)

theorem says_plain (f : FuncId) (fn : Func) (hf : Tryd.pinned.checked.prog.funcNamed "cratewatch/cratewatchlaw.TagSays" = some f) (hfn : Tryd.pinned.checked.prog.funcs[f]? = some fn) :
    true = Tryd.pinned.checked.prog.looks [] ∧ ∀ (j : Nat) t, fn.params[j]? = some t → Tryd.pinned.checked.prog.wantsStandIn t = false := by
  obtain rfl : f = 4 := Option.some.inj ((show Tryd.prog.funcNamed "cratewatch/cratewatchlaw.TagSays" = some 4 by kernel_rfl).symm.trans hf) |>.symm
  obtain rfl : fn = Tryd.f4 := (Option.some.inj (Tryd.func4.symm.trans hfn)).symm
  refine ⟨by kernel_rfl, fun j t ht => ?_⟩
  rw [Tryd.params4] at ht
  have hm : t ∈ [32, 9, 9] := by simpa using Array.mem_of_getElem? ht
  have hall : ([32, 9, 9].all fun u => !Tryd.prog.wantsStandIn u) = true := by kernel_rfl
  exact (show Tryd.prog.wantsStandIn t = false by simpa using List.all_eq_true.1 hall t hm)
end Go.Proofs.YtllhfbnafemoeaaDoor.TagA
namespace Go.Proofs.YtllhfbnafemoeaaDoor
set_option maxRecDepth 100000
theorem tagSays_holds : Rows.TagSaysCardSaid :=
  Claim7.holds_tied_plain_at .later [] _ _ _ _ TagA.says_said (fun _ h => by cases h) (by kernel_rfl) (fun _ h => by cases h) tagSays_row_tie rfl ⟨rfl, rfl⟩ (by kernel_rfl) rfl TagA.says_plain (by kernel_rfl)
#print axioms tagSays_holds
end Go.Proofs.YtllhfbnafemoeaaDoor
