/-
  PROVED: TopRule returns true at every rule and text; its arguments read as before; the package variables that its row lists are tied to the program's text (the card).
-/
import Derived.Test.YtnahkonklkcbeabDoorCards
import Derived.Test.YtnahkonklkcbeabDoorTie
import Derived.Test.YtnahkonklkcbeabDoorTpT
import Derived.Deep.DeepHandedRow
import Derived.Deep.DeepWitnessRowRef
namespace Go.Proofs.YtnahkonklkcbeabDoor.RuA
open Go.ChangeShapes Go.WideShapes Go.ChangeAt Go.RowKit RuM
open Go.ChangeMaps (open_string shut_string)
set_option maxRecDepth 100000

theorem own : ownKnob Tryd.prog.godebug = none := by kernel_rfl
theorem c23 : Tryd.prog.cellsOf 23 = 6 := by kernel_rfl
theorem array6 {α : Type} {cs : Array α} (h : cs.size = 6) : ∃ c0 c1 c2 c3 c4 c5, cs = #[c0, c1, c2, c3, c4, c5] := by
  obtain ⟨l⟩ := cs
  match l, h with
  | [c0, c1, c2, c3, c4, c5], _ => exact ⟨c0, c1, c2, c3, c4, c5, rfl⟩
def rD {H : Type} (r : Rl) : DataW H := .agg [.lit (.string r.nm.data.toList), .lit (.int .i64 r.k), .lit (.int .i64 r.f), .lit (.int .i64 r.t), .lit (.int .i64 r.wo), .lit (.int .i64 r.wi)]
structure Wf (r : Rl) : Prop where
  nm : r.nm.size ≤ maxLen
  k : (Lit.int .i64 r.k).wf = true
  f : (Lit.int .i64 r.f).wf = true
  t : (Lit.int .i64 r.t).wf = true
  wo : (Lit.int .i64 r.wo).wf = true
  wi : (Lit.int .i64 r.wi).wf = true
section
variable {H : Type} {enc : TypeId × Value → H} {w : World} {base : Nat} {spare : Nat → Bool} {held : Bool}
/-- A rule that is handed over, opened. -/
theorem open_rule {r : Reach} {b0 : Nat} {v : Value} {d : DataW H} {p : List MemPlace} (hv : Value.okWide Tryd.prog w r b0 23 v) (h : DataW.Trod enc Tryd.prog w base spare held 23 v d p) :
    ∃ x : Rl, v = rV x ∧ d = rD x ∧ p = [] ∧ Wf x := by
  obtain ⟨cs, rfl, hsz⟩ := okWide_struct Tryd.underlying23 hv
  obtain ⟨v0, v1, v2, v3, v4, v5, rfl⟩ := array6 (hsz.trans c23)
  obtain ⟨fuel, hf⟩ := h
  obtain ⟨xs, n, _, hx, _, hlen, he⟩ := DataW.trod_struct Tryd.underlying23 hf
  match xs, hlen with
  | [y0, y1, y2, y3, y4, y5], _ =>
    have e0 : DataW.trod enc Tryd.prog w base spare held n 9 (([v0, v1, v2, v3, v4, v5].drop 0).take (Tryd.prog.cellsOf 9)) = some y0 := he 0 _ rfl
    have e1 : DataW.trod enc Tryd.prog w base spare held n 3 (([v0, v1, v2, v3, v4, v5].drop 1).take (Tryd.prog.cellsOf 3)) = some y1 := he 1 _ rfl
    have e2 : DataW.trod enc Tryd.prog w base spare held n 3 (([v0, v1, v2, v3, v4, v5].drop 2).take (Tryd.prog.cellsOf 3)) = some y2 := he 2 _ rfl
    have e3 : DataW.trod enc Tryd.prog w base spare held n 3 (([v0, v1, v2, v3, v4, v5].drop 3).take (Tryd.prog.cellsOf 3)) = some y3 := he 3 _ rfl
    have e4 : DataW.trod enc Tryd.prog w base spare held n 3 (([v0, v1, v2, v3, v4, v5].drop 4).take (Tryd.prog.cellsOf 3)) = some y4 := he 4 _ rfl
    have e5 : DataW.trod enc Tryd.prog w base spare held n 3 (([v0, v1, v2, v3, v4, v5].drop 5).take (Tryd.prog.cellsOf 3)) = some y5 := he 5 _ rfl
    obtain ⟨a0, q0, r0, w0⟩ := DataW.trod_string Tryd.underlying9 e0
    obtain ⟨a1, q1, r1, w1⟩ := DataW.trod_int Tryd.underlying3 e1
    obtain ⟨a2, q2, r2, w2⟩ := DataW.trod_int Tryd.underlying3 e2
    obtain ⟨a3, q3, r3, w3⟩ := DataW.trod_int Tryd.underlying3 e3
    obtain ⟨a4, q4, r4, w4⟩ := DataW.trod_int Tryd.underlying3 e4
    obtain ⟨a5, q5, r5, w5⟩ := DataW.trod_int Tryd.underlying3 e5
    rw [c9] at q0
    rw [c3] at q1 q2 q3 q4 q5
    simp at q0 q1 q2 q3 q4 q5
    subst q0 q1 q2 q3 q4 q5
    simp only [Prod.mk.injEq] at hx
    rw [r0, r1, r2, r3, r4, r5] at hx
    exact ⟨⟨a0, a1, a2, a3, a4, a5⟩, rfl, by simpa [rD] using hx.1, hx.2, ⟨w0, w1, w2, w3, w4, w5⟩⟩
/-- .. and shut. -/
theorem shut_rule {x : Rl} (h : Wf x) : DataW.Trod enc Tryd.prog w base spare held 23 (rV x) (rD x) [] := by
  obtain ⟨h0, h1, h2, h3, h4, h5⟩ := h
  exact ⟨2, by simp [DataW.trod, rV, rD, Tryd.underlying23, Tryd.underlying9, Tryd.underlying3, c3, c9, c23, Value.cells, h0, h1, h2, h3, h4, h5]⟩
end
theorem top_contract (H : Type) (enc : TypeId × Value → H) (W : World) (base : Nat) (args : Array Value) (ds gs : List (DataW H)) (before : List MemPlace)
    (hval0 : ∀ (j : Nat) t v, Tryd.f3.params[j]? = some t → args[j]? = some v → Value.okWide Tryd.prog W .any base t v)
    (hW : DataW.Whole enc Tryd.prog Tryd.f3.params.toList Rows.topRuleSpec.vars false W args.toList ds gs before) (hL : laidMetH Tryd.prog Rows.topRuleRow.laid W) (hsh : W.ShapedOpen Tryd.prog) :
    Calls Tryd.prog 3 args W fun e W' => ∃ v, e = .returned v ∧ Rows.topRuleSpec.post enc Tryd.prog Tryd.f3 false true false false W args v W' := by
  have hval := hval0
  have hW' := hW
  obtain ⟨p, q, hA0, hV, rfl, hfz, hnd⟩ := hW
  have hA : DataW.TrodAll enc Tryd.prog W 0 (fun _ => true) true Tryd.f3.params.toList args.toList ds p := hA0
  rw [Tryd.params3] at hA hval
  obtain ⟨v0, v1, d0, d1, p0, p1, hargs, rfl, rfl, h0, h1⟩ := trodAll_two hA
  obtain rfl : args = #[v0, v1] := by cases args; simp_all
  obtain ⟨rfl, rfl⟩ := trodVars_none hV
  obtain ⟨x, rfl, rfl, rfl, hx⟩ := open_rule (hval 0 23 _ rfl rfl) h0
  obtain ⟨s, rfl, rfl, rfl, hs⟩ := open_string Tryd.underlying9 (hval 1 9 _ rfl rfl) h1
  clear hA0 hval0 hval h0 h1 hA hV
  simp only [List.append_nil] at hW'
  rw [MakeChecks.laidMetH_plain _ _ _ (by kernel_rfl)] at hL
  obtain ⟨ps, hLV, _, _⟩ := hL
  have hT : RTab W := rtab_of hLV hsh (by simp [Rows.topRuleRow]) (by simp [Rows.topRuleRow]) (by simp [Rows.topRuleRow]) (by simp [Rows.topRuleRow]) (heap7 hsh)
  refine (top_any x s W hT (by have := hx.nm; unfold maxLen at this; omega) (by unfold maxLen at hs; omega)).mono fun e W' ⟨he, hbel⟩ => ?_
  subst he
  exact ⟨_, rfl, _, _, _, [], [], [], hW', trodAll_mk1 (shut_bool Tryd.underlying4 _),
    trodAll_cons_mk (shut_rule hx) (trodAll_cons_mk (shut_string Tryd.underlying9 hs) trodAll_mk0), rfl, hbel.frame _, fun h => by cases h⟩

def zeroR : Value := .agg #[.string ⟨#[]⟩, .int .i64 0, .int .i64 0, .int .i64 0, .int .i64 0, .int .i64 0]
def zeroD {H : Type} : DataW H := .agg [.lit (.string []), .lit (.int .i64 0), .lit (.int .i64 0), .lit (.int .i64 0), .lit (.int .i64 0), .lit (.int .i64 0)]
theorem top_laid (os : Os) : laidMetH Tryd.prog Rows.topRuleRow.laid ((World.doorLaid Tryd.prog 2000 os).forCall (fun _ _ => 0) ⟨#[], #[zeroR, .string ⟨#[]⟩], []⟩).memory :=
  laidMetH_of_parts3 (fuel := 8) (laidMet_of_run' 8 (by kernel_rfl) (by kernel_rfl)) (by kernel_rfl) (by kernel_rfl)
theorem top_reads (os : Os) {H : Type} (enc : TypeId × Value → H) : ∃ places, DataW.whole enc Tryd.prog ((World.doorLaid Tryd.prog 2000 os).forCall (fun _ _ => 0) ⟨#[], #[zeroR, .string ⟨#[]⟩], []⟩).memory Tryd.f3.params.toList Rows.topRuleSpec.vars false (#[zeroR, .string ⟨#[]⟩] : Array Value).toList 8 = some ([zeroD, .lit (.string [])], [], places) :=
  ⟨[], by kernel_rfl⟩

theorem top_lifted (os : Os) (started : os.Started) (H : Type) (enc : TypeId × Value → H) (F : Stop.Interp) :
    ReturnsInHanded {} Tryd.checked os 3 .any ((OpenSpec.ofChange Rows.topRuleSpec).preRow enc Tryd.prog Tryd.f3 Rows.topRuleRow.domain false Rows.topRuleRow.laid) (((OpenSpec.ofChange Rows.topRuleSpec).at F).post enc Tryd.prog Tryd.f3 false true false false) := by
  obtain ⟨places, hx⟩ := top_reads os enc
  refine returnsInHanded_of_row (C := Tryd.checked) (s := OpenSpec.ofChange Rows.topRuleSpec) own started (by kernel_rfl) Tryd.func3
    (witness_row_atRef (enc := enc) (C := Tryd.checked) false (World.doorLaid Tryd.prog 2000 os) #[zeroR, .string ⟨#[]⟩] rfl (by kernel_rfl) (by kernel_rfl) (by kernel_rfl)
      (OpenSpec.preRow_of_cond 8 hx (by kernel_rfl) (fun k hk => by cases hk) (by kernel_rfl) (top_laid os))) ?_
  intro W base args ds gs before hval hW _ _ _ hL hsh _
  exact top_contract H enc W base args ds gs before hval hW hL hsh

theorem top_said : Rows.TopRuleSaid :=
  OpenClaim.holds_of_cond 3 Tryd.f3 rfl rfl rfl rfl rfl rfl rfl ⟨rfl, rfl, rfl, rfl, rfl⟩ rfl rfl rfl rfl rfl (by kernel_rfl) Tryd.func3 (by kernel_rfl)
    (of_decide_eq_true (by kernel_rfl)) (by unfold Func.isWrapper; first | (rw [if_pos (by decide +kernel)]; kernel_rfl) | (rw [if_neg (by decide +kernel)]; exact ⟨rfl, rfl⟩))
    (fun os started H enc _ F => by rw [OpenClaim.pre_eq_preRow]; exact top_lifted os started H enc F)

theorem top_plain (f : FuncId) (fn : Func) (hf : Tryd.pinned.checked.prog.funcNamed "cratewatch/cratewatchtop.TopRule" = some f) (hfn : Tryd.pinned.checked.prog.funcs[f]? = some fn) :
    true = Tryd.pinned.checked.prog.looks [] ∧ ∀ (j : Nat) t, fn.params[j]? = some t → Tryd.pinned.checked.prog.wantsStandIn t = false := by
  obtain rfl : f = 3 := Option.some.inj ((show Tryd.prog.funcNamed "cratewatch/cratewatchtop.TopRule" = some 3 by kernel_rfl).symm.trans hf) |>.symm
  obtain rfl : fn = Tryd.f3 := (Option.some.inj (Tryd.func3.symm.trans hfn)).symm
  refine ⟨by kernel_rfl, fun j t ht => ?_⟩
  rw [Tryd.params3] at ht
  have hm : t ∈ [23, 9] := by simpa using Array.mem_of_getElem? ht
  have hall : ([23, 9].all fun u => !Tryd.prog.wantsStandIn u) = true := by kernel_rfl
  exact (show Tryd.prog.wantsStandIn t = false by simpa using List.all_eq_true.1 hall t hm)
end Go.Proofs.YtnahkonklkcbeabDoor.RuA
namespace Go.Proofs.YtnahkonklkcbeabDoor
set_option maxRecDepth 100000
theorem topRule_holds : Rows.TopRuleCardSaid :=
  Claim7.holds_tied_plain_at .later [] _ _ _ _ RuA.top_said (fun _ h => by cases h) (by kernel_rfl) (fun _ h => by cases h) topRule_row_tie rfl ⟨rfl, rfl⟩ (by kernel_rfl) rfl RuA.top_plain (by kernel_rfl)
#print axioms topRule_holds
end Go.Proofs.YtnahkonklkcbeabDoor
