/-
  What TopTag gives for every argument; a world for the witness.
-/
import Derived.Test.YtllhfbnafemoeaaDoorCards
import Derived.Test.YtllhfbnafemoeaaDoorTie
import Derived.Test.YtllhfbnafemoeaaDoorTabP
import Derived.Test.YtllhfbnafemoeaaDoorTopB
import Derived.Deep.DeepHandedRow
import Derived.Deep.DeepWitnessRowRef
namespace Go.Proofs.YtllhfbnafemoeaaDoor.TagA
open Go.ChangeShapes Go.WideShapes Go.ChangeAt Go.RowKit
open Go.ChangeMaps (open_string shut_string)
set_option maxRecDepth 100000

theorem own : ownKnob Tryd.prog.godebug = none := by kernel_rfl
theorem c32 : Tryd.prog.cellsOf 32 = 6 := by kernel_rfl
theorem array6 {α : Type} {cs : Array α} (h : cs.size = 6) : ∃ c0 c1 c2 c3 c4 c5, cs = #[c0, c1, c2, c3, c4, c5] := by
  obtain ⟨l⟩ := cs
  match l, h with
  | [c0, c1, c2, c3, c4, c5], _ => exact ⟨c0, c1, c2, c3, c4, c5, rfl⟩

section
variable {H : Type} {enc : TypeId × Value → H} {w : World} {base : Nat} {spare : Nat → Bool} {held : Bool}
/-- A tag that is handed over, opened. -/
theorem open_tag {r : Reach} {b0 : Nat} {v : Value} {d : DataW H} {p : List MemPlace} (hv : Value.okWide Tryd.prog w r b0 32 v) (h : DataW.Trod enc Tryd.prog w base spare held 32 v d p) :
    ∃ K F P C R S : Int, v = .agg #[.int .i64 K, .int .i64 F, .int .i64 P, .int .i64 C, .int .i64 R, .int .i64 S] ∧ d = .agg [.lit (.int .i64 K), .lit (.int .i64 F), .lit (.int .i64 P), .lit (.int .i64 C), .lit (.int .i64 R), .lit (.int .i64 S)] ∧ p = []
      ∧ (Lit.int .i64 K).wf = true ∧ (Lit.int .i64 F).wf = true ∧ (Lit.int .i64 P).wf = true ∧ (Lit.int .i64 C).wf = true ∧ (Lit.int .i64 R).wf = true ∧ (Lit.int .i64 S).wf = true := by
  obtain ⟨cs, rfl, hsz⟩ := okWide_struct Tryd.underlying32 hv
  obtain ⟨v0, v1, v2, v3, v4, v5, rfl⟩ := array6 (hsz.trans c32)
  obtain ⟨fuel, hf⟩ := h
  obtain ⟨xs, n, _, hx, _, hlen, he⟩ := DataW.trod_struct Tryd.underlying32 hf
  match xs, hlen with
  | [y0, y1, y2, y3, y4, y5], _ =>
    have e0 : DataW.trod enc Tryd.prog w base spare held n 3 (([v0, v1, v2, v3, v4, v5].drop 0).take (Tryd.prog.cellsOf 3)) = some y0 := he 0 _ rfl
    have e1 : DataW.trod enc Tryd.prog w base spare held n 3 (([v0, v1, v2, v3, v4, v5].drop 1).take (Tryd.prog.cellsOf 3)) = some y1 := he 1 _ rfl
    have e2 : DataW.trod enc Tryd.prog w base spare held n 3 (([v0, v1, v2, v3, v4, v5].drop 2).take (Tryd.prog.cellsOf 3)) = some y2 := he 2 _ rfl
    have e3 : DataW.trod enc Tryd.prog w base spare held n 3 (([v0, v1, v2, v3, v4, v5].drop 3).take (Tryd.prog.cellsOf 3)) = some y3 := he 3 _ rfl
    have e4 : DataW.trod enc Tryd.prog w base spare held n 3 (([v0, v1, v2, v3, v4, v5].drop 4).take (Tryd.prog.cellsOf 3)) = some y4 := he 4 _ rfl
    have e5 : DataW.trod enc Tryd.prog w base spare held n 3 (([v0, v1, v2, v3, v4, v5].drop 5).take (Tryd.prog.cellsOf 3)) = some y5 := he 5 _ rfl
    obtain ⟨a0, q0, r0, w0⟩ := DataW.trod_int Tryd.underlying3 e0
    obtain ⟨a1, q1, r1, w1⟩ := DataW.trod_int Tryd.underlying3 e1
    obtain ⟨a2, q2, r2, w2⟩ := DataW.trod_int Tryd.underlying3 e2
    obtain ⟨a3, q3, r3, w3⟩ := DataW.trod_int Tryd.underlying3 e3
    obtain ⟨a4, q4, r4, w4⟩ := DataW.trod_int Tryd.underlying3 e4
    obtain ⟨a5, q5, r5, w5⟩ := DataW.trod_int Tryd.underlying3 e5
    rw [c3] at q0 q1 q2 q3 q4 q5
    simp at q0 q1 q2 q3 q4 q5
    subst q0 q1 q2 q3 q4 q5
    simp only [Prod.mk.injEq] at hx
    rw [r0, r1, r2, r3, r4, r5] at hx
    exact ⟨a0, a1, a2, a3, a4, a5, rfl, hx.1, hx.2, w0, w1, w2, w3, w4, w5⟩
/-- .. and shut. -/
theorem shut_tag {K F P C R S : Int} (w0 : (Lit.int .i64 K).wf = true) (w1 : (Lit.int .i64 F).wf = true) (w2 : (Lit.int .i64 P).wf = true) (w3 : (Lit.int .i64 C).wf = true) (w4 : (Lit.int .i64 R).wf = true) (w5 : (Lit.int .i64 S).wf = true) :
    DataW.Trod enc Tryd.prog w base spare held 32 (.agg #[.int .i64 K, .int .i64 F, .int .i64 P, .int .i64 C, .int .i64 R, .int .i64 S]) (.agg [.lit (.int .i64 K), .lit (.int .i64 F), .lit (.int .i64 P), .lit (.int .i64 C), .lit (.int .i64 R), .lit (.int .i64 S)]) [] :=
  ⟨2, by simp [DataW.trod, Tryd.underlying32, Tryd.underlying3, c3, c32, Value.cells, w0, w1, w2, w3, w4, w5]⟩
end

theorem row9 : (((begin Tryd.prog (fun _ _ => 0) default).world.heap[9]?).bind Obj.row?).isSome = true := by kernel_rfl
theorem glob10 : Tryd.prog.globals.size = 10 := by kernel_rfl
theorem heap10 {W : World} (h : W.ShapedOpen Tryd.prog) : 10 ≤ W.heap.size := by
  obtain ⟨⟨z, t⟩, hz⟩ := Option.isSome_iff_exists.1 row9
  obtain ⟨cs, hc, _⟩ := h.1 9 z t (by rw [glob10]; omega) hz
  rcases Nat.lt_or_ge 9 W.heap.size with h | h
  · omega
  · rw [Array.getElem?_eq_none h] at hc; cases hc

theorem top_contract (H : Type) (enc : TypeId × Value → H) (W : World) (base : Nat) (args : Array Value) (ds gs : List (DataW H)) (before : List MemPlace)
    (hval0 : ∀ (j : Nat) t v, Tryd.f5.params[j]? = some t → args[j]? = some v → Value.okWide Tryd.prog W .any base t v)
    (hW : DataW.Whole enc Tryd.prog Tryd.f5.params.toList Rows.topTagSpec.vars false W args.toList ds gs before) (hL : laidMetH Tryd.prog Rows.topTagRow.laid W) (hsh : W.ShapedOpen Tryd.prog) :
    Calls Tryd.prog 5 args W fun e W' => ∃ v, e = .returned v ∧ Rows.topTagSpec.post enc Tryd.prog Tryd.f5 false true false false W args v W' := by
  have hval := hval0
  have hW' := hW
  obtain ⟨p, q, hA0, hV, rfl, hfz, hnd⟩ := hW
  have hA : DataW.TrodAll enc Tryd.prog W 0 (fun _ => true) true Tryd.f5.params.toList args.toList ds p := hA0
  rw [Tryd.params5] at hA hval
  obtain ⟨v0, v1, v2, v3, d0, d1, d2, d3, p0, p1, p2, p3, hargs, rfl, rfl, h0, h1, h2, h3⟩ := trodAll_four hA
  obtain rfl : args = #[v0, v1, v2, v3] := by cases args; simp_all
  obtain ⟨rfl, rfl⟩ := trodVars_none hV
  obtain ⟨K, F, P, C, R, S, rfl, rfl, rfl, a0, a1, a2, a3, a4, a5⟩ := open_tag (hval 0 32 _ rfl rfl) h0
  obtain ⟨K', F', P', C', R', S', rfl, rfl, rfl, b0, b1, b2, b3, b4, b5⟩ := open_tag (hval 1 32 _ rfl rfl) h1
  obtain ⟨b, rfl, rfl, rfl, hb⟩ := open_string Tryd.underlying9 (hval 2 9 _ rfl rfl) h2
  obtain ⟨s, rfl, rfl, rfl, hs⟩ := open_string Tryd.underlying9 (hval 3 9 _ rfl rfl) h3
  clear hA0 hval0 hval h0 h1 h2 h3 hA hV
  simp only [List.append_nil] at hW'
  rw [MakeChecks.laidMetH_plain _ _ _ (by kernel_rfl)] at hL
  obtain ⟨ps, hLV, _, _⟩ := hL
  have hT : Tabs2 W := tabs_of hLV hsh (by simp [Rows.topTagRow]) (by simp [Rows.topTagRow]) (by simp [Rows.topTagRow]) (by simp [Rows.topTagRow]) (by simp [Rows.topTagRow]) (heap10 hsh)
  have walk : Calls Tryd.prog 5 #[.agg #[.int .i64 K, .int .i64 F, .int .i64 P, .int .i64 C, .int .i64 R, .int .i64 S], .agg #[.int .i64 K', .int .i64 F', .int .i64 P', .int .i64 C', .int .i64 R', .int .i64 S'], .string b, .string s] W fun e w' => e = .returned (.bool true) ∧ Below W.heap.size W w' := by
    cases hok : TagM.okB K F P C R S with
    | true => exact top_yes K F P C R S K' F' P' C' R' S' b s W hT hb hs hok
    | false => exact top_no K F P C R S K' F' P' C' R' S' b s W hT hb hs hok
  refine walk.mono fun e W' ⟨he, hbel⟩ => ?_
  subst he
  exact ⟨_, rfl, _, _, _, [], [], [], hW', trodAll_mk1 (shut_bool Tryd.underlying4 _),
    trodAll_cons_mk (shut_tag a0 a1 a2 a3 a4 a5) (trodAll_cons_mk (shut_tag b0 b1 b2 b3 b4 b5) (trodAll_cons_mk (shut_string Tryd.underlying9 hb) (trodAll_cons_mk (shut_string Tryd.underlying9 hs) trodAll_mk0))), rfl, hbel.frame _, fun h => by cases h⟩

/-- A world for the witness: what the program's own text lays, and the library's table of first bytes. -/
def firstCells : Array Value := (Go.Pinned.utf8FirstZ.map fun (n : Nat) => Value.int .u8 ((n : Nat) : Int)).toArray
def turnRow : Obj → Obj
  | .cells _ t frozen => .cells firstCells t frozen
  | o => o
def zeroTag : Value := .agg #[.int .i64 0, .int .i64 0, .int .i64 0, .int .i64 0, .int .i64 0, .int .i64 0]
def zeroD {H : Type} : DataW H := .agg [.lit (.int .i64 0), .lit (.int .i64 0), .lit (.int .i64 0), .lit (.int .i64 0), .lit (.int .i64 0), .lit (.int .i64 0)]
theorem laid_met (os : Os) : laidMetH Tryd.prog Rows.topTagRow.laid (({ World.doorLaid Tryd.prog 2000 os with heap := (World.doorLaid Tryd.prog 2000 os).heap.modify 8 turnRow } : World).forCall (fun _ _ => 0) ⟨#[], #[zeroTag, zeroTag, .string ⟨#[]⟩, .string ⟨#[]⟩], []⟩).memory :=
  laidMetH_of_parts3 (fuel := 8) (laidMet_of_run' 8 (by kernel_rfl) (by kernel_rfl)) (by kernel_rfl) (by kernel_rfl)
end Go.Proofs.YtllhfbnafemoeaaDoor.TagA
