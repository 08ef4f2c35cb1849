/-
  PROVED: RuleSays returns true, whatever the rule, the text, the numbers and the epochs; the arguments read as before; the package variables that its row lists are tied to the program's text (the card). No condition.
-/
import Derived.Test.YtnahkonklkcbeabGreatDoorCards
import Derived.Test.YtnahkonklkcbeabGreatDoorTie
import Derived.Test.YtnahkonklkcbeabGreatDoorRuU
import Derived.Test.YtnahkonklkcbeabGreatDoorTkZ
import Derived.Deep.DeepHandedRow
import Derived.Deep.DeepWitnessRowRef
import Derived.Carry
import Derived.ChangeMaps5
namespace Go.Proofs.YtnahkonklkcbeabGreatDoor.RuA
open Go.ChangeShapes Go.WideShapes Go.ChangeAt Go.RowKit RuM
open Go.ChangeMaps (open_string shut_string)
set_option maxRecDepth 100000
theorem c23 : Tryz.prog.cellsOf 23 = 6 := by kernel_rfl
theorem array6 {α : Type} {cs : Array α} (h : cs.size = 6) : ∃ c0 c1 c2 c3 c4 c5, cs = #[c0, c1, c2, c3, c4, c5] := by
  obtain ⟨l⟩ := cs
  match l, h with
  | [c0, c1, c2, c3, c4, c5], _ => exact ⟨c0, c1, c2, c3, c4, c5, rfl⟩
def rD {H : Type} (r : Rl) : DataW H := .agg [.lit (.string r.nm.data.toList), .lit (.int .i64 r.k), .lit (.int .i64 r.f), .lit (.int .i64 r.t), .lit (.int .i64 r.wo), .lit (.int .i64 r.wi)]
structure Wf (r : Rl) : Prop where
  nm : r.nm.size ≤ maxLen
  k : (Lit.int .i64 r.k).wf = true
  f : (Lit.int .i64 r.f).wf = true
  t : (Lit.int .i64 r.t).wf = true
  wo : (Lit.int .i64 r.wo).wf = true
  wi : (Lit.int .i64 r.wi).wf = true
section
variable {H : Type} {enc : TypeId × Value → H} {w : World} {base : Nat} {spare : Nat → Bool} {held : Bool}
/-- A rule that is handed over, opened. -/
theorem open_rule {r : Reach} {b0 : Nat} {v : Value} {d : DataW H} {p : List MemPlace} (hv : Value.okWide Tryz.prog w r b0 23 v) (h : DataW.Trod enc Tryz.prog w base spare held 23 v d p) :
    ∃ x : Rl, v = rV x ∧ d = rD x ∧ p = [] ∧ Wf x := by
  obtain ⟨cs, rfl, hsz⟩ := okWide_struct Tryz.underlying23 hv
  obtain ⟨v0, v1, v2, v3, v4, v5, rfl⟩ := array6 (hsz.trans c23)
  obtain ⟨fuel, hf⟩ := h
  obtain ⟨xs, n, _, hx, _, hlen, he⟩ := DataW.trod_struct Tryz.underlying23 hf
  match xs, hlen with
  | [y0, y1, y2, y3, y4, y5], _ =>
    have e0 : DataW.trod enc Tryz.prog w base spare held n 9 (([v0, v1, v2, v3, v4, v5].drop 0).take (Tryz.prog.cellsOf 9)) = some y0 := he 0 _ rfl
    have e1 : DataW.trod enc Tryz.prog w base spare held n 3 (([v0, v1, v2, v3, v4, v5].drop 1).take (Tryz.prog.cellsOf 3)) = some y1 := he 1 _ rfl
    have e2 : DataW.trod enc Tryz.prog w base spare held n 3 (([v0, v1, v2, v3, v4, v5].drop 2).take (Tryz.prog.cellsOf 3)) = some y2 := he 2 _ rfl
    have e3 : DataW.trod enc Tryz.prog w base spare held n 3 (([v0, v1, v2, v3, v4, v5].drop 3).take (Tryz.prog.cellsOf 3)) = some y3 := he 3 _ rfl
    have e4 : DataW.trod enc Tryz.prog w base spare held n 3 (([v0, v1, v2, v3, v4, v5].drop 4).take (Tryz.prog.cellsOf 3)) = some y4 := he 4 _ rfl
    have e5 : DataW.trod enc Tryz.prog w base spare held n 3 (([v0, v1, v2, v3, v4, v5].drop 5).take (Tryz.prog.cellsOf 3)) = some y5 := he 5 _ rfl
    obtain ⟨a0, q0, r0, w0⟩ := DataW.trod_string Tryz.underlying9 e0
    obtain ⟨a1, q1, r1, w1⟩ := DataW.trod_int Tryz.underlying3 e1
    obtain ⟨a2, q2, r2, w2⟩ := DataW.trod_int Tryz.underlying3 e2
    obtain ⟨a3, q3, r3, w3⟩ := DataW.trod_int Tryz.underlying3 e3
    obtain ⟨a4, q4, r4, w4⟩ := DataW.trod_int Tryz.underlying3 e4
    obtain ⟨a5, q5, r5, w5⟩ := DataW.trod_int Tryz.underlying3 e5
    rw [c9] at q0
    rw [c3] at q1 q2 q3 q4 q5
    simp at q0 q1 q2 q3 q4 q5
    subst q0 q1 q2 q3 q4 q5
    simp only [Prod.mk.injEq] at hx
    rw [r0, r1, r2, r3, r4, r5] at hx
    exact ⟨⟨a0, a1, a2, a3, a4, a5⟩, rfl, by simpa [rD] using hx.1, hx.2, ⟨w0, w1, w2, w3, w4, w5⟩⟩
/-- .. and shut. -/
theorem shut_rule {x : Rl} (h : Wf x) : DataW.Trod enc Tryz.prog w base spare held 23 (rV x) (rD x) [] := by
  obtain ⟨h0, h1, h2, h3, h4, h5⟩ := h
  exact ⟨2, by simp [DataW.trod, rV, rD, Tryz.underlying23, Tryz.underlying9, Tryz.underlying3, c3, c9, c23, Value.cells, h0, h1, h2, h3, h4, h5]⟩
end
end Go.Proofs.YtnahkonklkcbeabGreatDoor.RuA
namespace Go.Proofs.YtnahkonklkcbeabGreatDoor.RsA
open Go.ChangeShapes Go.WideShapes Go.ChangeAt Go.RowKit Go.Deep TkM TkW TkA RuM
open Go.ChangeMaps (open_string shut_string)
set_option maxRecDepth 100000
theorem rs_any (r : Rl) (s : ByteArray) (W need : Int) (E : List (List Sg)) (a : Option Addr) (cap : Nat) (w : World) (hT : RuA.RTab w) (hTT : TagA.Tabs w) (hE : EsOn w a E) (hb : ∀ l, l ∈ E → l.length ≤ 9223372036854775807 ∧ ∀ x, x ∈ l → x.g.size ≤ 9223372036854775807) (h1 : r.nm.size ≤ 9223372036854775807) (h2 : s.size ≤ 9223372036854775807) :
    Calls Tryz.prog 3 #[RuA.rV r, .string s, .int .i64 W, .int .i64 need, .slice a E.length cap] w fun e w' => e = .returned (.bool true) ∧ Below w.heap.size w w' := by
  cases hl : light E with
  | false => exact rs_big r s E a cap w W need hT hE hb h1 h2 (Or.inl hl)
  | true =>
    by_cases hbig : 200 < s.size ∨ 100 < r.nm.size
    · exact rs_big r s E a cap w W need hT hE hb h1 h2 (Or.inr hbig)
    · exact rs_main r s E a cap w W need hT hTT hE hl (by omega) (by omega)
theorem rs_contract (H : Type) (enc : TypeId × Value → H) (W : World) (base : Nat) (args : Array Value) (ds gs : List (DataW H)) (before : List MemPlace)
    (hval0 : ∀ (j : Nat) t v, Tryz.f3.params[j]? = some t → args[j]? = some v → Value.okWide Tryz.prog W .any base t v)
    (hW : DataW.Whole enc Tryz.prog Tryz.f3.params.toList Rows.ruleSaysSpec.vars false W args.toList ds gs before) (hL : laidMetH Tryz.prog Rows.ruleSaysRow.laid W) (hsh : W.ShapedOpen Tryz.prog) :
    Calls Tryz.prog 3 args W fun e W' => ∃ v, e = .returned v ∧ Rows.ruleSaysSpec.post enc Tryz.prog Tryz.f3 false true false false W args v W' := by
  have hval := hval0
  have hW' := hW
  obtain ⟨p, q, hA0, hV, rfl, hfz, hnd⟩ := hW
  have hA : DataW.TrodAll enc Tryz.prog W 0 (fun _ => true) true Tryz.f3.params.toList args.toList ds p := hA0
  rw [Tryz.params3] at hA hval
  obtain ⟨v0, v1, v2, v3, v4, d0, d1, d2, d3, d4, p0, p1, p2, p3, p4, rfl, rfl, rfl, h0, h1, h2, h3, h4⟩ := RuA.trodAll_five hA
  obtain ⟨rfl, rfl⟩ := trodVars_none hV
  have hlt := hW'.lt
  have hlt0 : ∀ x ∈ p0, x.block < W.heap.size := fun x hx => hlt x (by simp [hx])
  have hlt1 : ∀ x ∈ p1, x.block < W.heap.size := fun x hx => hlt x (by simp [hx])
  have hlt2 : ∀ x ∈ p2, x.block < W.heap.size := fun x hx => hlt x (by simp [hx])
  have hlt3 : ∀ x ∈ p3, x.block < W.heap.size := fun x hx => hlt x (by simp [hx])
  have hlt4 : ∀ x ∈ p4, x.block < W.heap.size := fun x hx => hlt x (by simp [hx])
  have k0 := h0
  have k1 := h1
  have k2 := h2
  have k3 := h3
  have k4 := h4
  obtain ⟨fuel4, hf4⟩ := h4
  obtain ⟨pa, ca, E, hcs4, hr4, hbE⟩ := open_epochs hf4
  obtain rfl := cells_slice (okWide_slice Tryz.underlying24 (hval 4 24 _ rfl rfl)) hcs4
  obtain ⟨r, rfl, _, _, hwf⟩ := RuA.open_rule (hval 0 23 _ rfl rfl) h0
  obtain ⟨s, rfl, _, _, hss⟩ := open_string Tryz.underlying9 (hval 1 9 _ rfl rfl) h1
  obtain ⟨x, rfl, _⟩ := open_int Tryz.underlying3 (hval 2 3 _ rfl rfl) h2
  obtain ⟨y, rfl, _⟩ := open_int Tryz.underlying3 (hval 3 3 _ rfl rfl) h3
  rw [MakeChecks.laidMetH_plain _ _ _ (by kernel_rfl)] at hL
  obtain ⟨ps, hLV, _, _⟩ := hL
  have hT : RuA.RTab W := RuA.rtab_of hLV hsh (by simp [Rows.ruleSaysRow]) (by simp [Rows.ruleSaysRow]) (by simp [Rows.ruleSaysRow]) (by simp [Rows.ruleSaysRow]) (RuA.heap7 hsh)
  have hTT : TagA.Tabs W := RuA.tabs_of hLV (by simp [Rows.ruleSaysRow]) (RuA.heap7 hsh)
  refine (rs_any r s x y E pa ca W hT hTT hr4 hbE (by have := hwf.nm; unfold maxLen at this; omega) (by unfold maxLen at hss; omega)).mono fun e W' ⟨he, hbel⟩ => ?_
  subst he
  exact ⟨_, rfl, _, _, _, [], p0 ++ (p1 ++ (p2 ++ (p3 ++ (p4 ++ [])))), [], hW', trodAll_mk1 (shut_bool Tryz.underlying4 _),
    trodAll_cons_mk (Below.trod laidOut (by kernel_rfl) (of_decide_eq_true (by kernel_rfl)) k0 hbel hlt0) (trodAll_cons_mk (Below.trod laidOut (by kernel_rfl) (of_decide_eq_true (by kernel_rfl)) k1 hbel hlt1) (trodAll_cons_mk (Below.trod laidOut (by kernel_rfl) (of_decide_eq_true (by kernel_rfl)) k2 hbel hlt2) (trodAll_cons_mk (Below.trod laidOut (by kernel_rfl) (of_decide_eq_true (by kernel_rfl)) k3 hbel hlt3) (trodAll_cons_mk (Below.trod laidOut (by kernel_rfl) (of_decide_eq_true (by kernel_rfl)) k4 hbel hlt4) trodAll_mk0)))), rfl, hbel.frame _, fun h => by cases h⟩
def zeroR : Value := .agg #[.string ⟨#[]⟩, .int .i64 0, .int .i64 0, .int .i64 0, .int .i64 0, .int .i64 0]
def zeroD {H : Type} : DataW H := .agg [.lit (.string []), .lit (.int .i64 0), .lit (.int .i64 0), .lit (.int .i64 0), .lit (.int .i64 0), .lit (.int .i64 0)]
theorem rs_laid (os : Os) : laidMetH Tryz.prog Rows.ruleSaysRow.laid ((World.doorLaid Tryz.prog 2000 os).forCall (fun _ _ => 0) ⟨#[], #[zeroR, .string ⟨#[]⟩, .int .i64 0, .int .i64 0, .slice none 0 0], []⟩).memory :=
  laidMetH_of_parts3 (fuel := 8) (laidMet_of_run' 8 (by kernel_rfl) (by kernel_rfl)) (by kernel_rfl) (by kernel_rfl)
theorem rs_reads (os : Os) {H : Type} (enc : TypeId × Value → H) : ∃ places ds, DataW.whole enc Tryz.prog ((World.doorLaid Tryz.prog 2000 os).forCall (fun _ _ => 0) ⟨#[], #[zeroR, .string ⟨#[]⟩, .int .i64 0, .int .i64 0, .slice none 0 0], []⟩).memory Tryz.f3.params.toList Rows.ruleSaysSpec.vars false (#[zeroR, .string ⟨#[]⟩, .int .i64 0, .int .i64 0, .slice none 0 0] : Array Value).toList 8 = some ([zeroD, .lit (.string []), .lit (.int .i64 0), .lit (.int .i64 0), ds], [], places) :=
  ⟨[], .nil, by kernel_rfl⟩
theorem rs_lifted (os : Os) (started : os.Started) (H : Type) (enc : TypeId × Value → H) (F : Stop.Interp) :
    ReturnsInHanded {} Tryz.checked os 3 .any ((OpenSpec.ofChange Rows.ruleSaysSpec).preRow enc Tryz.prog Tryz.f3 Rows.ruleSaysRow.domain false Rows.ruleSaysRow.laid) (((OpenSpec.ofChange Rows.ruleSaysSpec).at F).post enc Tryz.prog Tryz.f3 false true false false) := by
  obtain ⟨places, ds, hx⟩ := rs_reads os enc
  refine returnsInHanded_of_row (C := Tryz.checked) (s := OpenSpec.ofChange Rows.ruleSaysSpec) own started (by kernel_rfl) Tryz.func3
    (witness_row_atRef (enc := enc) (C := Tryz.checked) false (World.doorLaid Tryz.prog 2000 os) #[zeroR, .string ⟨#[]⟩, .int .i64 0, .int .i64 0, .slice none 0 0] rfl (by kernel_rfl) (by kernel_rfl) (by kernel_rfl)
      (OpenSpec.preRow_of_cond 8 hx (by kernel_rfl) (fun k hk => by cases hk) (by kernel_rfl) (rs_laid os))) ?_
  intro W base args ds gs before hval hW _ _ _ hL hsh _
  exact rs_contract H enc W base args ds gs before hval hW hL hsh
theorem rs_said : Rows.RuleSaysSaid :=
  OpenClaim.holds_of_cond 3 Tryz.f3 rfl rfl rfl rfl rfl rfl rfl ⟨rfl, rfl, rfl, rfl, rfl⟩ rfl rfl rfl rfl rfl (by kernel_rfl) Tryz.func3 (by kernel_rfl)
    (of_decide_eq_true (by kernel_rfl)) (by unfold Func.isWrapper; first | (rw [if_pos (by decide +kernel)]; kernel_rfl) | (rw [if_neg (by decide +kernel)]; exact ⟨rfl, rfl⟩))
    (fun os started H enc _ F => by rw [OpenClaim.pre_eq_preRow]; exact rs_lifted os started H enc F)
theorem rs_plain (f : FuncId) (fn : Func) (hf : Tryz.pinned.checked.prog.funcNamed "cratewatch/cratewatchlaw.RuleSays" = some f) (hfn : Tryz.pinned.checked.prog.funcs[f]? = some fn) :
    true = Tryz.pinned.checked.prog.looks [] ∧ ∀ (j : Nat) t, fn.params[j]? = some t → Tryz.pinned.checked.prog.wantsStandIn t = false := by
  obtain rfl : f = 3 := Option.some.inj ((show Tryz.prog.funcNamed "cratewatch/cratewatchlaw.RuleSays" = some 3 by kernel_rfl).symm.trans hf) |>.symm
  obtain rfl : fn = Tryz.f3 := (Option.some.inj (Tryz.func3.symm.trans hfn)).symm
  refine ⟨by kernel_rfl, fun j t ht => ?_⟩
  rw [Tryz.params3] at ht
  have hm : t ∈ [23, 9, 3, 3, 24] := by simpa using Array.mem_of_getElem? ht
  have hall : ([23, 9, 3, 3, 24].all fun u => !Tryz.prog.wantsStandIn u) = true := by kernel_rfl
  exact (show Tryz.prog.wantsStandIn t = false by simpa using List.all_eq_true.1 hall t hm)
end Go.Proofs.YtnahkonklkcbeabGreatDoor.RsA
namespace Go.Proofs.YtnahkonklkcbeabGreatDoor
set_option maxRecDepth 100000
theorem ruleSays_holds : Rows.RuleSaysCardSaid :=
  Claim7.holds_tied_plain_at .later [] _ _ _ _ RsA.rs_said (fun _ h => by cases h) (by kernel_rfl) (fun _ h => by cases h) ruleSays_row_tie rfl ⟨rfl, rfl⟩ (by kernel_rfl) rfl RsA.rs_plain (by kernel_rfl)
#print axioms ruleSays_holds
end Go.Proofs.YtnahkonklkcbeabGreatDoor
