/-
  PROVED: TopInside returns true, whatever the numbers and the epochs; the lists read as before; the package variable that its row lists is tied to the program's text (the card). No condition.
-/
import Derived.Test.YtblkbogoelfjlaaDoorCards
import Derived.Test.YtblkbogoelfjlaaDoorTie
import Derived.Test.YtblkbogoelfjlaaDoorInTab
import Derived.Test.YtblkbogoelfjlaaDoorInX
import Derived.Test.YtblkbogoelfjlaaDoorTkZ
import Derived.Deep.DeepHandedRow
import Derived.Deep.DeepWitnessRowRef
import Derived.Carry
import Derived.ChangeMaps5
namespace Go.Proofs.YtblkbogoelfjlaaDoor.InA
open Go.ChangeShapes Go.WideShapes Go.ChangeAt Go.RowKit Go.Deep TkM TkW TkA
set_option maxRecDepth 100000

theorem in_any (W need span score : Int) (E : List (List Sg)) (a : Option Addr) (cap : Nat) (w : World) (hE : EsOn w a E) (hb : ∀ l, l ∈ E → l.length ≤ 9223372036854775807 ∧ ∀ x, x ∈ l → x.g.size ≤ 9223372036854775807) (hT : TagA.Tabs w) :
    Calls Tryd.prog 7 #[.int .i64 W, .int .i64 need, .int .i64 span, .int .i64 score, .slice a E.length cap] w fun e w' => e = .returned (.bool true) ∧ Below w.heap.size w w' := by
  cases hl : light E with
  | false => exact in_long E a cap w W need span score hE hb (Or.inl hl)
  | true =>
    by_cases h14 : 14 < E.length
    · exact in_long E a cap w W need span score hE hb (Or.inr ⟨hl, h14⟩)
    by_cases h : 1 ≤ W ∧ W ≤ 8 ∧ 1 ≤ need ∧ need ≤ W
    · obtain ⟨s, rfl⟩ : ∃ s : Nat, W = (s : Int) := ⟨W.toNat, by omega⟩
      obtain ⟨l, rfl⟩ : ∃ l : Nat, need = (l : Int) := ⟨need.toNat, by omega⟩
      by_cases h' : 1 ≤ span ∧ span ≤ 8 ∧ 1 ≤ score ∧ score ≤ span
      · obtain ⟨x, rfl⟩ : ∃ x : Nat, span = (x : Int) := ⟨span.toNat, by omega⟩
        obtain ⟨y, rfl⟩ : ∃ y : Nat, score = (y : Int) := ⟨score.toNat, by omega⟩
        exact in_main E a cap w s l x y hE hl (by omega) hT (by omega) (by omega) (by omega) (by omega) (by omega) (by omega) (by omega) (by omega)
      · exact in_bad2 E a cap w s l span score hE hl (by omega) (by omega) (by omega) (by omega) (by omega) h'
    · exact in_bad1 E a cap w W need span score hE hl (by omega) h
theorem top_contract (H : Type) (enc : TypeId × Value → H) (W : World) (base : Nat) (args : Array Value) (ds gs : List (DataW H)) (before : List MemPlace)
    (hval0 : ∀ (j : Nat) t v, Tryd.f7.params[j]? = some t → args[j]? = some v → Value.okWide Tryd.prog W .any base t v)
    (hW : DataW.Whole enc Tryd.prog Tryd.f7.params.toList Rows.topInsideSpec.vars false W args.toList ds gs before) (hL : laidMetH Tryd.prog Rows.topInsideRow.laid W) (hsh : W.ShapedOpen Tryd.prog) :
    Calls Tryd.prog 7 args W fun e W' => ∃ v, e = .returned v ∧ Rows.topInsideSpec.post enc Tryd.prog Tryd.f7 false true false false W args v W' := by
  have hval := hval0
  have hW' := hW
  obtain ⟨p, q, hA0, hV, rfl, hfz, hnd⟩ := hW
  have hA : DataW.TrodAll enc Tryd.prog W 0 (fun _ => true) true Tryd.f7.params.toList args.toList ds p := hA0
  rw [Tryd.params7] at hA hval
  obtain ⟨v0, v1, v2, v3, v4, d0, d1, d2, d3, d4, p0, p1, p2, p3, p4, rfl, rfl, rfl, h0, h1, h2, h3, h4⟩ := TagA.trodAll_five hA
  obtain ⟨rfl, rfl⟩ := trodVars_none hV
  have hlt := hW'.lt
  have hlt0 : ∀ x ∈ p0, x.block < W.heap.size := fun x hx => hlt x (by simp [hx])
  have hlt1 : ∀ x ∈ p1, x.block < W.heap.size := fun x hx => hlt x (by simp [hx])
  have hlt2 : ∀ x ∈ p2, x.block < W.heap.size := fun x hx => hlt x (by simp [hx])
  have hlt3 : ∀ x ∈ p3, x.block < W.heap.size := fun x hx => hlt x (by simp [hx])
  have hlt4 : ∀ x ∈ p4, x.block < W.heap.size := fun x hx => hlt x (by simp [hx])
  have k0 := h0
  have k1 := h1
  have k2 := h2
  have k3 := h3
  have k4 := h4
  obtain ⟨fuel4, hf4⟩ := h4
  obtain ⟨pa, ca, E, hcs4, hr4, hbE⟩ := open_epochs hf4
  obtain rfl := cells_slice (okWide_slice Tryd.underlying44 (hval 4 44 _ rfl rfl)) hcs4
  obtain ⟨s, rfl, _⟩ := open_int Tryd.underlying3 (hval 0 3 _ rfl rfl) h0
  obtain ⟨l, rfl, _⟩ := open_int Tryd.underlying3 (hval 1 3 _ rfl rfl) h1
  obtain ⟨x, rfl, _⟩ := open_int Tryd.underlying3 (hval 2 3 _ rfl rfl) h2
  obtain ⟨y, rfl, _⟩ := open_int Tryd.underlying3 (hval 3 3 _ rfl rfl) h3
  rw [MakeChecks.laidMetH_plain _ _ _ (by kernel_rfl)] at hL
  obtain ⟨ps, hLV, _, _⟩ := hL
  have hT : TagA.Tabs W := TagA.tabs_of hLV (by simp [Rows.topInsideRow]) (TagA.heap10 hsh)
  refine (in_any s l x y E pa ca W hr4 hbE hT).mono fun e W' ⟨he, hbel⟩ => ?_
  subst he
  exact ⟨_, rfl, _, _, _, [], p0 ++ (p1 ++ (p2 ++ (p3 ++ (p4 ++ [])))), [], hW', trodAll_mk1 (shut_bool Tryd.underlying4 _),
    trodAll_cons_mk (Below.trod laidOut (by kernel_rfl) (of_decide_eq_true (by kernel_rfl)) k0 hbel hlt0) (trodAll_cons_mk (Below.trod laidOut (by kernel_rfl) (of_decide_eq_true (by kernel_rfl)) k1 hbel hlt1) (trodAll_cons_mk (Below.trod laidOut (by kernel_rfl) (of_decide_eq_true (by kernel_rfl)) k2 hbel hlt2) (trodAll_cons_mk (Below.trod laidOut (by kernel_rfl) (of_decide_eq_true (by kernel_rfl)) k3 hbel hlt3) (trodAll_cons_mk (Below.trod laidOut (by kernel_rfl) (of_decide_eq_true (by kernel_rfl)) k4 hbel hlt4) trodAll_mk0)))), rfl, hbel.frame _, fun h => by cases h⟩
theorem top_laid (os : Os) : laidMetH Tryd.prog Rows.topInsideRow.laid ((World.doorLaid Tryd.prog 2000 os).forCall (fun _ _ => 0) ⟨#[], #[.int .i64 0, .int .i64 0, .int .i64 0, .int .i64 0, .slice none 0 0], []⟩).memory :=
  laidMetH_of_parts3 (fuel := 8) (laidMet_of_run' 8 (by kernel_rfl) (by kernel_rfl)) (by kernel_rfl) (by kernel_rfl)
theorem top_reads (os : Os) {H : Type} (enc : TypeId × Value → H) : ∃ places ds, DataW.whole enc Tryd.prog ((World.doorLaid Tryd.prog 2000 os).forCall (fun _ _ => 0) ⟨#[], #[.int .i64 0, .int .i64 0, .int .i64 0, .int .i64 0, .slice none 0 0], []⟩).memory Tryd.f7.params.toList Rows.topInsideSpec.vars false (#[.int .i64 0, .int .i64 0, .int .i64 0, .int .i64 0, .slice none 0 0] : Array Value).toList 8 = some ([.lit (.int .i64 0), .lit (.int .i64 0), .lit (.int .i64 0), .lit (.int .i64 0), ds], [], places) :=
  ⟨[], .nil, by kernel_rfl⟩
theorem top_lifted (os : Os) (started : os.Started) (H : Type) (enc : TypeId × Value → H) (F : Stop.Interp) :
    ReturnsInHanded {} Tryd.checked os 7 .any ((OpenSpec.ofChange Rows.topInsideSpec).preRow enc Tryd.prog Tryd.f7 Rows.topInsideRow.domain false Rows.topInsideRow.laid) (((OpenSpec.ofChange Rows.topInsideSpec).at F).post enc Tryd.prog Tryd.f7 false true false false) := by
  obtain ⟨places, ds, hx⟩ := top_reads os enc
  refine returnsInHanded_of_row (C := Tryd.checked) (s := OpenSpec.ofChange Rows.topInsideSpec) own started (by kernel_rfl) Tryd.func7
    (witness_row_atRef (enc := enc) (C := Tryd.checked) false (World.doorLaid Tryd.prog 2000 os) #[.int .i64 0, .int .i64 0, .int .i64 0, .int .i64 0, .slice none 0 0] rfl (by kernel_rfl) (by kernel_rfl) (by kernel_rfl)
      (OpenSpec.preRow_of_cond 8 hx (by kernel_rfl) (fun k hk => by cases hk) (by kernel_rfl) (top_laid os))) ?_
  intro W base args ds gs before hval hW _ _ _ hL hsh _
  exact top_contract H enc W base args ds gs before hval hW hL hsh
theorem top_said : Rows.TopInsideSaid :=
  OpenClaim.holds_of_cond 7 Tryd.f7 rfl rfl rfl rfl rfl rfl rfl ⟨rfl, rfl, rfl, rfl, rfl⟩ rfl rfl rfl rfl rfl (by kernel_rfl) Tryd.func7 (by kernel_rfl)
    (of_decide_eq_true (by kernel_rfl)) (by unfold Func.isWrapper; first | (rw [if_pos (by decide +kernel)]; kernel_rfl) | (rw [if_neg (by decide +kernel)]; exact ⟨rfl, rfl⟩))
    (fun os started H enc _ F => by rw [OpenClaim.pre_eq_preRow]; exact top_lifted os started H enc F)
theorem top_plain (f : FuncId) (fn : Func) (hf : Tryd.pinned.checked.prog.funcNamed "cratewatch/cratewatchtop.TopInside" = some f) (hfn : Tryd.pinned.checked.prog.funcs[f]? = some fn) :
    true = Tryd.pinned.checked.prog.looks [] ∧ ∀ (j : Nat) t, fn.params[j]? = some t → Tryd.pinned.checked.prog.wantsStandIn t = false := by
  obtain rfl : f = 7 := Option.some.inj ((show Tryd.prog.funcNamed "cratewatch/cratewatchtop.TopInside" = some 7 by kernel_rfl).symm.trans hf) |>.symm
  obtain rfl : fn = Tryd.f7 := (Option.some.inj (Tryd.func7.symm.trans hfn)).symm
  refine ⟨by kernel_rfl, fun j t ht => ?_⟩
  rw [Tryd.params7] at ht
  have hm : t ∈ [3, 3, 3, 3, 44] := by simpa using Array.mem_of_getElem? ht
  have hall : ([3, 3, 3, 3, 44].all fun u => !Tryd.prog.wantsStandIn u) = true := by kernel_rfl
  exact (show Tryd.prog.wantsStandIn t = false by simpa using List.all_eq_true.1 hall t hm)
end Go.Proofs.YtblkbogoelfjlaaDoor.InA
namespace Go.Proofs.YtblkbogoelfjlaaDoor
set_option maxRecDepth 100000
theorem topInside_holds : Rows.TopInsideCardSaid :=
  Claim7.holds_tied_plain_at .later [] _ _ _ _ InA.top_said (fun _ h => by cases h) (by kernel_rfl) (fun _ h => by cases h) topInside_row_tie rfl ⟨rfl, rfl⟩ (by kernel_rfl) rfl InA.top_plain (by kernel_rfl)
#print axioms topInside_holds
end Go.Proofs.YtblkbogoelfjlaaDoor
