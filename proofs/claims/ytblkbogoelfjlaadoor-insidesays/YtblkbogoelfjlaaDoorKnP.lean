/-
  PROVED: InsideSays returns true, whatever the numbers, the epochs and the tag; the lists read as before; the package variable that its row lists is tied to the program's text (the card). No condition.
-/
import Derived.Test.YtblkbogoelfjlaaDoorCards
import Derived.Test.YtblkbogoelfjlaaDoorTie
import Derived.Test.YtblkbogoelfjlaaDoorInTab
import Derived.Test.YtblkbogoelfjlaaDoorKnB
import Derived.Test.YtblkbogoelfjlaaDoorTkZ
import Derived.Deep.DeepHandedRow
import Derived.Deep.DeepWitnessRowRef
import Derived.Carry
import Derived.ChangeMaps5
namespace Go.Proofs.YtblkbogoelfjlaaDoor.InA
open Go.ChangeShapes Go.WideShapes Go.ChangeAt Go.RowKit Go.Deep TkM TkW TkA
open Go.ChangeMaps (open_string)
set_option maxRecDepth 100000

theorem says_any (W need span score : Int) (E : List (List Sg)) (a : Option Addr) (cap : Nat) (other : ByteArray) (w : World) (hE : EsOn w a E) (hb : ∀ l, l ∈ E → l.length ≤ 9223372036854775807 ∧ ∀ x, x ∈ l → x.g.size ≤ 9223372036854775807) (ho : other.size ≤ maxLen) (hT : TagA.Tabs w) :
    Calls Tryd.prog 6 #[.int .i64 W, .int .i64 need, .int .i64 span, .int .i64 score, .slice a E.length cap, .string other] w fun e w' => e = .returned (.bool true) ∧ Below w.heap.size w w' := by
  have hmx : maxLen = 9223372036854775807 := by decide
  rw [hmx] at ho
  cases hl : light E with
  | false => exact says_long E a cap other w W need span score hE hT hb ho (Or.inl hl)
  | true =>
    by_cases h12 : 12 < E.length
    · exact says_long E a cap other w W need span score hE hT hb ho (Or.inr (Or.inl ⟨hl, h12⟩))
    by_cases h100 : 100 < sgN E
    · exact says_long E a cap other w W need span score hE hT hb ho (Or.inr (Or.inr (Or.inl ⟨hl, by omega, h100⟩)))
    by_cases h20 : 20 < other.size
    · exact says_long E a cap other w W need span score hE hT hb ho (Or.inr (Or.inr (Or.inr ⟨hl, by omega, by omega, h20⟩)))
    by_cases h : 1 ≤ W ∧ W ≤ 8 ∧ 1 ≤ need ∧ need ≤ W
    · obtain ⟨s, rfl⟩ : ∃ s : Nat, W = (s : Int) := ⟨W.toNat, by omega⟩
      obtain ⟨l, rfl⟩ : ∃ l : Nat, need = (l : Int) := ⟨need.toNat, by omega⟩
      by_cases h' : 1 ≤ span ∧ span ≤ 8 ∧ 1 ≤ score ∧ score ≤ span
      · obtain ⟨x, rfl⟩ : ∃ x : Nat, span = (x : Int) := ⟨span.toNat, by omega⟩
        obtain ⟨y, rfl⟩ : ∃ y : Nat, score = (y : Int) := ⟨score.toNat, by omega⟩
        exact says_main E a cap other w s l x y hE hT hl (by omega) (by omega) (by omega) (by omega) (by omega) (by omega) (by omega) (by omega) (by omega) (by omega) (by omega)
      · exact says_bad2 E a cap other w s l span score hE hT hl (by omega) (by omega) (by omega) (by omega) (by omega) (by omega) (by omega) h'
    · exact says_bad1 E a cap other w W need span score hE hT hl (by omega) (by omega) (by omega) h
theorem says_contract (H : Type) (enc : TypeId × Value → H) (W : World) (base : Nat) (args : Array Value) (ds gs : List (DataW H)) (before : List MemPlace)
    (hval0 : ∀ (j : Nat) t v, Tryd.f6.params[j]? = some t → args[j]? = some v → Value.okWide Tryd.prog W .any base t v)
    (hW : DataW.Whole enc Tryd.prog Tryd.f6.params.toList Rows.insideSaysSpec.vars false W args.toList ds gs before) (hL : laidMetH Tryd.prog Rows.insideSaysRow.laid W) (hsh : W.ShapedOpen Tryd.prog) :
    Calls Tryd.prog 6 args W fun e W' => ∃ v, e = .returned v ∧ Rows.insideSaysSpec.post enc Tryd.prog Tryd.f6 false true false false W args v W' := by
  have hval := hval0
  have hW' := hW
  obtain ⟨p, q, hA0, hV, rfl, hfz, hnd⟩ := hW
  have hA : DataW.TrodAll enc Tryd.prog W 0 (fun _ => true) true Tryd.f6.params.toList args.toList ds p := hA0
  rw [Tryd.params6] at hA hval
  obtain ⟨v0, v1, v2, v3, v4, v5, d0, d1, d2, d3, d4, d5, p0, p1, p2, p3, p4, p5, rfl, rfl, rfl, h0, h1, h2, h3, h4, h5⟩ := TagA.trodAll_six hA
  obtain ⟨rfl, rfl⟩ := trodVars_none hV
  have hlt := hW'.lt
  have hlt0 : ∀ x ∈ p0, x.block < W.heap.size := fun x hx => hlt x (by simp [hx])
  have hlt1 : ∀ x ∈ p1, x.block < W.heap.size := fun x hx => hlt x (by simp [hx])
  have hlt2 : ∀ x ∈ p2, x.block < W.heap.size := fun x hx => hlt x (by simp [hx])
  have hlt3 : ∀ x ∈ p3, x.block < W.heap.size := fun x hx => hlt x (by simp [hx])
  have hlt4 : ∀ x ∈ p4, x.block < W.heap.size := fun x hx => hlt x (by simp [hx])
  have hlt5 : ∀ x ∈ p5, x.block < W.heap.size := fun x hx => hlt x (by simp [hx])
  have k0 := h0
  have k1 := h1
  have k2 := h2
  have k3 := h3
  have k4 := h4
  have k5 := h5
  obtain ⟨fuel4, hf4⟩ := h4
  obtain ⟨pa, ca, E, hcs4, hr4, hbE⟩ := open_epochs hf4
  obtain rfl := cells_slice (okWide_slice Tryd.underlying44 (hval 4 44 _ rfl rfl)) hcs4
  obtain ⟨s, rfl, _⟩ := open_int Tryd.underlying3 (hval 0 3 _ rfl rfl) h0
  obtain ⟨l, rfl, _⟩ := open_int Tryd.underlying3 (hval 1 3 _ rfl rfl) h1
  obtain ⟨x, rfl, _⟩ := open_int Tryd.underlying3 (hval 2 3 _ rfl rfl) h2
  obtain ⟨y, rfl, _⟩ := open_int Tryd.underlying3 (hval 3 3 _ rfl rfl) h3
  obtain ⟨o, rfl, _, _, hos⟩ := open_string Tryd.underlying9 (hval 5 9 _ rfl rfl) h5
  rw [MakeChecks.laidMetH_plain _ _ _ (by kernel_rfl)] at hL
  obtain ⟨ps, hLV, _, _⟩ := hL
  have hT : TagA.Tabs W := TagA.tabs_of hLV (by simp [Rows.insideSaysRow]) (TagA.heap10 hsh)
  refine (says_any s l x y E pa ca o W hr4 hbE hos hT).mono fun e W' ⟨he, hbel⟩ => ?_
  subst he
  exact ⟨_, rfl, _, _, _, [], p0 ++ (p1 ++ (p2 ++ (p3 ++ (p4 ++ (p5 ++ []))))), [], hW', trodAll_mk1 (shut_bool Tryd.underlying4 _),
    trodAll_cons_mk (Below.trod laidOut (by kernel_rfl) (of_decide_eq_true (by kernel_rfl)) k0 hbel hlt0) (trodAll_cons_mk (Below.trod laidOut (by kernel_rfl) (of_decide_eq_true (by kernel_rfl)) k1 hbel hlt1) (trodAll_cons_mk (Below.trod laidOut (by kernel_rfl) (of_decide_eq_true (by kernel_rfl)) k2 hbel hlt2) (trodAll_cons_mk (Below.trod laidOut (by kernel_rfl) (of_decide_eq_true (by kernel_rfl)) k3 hbel hlt3) (trodAll_cons_mk (Below.trod laidOut (by kernel_rfl) (of_decide_eq_true (by kernel_rfl)) k4 hbel hlt4) (trodAll_cons_mk (Below.trod laidOut (by kernel_rfl) (of_decide_eq_true (by kernel_rfl)) k5 hbel hlt5) trodAll_mk0))))), rfl, hbel.frame _, fun h => by cases h⟩
theorem says_laid (os : Os) : laidMetH Tryd.prog Rows.insideSaysRow.laid ((World.doorLaid Tryd.prog 2000 os).forCall (fun _ _ => 0) ⟨#[], #[.int .i64 0, .int .i64 0, .int .i64 0, .int .i64 0, .slice none 0 0, .string ⟨#[]⟩], []⟩).memory :=
  laidMetH_of_parts3 (fuel := 8) (laidMet_of_run' 8 (by kernel_rfl) (by kernel_rfl)) (by kernel_rfl) (by kernel_rfl)
theorem says_reads (os : Os) {H : Type} (enc : TypeId × Value → H) : ∃ places ds, DataW.whole enc Tryd.prog ((World.doorLaid Tryd.prog 2000 os).forCall (fun _ _ => 0) ⟨#[], #[.int .i64 0, .int .i64 0, .int .i64 0, .int .i64 0, .slice none 0 0, .string ⟨#[]⟩], []⟩).memory Tryd.f6.params.toList Rows.insideSaysSpec.vars false (#[.int .i64 0, .int .i64 0, .int .i64 0, .int .i64 0, .slice none 0 0, .string ⟨#[]⟩] : Array Value).toList 8 = some ([.lit (.int .i64 0), .lit (.int .i64 0), .lit (.int .i64 0), .lit (.int .i64 0), ds, .lit (.string [])], [], places) :=
  ⟨[], .nil, by kernel_rfl⟩
theorem says_lifted (os : Os) (started : os.Started) (H : Type) (enc : TypeId × Value → H) (F : Stop.Interp) :
    ReturnsInHanded {} Tryd.checked os 6 .any ((OpenSpec.ofChange Rows.insideSaysSpec).preRow enc Tryd.prog Tryd.f6 Rows.insideSaysRow.domain false Rows.insideSaysRow.laid) (((OpenSpec.ofChange Rows.insideSaysSpec).at F).post enc Tryd.prog Tryd.f6 false true false false) := by
  obtain ⟨places, ds, hx⟩ := says_reads os enc
  refine returnsInHanded_of_row (C := Tryd.checked) (s := OpenSpec.ofChange Rows.insideSaysSpec) own started (by kernel_rfl) Tryd.func6
    (witness_row_atRef (enc := enc) (C := Tryd.checked) false (World.doorLaid Tryd.prog 2000 os) #[.int .i64 0, .int .i64 0, .int .i64 0, .int .i64 0, .slice none 0 0, .string ⟨#[]⟩] rfl (by kernel_rfl) (by kernel_rfl) (by kernel_rfl)
      (OpenSpec.preRow_of_cond 8 hx (by kernel_rfl) (fun k hk => by cases hk) (by kernel_rfl) (says_laid os))) ?_
  intro W base args ds gs before hval hW _ _ _ hL hsh _
  exact says_contract H enc W base args ds gs before hval hW hL hsh
theorem says_said : Rows.InsideSaysSaid :=
  OpenClaim.holds_of_cond 6 Tryd.f6 rfl rfl rfl rfl rfl rfl rfl ⟨rfl, rfl, rfl, rfl, rfl⟩ rfl rfl rfl rfl rfl (by kernel_rfl) Tryd.func6 (by kernel_rfl)
    (of_decide_eq_true (by kernel_rfl)) (by unfold Func.isWrapper; first | (rw [if_pos (by decide +kernel)]; kernel_rfl) | (rw [if_neg (by decide +kernel)]; exact ⟨rfl, rfl⟩))
    (fun os started H enc _ F => by rw [OpenClaim.pre_eq_preRow]; exact says_lifted os started H enc F)
theorem says_plain (f : FuncId) (fn : Func) (hf : Tryd.pinned.checked.prog.funcNamed "cratewatch/cratewatchlaw.InsideSays" = some f) (hfn : Tryd.pinned.checked.prog.funcs[f]? = some fn) :
    true = Tryd.pinned.checked.prog.looks [] ∧ ∀ (j : Nat) t, fn.params[j]? = some t → Tryd.pinned.checked.prog.wantsStandIn t = false := by
  obtain rfl : f = 6 := Option.some.inj ((show Tryd.prog.funcNamed "cratewatch/cratewatchlaw.InsideSays" = some 6 by kernel_rfl).symm.trans hf) |>.symm
  obtain rfl : fn = Tryd.f6 := (Option.some.inj (Tryd.func6.symm.trans hfn)).symm
  refine ⟨by kernel_rfl, fun j t ht => ?_⟩
  rw [Tryd.params6] at ht
  have hm : t ∈ [3, 3, 3, 3, 44, 9] := by simpa using Array.mem_of_getElem? ht
  have hall : ([3, 3, 3, 3, 44, 9].all fun u => !Tryd.prog.wantsStandIn u) = true := by kernel_rfl
  exact (show Tryd.prog.wantsStandIn t = false by simpa using List.all_eq_true.1 hall t hm)
end Go.Proofs.YtblkbogoelfjlaaDoor.InA
namespace Go.Proofs.YtblkbogoelfjlaaDoor
set_option maxRecDepth 100000
theorem insideSays_holds : Rows.InsideSaysCardSaid :=
  Claim7.holds_tied_plain_at .later [] _ _ _ _ InA.says_said (fun _ h => by cases h) (by kernel_rfl) (fun _ h => by cases h) insideSays_row_tie rfl ⟨rfl, rfl⟩ (by kernel_rfl) rfl InA.says_plain (by kernel_rfl)
#print axioms insideSays_holds
end Go.Proofs.YtblkbogoelfjlaaDoor
