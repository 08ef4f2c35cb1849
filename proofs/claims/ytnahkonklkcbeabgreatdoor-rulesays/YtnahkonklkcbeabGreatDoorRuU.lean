/-
  What the row's list gives: the variables lie in the world as the functions of package rule read them.
-/
import Derived.Test.YtnahkonklkcbeabGreatDoorRows
import Derived.Test.YtnahkonklkcbeabGreatDoorRuT
import Derived.ProofKit
import Derived.OpenShut
import Derived.LaidMore
import Derived.Lib.LaidTab
import Derived.Lib.SmallJoins
namespace Go.Proofs.YtnahkonklkcbeabGreatDoor.RuA
open Go.RowKit RuM
set_option maxRecDepth 100000

theorem laid_at {P : Program} {w : World} : ∀ {l : List (String × DataW Unit)} {ps : List MemPlace}, DataW.LaidVars P w l ps → ∀ n d, (n, d) ∈ l →
    ∃ g t cs fuel p, P.globalNamed n = some g ∧ (P.globals[g]?).map (·.type) = some t ∧ w.var? P n = some cs ∧ DataW.trod (fun _ => ()) P w 0 (fun _ => true) false fuel t cs.toList = some (d, p)
  | [], _, _, n, d, h => by cases h
  | (m, x) :: r, ps, hl, n, d, h => by
    obtain ⟨g, t, cs, fuel, p, q, h1, h2, h3, h4, h5, h6⟩ := hl
    rcases List.mem_cons.1 h with e | e
    · cases e
      exact ⟨g, t, cs, fuel, p, h1, h2, h3, h4⟩
    · exact laid_at h5 n d e

section
variable {P : Program} {w : World} {base : Nat} {spare : Nat → Bool} {held : Bool} {fuel : Nat}
theorem arr_elem {t e : TypeId} {n i : Nat} {cs : List Value} {ds : List (DataW Unit)} {d : DataW Unit} {p : List MemPlace} (ht : P.underlying t = some (.array n e))
    (h : DataW.trod (fun _ => ()) P w base spare held fuel t cs = some (.agg ds, p)) (hi : i < n) (hd : ds[i]? = some d) :
    ∃ m q, DataW.trod (fun _ => ()) P w base spare held m e ((cs.drop (i * P.cellsOf e)).take (P.cellsOf e)) = some (d, q) := by
  obtain ⟨xs, m, _, hx, _, hl, he⟩ := DataW.trod_array ht h
  simp only [Prod.mk.injEq, DataW.agg.injEq] at hx
  obtain ⟨rfl, _⟩ := hx
  rw [List.getElem?_map] at hd
  obtain ⟨y, hy, rfl⟩ := Option.map_eq_some_iff.1 hd
  exact ⟨m, y.2, by rw [he i hi, hy]⟩
theorem struct_elem {t : TypeId} {fs : Array Field} {f : Field} {i : Nat} {cs : List Value} {ds : List (DataW Unit)} {d : DataW Unit} {p : List MemPlace} (ht : P.underlying t = some (.struct fs))
    (h : DataW.trod (fun _ => ()) P w base spare held fuel t cs = some (.agg ds, p)) (hf : fs[i]? = some f) (hd : ds[i]? = some d) :
    ∃ m q, DataW.trod (fun _ => ()) P w base spare held m f.type ((cs.drop f.offset).take (P.cellsOf f.type)) = some (d, q) := by
  obtain ⟨xs, m, _, hx, _, hl, he⟩ := DataW.trod_struct ht h
  simp only [Prod.mk.injEq, DataW.agg.injEq] at hx
  obtain ⟨rfl, _⟩ := hx
  rw [List.getElem?_map] at hd
  obtain ⟨y, hy, rfl⟩ := Option.map_eq_some_iff.1 hd
  exact ⟨m, y.2, by rw [he i f hf, hy]⟩
theorem int_elem {t : TypeId} {k : IntKind} {cs : List Value} {z : Int} {p : List MemPlace} (ht : P.underlying t = some (.int k))
    (h : DataW.trod (fun _ => ()) P w base spare held fuel t cs = some (.lit (.int k z), p)) : cs = [.int k z] := by
  obtain ⟨n, rfl, hx, _⟩ := DataW.trod_int ht h
  simp only [Prod.mk.injEq, DataW.lit.injEq, Lit.int.injEq, true_and] at hx
  rw [hx.1]
theorem string_elem {t : TypeId} {cs : List Value} {l : List UInt8} {p : List MemPlace} (ht : P.underlying t = some .string)
    (h : DataW.trod (fun _ => ()) P w base spare held fuel t cs = some (.lit (.string l), p)) : cs = [.string ⟨l.toArray⟩] := by
  obtain ⟨s, rfl, hx, _⟩ := DataW.trod_string ht h
  simp only [Prod.mk.injEq, DataW.lit.injEq, Lit.string.injEq] at hx
  rw [hx.1]
end
theorem pick1 {l : List Value} {a b j : Nat} {x : Value} (h : (((l.drop a).take b).drop j).take 1 = [x]) : l[a + j]? = some x := by
  have := congrArg (·[0]?) h
  simp only [List.getElem?_take, List.getElem?_drop, Nat.add_zero, List.getElem?_cons_zero] at this
  revert this
  simp only [Nat.lt_one_iff, if_true]
  intro h2
  split at h2
  · exact h2
  · cases h2
theorem pick0 {l : List Value} {a : Nat} {x : Value} (h : (l.drop a).take 1 = [x]) : l[a]? = some x := by
  have := congrArg (·[0]?) h
  simpa [List.getElem?_take, List.getElem?_drop] using this

theorem c3 : Tryz.prog.cellsOf 3 = 1 := by kernel_rfl
theorem c9 : Tryz.prog.cellsOf 9 = 1 := by kernel_rfl
theorem cU : Tryz.prog.cellsOf 109 = 1 := by kernel_rfl
theorem cP : Tryz.prog.cellsOf 146 = 20 := by kernel_rfl
theorem gKw : Tryz.prog.globalNamed "cratewatch/rule.kindWords" = some 0 := by kernel_rfl
theorem gEs : Tryz.prog.globalNamed "strconv.ErrSyntax" = some 4 := by kernel_rfl
theorem gEr : Tryz.prog.globalNamed "strconv.ErrRange" = some 5 := by kernel_rfl
theorem tyKw : (Tryz.prog.globals[0]?).map (·.type) = some 54 := by kernel_rfl
theorem tyPw : (Tryz.prog.globals[2]?).map (·.type) = some 146 := by kernel_rfl
theorem tyEs : (Tryz.prog.globals[4]?).map (·.type) = some 29 := by kernel_rfl
theorem tyEr : (Tryz.prog.globals[5]?).map (·.type) = some 29 := by kernel_rfl
theorem powData : (Rows.laid_internal_strconv_uint64pow10 : DataW Unit) = Lib.tabData .u64 Lib.pow10Tab := by kernel_rfl
theorem wordsD : (Rows.laid_cratewatch_rule_kindWords : DataW Unit) = .agg [.lit (.string (kwL 0)), .lit (.string (kwL 1)), .lit (.string (kwL 2)), .lit (.string (kwL 3))] := rfl

/-- What the list gives. -/
theorem rtab_of {W : World} {ps : List MemPlace} {l : List (String × DataW Unit)} (h : DataW.LaidVars Tryz.prog W l ps) (hsh : W.ShapedOpen Tryz.prog)
    (m1 : ("cratewatch/rule.kindWords", Rows.laid_cratewatch_rule_kindWords) ∈ l) (m2 : ("internal/strconv.uint64pow10", Rows.laid_internal_strconv_uint64pow10) ∈ l)
    (m4 : ("strconv.ErrSyntax", Rows.laid_strconv_ErrSyntax) ∈ l) (m5 : ("strconv.ErrRange", Rows.laid_strconv_ErrRange) ∈ l) (hsz : 7 ≤ W.heap.size) : RTab W := by
  have hkw : ∀ j : Nat, j < 4 → W.cell? ⟨0, j, none⟩ = some (.string (kwB j)) := by
    intro j hj
    obtain ⟨g, t, cs, fuel, p, hg, ht, hv, hd⟩ := laid_at h _ _ m1
    obtain rfl := Option.some.inj (gKw.symm.trans hg)
    obtain rfl := Option.some.inj (tyKw.symm.trans ht)
    rw [wordsD] at hd
    have hrow : ([.lit (.string (kwL 0)), .lit (.string (kwL 1)), .lit (.string (kwL 2)), .lit (.string (kwL 3))] : List (DataW Unit))[j]? = some (.lit (.string (kwL j))) := by
      match j, hj with
      | 0, _ | 1, _ | 2, _ | 3, _ => rfl
    obtain ⟨m, q, he⟩ := arr_elem Tryz.underlying54 hd hj hrow
    rw [c9, Nat.mul_one] at he
    have := pick0 (string_elem Tryz.underlying9 he)
    rw [World.var?_cell hg hv]
    simpa [kwB] using this
  refine ⟨hsz, hkw, ?_, ?_, ?_, ?_⟩
  · obtain ⟨g, t, cs, fuel, p, hg, ht, hv, hd⟩ := laid_at h _ _ m2
    obtain rfl := Option.some.inj (gPow.symm.trans hg)
    obtain rfl := Option.some.inj (tyPw.symm.trans ht)
    rw [powData] at hd
    have := Lib.cells_of_tab Tryz.underlying146 Tryz.underlying109 cU cP hd
    unfold Lib.TabIs
    rw [hv, ← this]
  · exact cell_of_shapedOpen_int (g := 3) (zero := #[.int .i64 0]) (t := 3) hsh (of_decide_eq_true (by kernel_rfl)) (by kernel_rfl) rfl (by kernel_rfl) (by kernel_rfl) Tryz.underlying3
  · obtain ⟨g, t, cs, fuel, p, hg, ht, hv, hd⟩ := laid_at h _ _ m4
    obtain rfl := Option.some.inj (gEs.symm.trans hg)
    obtain rfl := Option.some.inj (tyEs.symm.trans ht)
    obtain ⟨_, u, v, hcs, _, _⟩ := iface_of_trod Tryz.underlying29 hd
    refine ⟨u, v, ?_⟩
    rw [World.var?_cell hg hv]
    have := congrArg (·[0]?) hcs
    simpa using this
  · obtain ⟨g, t, cs, fuel, p, hg, ht, hv, hd⟩ := laid_at h _ _ m5
    obtain rfl := Option.some.inj (gEr.symm.trans hg)
    obtain rfl := Option.some.inj (tyEr.symm.trans ht)
    obtain ⟨_, u, v, hcs, _, _⟩ := iface_of_trod Tryz.underlying29 hd
    refine ⟨u, v, ?_⟩
    rw [World.var?_cell hg hv]
    have := congrArg (·[0]?) hcs
    simpa using this
section
open TagM
theorem cSp : Tryz.prog.cellsOf 113 = 4 := by kernel_rfl
theorem gSp : Tryz.prog.globalNamed "cratewatch/tag.splits" = some 1 := by kernel_rfl
theorem tySp : (Tryz.prog.globals[1]?).map (·.type) = some 114 := by kernel_rfl
def rowD (k : Nat) : DataW Unit := .agg [.lit (.int .i64 (cbits k)), .lit (.int .i64 (cdig k)), .lit (.int .i64 (rbits k)), .lit (.int .i64 (rdig k))]
theorem splitsD : (Rows.laid_cratewatch_tag_splits : DataW Unit) = .agg [rowD 0, rowD 1, rowD 2, rowD 3, rowD 4, rowD 5] := rfl
/-- What the list gives. -/
theorem tabs_of {W : World} {ps : List MemPlace} {l : List (String × DataW Unit)} (h : DataW.LaidVars Tryz.prog W l ps)
    (m0 : ("cratewatch/tag.splits", Rows.laid_cratewatch_tag_splits) ∈ l) (hsz : 7 ≤ W.heap.size) : TagA.Tabs W := by
  have hsp : ∀ k j : Nat, k < 6 → ∀ (f : Field) (z : Int), (match Tryz.prog.underlying 113 with | some (.struct fs) => fs[j]? | _ => none) = some f → f.type = 3 → f.offset = j → (match rowD k with | .agg ds => ds[j]? | _ => none) = some (.lit (.int .i64 z)) → W.cell? ⟨1, k * 4 + j, none⟩ = some (.int .i64 z) := by
    intro k j hk f z hf hft hfo hz
    obtain ⟨g, t, cs, fuel, p, hg, ht, hv, hd⟩ := laid_at h _ _ m0
    obtain rfl := Option.some.inj (gSp.symm.trans hg)
    obtain rfl := Option.some.inj (tySp.symm.trans ht)
    rw [splitsD] at hd
    have hrow : ([rowD 0, rowD 1, rowD 2, rowD 3, rowD 4, rowD 5] : List (DataW Unit))[k]? = some (rowD k) := by
      match k, hk with
      | 0, _ | 1, _ | 2, _ | 3, _ | 4, _ | 5, _ => rfl
    obtain ⟨m, q, he⟩ := arr_elem Tryz.underlying114 hd hk hrow
    rw [cSp] at he
    unfold rowD at he hz
    rw [Tryz.underlying113] at hf
    obtain ⟨m', q', he'⟩ := struct_elem Tryz.underlying113 he hf hz
    rw [hft, hfo, c3] at he'
    have := pick1 (int_elem Tryz.underlying3 he')
    rw [World.var?_cell hg hv]
    simpa using this
  refine ⟨hsz, ?_, ?_, ?_, ?_⟩
  · intro k hk
    exact hsp k 0 hk _ _ (by rw [Tryz.underlying113]; rfl) rfl rfl rfl
  · intro k hk
    exact hsp k 1 hk _ _ (by rw [Tryz.underlying113]; rfl) rfl rfl rfl
  · intro k hk
    exact hsp k 2 hk _ _ (by rw [Tryz.underlying113]; rfl) rfl rfl rfl
  · intro k hk
    exact hsp k 3 hk _ _ (by rw [Tryz.underlying113]; rfl) rfl rfl rfl
end
theorem row6 : (((begin Tryz.prog (fun _ _ => 0) default).world.heap[6]?).bind Obj.row?).isSome = true := by kernel_rfl
theorem glob7 : 6 < Tryz.prog.globals.size := of_decide_eq_true (by kernel_rfl)
theorem heap7 {W : World} (h : W.ShapedOpen Tryz.prog) : 7 ≤ W.heap.size := by
  obtain ⟨⟨z, t⟩, hz⟩ := Option.isSome_iff_exists.1 row6
  obtain ⟨cs, hc, _⟩ := h.1 6 z t glob7 hz
  rcases Nat.lt_or_ge 6 W.heap.size with h | h
  · omega
  · rw [Array.getElem?_eq_none h] at hc; cases hc
section
open Go.ChangeShapes
variable {H : Type} {enc : TypeId × Value → H} {P : Program} {w : World} {base : Nat} {spare : Nat → Bool} {held : Bool}
theorem trodAll_five {t0 t1 t2 t3 t4 : TypeId} {args : Array Value} {ds : List (DataW H)} {ps : List MemPlace} (h : DataW.TrodAll enc P w base spare held [t0, t1, t2, t3, t4] args.toList ds ps) :
    ∃ v0 v1 v2 v3 v4 d0 d1 d2 d3 d4 p0 p1 p2 p3 p4, args = #[v0, v1, v2, v3, v4] ∧ ds = [d0, d1, d2, d3, d4] ∧ ps = p0 ++ (p1 ++ (p2 ++ (p3 ++ (p4 ++ [])))) ∧ DataW.Trod enc P w base spare held t0 v0 d0 p0 ∧ DataW.Trod enc P w base spare held t1 v1 d1 p1 ∧ DataW.Trod enc P w base spare held t2 v2 d2 p2 ∧ DataW.Trod enc P w base spare held t3 v3 d3 p3 ∧ DataW.Trod enc P w base spare held t4 v4 d4 p4 := by
  obtain ⟨v0, vs0, d0, ds0, p0, q0, hargs, rfl, rfl, hd0, h0⟩ := trodAll_cons h
  obtain ⟨v1, vs1, d1, ds1, p1, q1, rfl, rfl, rfl, hd1, h1⟩ := trodAll_cons h0
  obtain ⟨v2, vs2, d2, ds2, p2, q2, rfl, rfl, rfl, hd2, h2⟩ := trodAll_cons h1
  obtain ⟨v3, vs3, d3, ds3, p3, q3, rfl, rfl, rfl, hd3, h3⟩ := trodAll_cons h2
  obtain ⟨v4, vs4, d4, ds4, p4, q4, rfl, rfl, rfl, hd4, h4⟩ := trodAll_cons h3
  obtain ⟨rfl, rfl, rfl⟩ := trodAll_nil h4
  exact ⟨v0, v1, v2, v3, v4, d0, d1, d2, d3, d4, p0, p1, p2, p3, p4, by cases args; simp_all, rfl, rfl, hd0, hd1, hd2, hd3, hd4⟩
end
end Go.Proofs.YtnahkonklkcbeabGreatDoor.RuA
