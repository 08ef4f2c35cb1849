/-
  What the row's list gives: the variables lie in the world as the functions of package rule read them.
-/
import Derived.Test.YtnahkonklkcbeabDoorRows
import Derived.Test.YtnahkonklkcbeabDoorTpA
import Derived.ProofKit
import Derived.OpenShut
import Derived.LaidMore
import Derived.Lib.LaidTab
import Derived.Lib.SmallJoins
namespace Go.Proofs.YtnahkonklkcbeabDoor.RuA
open Go.RowKit RuM
set_option maxRecDepth 100000

theorem laid_at {P : Program} {w : World} : ∀ {l : List (String × DataW Unit)} {ps : List MemPlace}, DataW.LaidVars P w l ps → ∀ n d, (n, d) ∈ l →
    ∃ g t cs fuel p, P.globalNamed n = some g ∧ (P.globals[g]?).map (·.type) = some t ∧ w.var? P n = some cs ∧ DataW.trod (fun _ => ()) P w 0 (fun _ => true) false fuel t cs.toList = some (d, p)
  | [], _, _, n, d, h => by cases h
  | (m, x) :: r, ps, hl, n, d, h => by
    obtain ⟨g, t, cs, fuel, p, q, h1, h2, h3, h4, h5, h6⟩ := hl
    rcases List.mem_cons.1 h with e | e
    · cases e
      exact ⟨g, t, cs, fuel, p, h1, h2, h3, h4⟩
    · exact laid_at h5 n d e

section
variable {P : Program} {w : World} {base : Nat} {spare : Nat → Bool} {held : Bool} {fuel : Nat}
theorem arr_elem {t e : TypeId} {n i : Nat} {cs : List Value} {ds : List (DataW Unit)} {d : DataW Unit} {p : List MemPlace} (ht : P.underlying t = some (.array n e))
    (h : DataW.trod (fun _ => ()) P w base spare held fuel t cs = some (.agg ds, p)) (hi : i < n) (hd : ds[i]? = some d) :
    ∃ m q, DataW.trod (fun _ => ()) P w base spare held m e ((cs.drop (i * P.cellsOf e)).take (P.cellsOf e)) = some (d, q) := by
  obtain ⟨xs, m, _, hx, _, hl, he⟩ := DataW.trod_array ht h
  simp only [Prod.mk.injEq, DataW.agg.injEq] at hx
  obtain ⟨rfl, _⟩ := hx
  rw [List.getElem?_map] at hd
  obtain ⟨y, hy, rfl⟩ := Option.map_eq_some_iff.1 hd
  exact ⟨m, y.2, by rw [he i hi, hy]⟩
theorem struct_elem {t : TypeId} {fs : Array Field} {f : Field} {i : Nat} {cs : List Value} {ds : List (DataW Unit)} {d : DataW Unit} {p : List MemPlace} (ht : P.underlying t = some (.struct fs))
    (h : DataW.trod (fun _ => ()) P w base spare held fuel t cs = some (.agg ds, p)) (hf : fs[i]? = some f) (hd : ds[i]? = some d) :
    ∃ m q, DataW.trod (fun _ => ()) P w base spare held m f.type ((cs.drop f.offset).take (P.cellsOf f.type)) = some (d, q) := by
  obtain ⟨xs, m, _, hx, _, hl, he⟩ := DataW.trod_struct ht h
  simp only [Prod.mk.injEq, DataW.agg.injEq] at hx
  obtain ⟨rfl, _⟩ := hx
  rw [List.getElem?_map] at hd
  obtain ⟨y, hy, rfl⟩ := Option.map_eq_some_iff.1 hd
  exact ⟨m, y.2, by rw [he i f hf, hy]⟩
theorem int_elem {t : TypeId} {k : IntKind} {cs : List Value} {z : Int} {p : List MemPlace} (ht : P.underlying t = some (.int k))
    (h : DataW.trod (fun _ => ()) P w base spare held fuel t cs = some (.lit (.int k z), p)) : cs = [.int k z] := by
  obtain ⟨n, rfl, hx, _⟩ := DataW.trod_int ht h
  simp only [Prod.mk.injEq, DataW.lit.injEq, Lit.int.injEq, true_and] at hx
  rw [hx.1]
theorem string_elem {t : TypeId} {cs : List Value} {l : List UInt8} {p : List MemPlace} (ht : P.underlying t = some .string)
    (h : DataW.trod (fun _ => ()) P w base spare held fuel t cs = some (.lit (.string l), p)) : cs = [.string ⟨l.toArray⟩] := by
  obtain ⟨s, rfl, hx, _⟩ := DataW.trod_string ht h
  simp only [Prod.mk.injEq, DataW.lit.injEq, Lit.string.injEq] at hx
  rw [hx.1]
end
theorem pick1 {l : List Value} {a b j : Nat} {x : Value} (h : (((l.drop a).take b).drop j).take 1 = [x]) : l[a + j]? = some x := by
  have := congrArg (·[0]?) h
  simp only [List.getElem?_take, List.getElem?_drop, Nat.add_zero, List.getElem?_cons_zero] at this
  revert this
  simp only [Nat.lt_one_iff, if_true]
  intro h2
  split at h2
  · exact h2
  · cases h2
theorem pick0 {l : List Value} {a : Nat} {x : Value} (h : (l.drop a).take 1 = [x]) : l[a]? = some x := by
  have := congrArg (·[0]?) h
  simpa [List.getElem?_take, List.getElem?_drop] using this

theorem c3 : Tryd.prog.cellsOf 3 = 1 := by kernel_rfl
theorem c9 : Tryd.prog.cellsOf 9 = 1 := by kernel_rfl
theorem cU : Tryd.prog.cellsOf 66 = 1 := by kernel_rfl
theorem cP : Tryd.prog.cellsOf 83 = 20 := by kernel_rfl
theorem gKw : Tryd.prog.globalNamed "cratewatch/rule.kindWords" = some 0 := by kernel_rfl
theorem gEs : Tryd.prog.globalNamed "strconv.ErrSyntax" = some 2 := by kernel_rfl
theorem gEr : Tryd.prog.globalNamed "strconv.ErrRange" = some 3 := by kernel_rfl
theorem tyKw : (Tryd.prog.globals[0]?).map (·.type) = some 35 := by kernel_rfl
theorem tyPw : (Tryd.prog.globals[4]?).map (·.type) = some 83 := by kernel_rfl
theorem tyEs : (Tryd.prog.globals[2]?).map (·.type) = some 25 := by kernel_rfl
theorem tyEr : (Tryd.prog.globals[3]?).map (·.type) = some 25 := by kernel_rfl
theorem powData : (Rows.laid_internal_strconv_uint64pow10 : DataW Unit) = Lib.tabData .u64 Lib.pow10Tab := by kernel_rfl
theorem wordsD : (Rows.laid_cratewatch_rule_kindWords : DataW Unit) = .agg [.lit (.string (kwL 0)), .lit (.string (kwL 1)), .lit (.string (kwL 2)), .lit (.string (kwL 3))] := rfl

/-- What the list gives. -/
theorem rtab_of {W : World} {ps : List MemPlace} {l : List (String × DataW Unit)} (h : DataW.LaidVars Tryd.prog W l ps) (hsh : W.ShapedOpen Tryd.prog)
    (m1 : ("cratewatch/rule.kindWords", Rows.laid_cratewatch_rule_kindWords) ∈ l) (m2 : ("internal/strconv.uint64pow10", Rows.laid_internal_strconv_uint64pow10) ∈ l)
    (m4 : ("strconv.ErrSyntax", Rows.laid_strconv_ErrSyntax) ∈ l) (m5 : ("strconv.ErrRange", Rows.laid_strconv_ErrRange) ∈ l) (hsz : 7 ≤ W.heap.size) : RTab W := by
  have hkw : ∀ j : Nat, j < 4 → W.cell? ⟨0, j, none⟩ = some (.string (kwB j)) := by
    intro j hj
    obtain ⟨g, t, cs, fuel, p, hg, ht, hv, hd⟩ := laid_at h _ _ m1
    obtain rfl := Option.some.inj (gKw.symm.trans hg)
    obtain rfl := Option.some.inj (tyKw.symm.trans ht)
    rw [wordsD] at hd
    have hrow : ([.lit (.string (kwL 0)), .lit (.string (kwL 1)), .lit (.string (kwL 2)), .lit (.string (kwL 3))] : List (DataW Unit))[j]? = some (.lit (.string (kwL j))) := by
      match j, hj with
      | 0, _ | 1, _ | 2, _ | 3, _ => rfl
    obtain ⟨m, q, he⟩ := arr_elem Tryd.underlying35 hd hj hrow
    rw [c9, Nat.mul_one] at he
    have := pick0 (string_elem Tryd.underlying9 he)
    rw [World.var?_cell hg hv]
    simpa [kwB] using this
  refine ⟨hsz, hkw, ?_, ?_, ?_, ?_⟩
  · obtain ⟨g, t, cs, fuel, p, hg, ht, hv, hd⟩ := laid_at h _ _ m2
    obtain rfl := Option.some.inj (gPow.symm.trans hg)
    obtain rfl := Option.some.inj (tyPw.symm.trans ht)
    rw [powData] at hd
    have := Lib.cells_of_tab Tryd.underlying83 Tryd.underlying66 cU cP hd
    unfold Lib.TabIs
    rw [hv, ← this]
  · exact cell_of_shapedOpen_int (g := 1) (zero := #[.int .i64 0]) (t := 3) hsh (of_decide_eq_true (by kernel_rfl)) (by kernel_rfl) rfl (by kernel_rfl) (by kernel_rfl) Tryd.underlying3
  · obtain ⟨g, t, cs, fuel, p, hg, ht, hv, hd⟩ := laid_at h _ _ m4
    obtain rfl := Option.some.inj (gEs.symm.trans hg)
    obtain rfl := Option.some.inj (tyEs.symm.trans ht)
    obtain ⟨_, u, v, hcs, _, _⟩ := iface_of_trod Tryd.underlying25 hd
    refine ⟨u, v, ?_⟩
    rw [World.var?_cell hg hv]
    have := congrArg (·[0]?) hcs
    simpa using this
  · obtain ⟨g, t, cs, fuel, p, hg, ht, hv, hd⟩ := laid_at h _ _ m5
    obtain rfl := Option.some.inj (gEr.symm.trans hg)
    obtain rfl := Option.some.inj (tyEr.symm.trans ht)
    obtain ⟨_, u, v, hcs, _, _⟩ := iface_of_trod Tryd.underlying25 hd
    refine ⟨u, v, ?_⟩
    rw [World.var?_cell hg hv]
    have := congrArg (·[0]?) hcs
    simpa using this
theorem row6 : (((begin Tryd.prog (fun _ _ => 0) default).world.heap[6]?).bind Obj.row?).isSome = true := by kernel_rfl
theorem glob7 : 6 < Tryd.prog.globals.size := of_decide_eq_true (by kernel_rfl)
theorem heap7 {W : World} (h : W.ShapedOpen Tryd.prog) : 7 ≤ W.heap.size := by
  obtain ⟨⟨z, t⟩, hz⟩ := Option.isSome_iff_exists.1 row6
  obtain ⟨cs, hc, _⟩ := h.1 6 z t glob7 hz
  rcases Nat.lt_or_ge 6 W.heap.size with h | h
  · omega
  · rw [Array.getElem?_eq_none h] at hc; cases hc
end Go.Proofs.YtnahkonklkcbeabDoor.RuA
