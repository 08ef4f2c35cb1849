/-
  What the rows' lists give: the tables lie in the world as the functions of package tag read them.
-/
import Derived.Test.YtllhfbnafemoeaaDoorRows
import Derived.Test.YtllhfbnafemoeaaDoorTagT
import Derived.ProofKit
import Derived.OpenShut
import Derived.LaidMore
import Derived.Lib.LaidTab
import Derived.Lib.SmallJoins
namespace Go.Proofs.YtllhfbnafemoeaaDoor.TagA
open Go.RowKit TagM
set_option maxRecDepth 100000

theorem laid_at {P : Program} {w : World} : ∀ {l : List (String × DataW Unit)} {ps : List MemPlace}, DataW.LaidVars P w l ps → ∀ n d, (n, d) ∈ l →
    ∃ g t cs fuel p, P.globalNamed n = some g ∧ (P.globals[g]?).map (·.type) = some t ∧ w.var? P n = some cs ∧ DataW.trod (fun _ => ()) P w 0 (fun _ => true) false fuel t cs.toList = some (d, p)
  | [], _, _, n, d, h => by cases h
  | (m, x) :: r, ps, hl, n, d, h => by
    obtain ⟨g, t, cs, fuel, p, q, h1, h2, h3, h4, h5, h6⟩ := hl
    rcases List.mem_cons.1 h with e | e
    · cases e
      exact ⟨g, t, cs, fuel, p, h1, h2, h3, h4⟩
    · exact laid_at h5 n d e

section
variable {P : Program} {w : World} {base : Nat} {spare : Nat → Bool} {held : Bool} {fuel : Nat}
theorem arr_elem {t e : TypeId} {n i : Nat} {cs : List Value} {ds : List (DataW Unit)} {d : DataW Unit} {p : List MemPlace} (ht : P.underlying t = some (.array n e))
    (h : DataW.trod (fun _ => ()) P w base spare held fuel t cs = some (.agg ds, p)) (hi : i < n) (hd : ds[i]? = some d) :
    ∃ m q, DataW.trod (fun _ => ()) P w base spare held m e ((cs.drop (i * P.cellsOf e)).take (P.cellsOf e)) = some (d, q) := by
  obtain ⟨xs, m, _, hx, _, hl, he⟩ := DataW.trod_array ht h
  simp only [Prod.mk.injEq, DataW.agg.injEq] at hx
  obtain ⟨rfl, _⟩ := hx
  rw [List.getElem?_map] at hd
  obtain ⟨y, hy, rfl⟩ := Option.map_eq_some_iff.1 hd
  exact ⟨m, y.2, by rw [he i hi, hy]⟩
theorem struct_elem {t : TypeId} {fs : Array Field} {f : Field} {i : Nat} {cs : List Value} {ds : List (DataW Unit)} {d : DataW Unit} {p : List MemPlace} (ht : P.underlying t = some (.struct fs))
    (h : DataW.trod (fun _ => ()) P w base spare held fuel t cs = some (.agg ds, p)) (hf : fs[i]? = some f) (hd : ds[i]? = some d) :
    ∃ m q, DataW.trod (fun _ => ()) P w base spare held m f.type ((cs.drop f.offset).take (P.cellsOf f.type)) = some (d, q) := by
  obtain ⟨xs, m, _, hx, _, hl, he⟩ := DataW.trod_struct ht h
  simp only [Prod.mk.injEq, DataW.agg.injEq] at hx
  obtain ⟨rfl, _⟩ := hx
  rw [List.getElem?_map] at hd
  obtain ⟨y, hy, rfl⟩ := Option.map_eq_some_iff.1 hd
  exact ⟨m, y.2, by rw [he i f hf, hy]⟩
theorem int_elem {t : TypeId} {k : IntKind} {cs : List Value} {z : Int} {p : List MemPlace} (ht : P.underlying t = some (.int k))
    (h : DataW.trod (fun _ => ()) P w base spare held fuel t cs = some (.lit (.int k z), p)) : cs = [.int k z] := by
  obtain ⟨n, rfl, hx, _⟩ := DataW.trod_int ht h
  simp only [Prod.mk.injEq, DataW.lit.injEq, Lit.int.injEq, true_and] at hx
  rw [hx.1]
theorem string_elem {t : TypeId} {cs : List Value} {l : List UInt8} {p : List MemPlace} (ht : P.underlying t = some .string)
    (h : DataW.trod (fun _ => ()) P w base spare held fuel t cs = some (.lit (.string l), p)) : cs = [.string ⟨l.toArray⟩] := by
  obtain ⟨s, rfl, hx, _⟩ := DataW.trod_string ht h
  simp only [Prod.mk.injEq, DataW.lit.injEq, Lit.string.injEq] at hx
  rw [hx.1]
end
theorem pick1 {l : List Value} {a b j : Nat} {x : Value} (h : (((l.drop a).take b).drop j).take 1 = [x]) : l[a + j]? = some x := by
  have := congrArg (·[0]?) h
  simp only [List.getElem?_take, List.getElem?_drop, Nat.add_zero, List.getElem?_cons_zero] at this
  revert this
  simp only [Nat.lt_one_iff, if_true]
  intro h2
  split at h2
  · exact h2
  · cases h2
theorem pick0 {l : List Value} {a : Nat} {x : Value} (h : (l.drop a).take 1 = [x]) : l[a]? = some x := by
  have := congrArg (·[0]?) h
  simpa [List.getElem?_take, List.getElem?_drop] using this

theorem c50 : Tryd.prog.cellsOf 50 = 4 := by kernel_rfl
theorem c3 : Tryd.prog.cellsOf 3 = 1 := by kernel_rfl
theorem c9 : Tryd.prog.cellsOf 9 = 1 := by kernel_rfl
theorem c52 : Tryd.prog.cellsOf 52 = 1 := by kernel_rfl
theorem c112 : Tryd.prog.cellsOf 112 = 20 := by kernel_rfl
theorem g0 : Tryd.prog.globalNamed "cratewatch/tag.splits" = some 0 := by kernel_rfl
theorem g1 : Tryd.prog.globalNamed "cratewatch/tag.kindWords" = some 1 := by kernel_rfl
theorem g4 : Tryd.prog.globalNamed "strconv.ErrSyntax" = some 4 := by kernel_rfl
theorem g5 : Tryd.prog.globalNamed "strconv.ErrRange" = some 5 := by kernel_rfl
theorem ty0 : (Tryd.prog.globals[0]?).map (·.type) = some 51 := by kernel_rfl
theorem ty1 : (Tryd.prog.globals[1]?).map (·.type) = some 57 := by kernel_rfl
theorem ty2 : (Tryd.prog.globals[2]?).map (·.type) = some 112 := by kernel_rfl
theorem ty4 : (Tryd.prog.globals[4]?).map (·.type) = some 27 := by kernel_rfl
theorem ty5 : (Tryd.prog.globals[5]?).map (·.type) = some 27 := by kernel_rfl
theorem powData : (Rows.laid_internal_strconv_uint64pow10 : DataW Unit) = Lib.tabData .u64 Lib.pow10Tab := by kernel_rfl

def rowD (k : Nat) : DataW Unit := .agg [.lit (.int .i64 (cbits k)), .lit (.int .i64 (cdig k)), .lit (.int .i64 (rbits k)), .lit (.int .i64 (rdig k))]
theorem splitsD : (Rows.laid_cratewatch_tag_splits : DataW Unit) = .agg [rowD 0, rowD 1, rowD 2, rowD 3, rowD 4, rowD 5] := rfl
theorem wordsD : (Rows.laid_cratewatch_tag_kindWords : DataW Unit) = .agg [.lit (.string (kwL 0)), .lit (.string (kwL 1)), .lit (.string (kwL 2))] := rfl

/-- What the list gives. -/
theorem tabs_of {W : World} {ps : List MemPlace} {l : List (String × DataW Unit)} (h : DataW.LaidVars Tryd.prog W l ps) (hsh : W.ShapedOpen Tryd.prog)
    (m0 : ("cratewatch/tag.splits", Rows.laid_cratewatch_tag_splits) ∈ l) (m1 : ("cratewatch/tag.kindWords", Rows.laid_cratewatch_tag_kindWords) ∈ l) (m2 : ("internal/strconv.uint64pow10", Rows.laid_internal_strconv_uint64pow10) ∈ l)
    (m4 : ("strconv.ErrSyntax", Rows.laid_strconv_ErrSyntax) ∈ l) (m5 : ("strconv.ErrRange", Rows.laid_strconv_ErrRange) ∈ l) (hsz : 10 ≤ W.heap.size) : Tabs2 W := by
  have hsp : ∀ k j : Nat, k < 6 → ∀ (f : Field) (z : Int), (match Tryd.prog.underlying 50 with | some (.struct fs) => fs[j]? | _ => none) = some f → f.type = 3 → f.offset = j → (match rowD k with | .agg ds => ds[j]? | _ => none) = some (.lit (.int .i64 z)) → W.cell? ⟨0, k * 4 + j, none⟩ = some (.int .i64 z) := by
    intro k j hk f z hf hft hfo hz
    obtain ⟨g, t, cs, fuel, p, hg, ht, hv, hd⟩ := laid_at h _ _ m0
    obtain rfl := Option.some.inj (g0.symm.trans hg)
    obtain rfl := Option.some.inj (ty0.symm.trans ht)
    rw [splitsD] at hd
    have hrow : ([rowD 0, rowD 1, rowD 2, rowD 3, rowD 4, rowD 5] : List (DataW Unit))[k]? = some (rowD k) := by
      match k, hk with
      | 0, _ | 1, _ | 2, _ | 3, _ | 4, _ | 5, _ => rfl
    obtain ⟨m, q, he⟩ := arr_elem Tryd.underlying51 hd hk hrow
    rw [c50] at he
    unfold rowD at he hz
    rw [Tryd.underlying50] at hf
    obtain ⟨m', q', he'⟩ := struct_elem Tryd.underlying50 he hf hz
    rw [hft, hfo, c3] at he'
    have := pick1 (int_elem Tryd.underlying3 he')
    rw [World.var?_cell hg hv]
    simpa using this
  have hkw : ∀ j : Nat, j < 3 → W.cell? ⟨1, j, none⟩ = some (.string (kw j)) := by
    intro j hj
    obtain ⟨g, t, cs, fuel, p, hg, ht, hv, hd⟩ := laid_at h _ _ m1
    obtain rfl := Option.some.inj (g1.symm.trans hg)
    obtain rfl := Option.some.inj (ty1.symm.trans ht)
    rw [wordsD] at hd
    have hrow : ([.lit (.string (kwL 0)), .lit (.string (kwL 1)), .lit (.string (kwL 2))] : List (DataW Unit))[j]? = some (.lit (.string (kwL j))) := by
      match j, hj with
      | 0, _ | 1, _ | 2, _ => rfl
    obtain ⟨m, q, he⟩ := arr_elem Tryd.underlying57 hd hj hrow
    rw [c9, Nat.mul_one] at he
    have := pick0 (string_elem Tryd.underlying9 he)
    rw [World.var?_cell hg hv]
    have e : kw j = ⟨(kwL j).toArray⟩ := bytes_inj (by rw [kw_list])
    rw [e]
    simpa using this
  refine ⟨⟨hsz, ?_, ?_, ?_, ?_⟩, hkw, ?_, ?_, ?_, ?_⟩
  · intro k hk
    exact hsp k 0 hk _ _ (by rw [Tryd.underlying50]; rfl) rfl rfl rfl
  · intro k hk
    exact hsp k 1 hk _ _ (by rw [Tryd.underlying50]; rfl) rfl rfl rfl
  · intro k hk
    exact hsp k 2 hk _ _ (by rw [Tryd.underlying50]; rfl) rfl rfl rfl
  · intro k hk
    exact hsp k 3 hk _ _ (by rw [Tryd.underlying50]; rfl) rfl rfl rfl
  · obtain ⟨g, t, cs, fuel, p, hg, ht, hv, hd⟩ := laid_at h _ _ m2
    obtain rfl := Option.some.inj (gPow.symm.trans hg)
    obtain rfl := Option.some.inj (ty2.symm.trans ht)
    rw [powData] at hd
    have := Lib.cells_of_tab Tryd.underlying112 Tryd.underlying52 c52 c112 hd
    unfold Lib.TabIs
    rw [hv, ← this]
  · exact cell_of_shapedOpen_int (g := 3) (zero := #[.int .i64 0]) (t := 3) hsh (of_decide_eq_true (by kernel_rfl)) (by kernel_rfl) rfl (by kernel_rfl) (by kernel_rfl) Tryd.underlying3
  · obtain ⟨g, t, cs, fuel, p, hg, ht, hv, hd⟩ := laid_at h _ _ m4
    obtain rfl := Option.some.inj (g4.symm.trans hg)
    obtain rfl := Option.some.inj (ty4.symm.trans ht)
    obtain ⟨_, u, v, hcs, _, _⟩ := iface_of_trod Tryd.underlying27 hd
    refine ⟨u, v, ?_⟩
    rw [World.var?_cell hg hv]
    have := congrArg (·[0]?) hcs
    simpa using this
  · obtain ⟨g, t, cs, fuel, p, hg, ht, hv, hd⟩ := laid_at h _ _ m5
    obtain rfl := Option.some.inj (g5.symm.trans hg)
    obtain rfl := Option.some.inj (ty5.symm.trans ht)
    obtain ⟨_, u, v, hcs, _, _⟩ := iface_of_trod Tryd.underlying27 hd
    refine ⟨u, v, ?_⟩
    rw [World.var?_cell hg hv]
    have := congrArg (·[0]?) hcs
    simpa using this
end Go.Proofs.YtllhfbnafemoeaaDoor.TagA
