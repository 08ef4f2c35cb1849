/-
  What the rows' lists give: the table of splits lies in the world as package tag reads it. Opening what is handed in.
-/
import Derived.Test.YtblkbogoelfjlaaDoorRows
import Derived.Test.YtblkbogoelfjlaaDoorTagS
import Derived.ProofKit
import Derived.OpenShut
import Derived.LaidMore
import Derived.Lib.LaidTab
import Derived.Carry
namespace Go.Proofs.YtblkbogoelfjlaaDoor.TagA
open Go.RowKit TagM
set_option maxRecDepth 100000

theorem laid_at {P : Program} {w : World} : ∀ {l : List (String × DataW Unit)} {ps : List MemPlace}, DataW.LaidVars P w l ps → ∀ n d, (n, d) ∈ l →
    ∃ g t cs fuel p, P.globalNamed n = some g ∧ (P.globals[g]?).map (·.type) = some t ∧ w.var? P n = some cs ∧ DataW.trod (fun _ => ()) P w 0 (fun _ => true) false fuel t cs.toList = some (d, p)
  | [], _, _, n, d, h => by cases h
  | (m, x) :: r, ps, hl, n, d, h => by
    obtain ⟨g, t, cs, fuel, p, q, h1, h2, h3, h4, h5, h6⟩ := hl
    rcases List.mem_cons.1 h with e | e
    · cases e
      exact ⟨g, t, cs, fuel, p, h1, h2, h3, h4⟩
    · exact laid_at h5 n d e

section
variable {P : Program} {w : World} {base : Nat} {spare : Nat → Bool} {held : Bool} {fuel : Nat}
theorem arr_elem {t e : TypeId} {n i : Nat} {cs : List Value} {ds : List (DataW Unit)} {d : DataW Unit} {p : List MemPlace} (ht : P.underlying t = some (.array n e))
    (h : DataW.trod (fun _ => ()) P w base spare held fuel t cs = some (.agg ds, p)) (hi : i < n) (hd : ds[i]? = some d) :
    ∃ m q, DataW.trod (fun _ => ()) P w base spare held m e ((cs.drop (i * P.cellsOf e)).take (P.cellsOf e)) = some (d, q) := by
  obtain ⟨xs, m, _, hx, _, hl, he⟩ := DataW.trod_array ht h
  simp only [Prod.mk.injEq, DataW.agg.injEq] at hx
  obtain ⟨rfl, _⟩ := hx
  rw [List.getElem?_map] at hd
  obtain ⟨y, hy, rfl⟩ := Option.map_eq_some_iff.1 hd
  exact ⟨m, y.2, by rw [he i hi, hy]⟩
theorem struct_elem {t : TypeId} {fs : Array Field} {f : Field} {i : Nat} {cs : List Value} {ds : List (DataW Unit)} {d : DataW Unit} {p : List MemPlace} (ht : P.underlying t = some (.struct fs))
    (h : DataW.trod (fun _ => ()) P w base spare held fuel t cs = some (.agg ds, p)) (hf : fs[i]? = some f) (hd : ds[i]? = some d) :
    ∃ m q, DataW.trod (fun _ => ()) P w base spare held m f.type ((cs.drop f.offset).take (P.cellsOf f.type)) = some (d, q) := by
  obtain ⟨xs, m, _, hx, _, hl, he⟩ := DataW.trod_struct ht h
  simp only [Prod.mk.injEq, DataW.agg.injEq] at hx
  obtain ⟨rfl, _⟩ := hx
  rw [List.getElem?_map] at hd
  obtain ⟨y, hy, rfl⟩ := Option.map_eq_some_iff.1 hd
  exact ⟨m, y.2, by rw [he i f hf, hy]⟩
theorem int_elem {t : TypeId} {k : IntKind} {cs : List Value} {z : Int} {p : List MemPlace} (ht : P.underlying t = some (.int k))
    (h : DataW.trod (fun _ => ()) P w base spare held fuel t cs = some (.lit (.int k z), p)) : cs = [.int k z] := by
  obtain ⟨n, rfl, hx, _⟩ := DataW.trod_int ht h
  simp only [Prod.mk.injEq, DataW.lit.injEq, Lit.int.injEq, true_and] at hx
  rw [hx.1]
theorem string_elem {t : TypeId} {cs : List Value} {l : List UInt8} {p : List MemPlace} (ht : P.underlying t = some .string)
    (h : DataW.trod (fun _ => ()) P w base spare held fuel t cs = some (.lit (.string l), p)) : cs = [.string ⟨l.toArray⟩] := by
  obtain ⟨s, rfl, hx, _⟩ := DataW.trod_string ht h
  simp only [Prod.mk.injEq, DataW.lit.injEq, Lit.string.injEq] at hx
  rw [hx.1]
end
theorem pick1 {l : List Value} {a b j : Nat} {x : Value} (h : (((l.drop a).take b).drop j).take 1 = [x]) : l[a + j]? = some x := by
  have := congrArg (·[0]?) h
  simp only [List.getElem?_take, List.getElem?_drop, Nat.add_zero, List.getElem?_cons_zero] at this
  revert this
  simp only [Nat.lt_one_iff, if_true]
  intro h2
  split at h2
  · exact h2
  · cases h2
theorem pick0 {l : List Value} {a : Nat} {x : Value} (h : (l.drop a).take 1 = [x]) : l[a]? = some x := by
  have := congrArg (·[0]?) h
  simpa [List.getElem?_take, List.getElem?_drop] using this

theorem c79 : Tryd.prog.cellsOf 79 = 4 := by kernel_rfl
theorem c3 : Tryd.prog.cellsOf 3 = 1 := by kernel_rfl
theorem g0 : Tryd.prog.globalNamed "cratewatch/tag.splits" = some 0 := by kernel_rfl
theorem ty0 : (Tryd.prog.globals[0]?).map (·.type) = some 80 := by kernel_rfl
def rowD (k : Nat) : DataW Unit := .agg [.lit (.int .i64 (cbits k)), .lit (.int .i64 (cdig k)), .lit (.int .i64 (rbits k)), .lit (.int .i64 (rdig k))]
theorem splitsD : (Rows.laid_cratewatch_tag_splits : DataW Unit) = .agg [rowD 0, rowD 1, rowD 2, rowD 3, rowD 4, rowD 5] := rfl
/-- What the list gives. -/
theorem tabs_of {W : World} {ps : List MemPlace} {l : List (String × DataW Unit)} (h : DataW.LaidVars Tryd.prog W l ps)
    (m0 : ("cratewatch/tag.splits", Rows.laid_cratewatch_tag_splits) ∈ l) (hsz : 10 ≤ W.heap.size) : Tabs W := by
  have hsp : ∀ k j : Nat, k < 6 → ∀ (f : Field) (z : Int), (match Tryd.prog.underlying 79 with | some (.struct fs) => fs[j]? | _ => none) = some f → f.type = 3 → f.offset = j → (match rowD k with | .agg ds => ds[j]? | _ => none) = some (.lit (.int .i64 z)) → W.cell? ⟨0, k * 4 + j, none⟩ = some (.int .i64 z) := by
    intro k j hk f z hf hft hfo hz
    obtain ⟨g, t, cs, fuel, p, hg, ht, hv, hd⟩ := laid_at h _ _ m0
    obtain rfl := Option.some.inj (g0.symm.trans hg)
    obtain rfl := Option.some.inj (ty0.symm.trans ht)
    rw [splitsD] at hd
    have hrow : ([rowD 0, rowD 1, rowD 2, rowD 3, rowD 4, rowD 5] : List (DataW Unit))[k]? = some (rowD k) := by
      match k, hk with
      | 0, _ | 1, _ | 2, _ | 3, _ | 4, _ | 5, _ => rfl
    obtain ⟨m, q, he⟩ := arr_elem Tryd.underlying80 hd hk hrow
    rw [c79] at he
    unfold rowD at he hz
    rw [Tryd.underlying79] at hf
    obtain ⟨m', q', he'⟩ := struct_elem Tryd.underlying79 he hf hz
    rw [hft, hfo, c3] at he'
    have := pick1 (int_elem Tryd.underlying3 he')
    rw [World.var?_cell hg hv]
    simpa using this
  refine ⟨hsz, ?_, ?_, ?_, ?_⟩
  · intro k hk
    exact hsp k 0 hk _ _ (by rw [Tryd.underlying79]; rfl) rfl rfl rfl
  · intro k hk
    exact hsp k 1 hk _ _ (by rw [Tryd.underlying79]; rfl) rfl rfl rfl
  · intro k hk
    exact hsp k 2 hk _ _ (by rw [Tryd.underlying79]; rfl) rfl rfl rfl
  · intro k hk
    exact hsp k 3 hk _ _ (by rw [Tryd.underlying79]; rfl) rfl rfl rfl
theorem row9 : (((begin Tryd.prog (fun _ _ => 0) default).world.heap[9]?).bind Obj.row?).isSome = true := by kernel_rfl
theorem glob10 : Tryd.prog.globals.size = 10 := by kernel_rfl
theorem heap10 {W : World} (h : W.ShapedOpen Tryd.prog) : 10 ≤ W.heap.size := by
  obtain ⟨⟨z, t⟩, hz⟩ := Option.isSome_iff_exists.1 row9
  obtain ⟨cs, hc, _⟩ := h.1 9 z t (by rw [glob10]; omega) hz
  rcases Nat.lt_or_ge 9 W.heap.size with h | h
  · omega
  · rw [Array.getElem?_eq_none h] at hc; cases hc
section
open Go.ChangeShapes
variable {H : Type} {enc : TypeId × Value → H} {P : Program} {w : World} {base : Nat} {spare : Nat → Bool} {held : Bool}
theorem trodAll_five {t0 t1 t2 t3 t4 : TypeId} {args : Array Value} {ds : List (DataW H)} {ps : List MemPlace} (h : DataW.TrodAll enc P w base spare held [t0, t1, t2, t3, t4] args.toList ds ps) :
    ∃ v0 v1 v2 v3 v4 d0 d1 d2 d3 d4 p0 p1 p2 p3 p4, args = #[v0, v1, v2, v3, v4] ∧ ds = [d0, d1, d2, d3, d4] ∧ ps = p0 ++ (p1 ++ (p2 ++ (p3 ++ (p4 ++ [])))) ∧ DataW.Trod enc P w base spare held t0 v0 d0 p0 ∧ DataW.Trod enc P w base spare held t1 v1 d1 p1 ∧ DataW.Trod enc P w base spare held t2 v2 d2 p2 ∧ DataW.Trod enc P w base spare held t3 v3 d3 p3 ∧ DataW.Trod enc P w base spare held t4 v4 d4 p4 := by
  obtain ⟨v0, vs0, d0, ds0, p0, q0, hargs, rfl, rfl, hd0, h0⟩ := trodAll_cons h
  obtain ⟨v1, vs1, d1, ds1, p1, q1, rfl, rfl, rfl, hd1, h1⟩ := trodAll_cons h0
  obtain ⟨v2, vs2, d2, ds2, p2, q2, rfl, rfl, rfl, hd2, h2⟩ := trodAll_cons h1
  obtain ⟨v3, vs3, d3, ds3, p3, q3, rfl, rfl, rfl, hd3, h3⟩ := trodAll_cons h2
  obtain ⟨v4, vs4, d4, ds4, p4, q4, rfl, rfl, rfl, hd4, h4⟩ := trodAll_cons h3
  obtain ⟨rfl, rfl, rfl⟩ := trodAll_nil h4
  exact ⟨v0, v1, v2, v3, v4, d0, d1, d2, d3, d4, p0, p1, p2, p3, p4, by cases args; simp_all, rfl, rfl, hd0, hd1, hd2, hd3, hd4⟩
theorem trodAll_six {t0 t1 t2 t3 t4 t5 : TypeId} {args : Array Value} {ds : List (DataW H)} {ps : List MemPlace} (h : DataW.TrodAll enc P w base spare held [t0, t1, t2, t3, t4, t5] args.toList ds ps) :
    ∃ v0 v1 v2 v3 v4 v5 d0 d1 d2 d3 d4 d5 p0 p1 p2 p3 p4 p5, args = #[v0, v1, v2, v3, v4, v5] ∧ ds = [d0, d1, d2, d3, d4, d5] ∧ ps = p0 ++ (p1 ++ (p2 ++ (p3 ++ (p4 ++ (p5 ++ []))))) ∧ DataW.Trod enc P w base spare held t0 v0 d0 p0 ∧ DataW.Trod enc P w base spare held t1 v1 d1 p1 ∧ DataW.Trod enc P w base spare held t2 v2 d2 p2 ∧ DataW.Trod enc P w base spare held t3 v3 d3 p3 ∧ DataW.Trod enc P w base spare held t4 v4 d4 p4 ∧ DataW.Trod enc P w base spare held t5 v5 d5 p5 := by
  obtain ⟨v0, vs0, d0, ds0, p0, q0, hargs, rfl, rfl, hd0, h0⟩ := trodAll_cons h
  obtain ⟨v1, vs1, d1, ds1, p1, q1, rfl, rfl, rfl, hd1, h1⟩ := trodAll_cons h0
  obtain ⟨v2, vs2, d2, ds2, p2, q2, rfl, rfl, rfl, hd2, h2⟩ := trodAll_cons h1
  obtain ⟨v3, vs3, d3, ds3, p3, q3, rfl, rfl, rfl, hd3, h3⟩ := trodAll_cons h2
  obtain ⟨v4, vs4, d4, ds4, p4, q4, rfl, rfl, rfl, hd4, h4⟩ := trodAll_cons h3
  obtain ⟨v5, vs5, d5, ds5, p5, q5, rfl, rfl, rfl, hd5, h5⟩ := trodAll_cons h4
  obtain ⟨rfl, rfl, rfl⟩ := trodAll_nil h5
  exact ⟨v0, v1, v2, v3, v4, v5, d0, d1, d2, d3, d4, d5, p0, p1, p2, p3, p4, p5, by cases args; simp_all, rfl, rfl, hd0, hd1, hd2, hd3, hd4, hd5⟩
end
end Go.Proofs.YtblkbogoelfjlaaDoor.TagA
