/-
  Who is in whom, in memory.
-/
import Derived.Test.YtblkbogoelfjlaaDoorTkH
import Derived.Test.YtblkbogoelfjlaaDoorInM
namespace Go.Proofs.YtblkbogoelfjlaaDoor.InA
open Go.RowKit TkM TkW TkA InM Go.Maps
set_option maxRecDepth 100000

/-- How a parent lies in a map: none isn't there. -/
def pdat (zd : DataW Value) (p : ByteArray) : DataW Value := if p = ⟨#[]⟩ then zd else .held (.agg #[.string p])
structure MapIs (w : World) (b : Nat) (r : Nat) (pf : ByteArray → ByteArray) : Prop where
  out : ∃ (m : Nat) (D : DataW Value), w.ownsMap Tryd.prog 9 heldV b m D ∧ m ≤ r ∧ ∀ (g : ByteArray) (zd : DataW Value), D.atKey (.string g.data.toList) zd = pdat zd (pf g)
theorem MapIs.keep {w w' : World} {b r : Nat} {pf : ByteArray → ByteArray} (h : MapIs w b r pf) (e : w'.heap[b]? = w.heap[b]?) : MapIs w' b r pf := by
  obtain ⟨m, D, h1, h2, h3⟩ := h.out
  exact ⟨m, D, map_keep h1 e, h2, h3⟩
theorem MapIs.lt {w : World} {b r : Nat} {pf : ByteArray → ByteArray} (h : MapIs w b r pf) : b < w.heap.size := by
  obtain ⟨m, D, h1, h2, h3⟩ := h.out
  exact h1.lt
theorem MapIs.tag {w : World} {b r : Nat} {pf : ByteArray → ByteArray} (h : MapIs w b r pf) : ∀ c t f, w.heap[b]? ≠ some (.cells c t f) := fun c t f e => by
  obtain ⟨m, D, ⟨es, clock, hb, _⟩, h2, h3⟩ := h.out
  rw [hb] at e
  simp at e
theorem MapIs.new (w : World) : MapIs (w.alloc (.map #[] 0)) w.heap.size 0 (fun _ => ⟨#[]⟩) :=
  ⟨0, .map [], World.ownsMap_made w Tryd.prog 9 heldV, Nat.le_refl _, fun g zd => by unfold pdat; rw [if_pos rfl]; rfl⟩
theorem MapIs.look {w : World} {b r : Nat} {pf : ByteArray → ByteArray} (h : MapIs w b r pf) (g : ByteArray) (hg : g.size ≤ 100000) : (Instr.lookup 108 (.map (some b)) (.string g) false).run Tryd.prog w = .ok (.agg #[.string (pf g)]) w := by
  obtain ⟨m, D, h1, h2, h3⟩ := h.out
  obtain ⟨u, ps, hrun, hR⟩ := h1.lookup law9 Tryd.underlying108 (show (zeroValue 117).run Tryd.prog w = .ok (.agg #[.string ⟨#[]⟩]) w by kernel_rfl) (zd := .held (.agg #[.string ⟨#[]⟩])) (zp := []) rfl (key9 (g := g) (by unfold maxLen; omega))
  rw [h3] at hR
  unfold heldV at hR
  simp at hR
  have e : u = .agg #[.string (pf g)] := by
    unfold pdat at hR
    by_cases hp : pf g = ⟨#[]⟩
    · rw [if_pos hp] at hR
      rw [hp]
      simpa using hR.1
    · rw [if_neg hp] at hR
      simpa using hR.1
  rw [← e]
  exact hrun
theorem look_nil (g : ByteArray) (w : World) (_hg : g.size ≤ 100000) : (Instr.lookup 108 (.map none) (.string g) false).run Tryd.prog w = .ok (.agg #[.string ⟨#[]⟩]) w := by
  kernel_rfl
theorem MapIs.put {w : World} {b r : Nat} {pf : ByteArray → ByteArray} (h : MapIs w b r pf) (g p : ByteArray) (hg : g.size ≤ 100000) (hp : p ≠ ⟨#[]⟩) (hr : r ≤ 100000) :
    ∃ w', (Instr.mapUpdate 108 (.map (some b)) (.string g) (.agg #[.string p])).run Tryd.prog w = .ok () w' ∧ MapIs w' b (r + 1) (fun x => if x = g then p else pf x) ∧ w.grownBy w' (some b) := by
  obtain ⟨m, D, h1, h2, h3⟩ := h.out
  obtain ⟨w', hrun, hm, hgr⟩ := h1.update (val := .agg #[.string p]) (d := .held (.agg #[.string p])) (ps := []) law9 Tryd.underlying108 (by unfold maxLen; omega) (key9 (g := g) (by unfold maxLen; omega)) rfl
  refine ⟨w', hrun, ⟨m + 1, _, hm, by omega, fun x zd => ?_⟩, hgr⟩
  by_cases e : x = g
  · subst e
    rw [Maps.atKey_put_same h1.isMap (keyStr _), if_pos rfl]
    unfold pdat
    rw [if_neg hp]
  · rw [Maps.atKey_put_other (fun e' => e (bytes_ext (by simpa using e'))), h3, if_neg e]

structure InIn (w : World) (xb tb : Nat) (v : Value) (ms : List Nat) (F : Nat → Prop) (span score k : Nat) (f : Nat → ByteArray → ByteArray) : Prop where
  cells : w.heap[xb]? = some (.cells #[.pointer (some ⟨tb, 0, none⟩), .int .i64 (span : Int), .int .i64 (score : Int), v] 102)
  len : ms.length = k
  own : w.ownsRow 0 108 1 v k (ms.map (fun b => Value.map (some b)))
  maps : ∀ (e b : Nat), ms[e]? = some b → MapIs w b 90000 (f e)
  fx : F xb
  fv : ∀ b, v.ownBlock = some b → F b
  fm : ∀ b, b ∈ ms → F b
  lim : ∀ b, F b → b < w.heap.size
structure InAt (w : World) (xb tb : Nat) (F : Nat → Prop) (span score k : Nat) (f : Nat → ByteArray → ByteArray) : Prop where
  out : ∃ (v : Value) (ms : List Nat), InIn w xb tb v ms F span score k f
section
variable {w w' : World} {xb tb : Nat} {v : Value} {ms : List Nat} {F : Nat → Prop} {span score k : Nat} {f : Nat → ByteArray → ByteArray}
theorem InIn.c0 (d : InIn w xb tb v ms F span score k f) : w.cell? ⟨xb, 0, none⟩ = some (.pointer (some ⟨tb, 0, none⟩)) := by simp [World.cell?, d.cells]
theorem InIn.c1 (d : InIn w xb tb v ms F span score k f) : w.cell? ⟨xb, 1, none⟩ = some (.int .i64 (span : Int)) := by simp [World.cell?, d.cells]
theorem InIn.c2 (d : InIn w xb tb v ms F span score k f) : w.cell? ⟨xb, 2, none⟩ = some (.int .i64 (score : Int)) := by simp [World.cell?, d.cells]
theorem InIn.c3 (d : InIn w xb tb v ms F span score k f) : w.cell? ⟨xb, 3, none⟩ = some v := by simp [World.cell?, d.cells]
theorem InIn.fz (d : InIn w xb tb v ms F span score k f) (i : Nat) : w.frozen? ⟨xb, i, none⟩ = false := by simp [World.frozen?, d.cells]
theorem InIn.lt (d : InIn w xb tb v ms F span score k f) : xb < w.heap.size := d.lim _ d.fx
theorem InIn.vne (d : InIn w xb tb v ms F span score k f) {b : Nat} (hb : v.ownBlock = some b) : b ≠ xb ∧ b ∉ ms := by
  obtain ⟨cur, hc⟩ := own_tag d.own hb
  constructor
  · rintro rfl
    rw [d.cells] at hc
    simp at hc
  · intro hm
    obtain ⟨e, he⟩ := List.mem_iff_getElem?.1 hm
    exact (d.maps e b he).tag _ _ _ hc
theorem InIn.move (d : InIn w xb tb v ms F span score k f) (hs : w.heap.size ≤ w'.heap.size) (hk : ∀ b, b < w.heap.size → F b → w'.heap[b]? = w.heap[b]?) : InIn w' xb tb v ms F span score k f where
  cells := by rw [hk xb d.lt d.fx]; exact d.cells
  len := d.len
  own := own_keep d.own (fun b hb => hk b (own_lt d.own hb) (d.fv b hb))
  maps := fun e b h => (d.maps e b h).keep (hk b (d.maps e b h).lt (d.fm b (List.mem_of_getElem? h)))
  fx := d.fx
  fv := d.fv
  fm := d.fm
  lim := fun b hb => Nat.lt_of_lt_of_le (d.lim b hb) hs
theorem InAt.move (d : InAt w xb tb F span score k f) (hs : w.heap.size ≤ w'.heap.size) (hk : ∀ b, b < w.heap.size → F b → w'.heap[b]? = w.heap[b]?) : InAt w' xb tb F span score k f := by
  obtain ⟨v, ms, d⟩ := d.out
  exact ⟨v, ms, d.move hs hk⟩
theorem InAt.below (d : InAt w xb tb F span score k f) (hb : Below w.heap.size w w') : InAt w' xb tb F span score k f := d.move hb.size (fun b h _ => hb.block b h)
theorem InAt.kp {G : Nat → Prop} (d : InAt w xb tb F span score k f) (hb : Kp G w w') (hF : ∀ b, F b → ¬ G b) : InAt w' xb tb F span score k f := d.move hb.size (fun b h hf => hb.block b h (hF b hf))
theorem InAt.lim (d : InAt w xb tb F span score k f) {b : Nat} (h : F b) : b < w.heap.size := by obtain ⟨v, ms, d⟩ := d.out; exact d.lim b h
theorem InAt.lt (d : InAt w xb tb F span score k f) : xb < w.heap.size := by obtain ⟨v, ms, d⟩ := d.out; exact d.lt
theorem InIn.form (d : InIn w xb tb v ms F span score k f) : ∃ p cap, v = .slice p k cap ∧ ∀ e b, ms[e]? = some b → ∃ g, p = some ⟨g, 0, none⟩ ∧ w.cell? ⟨g, e, none⟩ = some (.map (some b)) := by
  have hl := d.len
  have ho := d.own
  rcases Nat.eq_zero_or_pos k with h0 | h0
  · have : ms = [] := List.length_eq_zero_iff.1 (by omega)
    subst this
    subst h0
    rcases ho.2 with ⟨rfl, _⟩ | ⟨g, cap, cur, hv, _⟩
    · exact ⟨none, 0, rfl, fun e b h => by simp at h⟩
    · exact ⟨_, cap, hv, fun e b h => by simp at h⟩
  · obtain ⟨g, cap, rfl, _, _⟩ := ho.form h0
    refine ⟨some ⟨g, 0, none⟩, cap, rfl, fun e b hx => ⟨g, rfl, ?_⟩⟩
    have := ho.cells (g := g) rfl e (.map (some b)) (by simp [hx])
    rw [addr_add] at this
    exact this
/-- A further epoch. -/
theorem InIn.next {V3 V4 : World} {g cap mb : Nat} {pf : ByteArray → ByteArray} (d : InIn w xb tb v ms F span score k f) (hb : Below w.heap.size w w') (hmb : w.heap.size ≤ mb) (hm : MapIs w' mb 90000 pf)
    (ho : V3.ownsRow w.heap.size 108 1 (.slice (some ⟨g, 0, none⟩) (k + 1) cap) (k + 1) ((ms.map (fun b => Value.map (some b))) ++ [.map (some mb)]) ∨ V3.ownsRow 0 108 1 (.slice (some ⟨g, 0, none⟩) (k + 1) cap) (k + 1) ((ms.map (fun b => Value.map (some b))) ++ [.map (some mb)]))
    (hg : w'.grownBy V3 v.ownBlock) (hat : v.ownBlock = some g ∨ w'.heap.size ≤ g) (hV4 : V4 = V3.setCell ⟨xb, 3, none⟩ (.slice (some ⟨g, 0, none⟩) (k + 1) cap)) :
    InIn V4 xb tb (.slice (some ⟨g, 0, none⟩) (k + 1) cap) (ms ++ [mb]) (fun b => F b ∨ (w.heap.size ≤ b ∧ b < V3.heap.size)) span score (k + 1) (fnext f k pf) ∧ Kp F w V4 := by
  have ho' : V3.ownsRow 0 108 1 (.slice (some ⟨g, 0, none⟩) (k + 1) cap) (k + 1) ((ms.map (fun b => Value.map (some b))) ++ [.map (some mb)]) := by
    rcases ho with ho | ho
    · exact own_base ho (Nat.zero_le _)
    · exact ho
  have hxne : v.ownBlock ≠ some xb := fun e => (d.vne e).1 rfl
  have hgx : g ≠ xb := by
    rcases hat with h | h
    · exact (d.vne h).1
    · have := d.lt; have := hb.size; omega
  have hx3 : V3.heap[xb]? = some (.cells #[.pointer (some ⟨tb, 0, none⟩), .int .i64 (span : Int), .int .i64 (score : Int), v] 102) := by
    rw [hg.block xb (Nat.lt_of_lt_of_le d.lt hb.size) (fun e => hxne e.symm), hb.block xb d.lt]
    exact d.cells
  have hk4 : ∀ b, b ≠ xb → V4.heap[b]? = V3.heap[b]? := fun b hne => by rw [hV4]; exact Below.heap_setCell _ _ _ _ hne
  have hs4 : V4.heap.size = V3.heap.size := by rw [hV4]; simp [World.setCell]
  have hsz := hg.size
  have hbz := hb.size
  have hmlt := hm.lt
  refine ⟨⟨?_, by simp [d.len], ?_, ?_, Or.inl d.fx, ?_, ?_, ?_⟩, ?_⟩
  · rw [hV4]
    simp [World.setCell, Array.getElem?_modify, hx3]
  · rw [List.map_append]
    exact own_keep ho' (fun b hb' => hk4 b (by simp [Value.ownBlock] at hb'; omega))
  · intro e b h
    have hmv : v.ownBlock ≠ some mb := fun e => by have := own_lt d.own e; omega
    by_cases he : e < ms.length
    · rw [List.getElem?_append_left he] at h
      have hmm := d.maps e b h
      have hF : fnext f k pf e = f e := by funext x; unfold fnext; rw [if_neg (by have := d.len; omega)]
      rw [hF]
      refine hmm.keep ?_
      rw [hk4 b ?_, hg.block b (Nat.lt_of_lt_of_le hmm.lt hbz) (fun e' => (d.vne e'.symm).2 (List.mem_of_getElem? h)), hb.block b hmm.lt]
      rintro rfl
      exact hmm.tag _ _ _ d.cells
    · have he' : e = ms.length := by
        have := (List.getElem?_eq_some_iff.1 h).1
        simp at this
        omega
      subst he'
      have : b = mb := by simpa using h.symm
      subst this
      have hF : fnext f k pf ms.length = pf := by funext x; unfold fnext; rw [if_pos d.len]
      rw [hF]
      refine hm.keep ?_
      rw [hk4 b (by have := d.lt; omega), hg.block b hmlt (fun e' => hmv e'.symm)]
  · intro b hb'
    simp [Value.ownBlock] at hb'
    subst hb'
    rcases hat with h | h
    · exact Or.inl (d.fv _ h)
    · exact Or.inr ⟨by omega, (ho'.lt g rfl).2⟩
  · intro b hb'
    rcases List.mem_append.1 hb' with h | h
    · exact Or.inl (d.fm b h)
    · have : b = mb := by simpa using h
      exact Or.inr ⟨by omega, by omega⟩
  · intro b hb'
    rw [hs4]
    rcases hb' with h | h
    · have := d.lim b h; omega
    · exact h.2
  · refine ⟨?_, ?_, ?_, by omega, fun b hlt hn => ?_⟩
    · rw [hV4]; exact hg.os.trans hb.os
    · rw [hV4]; exact hg.tape.trans hb.tape
    · rw [hV4]; exact hg.output.trans hb.output
    · rw [hk4 b (fun e => hn (e ▸ d.fx)), hg.block b (by omega) (fun e => hn (d.fv b e.symm)), hb.block b hlt]
end
end Go.Proofs.YtblkbogoelfjlaaDoor.InA
