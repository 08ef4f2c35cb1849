/-
  Lists of frames that a call makes; a line in memory.
-/
import Derived.Test.YtjdfllocngkjpaaFrmK
import Derived.Maps.AppendAt
namespace Go.Proofs.Ytjdfllocngkjpaa.FrmA
open Go.RowKit FrmM
set_option maxRecDepth 100000

def frCells1 (f : Fr) (pc : Option Addr × Nat) : List Value := [.int .i64 f.ty, .slice pc.1 f.rs.length pc.2, .int .i64 f.wm]
def frCells : List Fr → List (Option Addr × Nat) → List Value
  | f :: fs, pc :: ps => frCells1 f pc ++ frCells fs ps
  | _, _ => []
theorem frCells_snoc : ∀ (fs : List Fr) (ps : List (Option Addr × Nat)) (f : Fr) (pc : Option Addr × Nat), ps.length = fs.length → frCells (fs ++ [f]) (ps ++ [pc]) = frCells fs ps ++ frCells1 f pc
  | [], [], f, pc, _ => by simp [frCells]
  | x :: fs, y :: ps, f, pc, h => by
    show frCells1 x y ++ frCells (fs ++ [f]) (ps ++ [pc]) = frCells1 x y ++ frCells fs ps ++ frCells1 f pc
    rw [frCells_snoc fs ps f pc (by simpa using h), List.append_assoc]
  | [], _ :: _, _, _, h => by simp at h
  | _ :: _, [], _, _, h => by simp at h
theorem frCells_append : ∀ (fs : List Fr) (ps : List (Option Addr × Nat)) (gs : List Fr) (qs : List (Option Addr × Nat)), ps.length = fs.length → frCells (fs ++ gs) (ps ++ qs) = frCells fs ps ++ frCells gs qs
  | [], [], gs, qs, _ => by simp [frCells]
  | x :: fs, y :: ps, gs, qs, h => by
    show frCells1 x y ++ frCells (fs ++ gs) (ps ++ qs) = frCells1 x y ++ frCells fs ps ++ frCells gs qs
    rw [frCells_append fs ps gs qs (by simpa using h), List.append_assoc]
  | [], _ :: _, _, _, h => by simp at h
  | _ :: _, [], _, _, h => by simp at h
theorem frCells_len : ∀ (fs : List Fr) (ps : List (Option Addr × Nat)), ps.length = fs.length → (frCells fs ps).length = fs.length * 3
  | [], [], _ => rfl
  | x :: fs, y :: ps, h => by
    show (frCells1 x y ++ frCells fs ps).length = _
    rw [List.length_append, frCells_len fs ps (by simpa using h), List.length_cons]
    show 3 + _ = _
    omega
  | [], _ :: _, h => by simp at h
  | _ :: _, [], h => by simp at h
theorem frCells_at : ∀ (fs : List Fr) (ps : List (Option Addr × Nat)) (k j : Nat) (f : Fr) (pc : Option Addr × Nat), fs[k]? = some f → ps[k]? = some pc → j < 3 → (frCells fs ps)[k * 3 + j]? = (frCells1 f pc)[j]?
  | x :: fs, y :: ps, 0, j, f, pc, hf, hp, hj => by
    simp at hf hp
    subst hf hp
    show (frCells1 x y ++ frCells fs ps)[0 * 3 + j]? = _
    rw [List.getElem?_append_left (by show 0 * 3 + j < 3; omega)]
    congr 1
    omega
  | x :: fs, y :: ps, k + 1, j, f, pc, hf, hp, hj => by
    show (frCells1 x y ++ frCells fs ps)[(k + 1) * 3 + j]? = _
    have hl : (frCells1 x y).length = 3 := rfl
    rw [List.getElem?_append_right (by rw [hl]; omega), hl, show (k + 1) * 3 + j - 3 = k * 3 + j by omega]
    exact frCells_at fs ps k j f pc (by simpa using hf) (by simpa using hp) hj
  | [], _, _, _, _, _, hf, _, _ => by simp at hf
  | _ :: _, [], _, _, _, _, _, hp, _ => by simp at hp

/-- A list of frames that the call has made; their reads lie from rb on. -/
structure FramesOwn (V : World) (base rb : Nat) (v : Value) (fs : List Fr) : Prop where
  out : ∃ ps : List (Option Addr × Nat), ps.length = fs.length ∧ V.ownsRow base 24 3 v fs.length (frCells fs ps) ∧ ∀ (k : Nat) (f : Fr) (pc : Option Addr × Nat), fs[k]? = some f → ps[k]? = some pc → ReadsOn V pc.1 f.rs ∧ (f.rs ≠ [] → ∃ b o, pc.1 = some ⟨b, o, none⟩ ∧ rb ≤ b ∧ v.ownBlock ≠ some b)
theorem FramesOwn.nil (V : World) (base rb : Nat) : FramesOwn V base rb (.slice none 0 0) [] := ⟨[], rfl, World.ownsRow_nil _ _ _ _, fun k f pc h => by simp at h⟩
theorem ReadsOn.move {V V' : World} {p : Option Addr} {rs : List Rd} (h : ReadsOn V p rs) (hs : V.heap.size ≤ V'.heap.size) (hk : ∀ b o, p = some ⟨b, o, none⟩ → b < V.heap.size → V'.heap[b]? = V.heap[b]?) : ReadsOn V' p rs where
  tags := h.tags
  at_ := fun hne => by
    obtain ⟨b, o, rfl, hlt, hc⟩ := h.at_ hne
    exact ⟨b, o, rfl, Nat.lt_of_lt_of_le hlt hs, fun k r hr => (hc k r hr).keep (hk b o rfl hlt)⟩
theorem ReadsOn.empty {V V' : World} {p : Option Addr} (h : ReadsOn V p []) : ReadsOn V' p [] := ⟨h.tags, fun hn => absurd rfl hn⟩
theorem own_move {V V' : World} {base : Nat} {e : TypeId} {size : Nat} {v : Value} {n : Nat} {xs : List Value} (h : V.ownsRow base e size v n xs) (hk : ∀ k, k < V.heap.size → base ≤ k → V'.heap[k]? = V.heap[k]?) : V'.ownsRow base e size v n xs := by
  obtain ⟨h1, h2⟩ := h
  refine ⟨h1, ?_⟩
  rcases h2 with h2 | ⟨g, cap, cur, hv, hg, hh, r⟩
  · exact Or.inl h2
  · refine Or.inr ⟨g, cap, cur, hv, hg, ?_, r⟩
    have hlt : g < V.heap.size := by
      rcases Nat.lt_or_ge g V.heap.size with h | h
      · exact h
      · rw [Array.getElem?_eq_none h] at hh; cases hh
    rw [hk g hlt hg]
    exact hh
theorem FramesOwn.move {V V' : World} {base rb : Nat} {v : Value} {fs : List Fr} (h : FramesOwn V base rb v fs) (hs : V.heap.size ≤ V'.heap.size) (hk : ∀ k, k < V.heap.size → (base ≤ k ∨ rb ≤ k) → V'.heap[k]? = V.heap[k]?) : FramesOwn V' base rb v fs := by
  obtain ⟨ps, hl, ho, hr⟩ := h.out
  refine ⟨ps, hl, own_move ho (fun k h1 h2 => hk k h1 (Or.inl h2)), fun k f pc hf hp => ?_⟩
  obtain ⟨h1, h2⟩ := hr k f pc hf hp
  refine ⟨?_, h2⟩
  by_cases hne : f.rs = []
  · rw [hne] at h1 ⊢
    exact h1.empty
  · obtain ⟨b, o, hb, hrb, _⟩ := h2 hne
    refine h1.move hs (fun b' o' hp' hlt => hk b' hlt (Or.inr ?_))
    rw [hb] at hp'
    simp at hp'
    omega
theorem FramesOwn.below {V V' : World} {base rb : Nat} {v : Value} {fs : List Fr} (h : FramesOwn V base rb v fs) (hb : Below V.heap.size V V') : FramesOwn V' base rb v fs := h.move hb.size (fun k h1 _ => hb.block k h1)
theorem FramesOwn.alloc {V : World} {base rb : Nat} {v : Value} {fs : List Fr} (h : FramesOwn V base rb v fs) (o : Obj) : FramesOwn (V.alloc o) base rb v fs := h.below ((Below.refl _ V).alloc (Nat.le_refl _) o)
/-- A frame is put behind them. -/
theorem FramesOwn.snoc {V V1 : World} {base rb g cap : Nat} {v : Value} {fs : List Fr} {f : Fr} {p : Option Addr} {c : Nat} {ps : List (Option Addr × Nat)} (hl : ps.length = fs.length)
    (hr : ∀ (k : Nat) (f : Fr) (pc : Option Addr × Nat), fs[k]? = some f → ps[k]? = some pc → ReadsOn V pc.1 f.rs ∧ (f.rs ≠ [] → ∃ b o, pc.1 = some ⟨b, o, none⟩ ∧ rb ≤ b ∧ v.ownBlock ≠ some b))
    (ho : V1.ownsRow base 24 3 (.slice (some ⟨g, 0, none⟩) (fs.length + 1) cap) (fs.length + 1) (frCells fs ps ++ frCells1 f (p, c))) (hg : V.grownBy V1 v.ownBlock) (hat : v.ownBlock = some g ∨ g = V.heap.size)
    (hf : ReadsOn V p f.rs) (hb : f.rs ≠ [] → ∃ b o, p = some ⟨b, o, none⟩ ∧ rb ≤ b ∧ v.ownBlock ≠ some b) : FramesOwn V1 base rb (.slice (some ⟨g, 0, none⟩) (fs.length + 1) cap) (fs ++ [f]) := by
  have key : ∀ (q : Option Addr) (rs : List Rd), ReadsOn V q rs → (rs ≠ [] → ∃ b o, q = some ⟨b, o, none⟩ ∧ rb ≤ b ∧ v.ownBlock ≠ some b) → ReadsOn V1 q rs ∧ (rs ≠ [] → ∃ b o, q = some ⟨b, o, none⟩ ∧ rb ≤ b ∧ (Value.slice (some ⟨g, 0, none⟩) (fs.length + 1) cap).ownBlock ≠ some b) := by
    intro q rs h1 h2
    by_cases hne : rs = []
    · subst hne
      exact ⟨h1.empty, fun h => absurd rfl h⟩
    · obtain ⟨b, o, rfl, h3, h4⟩ := h2 hne
      obtain ⟨b', o', hq, hlt, _⟩ := h1.at_ hne
      simp at hq
      obtain ⟨rfl, rfl⟩ := hq
      refine ⟨h1.move hg.size (fun b' o' hp hlt => ?_), fun _ => ⟨b, o, rfl, h3, ?_⟩⟩
      · simp at hp
        obtain ⟨rfl, rfl⟩ := hp
        exact hg.block b hlt (fun e => h4 e.symm)
      · show some g ≠ some b
        rcases hat with hat | hat
        · rw [← hat]; exact h4
        · intro e
          simp at e
          omega
  refine ⟨ps ++ [(p, c)], by simp [hl], ?_, ?_⟩
  · rw [List.length_append, frCells_snoc fs ps f (p, c) hl]
    exact ho
  · intro k x pc hx hp
    rcases Nat.lt_or_ge k fs.length with hk | hk
    · rw [List.getElem?_append_left hk] at hx
      rw [List.getElem?_append_left (by omega)] at hp
      obtain ⟨h1, h2⟩ := hr k x pc hx hp
      exact key pc.1 x.rs h1 h2
    · rw [List.getElem?_append_right hk] at hx
      rw [List.getElem?_append_right (by omega)] at hp
      obtain rfl : k = fs.length := by
        rcases Nat.lt_or_ge fs.length k with h | h
        · rw [List.getElem?_eq_none (by simp; omega)] at hx; cases hx
        · omega
      simp at hx
      rw [hl] at hp
      simp at hp
      subst hx hp
      exact key p f.rs hf hb
theorem FramesOwn.on {V : World} {base rb : Nat} {v : Value} {fs : List Fr} (h : FramesOwn V base rb v fs) : ∃ p cap, v = .slice p fs.length cap ∧ FramesOn V p fs := by
  obtain ⟨ps, hl, ho, hr⟩ := h.out
  by_cases hne : fs = []
  · subst hne
    rcases ho.2 with ⟨rfl, h0⟩ | ⟨g, cap, cur, hv, _⟩
    · exact ⟨none, 0, rfl, ⟨fun hn => absurd rfl hn⟩⟩
    · exact ⟨_, cap, hv, ⟨fun hn => absurd rfl hn⟩⟩
  · obtain ⟨g, cap, rfl, h1, h2⟩ := ho.form (List.length_pos_iff.2 hne)
    refine ⟨_, cap, rfl, ⟨fun _ => ⟨g, 0, rfl, h2, fun k f hf => ?_⟩⟩⟩
    have hk : k < fs.length := by
      rcases Nat.lt_or_ge k fs.length with h | h
      · exact h
      · rw [List.getElem?_eq_none h] at hf; cases hf
    have hpk : ps[k]? = some ps[k] := List.getElem?_eq_getElem (by omega)
    have hc : ∀ j u, j < 3 → (frCells1 f ps[k])[j]? = some u → V.cell? ⟨g, 0 + k * 3 + j, none⟩ = some u := by
      intro j u hj hu
      have := ho.cells (g := g) rfl (k * 3 + j) u (by rw [frCells_at fs ps k j f _ hf hpk hj]; exact hu)
      rw [addr_add] at this
      rw [Nat.zero_add]
      exact this
    exact ⟨ps[k].1, ps[k].2, hc 0 _ (by omega) rfl, hc 1 _ (by omega) rfl, hc 2 _ (by omega) rfl, (hr k f _ hf hpk).1⟩

/-- A line in memory. -/
structure LineAt (w : World) (lb : Nat) (t : TypeId) (rest : ByteArray) (lost : Nat) : Prop where
  at_ : w.heap[lb]? = some (.cells #[.string rest, .int .i64 (lost : Int)] t)
theorem LineAt.c0 {w : World} {lb : Nat} {t : TypeId} {rest : ByteArray} {lost : Nat} (h : LineAt w lb t rest lost) : w.cell? ⟨lb, 0, none⟩ = some (.string rest) := by simp [World.cell?, h.at_]
theorem LineAt.c1 {w : World} {lb : Nat} {t : TypeId} {rest : ByteArray} {lost : Nat} (h : LineAt w lb t rest lost) : w.cell? ⟨lb, 1, none⟩ = some (.int .i64 (lost : Int)) := by simp [World.cell?, h.at_]
theorem LineAt.fz {w : World} {lb : Nat} {t : TypeId} {rest : ByteArray} {lost : Nat} (h : LineAt w lb t rest lost) (i : Nat) : w.frozen? ⟨lb, i, none⟩ = false := by simp [World.frozen?, h.at_]
theorem LineAt.lt {w : World} {lb : Nat} {t : TypeId} {rest : ByteArray} {lost : Nat} (h : LineAt w lb t rest lost) : lb < w.heap.size := by
  obtain ⟨hlt, _⟩ := Array.getElem?_eq_some_iff.1 h.at_
  exact hlt
theorem LineAt.keep {w w' : World} {lb : Nat} {t : TypeId} {rest : ByteArray} {lost : Nat} (h : LineAt w lb t rest lost) (e : w'.heap[lb]? = w.heap[lb]?) : LineAt w' lb t rest lost := ⟨e.trans h.at_⟩
theorem LineAt.set0 {w : World} {lb : Nat} {t : TypeId} {rest : ByteArray} {lost : Nat} (h : LineAt w lb t rest lost) (r : ByteArray) : LineAt (w.setCell ⟨lb, 0, none⟩ (.string r)) lb t r lost := by
  refine ⟨?_⟩
  simp [World.setCell, Array.getElem?_modify, h.at_]
theorem LineAt.set1 {w : World} {lb : Nat} {t : TypeId} {rest : ByteArray} {lost : Nat} (h : LineAt w lb t rest lost) (m : Nat) {z : Int} (hz : z = (m : Int)) : LineAt (w.setCell ⟨lb, 1, none⟩ (.int .i64 z)) lb t rest m := by
  refine ⟨?_⟩
  subst hz
  simp [World.setCell, Array.getElem?_modify, h.at_]
theorem LineAt.made (w : World) (t : TypeId) (rest : ByteArray) (lost : Nat) : LineAt (w.alloc (.cells #[.string rest, .int .i64 (lost : Int)] t)) w.heap.size t rest lost := ⟨Go.heap_alloc_new w _⟩

/-- Below B, but for one block, all is as it was. -/
structure But (B lb : Nat) (w w' : World) : Prop where
  os : w'.os = w.os
  tape : w'.tape = w.tape
  output : w'.output = w.output
  size : w.heap.size ≤ w'.heap.size
  block : ∀ k, k < B → k ≠ lb → w'.heap[k]? = w.heap[k]?
theorem But.refl (B lb : Nat) (w : World) : But B lb w w := ⟨rfl, rfl, rfl, Nat.le_refl _, fun _ _ _ => rfl⟩
theorem But.trans {B lb : Nat} {a b c : World} (h : But B lb a b) (k : But B lb b c) : But B lb a c :=
  ⟨k.os.trans h.os, k.tape.trans h.tape, k.output.trans h.output, Nat.le_trans h.size k.size, fun i hi hn => (k.block i hi hn).trans (h.block i hi hn)⟩
theorem below_but {B : Nat} {a b : World} (h : Below B a b) (lb : Nat) : But B lb a b := ⟨h.os, h.tape, h.output, h.size, fun k hk _ => h.block k hk⟩
theorem But.mono {B B' lb : Nat} {a b : World} (h : But B lb a b) (hB : B' ≤ B) : But B' lb a b := ⟨h.os, h.tape, h.output, h.size, fun k hk hn => h.block k (Nat.lt_of_lt_of_le hk hB) hn⟩
theorem But.set {B lb : Nat} {a b : World} (h : But B lb a b) (i : Nat) (v : Value) : But B lb a (b.setCell ⟨lb, i, none⟩ v) :=
  h.trans ⟨rfl, rfl, rfl, by simp [World.setCell], fun k _ hn => Below.heap_setCell _ _ _ _ hn⟩
theorem But.below {B lb : Nat} {a b : World} (h : But B lb a b) (hb : B ≤ lb) : Below B a b := ⟨h.os, h.tape, h.output, h.size, fun k hk => h.block k hk (by omega)⟩
end Go.Proofs.Ytjdfllocngkjpaa.FrmA
