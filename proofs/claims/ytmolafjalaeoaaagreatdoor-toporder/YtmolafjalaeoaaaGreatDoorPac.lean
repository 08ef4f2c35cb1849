/-
  Sights, epochs and desks in memory.
-/
import Derived.Test.YtmolafjalaeoaaaGreatDoorProg
import Derived.Test.YtmolafjalaeoaaaGreatDoorPaa
import Derived.Test.YtmolafjalaeoaaaGreatDoorPab
import Derived.WalkKit
import Derived.WalkSpells
import Derived.WalkLawsBesides
import Derived.Deep.QuietTactic
import Derived.BigQuiet
import Derived.Maps.OwnSet
import Derived.Maps.OwnOps
import Derived.Maps.AppendAt
import Derived.Deep.AppendLies
namespace Go.Proofs.YtmolafjalaeoaaaGreatDoor.EpW
open Go.RowKit EpM TkW Go.Maps
open TkM (Sg)
set_option maxRecDepth 100000
/-- A row of sights, read. -/
theorem own_sgs {V : World} {base : Nat} {v : Value} {xs : List Sg} (h : V.ownsRow base 43 4 v xs.length (sgcs xs)) : ∃ p cap, v = .slice p xs.length cap ∧ SgsOn V p xs := by
  by_cases hne : xs = []
  · subst hne
    rcases h.2 with ⟨rfl, h0⟩ | ⟨g, cap, cur, hv, _⟩
    · exact ⟨none, 0, rfl, SgsOn.empty⟩
    · exact ⟨_, cap, hv, SgsOn.empty⟩
  · obtain ⟨g, cap, rfl, h1, h2⟩ := h.form (List.length_pos_iff.2 hne)
    refine ⟨_, cap, rfl, ⟨fun _ => ⟨g, 0, rfl, h2, fun k x hx => ?_⟩⟩⟩
    have hc : ∀ j u, j < 4 → (sgc x)[j]? = some u → V.cell? ⟨g, 0 + k * 4 + j, none⟩ = some u := by
      intro j u hj hu
      have := h.cells (g := g) rfl (k * 4 + j) u (by rw [sgcs_at xs k j x hx hj]; exact hu)
      rw [addr_add] at this
      rw [Nat.zero_add]
      exact this
    exact ⟨hc 0 _ (by omega) rfl, hc 1 _ (by omega) rfl, hc 2 _ (by omega) rfl, hc 3 _ (by omega) rfl⟩
def epc1 (e : Nat × List Sg) (pc : Option Addr × Nat) : List Value := [.int .i64 (e.1 : Int), .slice pc.1 e.2.length pc.2]
def epcs : List (Nat × List Sg) → List (Option Addr × Nat) → List Value
  | e :: es, pc :: ps => epc1 e pc ++ epcs es ps
  | _, _ => []
theorem epcs_snoc : ∀ (es : List (Nat × List Sg)) (ps : List (Option Addr × Nat)) (e : Nat × List Sg) (pc : Option Addr × Nat), ps.length = es.length → epcs (es ++ [e]) (ps ++ [pc]) = epcs es ps ++ epc1 e pc
  | [], [], e, pc, _ => by simp [epcs]
  | x :: es, y :: ps, e, pc, h => by
    show epc1 x y ++ epcs (es ++ [e]) (ps ++ [pc]) = epc1 x y ++ epcs es ps ++ epc1 e pc
    rw [epcs_snoc es ps e pc (by simpa using h), List.append_assoc]
  | [], _ :: _, _, _, h => by simp at h
  | _ :: _, [], _, _, h => by simp at h
theorem epcs_at : ∀ (es : List (Nat × List Sg)) (ps : List (Option Addr × Nat)) (k j : Nat) (e : Nat × List Sg) (pc : Option Addr × Nat), es[k]? = some e → ps[k]? = some pc → j < 2 → (epcs es ps)[k * 2 + j]? = (epc1 e pc)[j]?
  | x :: es, y :: ps, 0, j, f, pc, hf, hp, hj => by
    simp at hf hp
    subst hf hp
    show (epc1 x y ++ epcs es ps)[0 * 2 + j]? = _
    rw [List.getElem?_append_left (by show 0 * 2 + j < 2; omega)]
    congr 1
    omega
  | x :: es, y :: ps, k + 1, j, f, pc, hf, hp, hj => by
    show (epc1 x y ++ epcs es ps)[(k + 1) * 2 + j]? = _
    have hl : (epc1 x y).length = 2 := rfl
    rw [List.getElem?_append_right (by rw [hl]; omega), hl, show (k + 1) * 2 + j - 2 = k * 2 + j by omega]
    exact epcs_at es ps k j f pc (by simpa using hf) (by simpa using hp) hj
  | [], _, _, _, _, _, hf, _, _ => by simp at hf
  | _ :: _, [], _, _, _, _, _, hp, _ => by simp at hp
structure EpAt (w : World) (b o : Nat) (e : Nat × List Sg) (p : Option Addr) (cap : Nat) : Prop where
  c0 : w.cell? ⟨b, o, none⟩ = some (.int .i64 (e.1 : Int))
  c1 : w.cell? ⟨b, o + 1, none⟩ = some (.slice p e.2.length cap)
  sg : SgsOn w p e.2
/-- A list of epochs, wherever it lies. -/
structure EpsOn (w : World) (a : Option Addr) (es : List (Nat × List Sg)) : Prop where
  at_ : es ≠ [] → ∃ b o, a = some ⟨b, o, none⟩ ∧ b < w.heap.size ∧ ∀ k e, es[k]? = some e → ∃ p cap, EpAt w b (o + k * 2) e p cap
/-- A list of epochs that the call has made: its row from base on; the rows of its sights within G. -/
structure EpsOwn (V : World) (base : Nat) (G : Nat → Prop) (v : Value) (es : List (Nat × List Sg)) : Prop where
  out : ∃ ps : List (Option Addr × Nat), ps.length = es.length ∧ V.ownsRow base 125 2 v es.length (epcs es ps) ∧ ∀ (k : Nat) (e : Nat × List Sg) (pc : Option Addr × Nat), es[k]? = some e → ps[k]? = some pc → SgsOn V pc.1 e.2 ∧ (e.2 ≠ [] → ∃ b o, pc.1 = some ⟨b, o, none⟩ ∧ G b ∧ v.ownBlock ≠ some b)
theorem EpsOwn.nil (V : World) (base : Nat) (G : Nat → Prop) : EpsOwn V base G (.slice none 0 0) [] := ⟨[], rfl, World.ownsRow_nil _ _ _ _, fun k f pc h => by simp at h⟩
theorem EpsOwn.move {V V' : World} {base : Nat} {G : Nat → Prop} {v : Value} {es : List (Nat × List Sg)} (h : EpsOwn V base G v es) (hs : V.heap.size ≤ V'.heap.size) (hk : ∀ k, k < V.heap.size → (base ≤ k ∨ G k) → V'.heap[k]? = V.heap[k]?) : EpsOwn V' base G v es := by
  obtain ⟨ps, hl, ho, hr⟩ := h.out
  refine ⟨ps, hl, own_keep ho (fun k h1 => hk k (own_lt ho h1) (Or.inl (ho.lt k h1).1)), fun k f pc hf hp => ?_⟩
  obtain ⟨h1, h2⟩ := hr k f pc hf hp
  refine ⟨?_, h2⟩
  by_cases hne : f.2 = []
  · rw [hne]
    exact SgsOn.empty
  · obtain ⟨b, o, hb, hrb, _⟩ := h2 hne
    refine h1.move hs (fun b' o' hp' hlt => hk b' hlt (Or.inr ?_))
    rw [hb] at hp'
    simp at hp'
    rw [← hp'.1]
    exact hrb
theorem EpsOwn.mono {V : World} {base : Nat} {G G' : Nat → Prop} {v : Value} {es : List (Nat × List Sg)} (h : EpsOwn V base G v es) (hG : ∀ k, G k → G' k) : EpsOwn V base G' v es := by
  obtain ⟨ps, hl, ho, hr⟩ := h.out
  refine ⟨ps, hl, ho, fun k f pc hf hp => ?_⟩
  obtain ⟨h1, h2⟩ := hr k f pc hf hp
  refine ⟨h1, fun hne => ?_⟩
  obtain ⟨b, o, hb, hrb, hv⟩ := h2 hne
  exact ⟨b, o, hb, hG b hrb, hv⟩
theorem EpsOwn.below {V V' : World} {base : Nat} {G : Nat → Prop} {v : Value} {es : List (Nat × List Sg)} (h : EpsOwn V base G v es) (hb : Below V.heap.size V V') : EpsOwn V' base G v es := h.move hb.size (fun k h1 _ => hb.block k h1)
theorem EpsOwn.alloc {V : World} {base : Nat} {G : Nat → Prop} {v : Value} {es : List (Nat × List Sg)} (h : EpsOwn V base G v es) (o : Obj) : EpsOwn (V.alloc o) base G v es := h.below ((Below.refl _ V).alloc (Nat.le_refl _) o)
/-- An epoch is put behind them. -/
theorem EpsOwn.snoc {V V1 : World} {base g cap : Nat} {G : Nat → Prop} {v : Value} {es : List (Nat × List Sg)} {f : Nat × List Sg} {p : Option Addr} {c : Nat} {ps : List (Option Addr × Nat)} (hl : ps.length = es.length)
    (hr : ∀ (k : Nat) (e : Nat × List Sg) (pc : Option Addr × Nat), es[k]? = some e → ps[k]? = some pc → SgsOn V pc.1 e.2 ∧ (e.2 ≠ [] → ∃ b o, pc.1 = some ⟨b, o, none⟩ ∧ G b ∧ v.ownBlock ≠ some b))
    (ho : V1.ownsRow base 125 2 (.slice (some ⟨g, 0, none⟩) (es.length + 1) cap) (es.length + 1) (epcs es ps ++ epc1 f (p, c))) (hg : V.grownBy V1 v.ownBlock) (hat : v.ownBlock = some g ∨ g = V.heap.size)
    (hf : SgsOn V p f.2) (hb : f.2 ≠ [] → ∃ b o, p = some ⟨b, o, none⟩ ∧ G b ∧ v.ownBlock ≠ some b) : EpsOwn V1 base G (.slice (some ⟨g, 0, none⟩) (es.length + 1) cap) (es ++ [f]) := by
  have key : ∀ (q : Option Addr) (xs : List Sg), SgsOn V q xs → (xs ≠ [] → ∃ b o, q = some ⟨b, o, none⟩ ∧ G b ∧ v.ownBlock ≠ some b) → SgsOn V1 q xs ∧ (xs ≠ [] → ∃ b o, q = some ⟨b, o, none⟩ ∧ G b ∧ (Value.slice (some ⟨g, 0, none⟩) (es.length + 1) cap).ownBlock ≠ some b) := by
    intro q xs h1 h2
    by_cases hne : xs = []
    · subst hne
      exact ⟨SgsOn.empty, fun h => absurd rfl h⟩
    · obtain ⟨b, o, rfl, h3, h4⟩ := h2 hne
      obtain ⟨b', o', hq, hlt, _⟩ := h1.at_ hne
      simp at hq
      obtain ⟨rfl, rfl⟩ := hq
      refine ⟨h1.move hg.size (fun b' o' hp hlt => ?_), fun _ => ⟨b, o, rfl, h3, ?_⟩⟩
      · simp at hp
        obtain ⟨rfl, rfl⟩ := hp
        exact hg.block b hlt (fun e => h4 e.symm)
      · show some g ≠ some b
        rcases hat with hat | hat
        · rw [← hat]; exact h4
        · intro e
          simp at e
          omega
  refine ⟨ps ++ [(p, c)], by simp [hl], ?_, ?_⟩
  · rw [List.length_append, epcs_snoc es ps f (p, c) hl]
    exact ho
  · intro k x pc hx hp
    rcases Nat.lt_or_ge k es.length with hk | hk
    · rw [List.getElem?_append_left hk] at hx
      rw [List.getElem?_append_left (by omega)] at hp
      obtain ⟨h1, h2⟩ := hr k x pc hx hp
      exact key pc.1 x.2 h1 h2
    · rw [List.getElem?_append_right hk] at hx
      rw [List.getElem?_append_right (by omega)] at hp
      obtain rfl : k = es.length := by
        rcases Nat.lt_or_ge es.length k with h | h
        · rw [List.getElem?_eq_none (by simp; omega)] at hx; cases hx
        · omega
      simp at hx
      rw [hl] at hp
      simp at hp
      subst hx hp
      exact key p f.2 hf hb
def nilS : Value := .slice none 0 0
structure DeskIn (w : World) (db mb n : Nat) (D : DataW Value) (h : Nat → Value) (F : Nat → Prop) (size late now : Nat) (all : List Sg) (lo : Nat) : Prop where
  cells : w.heap[db]? = some (.cells #[.int .i64 (size : Int), .int .i64 (late : Int), .int .i64 (now : Int), .map (some mb)] 161)
  own : w.ownsMap Tryz.prog 3 heldV mb n D
  room : n ≤ all.length
  fd : F db
  fm : F mb
  key : ∀ k, lo ≤ k → D.atKey (.int .i64 (k : Int)) (.held nilS) = .held (h k)
  row : ∀ k, lo ≤ k → w.ownsRow 0 43 4 (h k) (grp size all k).length (sgcs (grp size all k))
  fr : ∀ k b, lo ≤ k → (h k).ownBlock = some b → F b
  apart : ∀ k k', lo ≤ k → lo ≤ k' → k ≠ k' → ∀ b, (h k).ownBlock = some b → (h k').ownBlock ≠ some b
structure DeskAt (w : World) (db : Nat) (F : Nat → Prop) (size late now : Nat) (all : List Sg) (lo : Nat) : Prop where
  out : ∃ (mb n : Nat) (D : DataW Value) (h : Nat → Value), DeskIn w db mb n D h F size late now all lo
section
variable {w : World} {db mb n : Nat} {D : DataW Value} {h : Nat → Value} {F : Nat → Prop} {size late now : Nat} {all : List Sg} {lo : Nat}
theorem DeskIn.c0 (d : DeskIn w db mb n D h F size late now all lo) : w.cell? ⟨db, 0, none⟩ = some (.int .i64 (size : Int)) := by simp [World.cell?, d.cells]
theorem DeskIn.c1 (d : DeskIn w db mb n D h F size late now all lo) : w.cell? ⟨db, 1, none⟩ = some (.int .i64 (late : Int)) := by simp [World.cell?, d.cells]
theorem DeskIn.c2 (d : DeskIn w db mb n D h F size late now all lo) : w.cell? ⟨db, 2, none⟩ = some (.int .i64 (now : Int)) := by simp [World.cell?, d.cells]
theorem DeskIn.c3 (d : DeskIn w db mb n D h F size late now all lo) : w.cell? ⟨db, 3, none⟩ = some (.map (some mb)) := by simp [World.cell?, d.cells]
theorem DeskIn.fz (d : DeskIn w db mb n D h F size late now all lo) (i : Nat) : w.frozen? ⟨db, i, none⟩ = false := by simp [World.frozen?, d.cells]
theorem DeskIn.lt (d : DeskIn w db mb n D h F size late now all lo) : db < w.heap.size := (Array.getElem?_eq_some_iff.1 d.cells).1
theorem DeskIn.mlt (d : DeskIn w db mb n D h F size late now all lo) : mb < w.heap.size := d.own.lt
theorem DeskIn.ne (d : DeskIn w db mb n D h F size late now all lo) : mb ≠ db := by
  intro e
  obtain ⟨es, clock, hb, _⟩ := d.own
  rw [e, d.cells] at hb
  cases hb
theorem DeskIn.rne (d : DeskIn w db mb n D h F size late now all lo) {k b : Nat} (hk : lo ≤ k) (hb : (h k).ownBlock = some b) : b ≠ db ∧ b ≠ mb := by
  obtain ⟨cur, hc⟩ := own_tag (d.row k hk) hb
  constructor
  · intro e
    rw [e, d.cells] at hc
    simp at hc
  · intro e
    obtain ⟨es, clock, hm, _⟩ := d.own
    rw [e, hm] at hc
    cases hc
/-- The desk's blocks are as they were. -/
theorem DeskIn.move {w' : World} (d : DeskIn w db mb n D h F size late now all lo) (hk : ∀ k, k < w.heap.size → F k → w'.heap[k]? = w.heap[k]?) : DeskIn w' db mb n D h F size late now all lo where
  cells := by rw [hk db d.lt d.fd]; exact d.cells
  own := by
    obtain ⟨es, clock, hb, r⟩ := d.own
    exact ⟨es, clock, by rw [hk mb d.mlt d.fm]; exact hb, r⟩
  room := d.room
  fd := d.fd
  fm := d.fm
  key := d.key
  row := fun k h1 => own_keep (d.row k h1) (fun b hb => hk b (own_lt (d.row k h1) hb) (d.fr k b h1 hb))
  fr := d.fr
  apart := d.apart
theorem DeskIn.mono {G : Nat → Prop} (d : DeskIn w db mb n D h F size late now all lo) (hG : ∀ k, k < w.heap.size → F k → G k) : DeskIn w db mb n D h G size late now all lo where
  cells := d.cells
  own := d.own
  room := d.room
  fd := hG _ d.lt d.fd
  fm := hG _ d.mlt d.fm
  key := d.key
  row := d.row
  fr := fun k b h1 h2 => hG b (own_lt (d.row k h1) h2) (d.fr k b h1 h2)
  apart := d.apart
theorem DeskAt.move {w' : World} (d : DeskAt w db F size late now all lo) (hk : ∀ k, k < w.heap.size → F k → w'.heap[k]? = w.heap[k]?) : DeskAt w' db F size late now all lo := by
  obtain ⟨mb, n, D, h, d⟩ := d.out
  exact ⟨mb, n, D, h, d.move hk⟩
theorem DeskAt.mono {G : Nat → Prop} (d : DeskAt w db F size late now all lo) (hG : ∀ k, k < w.heap.size → F k → G k) : DeskAt w db G size late now all lo := by
  obtain ⟨mb, n, D, h, d⟩ := d.out
  exact ⟨mb, n, D, h, d.mono hG⟩
theorem DeskAt.below {w' : World} (d : DeskAt w db F size late now all lo) (hb : Below w.heap.size w w') : DeskAt w' db F size late now all lo := d.move (fun k h1 _ => hb.block k h1)
theorem DeskAt.lt (d : DeskAt w db F size late now all lo) : db < w.heap.size := by
  obtain ⟨mb, n, D, h, d⟩ := d.out
  exact d.lt
/-- Time goes by. -/
theorem DeskIn.tick (d : DeskIn w db mb n D h F size late now all lo) (m : Nat) {z : Int} (hz : z = (m : Int)) : DeskIn (w.setCell ⟨db, 2, none⟩ (.int .i64 z)) db mb n D h F size late m all lo where
  cells := by subst hz; simp [World.setCell, Array.getElem?_modify, d.cells]
  own := d.own.setCell d.ne _
  room := d.room
  fd := d.fd
  fm := d.fm
  key := d.key
  row := fun k h1 => own_keep (d.row k h1) (fun b hb => Below.heap_setCell _ _ _ _ (d.rne h1 hb).1)
  fr := d.fr
  apart := d.apart
end
def rsc (size : Nat) (x : Sg) : List Value := [.int .i64 x.p, .int .i64 x.s, .int .i64 x.t, .string x.g, .int .i64 (epo size x : Int)]
def rscs (size : Nat) (xs : List Sg) : List Value := xs.flatMap (rsc size)
structure RefIn (w : World) (rb : Nat) (v : Value) (F : Nat → Prop) (size late now : Nat) (all : List Sg) : Prop where
  cells : w.heap[rb]? = some (.cells #[.int .i64 (size : Int), .int .i64 (late : Int), .int .i64 (now : Int), v] 61)
  own : w.ownsRow 0 221 5 v all.length (rscs size all)
  fd : F rb
  fr : ∀ b, v.ownBlock = some b → F b
structure RefAt (w : World) (rb : Nat) (F : Nat → Prop) (size late now : Nat) (all : List Sg) : Prop where
  out : ∃ v, RefIn w rb v F size late now all
section
variable {w : World} {rb : Nat} {v : Value} {F : Nat → Prop} {size late now : Nat} {all : List Sg}
end
end Go.Proofs.YtmolafjalaeoaaaGreatDoor.EpW
