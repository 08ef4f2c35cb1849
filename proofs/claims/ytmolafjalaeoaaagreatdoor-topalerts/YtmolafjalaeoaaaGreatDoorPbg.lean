/-
  A watch in memory while an epoch is told.
-/
import Derived.Test.YtmolafjalaeoaaaGreatDoorPbb
import Derived.Test.YtmolafjalaeoaaaGreatDoorPbf
namespace Go.Proofs.YtmolafjalaeoaaaGreatDoor.WaB
open Go.RowKit TkW WaM WaW Go.Maps
open TkM (Sg epOf told whr seenG)
open RuM (Rl)
set_option maxRecDepth 100000
/-- As Wp; and the desk's blocks are as they were. -/
structure Wq (w w' : World) (ow ow' : Nat → Nat) : Prop where
  wp : Wp w w' ow ow'
  k3 : ∀ b, b < w.heap.size → ow b = 3 → w'.heap[b]? = w.heap[b]? ∧ ow' b = 3
theorem Wq.refl (w : World) (ow : Nat → Nat) : Wq w w ow ow := ⟨Wp.refl _ _, fun _ _ h => ⟨rfl, h⟩⟩
theorem Wq.trans {a b c : World} {o1 o2 o3 : Nat → Nat} (h : Wq a b o1 o2) (k : Wq b c o2 o3) : Wq a c o1 o3 where
  wp := h.wp.trans k.wp
  k3 := fun i hi h3 => by
    obtain ⟨h1, h2⟩ := h.k3 i hi h3
    obtain ⟨k1, k2⟩ := k.k3 i (Nat.lt_of_lt_of_le hi h.wp.kp.size) h2
    exact ⟨k1.trans h1, k2⟩
theorem Wq.below {a b : World} (h : Below a.heap.size a b) (ow : Nat → Nat) : Wq a b ow ow := ⟨Wp.below h ow, fun i hi h3 => ⟨h.block i hi, h3⟩⟩
/-- A watch whose track was told n epochs, of which m were looked at, and which has these alerts. -/
structure Wt (w : World) (wb : Nat) (ow : Nat → Nat) (c : Cf) (rs : List Rl) (s : St) (n m : Nat) (A : List Al) (p : Pt) : Prop where
  blk : w.heap[wb]? = some (.cells (wcs c s p) 116)
  ob : ow wb = 1
  lim : ∀ b, ow b ≠ 0 → b < w.heap.size
  kn : Kn w p.kb (kn s.all)
  ok : ow p.kb = 2
  desk : EpW.DeskAt w p.db (fun b => ow b = 3) c.len c.late s.now s.all (EpM.closedN c.len c.late s.now)
  trk : ∃ who, TrAt w p.tb who c.W c.need n (Ep c s n).flatten.length (epOf (Ep c s n)) ∧ ∀ b, of who b → ow b = 4
  ins : ∃ F f, InA.InAt w p.xb p.tb F c.span c.score m f ∧ InM.Prs InA.knd (epOf (Ep c s m)) c.W c.need c.span c.score f m ∧ ∀ b, F b → ow b = 5
  rul : w.ownsRow 0 32 6 p.rv rs.length (rcs rs)
  orl : ∀ b, p.rv.ownBlock = some b → ow b = 6
  alr : w.ownsRow 0 86 3 p.av A.length (acs A)
  oal : ∀ b, p.av.ownBlock = some b → ow b = 7
  anil : A = [] → p.av = .slice none 0 0
  cok : c.Ok
  rok : rs.length ≤ 6 ∧ ∀ r, r ∈ rs → r.ok
  tim : s.now ≤ 1000
  cls : n ≤ EpM.closedN c.len c.late s.now
  few : (WaM.kn s.all).length ≤ 12
  sok : ∀ x, x ∈ s.all → EpM.okS s.now x = true ∧ 0 < InA.knd x.g
  use : s.sum ≤ 6000
section
variable {w w' : World} {wb : Nat} {ow : Nat → Nat} {c : Cf} {rs : List Rl} {s : St} {k n m : Nat} {A : List Al} {p : Pt}
theorem Wt.start (h : Wa w wb ow c rs s k p) : Wt w wb ow c rs s k k (alerts c rs s k) p := ⟨h.blk, h.ob, h.lim, h.kn, h.ok, h.desk, h.trk, h.ins, h.rul, h.orl, h.alr, h.oal, h.anil, h.cok, h.rok, h.tim, h.cls, h.few, h.sok, h.use⟩
theorem Wt.wa (h : Wt w wb ow c rs s k k (alerts c rs s k) p) : Wa w wb ow c rs s k p := ⟨h.blk, h.ob, h.lim, h.kn, h.ok, h.desk, h.trk, h.ins, h.rul, h.orl, h.alr, h.oal, h.anil, h.cok, h.rok, h.tim, h.cls, h.few, h.sok, h.use⟩
theorem Wt.move (h : Wt w wb ow c rs s n m A p) (hs : w.heap.size ≤ w'.heap.size) (hk : ∀ b, b < w.heap.size → ow b ≠ 0 → w'.heap[b]? = w.heap[b]?) : Wt w' wb ow c rs s n m A p where
  blk := by rw [hk wb (h.lim wb (by rw [h.ob]; decide)) (by rw [h.ob]; decide)]; exact h.blk
  ob := h.ob
  lim := fun b hb => Nat.lt_of_lt_of_le (h.lim b hb) hs
  kn := h.kn.keep (hk _ h.kn.lt (by rw [h.ok]; decide))
  ok := h.ok
  desk := h.desk.move (fun b hb h3 => hk b hb (by rw [h3]; decide))
  trk := by
    obtain ⟨who, h1, h2⟩ := h.trk
    exact ⟨who, h1.move hs (fun b hb h4 => hk b hb (by rw [h2 b h4]; decide)), h2⟩
  ins := by
    obtain ⟨F, f, h1, h2, h3⟩ := h.ins
    exact ⟨F, f, h1.move hs (fun b hb h4 => hk b hb (by rw [h3 b h4]; decide)), h2, h3⟩
  rul := own_keep h.rul (fun b hb => hk b (own_lt h.rul hb) (by rw [h.orl b hb]; decide))
  orl := h.orl
  alr := own_keep h.alr (fun b hb => hk b (own_lt h.alr hb) (by rw [h.oal b hb]; decide))
  oal := h.oal
  anil := h.anil
  cok := h.cok
  rok := h.rok
  tim := h.tim
  cls := h.cls
  few := h.few
  sok := h.sok
  use := h.use
theorem Wt.below (h : Wt w wb ow c rs s n m A p) (hb : Below w.heap.size w w') : Wt w' wb ow c rs s n m A p := h.move hb.size (fun b h1 _ => hb.block b h1)
theorem Wt.lt (h : Wt w wb ow c rs s n m A p) : wb < w.heap.size := h.lim wb (by rw [h.ob]; decide)
theorem Wt.cell (h : Wt w wb ow c rs s n m A p) (i : Nat) (hi : i < 39) : w.cell? ⟨wb, i, none⟩ = some (cv c s p i) := by
  simp only [World.cell?, h.blk, Option.isSome_none, Bool.false_eq_true, if_false]
  exact wcs_at c s p hi
theorem Wt.fz (h : Wt w wb ow c rs s n m A p) (i : Nat) : w.frozen? ⟨wb, i, none⟩ = false := by simp [World.frozen?, h.blk]
theorem Wt.tell {who who' : Nat → Nat × ByteArray × Nat} (h : Wt w wb ow c rs s n m A p) (how : ∀ b, of who b → ow b = 4) (ht : TrAt w' p.tb who' c.W c.need (n + 1) ((Ep c s n).flatten.length + (EpM.sorted (EpM.grp c.len s.all n)).length) (TkA.epc (epOf (Ep c s n)) n (EpM.sorted (EpM.grp c.len s.all n)))) (hkp : Kp (of who) w w') (hnew : ∀ b, of who' b → of who b ∨ w.heap.size ≤ b) (hc : n + 1 ≤ EpM.closedN c.len c.late s.now) :
    Wt w' wb (own3 ow w w' 4) c rs s (n + 1) m A p ∧ Wq w w' ow (own3 ow w w' 4) := by
  have hmv : ∀ b l, b < w.heap.size → ow b = l → l ≠ 0 → l ≠ 4 → w'.heap[b]? = w.heap[b]? := fun b l hlt hb h0 h4 => hkp.block b hlt (fun hh => by rw [how b hh] at hb; exact h4 hb.symm)
  have hlt : ∀ b l, ow b = l → l ≠ 0 → b < w.heap.size := fun b l hb h0 => h.lim b (by rw [hb]; exact h0)
  have ho : ∀ b l, ow b = l → l ≠ 0 → own3 ow w w' 4 b = l := fun b l hb h0 => by rw [own3_old (hlt b l hb h0)]; exact hb
  have hs := hkp.size
  have e1 : TkA.epc (epOf (Ep c s n)) n (EpM.sorted (EpM.grp c.len s.all n)) = epOf (Ep c s (n + 1)) := by
    funext e
    rw [Ep_snoc, TkM.epOf_snoc, Ep_len]
    unfold TkA.epc
    rfl
  have e2 : (Ep c s n).flatten.length + (EpM.sorted (EpM.grp c.len s.all n)).length = (Ep c s (n + 1)).flatten.length := by rw [Ep_snoc, List.flatten_append, List.length_append]; simp
  rw [e1, e2] at ht
  refine ⟨⟨?_, ho _ _ h.ob (by decide), fun b hb => own3_lim h.lim hs hb, h.kn.keep (hmv _ 2 h.kn.lt h.ok (by decide) (by decide)), ho _ _ h.ok (by decide), ?_, ?_, ?_, ?_, fun b hb => ho b 6 (h.orl b hb) (by decide), ?_, fun b hb => ho b 7 (h.oal b hb) (by decide), h.anil, h.cok, h.rok, h.tim, hc, h.few, h.sok, h.use⟩, ⟨Wp.own3_of hkp (fun b hb => by rw [how b hb]; decide), fun b hb h3 => ⟨hmv b 3 hb h3 (by decide) (by decide), ho b 3 h3 (by decide)⟩⟩⟩
  · rw [hmv wb 1 (hlt wb 1 h.ob (by decide)) h.ob (by decide) (by decide)]
    exact h.blk
  · exact (h.desk.move (fun b hb h3 => hmv b 3 hb h3 (by decide) (by decide))).mono (fun b hb h3 => ho b 3 h3 (by decide))
  · refine ⟨who', ht, fun b hb => ?_⟩
    rcases hnew b hb with h1 | h1
    · exact ho b 4 (how b h1) (by decide)
    · unfold own3
      rw [if_pos ⟨h1, ht.lim hb⟩]
  · obtain ⟨F, f, h1, h2, h3⟩ := h.ins
    exact ⟨F, f, h1.move hs (fun b hb h4 => hmv b 5 hb (h3 b h4) (by decide) (by decide)), h2, fun b hb => ho b 5 (h3 b hb) (by decide)⟩
  · exact own_keep h.rul (fun b hb => hmv b 6 (own_lt h.rul hb) (h.orl b hb) (by decide) (by decide))
  · exact own_keep h.alr (fun b hb => hmv b 7 (own_lt h.alr hb) (h.oal b hb) (by decide) (by decide))
theorem Wt.next {F F' : Nat → Prop} {f' : Nat → ByteArray → ByteArray} (h : Wt w wb ow c rs s n m A p) (how : ∀ b, F b → ow b = 5) (hi : InA.InAt w' p.xb p.tb F' c.span c.score (m + 1) f') (hP : InM.Prs InA.knd (epOf (Ep c s (m + 1))) c.W c.need c.span c.score f' (m + 1)) (hkp : Kp F w w') (hnew : ∀ b, F' b → F b ∨ w.heap.size ≤ b) :
    Wt w' wb (own3 ow w w' 5) c rs s n (m + 1) A p ∧ Wq w w' ow (own3 ow w w' 5) := by
  have hmv : ∀ b l, b < w.heap.size → ow b = l → l ≠ 0 → l ≠ 5 → w'.heap[b]? = w.heap[b]? := fun b l hlt hb h0 h4 => hkp.block b hlt (fun hh => by rw [how b hh] at hb; exact h4 hb.symm)
  have hlt : ∀ b l, ow b = l → l ≠ 0 → b < w.heap.size := fun b l hb h0 => h.lim b (by rw [hb]; exact h0)
  have ho : ∀ b l, ow b = l → l ≠ 0 → own3 ow w w' 5 b = l := fun b l hb h0 => by rw [own3_old (hlt b l hb h0)]; exact hb
  have hs := hkp.size
  refine ⟨⟨?_, ho _ _ h.ob (by decide), fun b hb => own3_lim h.lim hs hb, h.kn.keep (hmv _ 2 h.kn.lt h.ok (by decide) (by decide)), ho _ _ h.ok (by decide), ?_, ?_, ?_, ?_, fun b hb => ho b 6 (h.orl b hb) (by decide), ?_, fun b hb => ho b 7 (h.oal b hb) (by decide), h.anil, h.cok, h.rok, h.tim, h.cls, h.few, h.sok, h.use⟩, ⟨Wp.own3_of hkp (fun b hb => by rw [how b hb]; decide), fun b hb h3 => ⟨hmv b 3 hb h3 (by decide) (by decide), ho b 3 h3 (by decide)⟩⟩⟩
  · rw [hmv wb 1 (hlt wb 1 h.ob (by decide)) h.ob (by decide) (by decide)]
    exact h.blk
  · exact (h.desk.move (fun b hb h3 => hmv b 3 hb h3 (by decide) (by decide))).mono (fun b hb h3 => ho b 3 h3 (by decide))
  · obtain ⟨who, h1, h2⟩ := h.trk
    exact ⟨who, h1.move hs (fun b hb h4 => hmv b 4 hb (h2 b h4) (by decide) (by decide)), fun b hb => ho b 4 (h2 b hb) (by decide)⟩
  · refine ⟨F', f', hi, hP, fun b hb => ?_⟩
    rcases hnew b hb with h1 | h1
    · exact ho b 5 (how b h1) (by decide)
    · unfold own3
      rw [if_pos ⟨h1, hi.lim hb⟩]
  · exact own_keep h.rul (fun b hb => hmv b 6 (own_lt h.rul hb) (h.orl b hb) (by decide) (by decide))
  · exact own_keep h.alr (fun b hb => hmv b 7 (own_lt h.alr hb) (h.oal b hb) (by decide) (by decide))
/-- An alert more. -/
theorem Wt.alert {g cap : Nat} {a : Al} (h : Wt w wb ow c rs s n m A p) (ho' : w'.ownsRow 0 86 3 (.slice (some ⟨g, 0, none⟩) (A.length + 1) cap) (A.length + 1) (acs A ++ [.int .i64 (a.rule : Int), .int .i64 (a.ep : Int), .string a.g])) (hg : w.grownBy w' p.av.ownBlock) (hat : p.av.ownBlock = some g ∨ w.heap.size ≤ g) :
    Wt (w'.setCell ⟨wb, 33, none⟩ (.slice (some ⟨g, 0, none⟩) (A.length + 1) cap)) wb (own3 ow w w' 7) c rs s n m (A ++ [a]) { p with av := .slice (some ⟨g, 0, none⟩) (A.length + 1) cap } ∧ Wq w (w'.setCell ⟨wb, 33, none⟩ (.slice (some ⟨g, 0, none⟩) (A.length + 1) cap)) ow (own3 ow w w' 7) := by
  have hs := hg.size
  have hs' : (w'.setCell ⟨wb, 33, none⟩ (.slice (some ⟨g, 0, none⟩) (A.length + 1) cap)).heap.size = w'.heap.size := by simp [World.setCell]
  have hlt : ∀ b l, ow b = l → l ≠ 0 → b < w.heap.size := fun b l hb h0 => h.lim b (by rw [hb]; exact h0)
  have ho : ∀ b l, ow b = l → l ≠ 0 → own3 ow w w' 7 b = l := fun b l hb h0 => by rw [own3_old (hlt b l hb h0)]; exact hb
  have hmv1 : ∀ b l, b < w.heap.size → ow b = l → l ≠ 0 → l ≠ 7 → w'.heap[b]? = w.heap[b]? := fun b l hb hl h0 h7 => hg.block b hb (fun e => h7 (by rw [← hl]; exact h.oal b e.symm))
  have hmv : ∀ b l, b < w.heap.size → ow b = l → l ≠ 0 → l ≠ 1 → l ≠ 7 → (w'.setCell ⟨wb, 33, none⟩ (.slice (some ⟨g, 0, none⟩) (A.length + 1) cap)).heap[b]? = w.heap[b]? := fun b l hb hl h0 h1 h7 => by
    rw [Below.heap_setCell _ _ _ _ (fun e => h1 (by have e : b = wb := e; rw [← hl, e]; exact h.ob))]
    exact hmv1 b l hb hl h0 h7
  have hgw : g ≠ wb := by
    intro e
    rcases hat with h1 | h1
    · have := h.oal g h1
      rw [e, h.ob] at this
      omega
    · have := h.lt
      omega
  refine ⟨⟨?_, ho _ _ h.ob (by decide), fun b hb => by rw [hs']; exact own3_lim h.lim hs hb, h.kn.keep (hmv _ 2 h.kn.lt h.ok (by decide) (by decide) (by decide)), ho _ _ h.ok (by decide), ?_, ?_, ?_, ?_, fun b hb => ho b 6 (h.orl b hb) (by decide), ?_, ?_, fun e => by simp at e, h.cok, h.rok, h.tim, h.cls, h.few, h.sok, h.use⟩, ⟨⟨?_, fun b hb => own3_new hb⟩, fun b hb h3 => ⟨hmv b 3 hb h3 (by decide) (by decide) (by decide), ho b 3 h3 (by decide)⟩⟩⟩
  · have hb1 : w'.heap[wb]? = some (.cells (wcs c s p) 116) := (hmv1 wb 1 h.lt h.ob (by decide) (by decide)).trans h.blk
    simp only [World.setCell, Array.getElem?_modify, hb1, if_true, Option.map_some, Option.isSome_none, Bool.false_eq_true, if_false]
    rw [wcs_set (c := c) (s := s) (s' := s) (p := p) (p' := { p with av := .slice (some ⟨g, 0, none⟩) (A.length + 1) cap }) (fun j hj => cv_av c s p _ j hj)]
  · exact (h.desk.move (fun b hb h3 => hmv b 3 hb h3 (by decide) (by decide) (by decide))).mono (fun b hb h3 => ho b 3 h3 (by decide))
  · obtain ⟨who, h1, h2⟩ := h.trk
    exact ⟨who, h1.move (by omega) (fun b hb h4 => hmv b 4 hb (h2 b h4) (by decide) (by decide) (by decide)), fun b hb => ho b 4 (h2 b hb) (by decide)⟩
  · obtain ⟨F, f, h1, h2, h3⟩ := h.ins
    exact ⟨F, f, h1.move (by omega) (fun b hb h4 => hmv b 5 hb (h3 b h4) (by decide) (by decide) (by decide)), h2, fun b hb => ho b 5 (h3 b hb) (by decide)⟩
  · exact own_keep h.rul (fun b hb => hmv b 6 (own_lt h.rul hb) (h.orl b hb) (by decide) (by decide) (by decide))
  · rw [List.length_append, acs_snoc]
    refine own_keep ho' (fun b hb => Below.heap_setCell _ _ _ _ ?_)
    have e : b = g := by simp [Value.ownBlock] at hb; exact hb.symm
    show b ≠ wb
    rw [e]
    exact hgw
  · intro b hb
    have e : b = g := by simp [Value.ownBlock] at hb; exact hb.symm
    subst e
    rcases hat with h1 | h1
    · exact ho b 7 (h.oal b h1) (by decide)
    · unfold own3
      rw [if_pos ⟨h1, own_lt ho' rfl⟩]
  · exact (grown_kp hg (fun b hb => by rw [h.oal b hb]; decide)).trans (set_kp _ _ _ (by show ow wb ≠ 0; rw [h.ob]; decide))
end
end Go.Proofs.YtmolafjalaeoaaaGreatDoor.WaB
