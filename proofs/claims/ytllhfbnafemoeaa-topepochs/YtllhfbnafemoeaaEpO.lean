/-
  Acts in memory; a desk and the document's desk side by side.
-/
import Derived.Test.YtllhfbnafemoeaaEpN
namespace Go.Proofs.Ytllhfbnafemoeaa.EpA
open Go.RowKit EpM EpW Go.Maps
set_option maxRecDepth 100000

structure Ac where
  kd : ByteArray
  n : Int
  st : ByteArray
  x : Sg
structure AcAt (w : World) (b o : Nat) (a : Ac) : Prop where
  c0 : w.cell? ⟨b, o, none⟩ = some (.string a.kd)
  c1 : w.cell? ⟨b, o + 1, none⟩ = some (.int .i64 a.n)
  c2 : w.cell? ⟨b, o + 1 + 1, none⟩ = some (.string a.st)
  c3 : w.cell? ⟨b, o + 1 + 1 + 1, none⟩ = some (.int .i64 a.x.p)
  c4 : w.cell? ⟨b, o + 1 + 1 + 1 + 1, none⟩ = some (.int .i64 a.x.s)
  c5 : w.cell? ⟨b, o + 1 + 1 + 1 + 1 + 1, none⟩ = some (.int .i64 a.x.t)
  c6 : w.cell? ⟨b, o + 1 + 1 + 1 + 1 + 1 + 1, none⟩ = some (.string a.x.g)
theorem AcAt.keep {w w' : World} {b o : Nat} {a : Ac} (h : AcAt w b o a) (e : w'.heap[b]? = w.heap[b]?) : AcAt w' b o a where
  c0 := by rw [World.cell?_of_block (w := w) e]; exact h.c0
  c1 := by rw [World.cell?_of_block (w := w) e]; exact h.c1
  c2 := by rw [World.cell?_of_block (w := w) e]; exact h.c2
  c3 := by rw [World.cell?_of_block (w := w) e]; exact h.c3
  c4 := by rw [World.cell?_of_block (w := w) e]; exact h.c4
  c5 := by rw [World.cell?_of_block (w := w) e]; exact h.c5
  c6 := by rw [World.cell?_of_block (w := w) e]; exact h.c6
/-- A list of acts, wherever it lies. -/
structure AcsOn (w : World) (p : Option Addr) (ac : List Ac) : Prop where
  tags : ∀ a ∈ ac, a.x.g.size ≤ maxLen
  at_ : ac ≠ [] → ∃ b o, p = some ⟨b, o, none⟩ ∧ b < w.heap.size ∧ ∀ k a, ac[k]? = some a → AcAt w b (o + k * 7) a
/-- The two desks, beside one another, above B. -/
structure Both (B : Nat) (V : World) (db rb : Nat) (size late now : Nat) (all : List Sg) (Fd Fr : Nat → Prop) : Prop where
  d : DeskAt V db Fd size late now all (closedN size late now)
  r : RefAt V rb Fr size late now all
  ld : ∀ b, Fd b → B ≤ b ∧ b < V.heap.size
  lr : ∀ b, Fr b → B ≤ b ∧ b < V.heap.size
  ap : ∀ b, Fd b → ¬ Fr b
section
variable {B : Nat} {V : World} {db rb : Nat} {size late now : Nat} {all : List Sg} {Fd Fr : Nat → Prop}
theorem Both.below {V' : World} (h : Both B V db rb size late now all Fd Fr) (hb : Below V.heap.size V V') : Both B V' db rb size late now all Fd Fr where
  d := h.d.below hb
  r := h.r.below hb
  ld := fun b hF => ⟨(h.ld b hF).1, Nat.lt_of_lt_of_le (h.ld b hF).2 hb.size⟩
  lr := fun b hF => ⟨(h.lr b hF).1, Nat.lt_of_lt_of_le (h.lr b hF).2 hb.size⟩
  ap := h.ap
/-- The one has turned, then the other. -/
theorem Both.turn {w1 w2 : World} {now' : Nat} {all' : List Sg} (h : Both B V db rb size late now all Fd Fr) (hB : B ≤ V.heap.size) (hd : DeskAt w1 db (more Fd V w1) size late now' all' (closedN size late now')) (hk1 : Kp Fd V w1) (hr : RefAt w2 rb (more Fr w1 w2) size late now' all') (hk2 : Kp Fr w1 w2) :
    Both B w2 db rb size late now' all' (more Fd V w1) (more Fr w1 w2) where
  d := hd.move (fun b hb hF => hk2.block b hb (fun hr => by
    rcases hF with hF | hF
    · exact h.ap b hF hr
    · have := (h.lr b hr).2; omega))
  r := hr
  ld := fun b hF => by
    have h1 := hk1.size
    have h2 := hk2.size
    rcases hF with hF | hF
    · have := h.ld b hF; omega
    · omega
  lr := fun b hF => by
    have h1 := hk1.size
    have h2 := hk2.size
    rcases hF with hF | hF
    · have := h.lr b hF; omega
    · omega
  ap := fun b hF hG => by
    rcases hF with hF | hF
    · rcases hG with hG | hG
      · exact h.ap b hF hG
      · have := (h.ld b hF).2; have := hk1.size; omega
    · rcases hG with hG | hG
      · have := (h.lr b hG).2; omega
      · omega
/-- Time goes by at the one, then at the other. -/
theorem Both.tock {w1 w2 : World} {now' : Nat} {all' : List Sg} (h : Both B V db rb size late now all Fd Fr) (hd : DeskAt w1 db Fd size late now' all' (closedN size late now')) (hk1 : Kp Fd V w1) (hr : RefAt w2 rb Fr size late now' all') (hk2 : Kp Fr w1 w2) :
    Both B w2 db rb size late now' all' Fd Fr where
  d := hd.move (fun b hb hF => hk2.block b hb (fun hr => h.ap b hF hr))
  r := hr
  ld := fun b hF => by
    have h1 := hk1.size
    have h2 := hk2.size
    have := h.ld b hF
    omega
  lr := fun b hF => by
    have h1 := hk1.size
    have h2 := hk2.size
    have := h.lr b hF
    omega
  ap := h.ap
theorem Both.rleft {w1 : World} (h : Both B V db rb size late now all Fd Fr) (hk1 : Kp Fd V w1) : RefAt w1 rb Fr size late now all := h.r.move (fun b hb hF => hk1.block b hb (fun hd => h.ap b hd hF))
end
end Go.Proofs.Ytllhfbnafemoeaa.EpA
