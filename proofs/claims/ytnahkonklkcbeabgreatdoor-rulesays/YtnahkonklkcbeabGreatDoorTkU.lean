/-
  A track and the document's track beside one another; what asTrack does to the world.
-/
import Derived.Test.YtnahkonklkcbeabGreatDoorTkR2
namespace Go.Proofs.YtnahkonklkcbeabGreatDoor.TkA
open Go.RowKit TkM TkW Go.Maps Go.Shelf
set_option maxRecDepth 100000

/-- Both, beside one another, above B. -/
structure Bth (B : Nat) (V : World) (tb rb : Nat) (who : Nat → Nat × ByteArray × Nat) (F : Nat → Prop) (W need r q : Nat) (E : List (List Sg)) : Prop where
  t : TrAt V tb who W need E.length r (epOf E)
  m : RfAt V rb F W need q E
  lt_ : ∀ b, of who b → B ≤ b
  lf : ∀ b, F b → B ≤ b
  ap : ∀ b, of who b → ¬ F b
section
variable {B : Nat} {V : World} {tb rb : Nat} {who : Nat → Nat × ByteArray × Nat} {F : Nat → Prop} {W need r q : Nat} {E : List (List Sg)}
theorem Bth.below {V' : World} (h : Bth B V tb rb who F W need r q E) (hb : Below V.heap.size V V') : Bth B V' tb rb who F W need r q E :=
  ⟨h.t.below hb, h.m.below hb, h.lt_, h.lf, h.ap⟩
theorem Bth.ref {V' : World} {q' : Nat} (h : Bth B V tb rb who F W need r q E) (hm : RfAt V' rb F W need q' E) (hk : Kp F V V') : Bth B V' tb rb who F W need r q' E :=
  ⟨h.t.kp hk h.ap, hm, h.lt_, h.lf, h.ap⟩
theorem Bth.more {q' : Nat} (h : Bth B V tb rb who F W need r q E) (hq : q ≤ q') : Bth B V tb rb who F W need r q' E := ⟨h.t, h.m.more hq, h.lt_, h.lf, h.ap⟩
/-- Tags that are asked for. -/
structure TsOn (V : World) (F : Nat → Prop) (p : Option Addr) (L : List ByteArray) : Prop where
  at_ : ∀ i s, L[i]? = some s → ∃ g o, p = some ⟨g, o, none⟩ ∧ V.cell? ⟨g, o + i, none⟩ = some (.string s) ∧ ¬ F g ∧ g < V.heap.size
theorem TsOn.kp {V' : World} {p : Option Addr} {L : List ByteArray} (h : TsOn V F p L) (hk : Kp F V V') : TsOn V' F p L where
  at_ := fun i s hs => by
    obtain ⟨g, o, hp, hc, hF, hlt⟩ := h.at_ i s hs
    exact ⟨g, o, hp, by rw [World.cell?_of_block (hk.block g hlt hF)]; exact hc, hF, Nat.lt_of_lt_of_le hlt hk.size⟩
end
end Go.Proofs.YtnahkonklkcbeabGreatDoor.TkA
