/-
  A track and who is in whom, beside one another.
-/
import Derived.Test.YtblkbogoelfjlaaDoorInT
namespace Go.Proofs.YtblkbogoelfjlaaDoor.InA
open Go.RowKit TkM TkW TkA InM Go.Maps
set_option maxRecDepth 100000

theorem epc_next (E : List (List Sg)) (l : List Sg) : epc (epOf E) E.length l = epOf (E ++ [l]) := by
  funext e
  rw [epOf_snoc]
  rfl
/-- Both, with boxes of which neither has any. -/
structure TX (V : World) (tb xb : Nat) (who : Nat → Nat × ByteArray × Nat) (F : Nat → Prop) (G : Nat → Prop) (W need span score r k : Nat) (K : List (List Sg)) (f : Nat → ByteArray → ByteArray) : Prop where
  t : TrAt V tb who W need K.length r (epOf K)
  x : InAt V xb tb F span score k f
  p : Prs knd (epOf K) W need span score f k
  ap : ∀ b, of who b → ¬ F b
  nt : ∀ b, G b → b < V.heap.size ∧ ¬ of who b
  nx : ∀ b, G b → ¬ F b
section
variable {V V' : World} {tb xb : Nat} {who who' : Nat → Nat × ByteArray × Nat} {F F' G : Nat → Prop} {W need span score r r' k : Nat} {K : List (List Sg)} {f f' : Nat → ByteArray → ByteArray} {l : List Sg}
theorem TX.below (h : TX V tb xb who F G W need span score r k K f) (hb : Below V.heap.size V V') : TX V' tb xb who F G W need span score r k K f :=
  ⟨h.t.below hb, h.x.below hb, h.p, h.ap, fun b hg => ⟨Nat.lt_of_lt_of_le (h.nt b hg).1 hb.size, (h.nt b hg).2⟩, h.nx⟩
/-- An epoch is told. -/
theorem TX.tell (h : TX V tb xb who F G W need span score r k K f) (hk : k ≤ K.length) (t' : TrAt V' tb who' W need (K.length + 1) r' (epc (epOf K) K.length l)) (k1 : Kp (of who) V V') (s1 : ∀ b, of who' b → of who b ∨ V.heap.size ≤ b) : TX V' tb xb who' F G W need span score r' k (K ++ [l]) f where
  t := by rw [List.length_append, ← epc_next]; exact t'
  x := h.x.kp k1 (fun b hf ho => h.ap b ho hf)
  p := h.p.move (fun e he => by rw [epOf_snoc, if_neg (by omega)])
  ap := fun b ho hf => by
    rcases s1 b ho with h1 | h1
    · exact h.ap b h1 hf
    · have := h.x.lim hf; omega
  nt := fun b hg => ⟨Nat.lt_of_lt_of_le (h.nt b hg).1 k1.size, fun ho => by
    rcases s1 b ho with h1 | h1
    · exact (h.nt b hg).2 h1
    · have := (h.nt b hg).1; omega⟩
  nx := h.nx
/-- It was refused. -/
theorem TX.told (h : TX V tb xb who F G W need span score r k K f) (t' : TrAt V' tb who' W need K.length r' (epOf K)) (k1 : Kp (of who) V V') (s1 : ∀ b, of who' b → of who b ∨ V.heap.size ≤ b) : TX V' tb xb who' F G W need span score r' k K f where
  t := t'
  x := h.x.kp k1 (fun b hf ho => h.ap b ho hf)
  p := h.p
  ap := fun b ho hf => by
    rcases s1 b ho with h1 | h1
    · exact h.ap b h1 hf
    · have := h.x.lim hf; omega
  nt := fun b hg => ⟨Nat.lt_of_lt_of_le (h.nt b hg).1 k1.size, fun ho => by
    rcases s1 b ho with h1 | h1
    · exact (h.nt b hg).2 h1
    · have := (h.nt b hg).1; omega⟩
  nx := h.nx
/-- An epoch is looked at. -/
theorem TX.next (h : TX V tb xb who F G W need span score r k K f) (hx : NP V V' xb tb F (epOf K) W need span score k) : ∃ F' f', TX V' tb xb who F' G W need span score r (k + 1) K f' ∧ Kp F V V' ∧ ∀ b, F' b → F b ∨ V.heap.size ≤ b := by
  obtain ⟨F', f', x', p', k1, s1⟩ := hx.out
  refine ⟨F', f', ⟨h.t.kp k1 h.ap, x', p', fun b ho hf => ?_, fun b hg => ⟨Nat.lt_of_lt_of_le (h.nt b hg).1 k1.size, (h.nt b hg).2⟩, fun b hg hf => ?_⟩, k1, s1⟩
  · rcases s1 b hf with h1 | h1
    · exact h.ap b ho h1
    · have := h.t.lim ho; omega
  · rcases s1 b hf with h1 | h1
    · exact h.nx b hg h1
    · have := (h.nt b hg).1; omega
end
theorem light_size {E : List (List Sg)} {k : Nat} (hl : light E = true) : ∀ g, (∃ e, seenG g (epOf (E.take k) e) = true) → g.size ≤ 100000 := by
  rintro g ⟨e, h⟩
  obtain ⟨x, hx, rfl⟩ := seen_iff.1 h
  by_cases he : e < (E.take k).length
  · have h1 : epOf (E.take k) e ∈ E := List.mem_of_mem_take (epOf_mem he)
    have h2 := goodL_iff.1 ((light_iff.1 hl).2 _ h1)
    have := h2.2 x hx
    omega
  · rw [epOf_past _ (by omega)] at hx
    exact absurd hx List.not_mem_nil
end Go.Proofs.YtblkbogoelfjlaaDoor.InA
