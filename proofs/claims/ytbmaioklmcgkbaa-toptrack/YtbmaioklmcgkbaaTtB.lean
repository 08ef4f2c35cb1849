/-
  What lies in memory while TopTrack runs: two tracks beside one another, and the lists that were kept.
-/
import Derived.Test.YtbmaioklmcgkbaaTkQ
import Derived.Test.YtbmaioklmcgkbaaTtA
namespace Go.Proofs.Ytbmaioklmcgkbaa.TkA
open Go.RowKit TkM TkW Go.Maps
set_option maxRecDepth 100000

/-- The blocks of the lists that were kept. -/
def kb (v : Value) (ps : List (Option Addr × Nat)) (b : Nat) : Prop := v.ownBlock = some b ∨ ∃ pc, pc ∈ ps ∧ ∃ o, pc.1 = some ⟨b, o, none⟩
/-- The lists that were kept. -/
structure Kpt (V : World) (B : Nat) (v : Value) (ps : List (Option Addr × Nat)) (K : List (List Sg)) : Prop where
  len : ps.length = K.length
  row : V.ownsRow B 73 1 v K.length (List.zipWith slv K ps)
  on : ∀ (k : Nat) (l : List Sg) (pc : Option Addr × Nat), K[k]? = some l → ps[k]? = some pc → SgsOn V pc.1 l
  ap : ∀ pc, pc ∈ ps → ∀ b o, pc.1 = some ⟨b, o, none⟩ → B ≤ b ∧ b < V.heap.size ∧ v.ownBlock ≠ some b
section
variable {V V' : World} {B : Nat} {v : Value} {ps : List (Option Addr × Nat)} {K : List (List Sg)}
theorem Kpt.zero : Kpt V B (.slice none 0 0) [] [] := ⟨rfl, World.ownsRow_nil _ _ _ _, fun k l pc h => by simp at h, fun pc h => absurd h List.not_mem_nil⟩
theorem Kpt.lim (h : Kpt V B v ps K) {b : Nat} (hb : kb v ps b) : B ≤ b ∧ b < V.heap.size := by
  rcases hb with hb | ⟨pc, hpc, o, hb⟩
  · exact h.row.lt b hb
  · have := h.ap pc hpc b o hb
    exact ⟨this.1, this.2.1⟩
theorem Kpt.move (h : Kpt V B v ps K) (hs : V.heap.size ≤ V'.heap.size) (hk : ∀ b, b < V.heap.size → kb v ps b → V'.heap[b]? = V.heap[b]?) : Kpt V' B v ps K where
  len := h.len
  row := own_keep h.row (fun k e => hk k (own_lt h.row e) (Or.inl e))
  on := fun k l pc hl hp => (h.on k l pc hl hp).move hs (fun b o e hlt => hk b hlt (Or.inr ⟨pc, List.mem_of_getElem? hp, o, e⟩))
  ap := fun pc hpc b o e => by
    have := h.ap pc hpc b o e
    exact ⟨this.1, Nat.lt_of_lt_of_le this.2.1 hs, this.2.2⟩
theorem Kpt.below (h : Kpt V B v ps K) (hb : Below V.heap.size V V') : Kpt V' B v ps K := h.move hb.size (fun b hlt _ => hb.block b hlt)
theorem Kpt.kp {F : Nat → Prop} (h : Kpt V B v ps K) (hb : Kp F V V') (hF : ∀ b, kb v ps b → ¬ F b) : Kpt V' B v ps K := h.move hb.size (fun b hlt hk => hb.block b hlt (hF b hk))
/-- One more list. -/
theorem Kpt.snoc {g c : Nat} {l : List Sg} {pc : Option Addr × Nat} (h : Kpt V B v ps K) (ho : V'.ownsRow B 73 1 (.slice (some ⟨g, 0, none⟩) (K.length + 1) c) (K.length + 1) (List.zipWith slv K ps ++ [slv l pc])) (hg : V.grownBy V' v.ownBlock) (hat : v.ownBlock = some g ∨ g = V.heap.size) (hs : SgsOn V pc.1 l) (hp : ∀ b o, pc.1 = some ⟨b, o, none⟩ → B ≤ b ∧ b < V.heap.size ∧ v.ownBlock ≠ some b) :
    Kpt V' B (.slice (some ⟨g, 0, none⟩) (K.length + 1) c) (ps ++ [pc]) (K ++ [l]) := by
  have hne : ∀ pc', (∀ b o, pc'.1 = some ⟨b, o, none⟩ → B ≤ b ∧ b < V.heap.size ∧ v.ownBlock ≠ some b) → ∀ l', SgsOn V pc'.1 l' → SgsOn V' (Prod.fst (β := Nat) pc') l' := fun pc' h' l' hs' => hs'.move hg.size (fun b o e hlt => hg.block b hlt (fun e' => (h' b o e).2.2 e'.symm))
  refine ⟨by simp [h.len], ?_, fun k l' pc' hl' hpc' => ?_, fun pc' hpc' b o e => ?_⟩
  · rw [zip_snoc K ps l pc h.len, List.length_append]
    exact ho
  · rcases Nat.lt_or_ge k K.length with hk | hk
    · rw [List.getElem?_append_left hk] at hl'
      rw [List.getElem?_append_left (by rw [h.len]; exact hk)] at hpc'
      exact hne pc' (h.ap pc' (List.mem_of_getElem? hpc')) l' (h.on k l' pc' hl' hpc')
    · rw [List.getElem?_append_right hk] at hl'
      rw [List.getElem?_append_right (by rw [h.len]; exact hk), h.len] at hpc'
      have hk0 : k - K.length = 0 := by
        rcases Nat.eq_zero_or_pos (k - K.length) with h0 | h0
        · exact h0
        · rw [List.getElem?_eq_none (by simp; omega)] at hl'; cases hl'
      rw [hk0] at hl' hpc'
      simp at hl' hpc'
      subst hl' hpc'
      exact hne pc hp l hs
  · have hb : B ≤ b ∧ b < V.heap.size ∧ v.ownBlock ≠ some b := by
      rcases List.mem_append.1 hpc' with hm | hm
      · exact h.ap pc' hm b o e
      · simp at hm
        rw [hm] at e
        exact hp b o e
    refine ⟨hb.1, Nat.lt_of_lt_of_le hb.2.1 hg.size, fun e' => ?_⟩
    simp [Value.ownBlock] at e'
    rcases hat with h' | h'
    · rw [e'] at h'; exact hb.2.2 h'
    · omega
/-- One of the lists that were kept. -/
theorem Kpt.get {p : Option Addr} {n c k : Nat} {l : List Sg} (h : Kpt V B (.slice p n c) ps K) (hl : K[k]? = some l) : ∃ g q cp, p = some ⟨g, 0, none⟩ ∧ V.cell? ⟨g, k, none⟩ = some (.slice q l.length cp) ∧ SgsOn V q l := by
  obtain ⟨pc, hpc, hz⟩ := zip_at K ps k l h.len hl
  have hk : k < K.length := by
    rcases Nat.lt_or_ge k K.length with h' | h'
    · exact h'
    · rw [List.getElem?_eq_none h'] at hl; cases hl
  have ho := h.row
  rcases ho.2 with ⟨h', hn⟩ | ⟨g, cap', cur, h', _⟩
  · exfalso
    omega
  · simp at h'
    obtain ⟨rfl, rfl, rfl⟩ := h'
    refine ⟨g, pc.1, pc.2, rfl, ?_, h.on k l pc hl hpc⟩
    rw [ho.cellAt k (by omega), hz]
    rfl
end
/-- Two tracks beside one another, and the lists that were kept. -/
structure Two (B : Nat) (V : World) (tb ob : Nat) (ht ho : Nat → Nat × ByteArray × Nat) (W need r s : Nat) (g : ByteArray) (v : Value) (ps : List (Option Addr × Nat)) (E : List (List Sg)) : Prop where
  t : TrAt V tb ht W need E.length r (epOf E)
  o : TrAt V ob ho W need E.length s (epOf (E.map (own g)))
  k : Kpt V B v ps (E.map (own g))
  lt_ : ∀ b, of ht b → B ≤ b
  lo_ : ∀ b, of ho b → B ≤ b
  ato : ∀ b, of ht b → ¬ of ho b
  atk : ∀ b, of ht b → ¬ kb v ps b
  aok : ∀ b, of ho b → ¬ kb v ps b
section
variable {B : Nat} {V V1 V2 V3 V4 : World} {tb ob : Nat} {ht ho ht' ho' : Nat → Nat × ByteArray × Nat} {W need r s r' s' : Nat} {g : ByteArray} {v v' : Value} {ps : List (Option Addr × Nat)} {pc : Option Addr × Nat} {E : List (List Sg)} {l : List Sg}
theorem Two.kept (h : Two B V tb ob ht ho W need r s g v ps E) (k1 : Kp (of ht) V V1) : Kpt V1 B v ps (E.map (own g)) := h.k.kp k1 (fun b hb hf => h.atk b hf hb)
theorem Two.other (h : Two B V tb ob ht ho W need r s g v ps E) (k1 : Kp (of ht) V V1) (b2 : Below V1.heap.size V1 V2) (g3 : Kp (fun b => v.ownBlock = some b) V2 V3) : TrAt V3 ob ho W need E.length s (epOf (E.map (own g))) :=
  ((h.o.kp k1 (fun b hb hf => h.ato b hf hb)).below b2).kp g3 (fun b hb e => h.aok b hb (Or.inl e))
theorem epc_next (E : List (List Sg)) (l : List Sg) : epc (epOf E) E.length l = epOf (E ++ [l]) := by
  funext e
  rw [epOf_snoc]
  rfl
theorem Two.next (h : Two B V tb ob ht ho W need r s g v ps E) (hB : B ≤ V.heap.size) (t1 : TrAt V1 tb ht' W need (E.length + 1) r' (epc (epOf E) E.length l)) (k1 : Kp (of ht) V V1) (s1 : ∀ b, of ht' b → of ht b ∨ V.heap.size ≤ b)
    (b2 : Below V1.heap.size V1 V2) (g3 : Kp (fun b => v.ownBlock = some b) V2 V3) (k3 : Kpt V3 B v' (ps ++ [pc]) ((E ++ [l]).map (own g))) (e3 : ∀ b, v'.ownBlock = some b → v.ownBlock = some b ∨ V1.heap.size ≤ b) (p3 : ∀ b o, pc.1 = some ⟨b, o, none⟩ → V1.heap.size ≤ b)
    (t4 : TrAt V4 ob ho' W need (E.length + 1) s' (epc (epOf (E.map (own g))) E.length (own g l))) (k4 : Kp (of ho) V3 V4) (s4 : ∀ b, of ho' b → of ho b ∨ V3.heap.size ≤ b) :
    Two B V4 tb ob ht' ho' W need r' s' g v' (ps ++ [pc]) (E ++ [l]) := by
  have z1 := k1.size
  have z2 := b2.size
  have z3 := g3.size
  have hkb : ∀ b, kb v' (ps ++ [pc]) b → kb v ps b ∨ V1.heap.size ≤ b := fun b hb => by
    rcases hb with hb | ⟨pc', hm, o, hb⟩
    · rcases e3 b hb with h' | h'
      · exact Or.inl (Or.inl h')
      · exact Or.inr h'
    · rcases List.mem_append.1 hm with hm | hm
      · exact Or.inl (Or.inr ⟨pc', hm, o, hb⟩)
      · simp at hm
        rw [hm] at hb
        exact Or.inr (p3 b o hb)
  have n1 : ∀ b, of ht' b → ¬ kb v ps b := fun b hb hk => by
    rcases s1 b hb with h' | h'
    · exact h.atk b h' hk
    · have := (h.k.lim hk).2; omega
  have n2 : ∀ b, of ht' b → ¬ of ho b := fun b hb hk => by
    rcases s1 b hb with h' | h'
    · exact h.ato b h' hk
    · have := h.o.lim hk; omega
  refine ⟨?_, ?_, ?_, fun b hb => ?_, fun b hb => ?_, fun b hb hf => ?_, fun b hb hf => ?_, fun b hb hf => ?_⟩
  · rw [List.length_append, ← epc_next]
    exact ((t1.below b2).kp g3 (fun b hb e => n1 b hb (Or.inl e))).kp k4 n2
  · rw [List.length_append, List.map_append]
    have e := epc_next (E.map (own g)) (own g l)
    rw [List.length_map] at e
    rw [e] at t4
    exact t4
  · refine k3.kp k4 (fun b hb hf => ?_)
    rcases hkb b hb with h' | h'
    · exact h.aok b hf h'
    · have := h.o.lim hf; omega
  · rcases s1 b hb with h' | h'
    · exact h.lt_ b h'
    · omega
  · rcases s4 b hb with h' | h'
    · exact h.lo_ b h'
    · omega
  · rcases s4 b hf with h' | h'
    · exact n2 b hb h'
    · have := t1.lim hb; omega
  · rcases hkb b hf with h' | h'
    · exact n1 b hb h'
    · have := t1.lim hb; omega
  · rcases s4 b hb with h' | h'
    · rcases hkb b hf with h2 | h2
      · exact h.aok b h' h2
      · have := h.o.lim h'; omega
    · have := (k3.lim hf).2; omega
end
end Go.Proofs.Ytbmaioklmcgkbaa.TkA
