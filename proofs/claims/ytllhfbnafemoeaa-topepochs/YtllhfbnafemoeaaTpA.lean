/-
  Two desks beside one another; how many sights were told.
-/
import Derived.Test.YtllhfbnafemoeaaEpO
namespace Go.Proofs.Ytllhfbnafemoeaa.EpA
open Go.RowKit EpM EpW Go.Maps
set_option maxRecDepth 100000

/-- How many sights stand in epochs before c. -/
def cnt (size : Nat) (all : List Sg) (c : Nat) : Nat := (all.filter fun x => decide (epo size x < c)).length
theorem cnt_le (size : Nat) (all : List Sg) (c : Nat) : cnt size all c ≤ all.length := List.length_filter_le _ _
theorem cnt_succ (size : Nat) (c : Nat) : ∀ all : List Sg, cnt size all (c + 1) = cnt size all c + (grp size all c).length
  | [] => rfl
  | x :: all => by
    have ih := cnt_succ size c all
    unfold cnt grp at *
    simp only [List.filter_cons]
    by_cases h1 : epo size x < c
    · have h2 : epo size x < c + 1 := by omega
      have h3 : ¬ epo size x = c := by omega
      simp [h1, h2, h3, ih]
      omega
    · by_cases h3 : epo size x = c
      · have h2 : epo size x < c + 1 := by omega
        simp [h3, ih]
        omega
      · have h2 : ¬ epo size x < c + 1 := by omega
        simp [h1, h2, h3, ih]
theorem cnt_snoc {size : Nat} {all : List Sg} {x : Sg} {c : Nat} (h : c ≤ epo size x) : cnt size (all ++ [x]) c = cnt size all c := by
  unfold cnt
  rw [List.filter_append]
  have : ¬ epo size x < c := by omega
  simp [this]
theorem cnt_zero (size : Nat) (all : List Sg) : cnt size all 0 = 0 := by simp [cnt]
theorem tells_at {size : Nat} {all : List Sg} {a b m : Nat} (h : a + m < b) : (tells size all a b)[m]? = some (a + m, sorted (grp size all (a + m))) := by
  unfold tells
  rw [List.getElem?_map, List.getElem?_range' (by omega)]
  simp
theorem tells_len (size : Nat) (all : List Sg) (a b : Nat) : (tells size all a b).length = b - a := by simp [tells]
theorem mem_grp {size : Nat} {all : List Sg} {k : Nat} {x : Sg} (h : x ∈ sorted (grp size all k)) : x ∈ all ∧ epo size x = k := by
  have h1 := sorted_mem.1 h
  unfold grp at h1
  simp at h1
  exact h1

/-- Two desks of the program, beside one another, above B. -/
structure Two (B : Nat) (V : World) (db ob : Nat) (size late now : Nat) (alld allo : List Sg) (Fd Fo : Nat → Prop) : Prop where
  d : DeskAt V db Fd size late now alld (closedN size late now)
  o : DeskAt V ob Fo size late now allo (closedN size late now)
  ld : ∀ b, Fd b → B ≤ b ∧ b < V.heap.size
  lo : ∀ b, Fo b → B ≤ b ∧ b < V.heap.size
  ap : ∀ b, Fd b → ¬ Fo b
section
variable {B : Nat} {V : World} {db ob : Nat} {size late now : Nat} {alld allo : List Sg} {Fd Fo : Nat → Prop}
theorem Two.below {V' : World} (h : Two B V db ob size late now alld allo Fd Fo) (hb : Below V.heap.size V V') : Two B V' db ob size late now alld allo Fd Fo where
  d := h.d.below hb
  o := h.o.below hb
  ld := fun b hF => ⟨(h.ld b hF).1, Nat.lt_of_lt_of_le (h.ld b hF).2 hb.size⟩
  lo := fun b hF => ⟨(h.lo b hF).1, Nat.lt_of_lt_of_le (h.lo b hF).2 hb.size⟩
  ap := h.ap
/-- The first has turned. -/
theorem Two.first {w1 : World} {all' : List Sg} (h : Two B V db ob size late now alld allo Fd Fo) (hB : B ≤ V.heap.size) (hd : DeskAt w1 db (more Fd V w1) size late now all' (closedN size late now)) (hk : Kp Fd V w1) :
    Two B w1 db ob size late now all' allo (more Fd V w1) Fo where
  d := hd
  o := h.o.move (fun b hb hF => hk.block b hb (fun hd => h.ap b hd hF))
  ld := fun b hF => by
    have h1 := hk.size
    rcases hF with hF | hF
    · have := h.ld b hF; omega
    · omega
  lo := fun b hF => by
    have h1 := hk.size
    have := h.lo b hF
    omega
  ap := fun b hF hG => by
    rcases hF with hF | hF
    · exact h.ap b hF hG
    · have := (h.lo b hG).2; omega
/-- The second has turned. -/
theorem Two.second {w1 : World} {all' : List Sg} (h : Two B V db ob size late now alld allo Fd Fo) (hB : B ≤ V.heap.size) (hd : DeskAt w1 ob (more Fo V w1) size late now all' (closedN size late now)) (hk : Kp Fo V w1) :
    Two B w1 db ob size late now alld all' Fd (more Fo V w1) where
  d := h.d.move (fun b hb hF => hk.block b hb (fun hd => h.ap b hF hd))
  o := hd
  ld := fun b hF => by
    have h1 := hk.size
    have := h.ld b hF
    omega
  lo := fun b hF => by
    have h1 := hk.size
    rcases hF with hF | hF
    · have := h.lo b hF; omega
    · omega
  ap := fun b hF hG => by
    rcases hG with hG | hG
    · exact h.ap b hF hG
    · have := (h.ld b hF).2; omega
/-- Time goes by at the one, then at the other. -/
theorem Two.tock {w1 w2 : World} {now' : Nat} (h : Two B V db ob size late now alld allo Fd Fo) (hd : DeskAt w1 db Fd size late now' alld (closedN size late now')) (hk1 : Kp Fd V w1) (hr : DeskAt w2 ob Fo size late now' allo (closedN size late now')) (hk2 : Kp Fo w1 w2) :
    Two B w2 db ob size late now' alld allo Fd Fo where
  d := hd.move (fun b hb hF => hk2.block b hb (fun hr => h.ap b hF hr))
  o := hr
  ld := fun b hF => by
    have h1 := hk1.size
    have h2 := hk2.size
    have := h.ld b hF
    omega
  lo := fun b hF => by
    have h1 := hk1.size
    have h2 := hk2.size
    have := h.lo b hF
    omega
  ap := h.ap
theorem Two.keep {V' : World} {G : Nat → Prop} (h : Two B V db ob size late now alld allo Fd Fo) (hk : Kp G V V') (hG : ∀ b, b < V.heap.size → G b → ¬ Fd b ∧ ¬ Fo b) : Two B V' db ob size late now alld allo Fd Fo where
  d := h.d.move (fun b hb hF => hk.block b hb (fun hg => (hG b hb hg).1 hF))
  o := h.o.move (fun b hb hF => hk.block b hb (fun hg => (hG b hb hg).2 hF))
  ld := fun b hF => ⟨(h.ld b hF).1, Nat.lt_of_lt_of_le (h.ld b hF).2 hk.size⟩
  lo := fun b hF => ⟨(h.lo b hF).1, Nat.lt_of_lt_of_le (h.lo b hF).2 hk.size⟩
  ap := h.ap
theorem Two.oleft {w1 : World} (h : Two B V db ob size late now alld allo Fd Fo) (hk1 : Kp Fd V w1) : DeskAt w1 ob Fo size late now allo (closedN size late now) := h.o.move (fun b hb hF => hk1.block b hb (fun hd => h.ap b hd hF))
end
/-- A list of sights of one's own, from B on, none of whose blocks is F's. -/
structure Wait (B : Nat) (V : World) (v : Value) (W : List Sg) (F : Nat → Prop) : Prop where
  own : V.ownsRow B 61 4 v W.length (sgcs W)
  off : ∀ b, v.ownBlock = some b → ¬ F b
theorem Wait.nil (B : Nat) (V : World) (F : Nat → Prop) : Wait B V (.slice none 0 0) [] F := ⟨World.ownsRow_nil _ _ _ _, fun b hb => by simp [Value.ownBlock] at hb⟩
theorem Wait.keep {B : Nat} {V V' : World} {v : Value} {W : List Sg} {F G : Nat → Prop} (h : Wait B V v W F) (hk : Kp F V V') (hG : ∀ b, b < V.heap.size → G b → F b) : Wait B V' v W G where
  own := own_keep h.own (fun b hb => hk.block b (own_lt h.own hb) (h.off b hb))
  off := fun b hb hg => h.off b hb (hG b (own_lt h.own hb) hg)
/-- A sight is put behind them. -/
theorem Wait.snoc {B : Nat} {V V1 : World} {v : Value} {W : List Sg} {F : Nat → Prop} {g cap : Nat} {x : Sg} (h : Wait B V v W F) (ho : V1.ownsRow B 61 4 (.slice (some ⟨g, 0, none⟩) (W.length + 1) cap) (W.length + 1) (sgcs W ++ [.int .i64 x.p, .int .i64 x.s, .int .i64 x.t, .string x.g])) (hF : ∀ b, F b → b < V.heap.size) (hat : v.ownBlock = some g ∨ V.heap.size ≤ g) : Wait B V1 (.slice (some ⟨g, 0, none⟩) (W.length + 1) cap) (W ++ [x]) F where
  own := by rw [sgcs_snoc, List.length_append]; exact ho
  off := fun b hb hf => by
    simp [Value.ownBlock] at hb
    subst hb
    rcases hat with hat | hat
    · exact h.off g hat hf
    · have := hF g hf; omega
theorem addF_ok {size late now : Nat} {x : Sg} (h : addF size late now x = 0) : okS now x = true ∧ closedN size late now ≤ epo size x := by
  unfold addF at h
  split at h
  · rename_i hok
    split at h
    · omega
    · rename_i hl
      exact ⟨hok, by omega⟩
  · omega
end Go.Proofs.Ytllhfbnafemoeaa.EpA
