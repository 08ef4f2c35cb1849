/-
  The document's track in memory, whole; what NewTrack, At, Where and Comes do to the world.
-/
import Derived.Test.YtnahkonklkcbeabGreatDoorTkL
namespace Go.Proofs.YtnahkonklkcbeabGreatDoor.TkA
open Go.RowKit TkM TkW Go.Maps
set_option maxRecDepth 100000

/-- What is looked up. -/
def keyL (g : ByteArray) (e : Nat) : List UInt8 := g.data.toList ++ ([64] ++ dec2 e)
theorem dec2_inj : ∀ e, e < 25 → ∀ e', e' < 25 → dec2 e = dec2 e' → e = e' := by decide
theorem dec2_form (e : Nat) (h : e < 25) : (∃ x, dec2 e = [x]) ∨ ∃ y z, dec2 e = [y, z] ∧ y ≠ 64 := by
  unfold dec2
  by_cases h1 : e < 10
  · rw [if_pos h1]; exact Or.inl ⟨_, rfl⟩
  · rw [if_neg h1]
    refine Or.inr ⟨_, _, rfl, ?_⟩
    have h2 : e / 10 = 1 ∨ e / 10 = 2 := by omega
    rcases h2 with h2 | h2 <;> rw [h2] <;> decide
theorem keyL_inj {g g' : ByteArray} {e e' : Nat} (he : e < 25) (he' : e' < 25) (h : keyL g e = keyL g' e') : g = g' ∧ e = e' := by
  unfold keyL at h
  have hr := congrArg List.reverse h
  simp only [List.reverse_append] at hr
  rcases dec2_form e he with ⟨x, hx⟩ | ⟨y, z, hx, hy⟩ <;> rcases dec2_form e' he' with ⟨x', hx'⟩ | ⟨y', z', hx', hy'⟩
  · rw [hx, hx'] at hr
    simp at hr
    exact ⟨bytes_ext (by rw [hr.2]), dec2_inj e he e' he' (by rw [hx, hx', hr.1])⟩
  · rw [hx, hx'] at hr
    simp at hr
    exact absurd hr.2.1.symm hy'
  · rw [hx, hx'] at hr
    simp at hr
    exact absurd hr.2.1 hy
  · rw [hx, hx'] at hr
    simp at hr
    exact ⟨bytes_ext (by rw [hr.2.2]), dec2_inj e he e' he' (by rw [hx, hx', hr.1, hr.2.1])⟩
def slv (l : List Sg) (pc : Option Addr × Nat) : Value := .slice pc.1 l.length pc.2
structure RfIn (w : World) (rb fb m : Nat) (v : Value) (Df : DataW Value) (ps : List (Option Addr × Nat)) (F : Nat → Prop) (W need q : Nat) (E : List (List Sg)) : Prop where
  cells : w.heap[rb]? = some (.cells #[.int .i64 (W : Int), .int .i64 (need : Int), v, .map (some fb)] 47)
  plen : ps.length = E.length
  own : w.ownsRow 0 51 1 v E.length (List.zipWith slv E ps)
  rows : ∀ (k : Nat) (l : List Sg) (pc : Option Addr × Nat), E[k]? = some l → ps[k]? = some pc → SgsOn w pc.1 l ∧ (l ≠ [] → ∃ b o, pc.1 = some ⟨b, o, none⟩ ∧ F b ∧ v.ownBlock ≠ some b ∧ b ≠ rb)
  map : w.ownsMap Tryz.prog 9 (plainElem Tryz.prog 3) fb m Df
  room : m ≤ q
  memo : ∀ (g : ByteArray) (e : Nat), e < E.length → (∀ zd : DataW Value, Df.atKey (.string (keyL g e)) zd = zd) ∨ (∀ zd : DataW Value, Df.atKey (.string (keyL g e)) zd = .lit (.int .i64 (whr g (epOf E) W need e)))
  fd : F rb
  fm : F fb
  fv : ∀ b, v.ownBlock = some b → F b
  lim : ∀ b, F b → b < w.heap.size
  good : light E = true
  ok : ∀ l, l ∈ E → l.all okS = true
structure RfAt (w : World) (rb : Nat) (F : Nat → Prop) (W need q : Nat) (E : List (List Sg)) : Prop where
  out : ∃ (fb m : Nat) (v : Value) (Df : DataW Value) (ps : List (Option Addr × Nat)), RfIn w rb fb m v Df ps F W need q E
section
variable {w : World} {rb fb m : Nat} {v : Value} {Df : DataW Value} {ps : List (Option Addr × Nat)} {F : Nat → Prop} {W need q : Nat} {E : List (List Sg)}
theorem RfIn.c3 (d : RfIn w rb fb m v Df ps F W need q E) : w.cell? ⟨rb, 3, none⟩ = some (.map (some fb)) := by simp [World.cell?, d.cells]
theorem RfIn.c2 (d : RfIn w rb fb m v Df ps F W need q E) : w.cell? ⟨rb, 2, none⟩ = some v := by simp [World.cell?, d.cells]
theorem RfIn.fz (d : RfIn w rb fb m v Df ps F W need q E) (i : Nat) : w.frozen? ⟨rb, i, none⟩ = false := by simp [World.frozen?, d.cells]
theorem RfIn.lt (d : RfIn w rb fb m v Df ps F W need q E) : rb < w.heap.size := d.lim _ d.fd
theorem RfIn.ne (d : RfIn w rb fb m v Df ps F W need q E) : fb ≠ rb := by
  intro e
  obtain ⟨es, clock, hb, _⟩ := d.map
  rw [e, d.cells] at hb
  cases hb
theorem RfIn.vne (d : RfIn w rb fb m v Df ps F W need q E) {b : Nat} (hb : v.ownBlock = some b) : b ≠ rb ∧ b ≠ fb := by
  obtain ⟨cur, hc⟩ := own_tag d.own hb
  constructor
  · intro e
    rw [e, d.cells] at hc
    simp at hc
  · intro e
    obtain ⟨es, clock, hm, _⟩ := d.map
    rw [e, hm] at hc
    cases hc
theorem sg_block {w : World} {b o : Nat} {x : Sg} (h : SgAt w b o x) : ∃ c t f, w.heap[b]? = some (.cells c t f) := by
  have h0 := h.c0
  unfold World.cell? at h0
  simp only at h0
  split at h0
  · rename_i c t f hb
    exact ⟨c, t, f, hb⟩
  · cases h0
theorem RfIn.rne (d : RfIn w rb fb m v Df ps F W need q E) {k : Nat} {l : List Sg} {pc : Option Addr × Nat} (h1 : E[k]? = some l) (h2 : ps[k]? = some pc) (hl : l ≠ []) {b o : Nat} (hp : pc.1 = some ⟨b, o, none⟩) : b ≠ fb := by
  intro e
  obtain ⟨b', o', hp', _, hc⟩ := (d.rows k l pc h1 h2).1.at_ hl
  rw [hp] at hp'
  simp at hp'
  obtain ⟨x, l', rfl⟩ : ∃ x l', l = x :: l' := by
    cases l with
    | nil => exact absurd rfl hl
    | cons x l' => exact ⟨x, l', rfl⟩
  obtain ⟨c, t, f, hb⟩ := sg_block (hc 0 x rfl)
  obtain ⟨es, clock, hm, _⟩ := d.map
  rw [← hp'.1, e, hm] at hb
  cases hb
/-- Its blocks are as they were. -/
theorem RfIn.move {w' : World} (d : RfIn w rb fb m v Df ps F W need q E) (hs : w.heap.size ≤ w'.heap.size) (hk : ∀ k, k < w.heap.size → F k → w'.heap[k]? = w.heap[k]?) : RfIn w' rb fb m v Df ps F W need q E where
  cells := by rw [hk rb d.lt d.fd]; exact d.cells
  plen := d.plen
  own := own_keep d.own (fun b hb => hk b (own_lt d.own hb) (d.fv b hb))
  rows := fun k l pc h1 h2 => by
    obtain ⟨r1, r2⟩ := d.rows k l pc h1 h2
    refine ⟨?_, r2⟩
    by_cases hl : l = []
    · rw [hl]; exact SgsOn.empty
    · obtain ⟨b, o, hp, hF, _⟩ := r2 hl
      refine r1.move hs (fun b' o' hp' hlt => hk b' hlt ?_)
      rw [hp] at hp'
      simp at hp'
      rw [← hp'.1]
      exact hF
  map := map_keep d.map (hk fb (d.lim _ d.fm) d.fm)
  room := d.room
  memo := d.memo
  fd := d.fd
  fm := d.fm
  fv := d.fv
  lim := fun b hb => Nat.lt_of_lt_of_le (d.lim b hb) hs
  good := d.good
  ok := d.ok
theorem RfAt.move {w' : World} (d : RfAt w rb F W need q E) (hs : w.heap.size ≤ w'.heap.size) (hk : ∀ k, k < w.heap.size → F k → w'.heap[k]? = w.heap[k]?) : RfAt w' rb F W need q E := by
  obtain ⟨fb, m, v, Df, ps, d⟩ := d.out
  exact ⟨fb, m, v, Df, ps, d.move hs hk⟩
theorem RfAt.below {w' : World} (d : RfAt w rb F W need q E) (hb : Below w.heap.size w w') : RfAt w' rb F W need q E := d.move hb.size (fun k hk _ => hb.block k hk)
theorem RfAt.lt (d : RfAt w rb F W need q E) : rb < w.heap.size := by obtain ⟨fb, m, v, Df, ps, d⟩ := d.out; exact d.lt
theorem RfAt.lim (d : RfAt w rb F W need q E) {b : Nat} (h : F b) : b < w.heap.size := by obtain ⟨fb, m, v, Df, ps, d⟩ := d.out; exact d.lim b h
theorem RfAt.good (d : RfAt w rb F W need q E) : light E = true := by obtain ⟨fb, m, v, Df, ps, d⟩ := d.out; exact d.good
theorem zip_at : ∀ (E : List (List Sg)) (ps : List (Option Addr × Nat)) (k : Nat) (l : List Sg), ps.length = E.length → E[k]? = some l → ∃ pc, ps[k]? = some pc ∧ (List.zipWith slv E ps)[k]? = some (slv l pc)
  | x :: E, y :: ps, 0, l, _, h => by simp at h; subst h; exact ⟨y, rfl, rfl⟩
  | x :: E, y :: ps, k + 1, l, hl, h => by
    obtain ⟨pc, h1, h2⟩ := zip_at E ps k l (by simpa using hl) (by simpa using h)
    exact ⟨pc, by simpa using h1, by simpa using h2⟩
  | [], _, _, _, _, h => by simp at h
  | _ :: _, [], _, _, h, _ => by simp at h
theorem RfIn.view (d : RfIn w rb fb m v Df ps F W need q E) : ∃ p cap, v = .slice p E.length cap ∧ RfV w rb W need p cap E := by
  have hv : ∃ p cap, v = .slice p E.length cap ∧ EsOn w p E := by
    by_cases hne : E = []
    · subst hne
      rcases d.own.2 with ⟨rfl, h0⟩ | ⟨g, cap, cur, hv, _⟩
      · exact ⟨none, 0, rfl, ⟨fun h => absurd rfl h⟩⟩
      · exact ⟨_, cap, hv, ⟨fun h => absurd rfl h⟩⟩
    · obtain ⟨g, cap, hv, h1, h2⟩ := d.own.form (List.length_pos_iff.2 hne)
      refine ⟨_, cap, hv, ⟨fun _ => ⟨g, 0, rfl, h2, fun k l hl => ?_⟩⟩⟩
      obtain ⟨pc, p1, p2⟩ := zip_at E ps k l d.plen hl
      refine ⟨pc.1, pc.2, ?_, (d.rows k l pc hl p1).1⟩
      have hown := d.own
      rw [hv] at hown
      have := hown.cells (g := g) rfl k _ p2
      rw [addr_add] at this
      rw [Nat.zero_add]
      exact this
  obtain ⟨p, cap, hv, hon⟩ := hv
  refine ⟨p, cap, hv, ?_, ?_, ?_, hon, d.lt, d.good, d.ok⟩
  · simp [World.cell?, d.cells]
  · simp [World.cell?, d.cells]
  · simp [World.cell?, d.cells, hv]
theorem RfAt.view (d : RfAt w rb F W need q E) : ∃ p cap, RfV w rb W need p cap E := by
  obtain ⟨fb, m, v, Df, ps, d⟩ := d.out
  obtain ⟨p, cap, _, h⟩ := d.view
  exact ⟨p, cap, h⟩
set_option maxHeartbeats 400000 in
theorem newTrack_any (W need : Nat) (w : World) :
    Calls Tryz.prog 28 #[.int .i64 (W : Int), .int .i64 (need : Int)] w fun e w' => e = .returned (.pointer (some ⟨w.heap.size + 1, 0, none⟩)) ∧ w'.heap.size = w.heap.size + 2 ∧ RfAt w' (w.heap.size + 1) (fun b => w.heap.size ≤ b ∧ b < w.heap.size + 2) W need 0 [] ∧ Below w.heap.size w w' := by
  have hmm := @run_makeMap Tryz.prog
  have HD : Hid (RfAt ((w.alloc (.map #[] 0)).alloc (.cells #[.int .i64 (W : Int), .int .i64 (need : Int), .slice none 0 0, .map (some w.heap.size)] 47)) (w.heap.size + 1) (fun b => w.heap.size ≤ b ∧ b < w.heap.size + 2) W need 0 []) := by
    refine ⟨w.heap.size, 0, .slice none 0 0, .map [], [], ?_⟩
    refine ⟨?_, rfl, World.ownsRow_nil _ _ _ _, fun k l pc h => by simp at h, (World.ownsMap_made w Tryz.prog 9 _).alloc _, Nat.le_refl _, fun g e h => by simp at h, by omega, by omega, fun b h => by simp [Value.ownBlock] at h, fun b h => by simp; omega, rfl, fun l h => by simp at h⟩
    have := Go.heap_alloc_new (w.alloc (.map #[] 0)) (.cells #[.int .i64 (W : Int), .int .i64 (need : Int), .slice none 0 0, .map (some w.heap.size)] 47)
    simpa using this
  go_enter Tryz.func28, Tryz.ntmps28
  go_wp2
  go_ret
  exact ⟨rfl, by simp, HD.out, ((Below.refl _ _).alloc (Nat.le_refl _) _).alloc (by simp) _⟩
end
end Go.Proofs.YtnahkonklkcbeabGreatDoor.TkA
