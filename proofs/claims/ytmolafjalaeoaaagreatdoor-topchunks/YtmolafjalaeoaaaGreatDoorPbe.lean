/-
  What crates does to the world.
-/
import Derived.Test.YtmolafjalaeoaaaGreatDoorPbd
namespace Go.Proofs.YtmolafjalaeoaaaGreatDoor.InA
open Go.RowKit TkM TkW TkA InM Go.Maps Go.Shelf
set_option maxRecDepth 100000
theorem mkxs {A : ByteArray → Prop} : ∀ (ss : List (List UInt8)), (∀ l, l ∈ ss → A ⟨l.toArray⟩) → ∃ xs : List { x : ByteArray // A x }, xs.map (fun x => x.1.data.toList) = ss
  | [], _ => ⟨[], rfl⟩
  | l :: ss, h => by
    obtain ⟨xs, hx⟩ := mkxs ss (fun l hl => h l (List.mem_cons_of_mem _ hl))
    exact ⟨⟨⟨l.toArray⟩, h l List.mem_cons_self⟩ :: xs, by simp [hx]⟩
theorem own_strs {V : World} {base : Nat} {v : Value} {ss : List (List UInt8)} (h : V.ownsRow base 9 1 v ss.length (ss.map encStr)) : ∃ p cap, v = .slice p ss.length cap ∧ ∀ j x, ss[j]? = some x → ∃ g, p = some ⟨g, 0, none⟩ ∧ V.cell? ⟨g, j, none⟩ = some (.string ⟨x.toArray⟩) := by
  rcases Nat.eq_zero_or_pos ss.length with h0 | h0
  · have : ss = [] := List.length_eq_zero_iff.1 h0
    subst this
    rcases h.2 with ⟨rfl, _⟩ | ⟨g, cap, cur, hv, _⟩
    · exact ⟨none, 0, rfl, fun i y h => by simp at h⟩
    · exact ⟨_, cap, hv, fun i y h => by simp at h⟩
  · obtain ⟨g, cap, rfl, _, _⟩ := h.form h0
    refine ⟨some ⟨g, 0, none⟩, cap, rfl, fun j x hx => ⟨g, rfl, ?_⟩⟩
    have := h.cells (g := g) rfl j (encStr x) (by simp [hx])
    rw [addr_add] at this
    exact this
theorem own_zero {V : World} {base : Nat} {e : TypeId} {size n n' cap b o : Nat} {xs : List Value} (h : V.ownsRow base e size (.slice (some ⟨b, o, none⟩) n cap) n' xs) : (Value.slice (some ⟨b, o, none⟩) n cap).ownBlock = some b := by
  rcases h.2 with ⟨h', _⟩ | ⟨g, cap', cur, hv, _⟩
  · simp at h'
  · simp at hv
    rw [hv.1.1, hv.1.2]
    rfl
theorem infoC : (Tryz.prog.info? 209).map (fun i => (i.zero, i.size, i.bytes)) = some (some (.agg #[.string ⟨#[]⟩, .int .i64 0, .slice none 0 0]), 3, 48) := by kernel_rfl
def crc (n : Nat) (x : Cr) : List Value := [.string x.g, .int .i64 (knd x.g : Int), .slice x.p n x.c]
def crcs (n : Nat) (cs : List Cr) : List Value := cs.flatMap (crc n)
theorem crcs_snoc (n : Nat) (cs : List Cr) (x : Cr) : crcs n (cs ++ [x]) = crcs n cs ++ [.string x.g, .int .i64 (knd x.g : Int), .slice x.p n x.c] := by simp [crcs, crc]
theorem crcs_at (n : Nat) : ∀ (cs : List Cr) (k j : Nat) (x : Cr), cs[k]? = some x → j < 3 → (crcs n cs)[k * 3 + j]? = (crc n x)[j]?
  | y :: cs, 0, j, x, hx, hj => by
    simp at hx
    subst hx
    show (crc n y ++ crcs n cs)[0 * 3 + j]? = _
    rw [List.getElem?_append_left (by show 0 * 3 + j < 3; omega)]
    congr 1
    omega
  | y :: cs, k + 1, j, x, hx, hj => by
    show (crc n y ++ crcs n cs)[(k + 1) * 3 + j]? = _
    have hl : (crc n y).length = 3 := rfl
    rw [List.getElem?_append_right (by rw [hl]; omega), hl, show (k + 1) * 3 + j - 3 = k * 3 + j by omega]
    exact crcs_at n cs k j x (by simpa using hx) hj
  | [], _, _, _, hx, _ => by simp at hx
/-- The crates, as they come together. -/
structure CrI (w1 U : World) (NB : Nat) (ep : Nat → List Sg) (W need L n : Nat) (names : List ByteArray) (q : Option Addr) (cap : Nat) (cs : List Cr) : Prop where
  box : U.heap[NB]? = some (.cells #[.slice q cs.length cap] 206)
  own : U.ownsRow w1.heap.size 209 3 (.slice q cs.length cap) cs.length (crcs n cs)
  pls : ∀ x, x ∈ cs → U.ownsRow 0 3 1 (.slice x.p n x.c) n (plv (whr x.g ep W need) L n)
  nms : cs.map (·.g) = names.filter (fun g => decide (0 < knd g))
  kp : Kp (fun b => b = NB) w1 U
structure CrJ (w1 U : World) (NB : Nat) (ep : Nat → List Sg) (W need L n : Nat) (names : List ByteArray) : Prop where
  out : ∃ q cap cs, CrI w1 U NB ep W need L n names q cap cs
theorem CrI.crs {w1 U : World} {NB : Nat} {ep : Nat → List Sg} {W need L n : Nat} {names : List ByteArray} {q : Option Addr} {cap : Nat} {cs : List Cr} (h : CrI w1 U NB ep W need L n names q cap cs) : CrsAt U q cs ep W need L n where
  at_ := fun i x hx => by
    have hi : i < cs.length := (List.getElem?_eq_some_iff.1 hx).1
    obtain ⟨b, cap', hv, h1, h2⟩ := h.own.form (by omega)
    have hq : q = some ⟨b, 0, none⟩ := by simp at hv; exact hv.1
    subst hq
    have hcell : ∀ j u, j < 3 → (crc n x)[j]? = some u → U.cell? ⟨b, i * 3 + j, none⟩ = some u := by
      intro j u hj hu
      have := h.own.cells (g := b) rfl (i * 3 + j) u (by rw [crcs_at n cs i j x hx hj]; exact hu)
      rw [addr_add] at this
      exact this
    obtain ⟨p', c', hpe, hpl⟩ := pl_of (h.pls x (List.mem_of_getElem? hx))
    simp at hpe
    rw [← hpe.1] at hpl
    exact ⟨b, rfl, h2, hcell 0 _ (by omega) rfl, hcell 1 _ (by omega) rfl, hcell 2 _ (by omega) rfl, hpl⟩
/-- All blocks of cells are as they were. -/
theorem CrI.keep {w1 U U' : World} {NB : Nat} {ep : Nat → List Sg} {W need L n : Nat} {names : List ByteArray} {q : Option Addr} {cap : Nat} {cs : List Cr} (h : CrI w1 U NB ep W need L n names q cap cs) (hk : Kp (fun b => b = NB) w1 U') (hb : ∀ (k : Nat) (c : Array Value) (t : TypeId) (f : Nat × Nat), U.heap[k]? = some (.cells c t f) → U'.heap[k]? = U.heap[k]?) : CrI w1 U' NB ep W need L n names q cap cs where
  box := (hb _ _ _ _ h.box).trans h.box
  own := own_keep h.own (fun b hb' => by obtain ⟨c, hc⟩ := own_tag h.own hb'; exact hb _ _ _ _ hc)
  pls := fun x hx => own_keep (h.pls x hx) (fun b hb' => by obtain ⟨c, hc⟩ := own_tag (h.pls x hx) hb'; exact hb _ _ _ _ hc)
  nms := h.nms
  kp := hk
theorem CrJ.from_ {w1 : World} {NB : Nat} {ep : Nat → List Sg} {W need L n : Nat} {A : ByteArray → Prop} : OwnFrom w1.heap.size (fun (pre : List { x : ByteArray // A x }) U => CrJ w1 U NB ep W need L n (pre.map (·.1))) := fun s U U' row hs hg hr => by
  obtain ⟨q, cap, cs, h⟩ := hs.out
  refine ⟨q, cap, cs, h.keep (h.kp.then (G := fun b => row = some b) ⟨hg.os, hg.tape, hg.output, hg.size, fun k hk hn => hg.block k hk (fun e => hn e.symm)⟩ (fun i hi e => ?_)) (fun k c t f hk => hg.block k (Array.getElem?_eq_some_iff.1 hk).1 (fun e => ?_))⟩
  · have := (hr i e).1; omega
  · obtain ⟨_, o, ho, hc⟩ := hr k e.symm
    rw [hk] at ho
    cases ho
    cases hc
/-- One more crate. -/
theorem CrI.step {w1 U U2 U3 V5 : World} {NB : Nat} {ep : Nat → List Sg} {W need L n : Nat} {names : List ByteArray} {q : Option Addr} {cap : Nat} {cs : List Cr} {x : ByteArray} {p : Option Addr} {cp g2 cap2 : Nat} {o4 : Obj} (h : CrI w1 U NB ep W need L n names q cap cs) (hN1 : NB < w1.heap.size) (hb2 : Below U.heap.size U U2) (hb3 : Below U2.heap.size U2 U3)
    (hrow : U3.ownsRow U2.heap.size 3 1 (.slice p n cp) n (plv (whr x ep W need) L n)) (hown : V5.ownsRow w1.heap.size 209 3 (.slice (some ⟨g2, 0, none⟩) (cs.length + 1) cap2) (cs.length + 1) (crcs n cs ++ [.string x, .int .i64 (knd x : Int), .slice p n cp])) (hg : (U3.alloc o4).grownBy V5 (Value.slice q cs.length cap).ownBlock) (hk : 0 < knd x) {V6 : World} (hV6 : V6 = V5.setCell ⟨NB, 0, none⟩ (.slice (some ⟨g2, 0, none⟩) (cs.length + 1) cap2)) :
    CrI w1 V6 NB ep W need L n (names ++ [x]) (some ⟨g2, 0, none⟩) cap2 (cs ++ [⟨x, p, cp⟩]) ∧ KeepsOthers U V6 ∧ (∀ b, b < U2.heap.size → b ≠ NB → (b < w1.heap.size ∨ U.heap.size ≤ b) → V6.heap[b]? = U2.heap[b]?) ∧ V5.heap[NB]? = some (.cells #[.slice q cs.length cap] 206) := by
  have hrlt : ∀ b, (Value.slice q cs.length cap).ownBlock = some b → w1.heap.size ≤ b ∧ b < U.heap.size := fun b hb => h.own.lt b hb
  have s2 := hb2.size
  have s3 := hb3.size
  have s5 := hg.size
  rw [World.size_alloc] at s5
  have hNU : NB < U.heap.size := (Array.getElem?_eq_some_iff.1 h.box).1
  have hV6s : V6.heap.size = V5.heap.size := by rw [hV6]; simp [World.setCell]
  have k6 : ∀ b, b ≠ NB → V6.heap[b]? = V5.heap[b]? := fun b hb => by rw [hV6]; exact Below.heap_setCell _ _ _ _ hb
  have k53 : ∀ b, b < U3.heap.size → (Value.slice q cs.length cap).ownBlock ≠ some b → V5.heap[b]? = U3.heap[b]? := fun b hb hn => (hg.block b (by simp; omega) (fun e => hn e.symm)).trans (Below.heap_alloc U3 _ _ hb)
  have k2 : ∀ b, b < U2.heap.size → (Value.slice q cs.length cap).ownBlock ≠ some b → V5.heap[b]? = U2.heap[b]? := fun b hb hn => (k53 b (by omega) hn).trans (hb3.block b hb)
  have k0 : ∀ b, b < U.heap.size → (Value.slice q cs.length cap).ownBlock ≠ some b → V5.heap[b]? = U.heap[b]? := fun b hb hn => (k2 b (by omega) hn).trans (hb2.block b hb)
  have hNo : (Value.slice q cs.length cap).ownBlock ≠ some NB := fun e => by have := (hrlt NB e).1; omega
  have h5 : V5.heap[NB]? = some (.cells #[.slice q cs.length cap] 206) := (k0 NB hNU hNo).trans h.box
  have hgN : g2 ≠ NB := by have := (hown.lt g2 rfl).1; omega
  refine ⟨⟨?_, ?_, ?_, ?_, ?_⟩, ⟨by omega, ?_⟩, ?_, h5⟩
  · rw [hV6, List.length_append]
    simp [World.setCell, Array.getElem?_modify, h5]
  · rw [List.length_append, crcs_snoc]
    exact own_keep hown (fun b hb => k6 b (by simp [Value.ownBlock] at hb; omega))
  · intro y hy
    rcases List.mem_append.1 hy with hy | hy
    · refine own_keep (h.pls y hy) (fun b hb => ?_)
      obtain ⟨c, hc⟩ := own_tag (h.pls y hy) hb
      have hlt := own_lt (h.pls y hy) hb
      rw [k6 b (fun e => by rw [e, h.box] at hc; simp at hc), k0 b hlt (fun e => by
        obtain ⟨c', hc'⟩ := own_tag h.own e
        rw [hc] at hc'
        simp at hc')]
    · have : y = ⟨x, p, cp⟩ := by simpa using hy
      subst this
      refine own_keep (own_base hrow (Nat.zero_le _)) (fun b hb => ?_)
      have hlt := hrow.lt b hb
      rw [k6 b (by omega), k53 b hlt.2 (fun e => by have := (hrlt b e).2; omega)]
  · rw [List.map_append, h.nms, List.filter_append]
    simp [hk]
  · have a1 : Kp (fun b => b = NB) w1 U3 := (h.kp.trans (below_kp hb2 _)).trans (below_kp hb3 _)
    have a2 : Kp (fun b => b = NB) w1 (U3.alloc o4) := a1.trans (alloc_kp _ _ _)
    have a3 : Kp (fun b => b = NB) w1 V5 := a2.then (G := fun b => (Value.slice q cs.length cap).ownBlock = some b) (grown_kp hg (fun k e => e)) (fun i hi e => by have := (hrlt i e).1; omega)
    rw [hV6]
    exact a3.trans (set_kp _ _ _ rfl)
  · intro b o hb ho
    have hlt := (Array.getElem?_eq_some_iff.1 hb).1
    rw [k6 b (fun e => by rw [e, h.box] at hb; cases hb; cases ho), k0 b hlt (fun e => by
      obtain ⟨c', hc'⟩ := own_tag h.own e
      rw [hb] at hc'
      cases hc'
      cases ho)]
    exact hb
  · intro b hb hn hor
    rw [k6 b hn, k2 b hb (fun e => by have := hrlt b e; omega)]
/-- What crates answers. -/
structure CP (e : Ending) (w' : World) (ep : Nat → List Sg) (W need L n : Nat) : Prop where
  out : ∃ (q : Option Addr) (cap : Nat) (cs : List Cr), e = .returned (.slice q cs.length cap) ∧ CrsAt w' q cs ep W need L n ∧ cs.length ≤ 90000 ∧ (∀ g, g ∈ cs.map (·.g) ↔ (∃ e, seenG g (ep e) = true) ∧ 0 < knd g)
section
variable {w : World} {tb xb : Nat} {who : Nat → Nat × ByteArray × Nat} {F : Nat → Prop} {W need n r span score k : Nat} {ep : Nat → List Sg} {f : Nat → ByteArray → ByteArray}
attribute [local go_sem] Oper.semAt_some
set_option maxHeartbeats 4000000 in
theorem crates_any (e : Nat) (d : TrAt w tb who W need n r ep) (x : InAt w xb tb F span score k f) (hT : TagA.Tabs w) (hW : W ≤ 8) (hn : n ≤ 1000) (he : e < n) (hr : r ≤ 90000) (hs : ∀ g, (∃ e, seenG g (ep e) = true) → g.size ≤ 100000) (h8 : span ≤ 8) :
    Calls Tryz.prog 110 #[.pointer (some ⟨xb, 0, none⟩), .int .i64 (e : Int)] w fun e' w' => CP e' w' ep W need (lo span e) (e + 1 - lo span e) ∧ Below w.heap.size w w' := by
  have mixed : Tryz.prog.follows .mixedOrders = true := by kernel_rfl
  obtain ⟨iC, hiC, hzC, hsC, hbC⟩ := info_parts infoC
  obtain ⟨V0, hV0⟩ : ∃ V0, V0 = ((w.alloc (.cells #[.pointer (some ⟨xb, 0, none⟩)] 101)).alloc (.cells #[.int .i64 (e : Int)] 3)).alloc (.cells #[.slice none 0 0] 206) := ⟨_, rfl⟩
  have hb0 : Below w.heap.size w V0 := by rw [hV0]; exact (((Below.refl _ w).alloc (Nat.le_refl _) _).alloc (by simp) _).alloc (by simp; omega) _
  have hs0 : V0.heap.size = w.heap.size + 1 + 1 + 1 := by rw [hV0]; simp
  have q2 : V0.heap[w.heap.size]? = some (.cells #[.pointer (some ⟨xb, 0, none⟩)] 101) := by
    rw [hV0, Below.heap_alloc _ _ _ (by simp; omega), Below.heap_alloc _ _ _ (by simp)]; exact Go.heap_alloc_new w _
  have q3 : V0.heap[w.heap.size + 1]? = some (.cells #[.int .i64 (e : Int)] 3) := by
    rw [hV0, Below.heap_alloc _ _ _ (by simp)]
    have := Go.heap_alloc_new (w.alloc (.cells #[.pointer (some ⟨xb, 0, none⟩)] 101)) (.cells #[.int .i64 (e : Int)] 3)
    rw [World.size_alloc] at this
    exact this
  have q5 : V0.heap[w.heap.size + 1 + 1]? = some (.cells #[.slice none 0 0] 206) := by
    have := Go.heap_alloc_new ((w.alloc (.cells #[.pointer (some ⟨xb, 0, none⟩)] 101)).alloc (.cells #[.int .i64 (e : Int)] 3)) (.cells #[.slice none 0 0] 206)
    rw [World.size_alloc, World.size_alloc] at this
    rw [hV0]; exact this
  obtain ⟨xv, ms, xi⟩ := x.out
  have kx : ∀ o o' o'' : Obj, (((w.alloc o).alloc o').alloc o'').cell? ⟨xb, 0, none⟩ = some (.pointer (some ⟨tb, 0, none⟩)) := fun o o' o'' => by
    have hb : Below w.heap.size w (((w.alloc o).alloc o').alloc o'') := (((Below.refl _ w).alloc (Nat.le_refl _) _).alloc (by simp) _).alloc (by simp; omega) _
    rw [hb.cell xi.lt]; exact xi.c0
  have HTG : Hid (Calls Tryz.prog 112 #[.pointer (some ⟨tb, 0, none⟩)] V0 fun e w' => e = .returned (.func (.func 138) #[] #[.pointer (some ⟨V0.heap.size, 0, none⟩)]) ∧ ∃ (v : Value) (ss : List (List UInt8)), w'.cell? ⟨V0.heap.size, 0, none⟩ = some v ∧ w'.ownsRow V0.heap.size 9 1 v ss.length (ss.map encStr) ∧ ss.length ≤ 90000 ∧ ss.Nodup ∧ (∀ g : ByteArray, g.data.toList ∈ ss ↔ ∃ e, seenG g (ep e) = true) ∧ Below V0.heap.size V0 w' ∧ V0.heap.size < w'.heap.size) := tags_any (d.below hb0) hr
  have HD : Hid (TrAt w tb who W need n r ep) := d
  have HX : Hid (InAt w xb tb F span score k f) := x
  have HTB : Hid (TagA.Tabs w) := hT
  have HSZ : Hid (∀ g, (∃ e, seenG g (ep e) = true) → g.size ≤ 100000) := hs
  have HQ : Hid (V0.heap[w.heap.size]? = some (.cells #[.pointer (some ⟨xb, 0, none⟩)] 101) ∧ V0.heap[w.heap.size + 1]? = some (.cells #[.int .i64 (e : Int)] 3) ∧ V0.heap[w.heap.size + 1 + 1]? = some (.cells #[.slice none 0 0] 206)) := ⟨q2, q3, q5⟩
  have HB0 : Hid (Below w.heap.size w V0 ∧ V0.heap.size = w.heap.size + 1 + 1 + 1) := ⟨hb0, hs0⟩
  have hV0' := hV0
  clear hV0 hb0 hs0 q2 q3 q5 xi d x hT hs
  refine (callsIn_wide (n := 3)).1 ?_
  refine callsIn_of_wp_marks Tryz.func110 rfl trivial ?_ rfl
  refine wpIn_wide.2 ?_
  simp only [Tryz.ntmps110, List.size_toArray, List.length_cons, List.length_nil, Nat.reduceAdd, Nat.reduceSub, Array.replicate_succ, Array.replicate_zero, List.push_toArray, List.append_toArray, List.nil_append, List.cons_append]
  go_wp2_with fail
  rw [← hV0']
  refine HTG.out.mono ?_
  rintro e' w1 ⟨rfl, v, ss, hcv, hown, hl9, hnd, hmem, hb1, hsz1⟩
  obtain ⟨xs, hxs⟩ := mkxs (A := fun x => ∃ e, seenG x (ep e) = true) ss (fun l hl => (hmem ⟨l.toArray⟩).1 (by simpa using hl))
  have hxl : xs.length = ss.length := by rw [← hxs]; simp
  obtain ⟨pv, cv, hve, hcells⟩ := own_strs hown
  subst hve
  obtain ⟨TB, hTB⟩ : ∃ TB, TB = V0.heap.size := ⟨_, rfl⟩
  rw [← hTB] at hcv hown hb1 hsz1 ⊢
  have HTG1 : Hid (TgOn w1 TB pv xs cv) := by
    refine ⟨by rw [hxl]; exact hcv, fun j x hx => ?_⟩
    obtain ⟨g, hp, hc⟩ := hcells j x.1.data.toList (by rw [← hxs, List.getElem?_map, hx]; rfl)
    exact ⟨g, hp, hc⟩
  have HOB : Hid (∀ b, (b = TB ∨ (∃ o, pv = some ⟨b, o, none⟩)) → TB ≤ b ∧ b < w1.heap.size) := fun b hb => by
    rcases hb with rfl | ⟨o, hp⟩
    · exact ⟨Nat.le_refl _, hsz1⟩
    · have hown' := hown
      rw [hp] at hown'
      have h1 := hown'.lt b (own_zero hown')
      omega
  have HMEM : Hid (∀ g : ByteArray, g ∈ xs.map (·.1) ↔ ∃ e, seenG g (ep e) = true) := fun g => by
    rw [← hmem g, ← hxs]
    constructor
    · intro h
      obtain ⟨y, hy, rfl⟩ := List.mem_map.1 h
      exact List.mem_map.2 ⟨y, hy, rfl⟩
    · intro h
      obtain ⟨y, hy, hye⟩ := List.mem_map.1 h
      exact List.mem_map.2 ⟨y, hy, bytes_ext hye⟩
  have HB1 : Hid (Below V0.heap.size V0 w1) := by rw [← hTB]; exact hb1
  obtain ⟨NB, hNB⟩ : ∃ NB, NB = w.heap.size + 1 + 1 := ⟨_, rfl⟩
  have HNB : Hid (NB = w.heap.size + 1 + 1 ∧ TB = NB + 1) := ⟨hNB, by rw [hTB, HB0.out.2, hNB]⟩
  have hNTB : NB < TB := by have := HNB.out.2; omega
  have HBX : Hid (w1.heap[w.heap.size]? = some (.cells #[.pointer (some ⟨xb, 0, none⟩)] 101) ∧ w1.heap[w.heap.size + 1]? = some (.cells #[.int .i64 (e : Int)] 3) ∧ w1.heap[NB]? = some (.cells #[.slice none 0 0] 206)) := by
    rw [hNB]
    exact ⟨(HB1.out.block _ (Array.getElem?_eq_some_iff.1 HQ.out.1).1).trans HQ.out.1, (HB1.out.block _ (Array.getElem?_eq_some_iff.1 HQ.out.2.1).1).trans HQ.out.2.1, (HB1.out.block _ (Array.getElem?_eq_some_iff.1 HQ.out.2.2).1).trans HQ.out.2.2⟩
  have HBW : Hid (Below w.heap.size w w1) := HB0.out.1.trans (HB1.out.mono HB0.out.1.size)
  have hx9 : xs.length ≤ 90000 := by omega
  clear hown hcells hnd hmem hb1 hxs hcv hV0' HTG HQ hTB kx hl9 hxl
  rw [← hNB]
  clear hNB
  go_wp2
  obtain ⟨L, hL⟩ : ∃ L, L = lo span e := ⟨_, rfl⟩
  have HL : Hid (L = lo span e) := hL
  obtain ⟨M, hM⟩ : ∃ M, M = e + 1 - L := ⟨_, rfl⟩
  have HM : Hid (M = e + 1 - L) := hM
  clear hL hM
  refine (wpIn_wide (n := 3)).1 ?_
  refine wpIn_rangeFunc_ownF rfl (by omega) (gf := 138) (lb := #[.pointer (some ⟨TB, 0, none⟩)]) rfl trivial (enters_of Tryz.func138 (by kernel_rfl) rfl)
    (tseq_stops (A := fun x => ∃ e, seenG x (ep e) = true) 2 (by omega) w1 TB pv cv xs (fun b => b = TB ∨ (∃ o, pv = some ⟨b, o, none⟩)) (Or.inl rfl) (fun b o h => Or.inr ⟨o, h⟩) hx9 (fun b hb => (HOB.out b hb).2) HTG1.out) kpB_t (kpB_b (fun b hb => (HOB.out b hb).2)) (Below.refl _ _) (fun _ => rfl)
    (fun pre U => CrJ w1 U NB ep W need L M (pre.map (·.1))) (fun _ _ _ => False) ?hI (fun _ _ _ _ _ hs _ _ => hs) ?h0 ?a1 ?assign ?body ?done ?stop
  case hI => exact CrJ.from_
  case h0 => exact ⟨none, 0, [], HBX.out.2.2, World.ownsRow_nil _ _ _ _, fun x hx => absurd hx List.not_mem_nil, rfl, Kp.refl _ _⟩
  case assign =>
    intro l x U K hK
    gi_wp2
    exact hK
  case body =>
    rintro l pre ⟨x, hx⟩ U hJ hlen
    obtain ⟨q, cap, cs, hI⟩ := hJ.out
    have HI : Hid (CrI w1 U NB ep W need L M (pre.map (·.1)) q cap cs) := hI
    have hwNB : w.heap.size < NB := by have := HNB.out.1; omega
    have HBU : Hid (Below w.heap.size w U) := HBW.out.trans (hI.kp.below HBW.out.size (fun k hk e => by have e : k = NB := e; omega))
    have HPA : Hid (Calls Tryz.prog 24 #[.string x] U fun e w' => e = .returned (TagA.parseV x) ∧ Below U.heap.size U w') := TagA.parse_any x U (HTB.out.below HBU.out HTB.out.size) (by have := HSZ.out x hx; unfold maxLen; omega)
    clear hJ hI
    have hd1 : 1 ≤ 3 - 1 - 1 := by omega
    rcases parse_knd x with ⟨hk0, tF, tP, tC, tR, tS, hpv⟩ | ⟨hk0, hpv⟩
    · rw [hpv] at HPA
      unfold TagA.tagV at HPA
      clear hpv
      gi_wp2_with fail
      refine ⟨trivial, (CallsIn.inRound l (callsIn_wide.2 HPA.out)).mono ?_⟩
      rintro e2 U1 ⟨rfl, hb1⟩
      obtain ⟨kx, hkx⟩ : ∃ kx, kx = knd x := ⟨_, rfl⟩
      rw [← hkx]
      have HKX : Hid (kx = knd x ∧ 0 < kx) := ⟨hkx, by omega⟩
      clear hkx
      obtain ⟨U2, hU2⟩ : ∃ U2, U2 = U1.alloc (.cells #[.int .i64 (kx : Int), .int .i64 tF, .int .i64 tP, .int .i64 tC, .int .i64 tR, .int .i64 tS] 80) := ⟨_, rfl⟩
      have HB2 : Hid (Below U.heap.size U U2) := by rw [hU2]; exact hb1.alloc hb1.size _
      have hn2 : U2.heap[U1.heap.size]? = some (.cells #[.int .i64 (kx : Int), .int .i64 tF, .int .i64 tP, .int .i64 tC, .int .i64 tR, .int .i64 tS] 80) := by rw [hU2]; exact Go.heap_alloc_new U1 _
      have HW2 : Hid (Below w.heap.size w U2) := HBU.out.trans (HB2.out.mono HBU.out.size)
      have HNB2 : Hid (U2.heap[NB]? = some (.cells #[.slice q cs.length cap] 206)) := (HB2.out.block _ (Array.getElem?_eq_some_iff.1 HI.out.box).1).trans HI.out.box
      have hbx0 : U2.heap[w.heap.size]? = some (.cells #[.pointer (some ⟨xb, 0, none⟩)] 101) := by
        have h1 := (HI.out.kp.block _ (Array.getElem?_eq_some_iff.1 HBX.out.1).1 (by omega)).trans HBX.out.1
        exact (HB2.out.block _ (Array.getElem?_eq_some_iff.1 h1).1).trans h1
      have hbx1 : U2.heap[w.heap.size + 1]? = some (.cells #[.int .i64 (e : Int)] 3) := by
        have h1 := (HI.out.kp.block _ (Array.getElem?_eq_some_iff.1 HBX.out.2.1).1 (by have := HNB.out.1; omega)).trans HBX.out.2.1
        exact (HB2.out.block _ (Array.getElem?_eq_some_iff.1 h1).1).trans h1
      have hlt1 : NB < U1.heap.size := by have h1 := (Array.getElem?_eq_some_iff.1 HI.out.box).1; have h2 := hb1.size; omega
      have z1 := cell_of (i := 0) hn2 rfl
      have z2 := cell_of (i := 0) hbx0 rfl
      have z3 := cell_of (i := 0) hbx1 rfl
      have z0 := cell_of (i := 0) HNB2.out rfl
      have HSK : Hid (∀ V : World, Below U2.heap.size U2 V → (V.cell? ⟨U1.heap.size, 0, none⟩ = some (.int .i64 (kx : Int)) ∧ V.cell? ⟨w.heap.size, 0, none⟩ = some (.pointer (some ⟨xb, 0, none⟩)) ∧ V.cell? ⟨w.heap.size + 1, 0, none⟩ = some (.int .i64 (e : Int))) ∧ V.cell? ⟨NB, 0, none⟩ = some (.slice q cs.length cap)) := fun V hV => ⟨⟨TagA.keepCell hV z1, TagA.keepCell hV z2, TagA.keepCell hV z3⟩, TagA.keepCell hV z0⟩
      have HPL : Hid (∀ V, Below U2.heap.size U2 V → Calls Tryz.prog 135 #[.pointer (some ⟨xb, 0, none⟩), .string x, .int .i64 (e : Int)] V fun e' w' => ∃ p cp, e' = .returned (.slice p M cp) ∧ w'.ownsRow V.heap.size 3 1 (.slice p M cp) M (plv (whr x ep W need) L M) ∧ Below V.heap.size V w') := fun V hV => by
        have hwV : Below w.heap.size w V := HW2.out.trans (hV.mono HW2.out.size)
        have h := places_any x e (HD.out.below hwV) (HX.out.below hwV) hW hn he (HSZ.out x hx) hx h8
        rw [← HL.out, ← HM.out] at h
        exact h
      have HKP2 : Hid (Kp (fun b => b = NB) w1 U2) := HI.out.kp.trans (below_kp HB2.out _)
      have HUS : Hid (w1.heap.size ≤ U.heap.size) := HI.out.kp.size
      have HU1 : Hid (U.heap.size ≤ U1.heap.size) := hb1.size
      have HN1 : Hid (NB < w1.heap.size) := (Array.getElem?_eq_some_iff.1 HBX.out.2.2).1
      have HBASE : Hid (w1.heap.size ≤ U2.heap.size) := by have h1 := HB2.out.size; have h2 := HUS.out; show _ ≤ _; omega
      have hc9 : cs.length ≤ 90000 := by
        have h1 : cs.length = (cs.map (·.g)).length := by simp
        rw [h1, HI.out.nms]
        have h2 := List.length_filter_le (fun g => decide (0 < knd g)) (pre.map (·.1))
        rw [List.length_map] at h2
        omega
      clear hn2 hbx0 hbx1 hb1
      gi_wp2_with fail
      rw [← hU2]
      clear hU2 HPA
      refine region_round (S := fun V => V.cell? ⟨U1.heap.size, 0, none⟩ = some (.int .i64 (kx : Int)) ∧ V.cell? ⟨w.heap.size, 0, none⟩ = some (.pointer (some ⟨xb, 0, none⟩)) ∧ V.cell? ⟨w.heap.size + 1, 0, none⟩ = some (.int .i64 (e : Int))) mixed ?hdef ?hlet (HSK.out _ (drewN_below U2 1)).1 (fun hS0 => ?_)
      case hdef =>
        intro i o ho c hc
        have hlt : i < 12 := (Array.getElem?_eq_some_iff.1 ho).1
        rcases i with _ | _ | _ | _ | _ | _ | _ | _ | _ | _ | _ | _ | i
        all_goals first | (simp at ho; rw [← ho] at hc; cases hc) | omega
      case hlet =>
        rintro ⟨a, w', h⟩
        exact h
      refine wpAnyH_take (i := 1) (v := .string x) rfl (by kernel_rfl) (by kernel_rfl) (by kernel_rfl) (fun _ _ _ h => h) (Or.inl ⟨by rfl, fun wx _ => by go_simp⟩) hS0 ?_
      change wpAnyH _ _ _ _ _ _ _ (Act.put _ (some 23) _) _
      simp only [Act.put, List.setIfInBounds_toArray, List.set_cons_zero, List.set_cons_succ]
      refine wpAnyH_take (i := 2) (v := .pointer (some ⟨U1.heap.size, 0, none⟩)) rfl (by kernel_rfl) (by kernel_rfl) (by kernel_rfl) (fun _ _ _ h => h) (Or.inl ⟨by rfl, fun wx _ => by go_simp⟩) hS0 ?_
      change wpAnyH _ _ _ _ _ _ _ (Act.put _ (some 24) _) _
      simp only [Act.put, List.setIfInBounds_toArray, List.set_cons_zero, List.set_cons_succ]
      refine wpAnyH_take (i := 3) (v := .int .i64 (kx : Int)) rfl (by kernel_rfl) (by kernel_rfl) (by kernel_rfl) (fun _ _ _ h => h) (Or.inl ⟨by rfl, fun wx hS => by obtain ⟨h1, h2, h3⟩ := hS; go_simp⟩) hS0 ?_
      change wpAnyH _ _ _ _ _ _ _ (Act.put _ (some 25) _) _
      simp only [Act.put, List.setIfInBounds_toArray, List.set_cons_zero, List.set_cons_succ]
      refine wpAnyH_take (i := 4) (v := .pointer (some ⟨xb, 0, none⟩)) rfl (by kernel_rfl) (by kernel_rfl) (by kernel_rfl) (fun _ _ _ h => h) (Or.inl ⟨by rfl, fun wx hS => by obtain ⟨h1, h2, h3⟩ := hS; go_simp⟩) hS0 ?_
      change wpAnyH _ _ _ _ _ _ _ (Act.put _ (some 26) _) _
      simp only [Act.put, List.setIfInBounds_toArray, List.set_cons_zero, List.set_cons_succ]
      refine wpAnyH_take (i := 5) (v := .string x) rfl (by kernel_rfl) (by kernel_rfl) (by kernel_rfl) (fun _ _ _ h => h) (Or.inl ⟨by rfl, fun wx _ => by go_simp⟩) hS0 ?_
      change wpAnyH _ _ _ _ _ _ _ (Act.put _ (some 27) _) _
      simp only [Act.put, List.setIfInBounds_toArray, List.set_cons_zero, List.set_cons_succ]
      refine wpAnyH_take (i := 6) (v := .int .i64 (e : Int)) rfl (by kernel_rfl) (by kernel_rfl) (by kernel_rfl) (fun _ _ _ h => h) (Or.inl ⟨by rfl, fun wx hS => by obtain ⟨h1, h2, h3⟩ := hS; go_simp⟩) hS0 ?_
      change wpAnyH _ _ _ _ _ _ _ (Act.put _ (some 28) _) _
      simp only [Act.put, List.setIfInBounds_toArray, List.set_cons_zero, List.set_cons_succ]
      refine wpAnyH_ready (rs := [0, 7]) (by kernel_rfl) (by simp) ?_
      refine AllReadyH.cons rfl (fun K hK => ?_) (AllReadyH.cons rfl (fun K hK => ?_) AllReadyH.nil)
      · have hld : U2.drew.cell? ⟨NB, 0, none⟩ = some (.slice q cs.length cap) := z0
        go_simp
        clear hld
        refine hK.out _ _ hS0 (fun _ => ?_)
        clear hK K
        refine wpAnyH_ready (rs := [7]) (by kernel_rfl) (by simp) ?_
        refine AllReadyH.cons rfl (fun K hK => ?_) AllReadyH.nil
        go_simp
        refine (HPL.out _ (drewN_below U2 1)).mono ?_
        rintro e3 U3 ⟨p, cp, rfl, hrow3, hb3⟩
        have h3 := HSK.out U3 ((drewN_below U2 1).trans hb3)
        have HB3 : Hid (Below U2.heap.size U2 U3) := (drewN_below U2 1).trans hb3
        have HR3 : Hid (U3.ownsRow U2.heap.size 3 1 (.slice p M cp) M (plv (whr x ep W need) L M)) := hrow3
        have hs3 : U2.heap.size ≤ U3.heap.size := HB3.out.size
        clear hb3 hrow3
        refine hK.out _ _ h3.1 (fun _ => ?_)
        clear hK K
        refine wpAnyH_take (i := 8) (v := .agg #[.string x, .int .i64 (kx : Int), .slice p M cp]) rfl (by kernel_rfl) (by kernel_rfl) (by kernel_rfl) (fun _ _ _ h => h) (Or.inl ⟨by rfl, fun wx _ => by go_simp⟩) h3.1 ?_
        change wpAnyH _ _ _ _ _ _ _ (Act.put _ (some 30) _) _
        simp only [Act.put, List.setIfInBounds_toArray, List.set_cons_zero, List.set_cons_succ]
        refine wpAnyH_ready (rs := [9]) (by kernel_rfl) (by simp) ?_
        refine AllReadyH.cons rfl (fun K hK => ?_) AllReadyH.nil
        go_simp
        have h4 := HSK.out (U3.alloc (.cells #[.string x, .int .i64 (kx : Int), .slice p M cp] 209)) (HB3.out.alloc hs3 _)
        refine hK.out _ _ h4.1 (fun _ => ?_)
        clear hK K
        refine wpAnyH_ready (rs := [10]) (by kernel_rfl) (by simp) ?_
        refine AllReadyH.cons rfl (fun K hK => ?_) AllReadyH.nil
        have HNEW : Hid (∀ j u, ([.string x, .int .i64 (kx : Int), .slice p M cp] : List Value)[j]? = some u → (U3.alloc (.cells #[.string x, .int .i64 (kx : Int), .slice p M cp] 209)).cell? ((⟨U3.heap.size, 0, none⟩ : Addr).add j) = some u) := by
          intro j u hj
          rw [addr_add]
          have hh := Go.heap_alloc_new U3 (.cells #[.string x, .int .i64 (kx : Int), .slice p M cp] 209)
          exact cell_of hh (by simpa using hj)
        have HROW : Hid ((U3.alloc (.cells #[.string x, .int .i64 (kx : Int), .slice p M cp] 209)).ownsRow w1.heap.size 209 3 (.slice q cs.length cap) cs.length (crcs M cs)) := own_keep HI.out.own (fun b hb => by
          have hlt := own_lt HI.out.own hb
          rw [Below.heap_alloc U3 _ _ (by have := HB2.out.size; omega), HB3.out.block b (by have := HB2.out.size; omega), HB2.out.block b hlt])
        have HML : Hid (cs.length + 1 ≤ maxLen) := by show _ ≤ _; unfold maxLen; omega
        have HBY : Hid ((cs.length + 1) * 48 ≤ 140737488355328) := by show _ ≤ _; omega
        refine step_append_lies _ (by rfl) (.tmp 22) (.tmp 31) 206 (by rfl) w1.heap.size 209 iC (.agg #[.string ⟨#[]⟩, .int .i64 0, .slice none 0 0]) 3 48 Tryz.underlying206 hiC hzC hsC hbC rfl (by omega) (.slice q cs.length cap) cs.length (crcs M cs) (by rfl) HROW.out ⟨U3.heap.size, 0, none⟩ 1 1 [.string x, .int .i64 (kx : Int), .slice p M cp] (by rfl) rfl HNEW.out (fun u hu => by simp at hu; rcases hu with rfl | rfl | rfl <;> rfl) (by omega) HML.out HBY.out (by rw [World.size_alloc]; have := HBASE.out; omega) _ rfl ?_
        intro g2 cap2 V5 hown5 hgrow5 hat5 hlt5
        have hown5' : V5.ownsRow w1.heap.size 209 3 (.slice (some ⟨g2, 0, none⟩) (cs.length + 1) cap2) (cs.length + 1) (crcs M cs ++ [.string x, .int .i64 (knd x : Int), .slice p M cp]) := by rw [← HKX.out.1]; exact hown5
        obtain ⟨st1, st2, st3, st4⟩ := HI.out.step HN1.out HB2.out HB3.out HR3.out hown5' hgrow5 (by rw [← HKX.out.1]; exact HKX.out.2) rfl
        have c5 := cell_of (i := 0) st4 rfl
        have f5 := fz_of (i := 0) st4
        have h5 : V5.cell? ⟨U1.heap.size, 0, none⟩ = some (.int .i64 (kx : Int)) ∧ V5.cell? ⟨w.heap.size, 0, none⟩ = some (.pointer (some ⟨xb, 0, none⟩)) ∧ V5.cell? ⟨w.heap.size + 1, 0, none⟩ = some (.int .i64 (e : Int)) := by
          have hU4 : Below U2.heap.size U2 (U3.alloc (.cells #[.string x, .int .i64 (kx : Int), .slice p M cp] 209)) := HB3.out.alloc hs3 _
          obtain ⟨⟨a1, a2, a3⟩, _⟩ := HSK.out _ hU4
          exact ⟨hgrow5.cell a1 (fun e => by have h1 : _ ∧ U1.heap.size < U.heap.size := HI.out.own.lt _ e.symm; have h2 := HU1.out; omega), hgrow5.cell a2 (fun e => by have h1 : w1.heap.size ≤ w.heap.size ∧ _ := HI.out.own.lt _ e.symm; have h2 := HN1.out; omega), hgrow5.cell a3 (fun e => by have h1 : w1.heap.size ≤ w.heap.size + 1 ∧ _ := HI.out.own.lt _ e.symm; have h2 := HN1.out; have h3 := HNB.out.1; omega)⟩
        have h6 : (V5.setCell ⟨NB, 0, none⟩ (.slice (some ⟨g2, 0, none⟩) (cs.length + 1) cap2)).cell? ⟨U1.heap.size, 0, none⟩ = some (.int .i64 (kx : Int)) ∧ (V5.setCell ⟨NB, 0, none⟩ (.slice (some ⟨g2, 0, none⟩) (cs.length + 1) cap2)).cell? ⟨w.heap.size, 0, none⟩ = some (.pointer (some ⟨xb, 0, none⟩)) ∧ (V5.setCell ⟨NB, 0, none⟩ (.slice (some ⟨g2, 0, none⟩) (cs.length + 1) cap2)).cell? ⟨w.heap.size + 1, 0, none⟩ = some (.int .i64 (e : Int)) :=
          ⟨by rw [World.cell?_setCell_far _ _ _ _ (by show NB ≠ U1.heap.size; omega)]; exact h5.1, by rw [World.cell?_setCell_far _ _ _ _ (by show NB ≠ w.heap.size; omega)]; exact h5.2.1, by rw [World.cell?_setCell_far _ _ _ _ (by show NB ≠ w.heap.size + 1; have := HNB.out.1; omega)]; exact h5.2.2⟩
        have HPO : Hid (KeepsOthers U (V5.setCell ⟨NB, 0, none⟩ (.slice (some ⟨g2, 0, none⟩) (cs.length + 1) cap2)) ∧ KpB (fun b => b = TB ∨ (∃ o, pv = some ⟨b, o, none⟩)) U (V5.setCell ⟨NB, 0, none⟩ (.slice (some ⟨g2, 0, none⟩) (cs.length + 1) cap2)) ∧ CrJ w1 (V5.setCell ⟨NB, 0, none⟩ (.slice (some ⟨g2, 0, none⟩) (cs.length + 1) cap2)) NB ep W need L M ((pre ++ [(⟨x, hx⟩ : { x : ByteArray // ∃ e, seenG x (ep e) = true })]).map (·.1))) := by
          refine ⟨st2, fun b hb => ?_, ⟨_, _, _, by rw [List.map_append]; exact st1⟩⟩
          have hob := HOB.out b hb
          have hus := HUS.out
          have h2s := HB2.out.size
          rw [st3 b (by omega) (by omega) (Or.inl hob.2), HB2.out.block b (by omega)]
        clear hown5 hown5' hgrow5 hat5 hlt5 st1 st2 st3 st4
        refine hK.out _ _ h5 (fun _ => ?_)
        clear hK K
        change wpAnyH _ _ _ _ _ _ _ (Act.put _ (some 32) _) _
        simp only [Act.put, List.setIfInBounds_toArray, List.set_cons_zero, List.set_cons_succ]
        refine wpAnyH_ready (rs := [11]) (by kernel_rfl) (by simp) ?_
        refine AllReadyH.cons rfl (fun K hK => ?_) AllReadyH.nil
        go_simp
        refine hK.out _ _ h6 (fun _ => ?_)
        clear hK K
        refine wpAnyH_done (by kernel_rfl) ?_ _
        gi_wp2
        exact HPO.out
      · go_simp
        refine (HPL.out _ (drewN_below U2 1)).mono ?_
        rintro e3 U3 ⟨p, cp, rfl, hrow3, hb3⟩
        have h3 := HSK.out U3 ((drewN_below U2 1).trans hb3)
        have HB3 : Hid (Below U2.heap.size U2 U3) := (drewN_below U2 1).trans hb3
        have HR3 : Hid (U3.ownsRow U2.heap.size 3 1 (.slice p M cp) M (plv (whr x ep W need) L M)) := hrow3
        have hs3 : U2.heap.size ≤ U3.heap.size := HB3.out.size
        clear hb3 hrow3
        refine hK.out _ _ h3.1 (fun _ => ?_)
        clear hK K
        refine wpAnyH_take (i := 8) (v := .agg #[.string x, .int .i64 (kx : Int), .slice p M cp]) rfl (by kernel_rfl) (by kernel_rfl) (by kernel_rfl) (fun _ _ _ h => h) (Or.inl ⟨by rfl, fun wx _ => by go_simp⟩) h3.1 ?_
        change wpAnyH _ _ _ _ _ _ _ (Act.put _ (some 30) _) _
        simp only [Act.put, List.setIfInBounds_toArray, List.set_cons_zero, List.set_cons_succ]
        refine wpAnyH_ready (rs := [0, 9]) (by kernel_rfl) (by simp) ?_
        refine AllReadyH.cons rfl (fun K hK => ?_) (AllReadyH.cons rfl (fun K hK => ?_) AllReadyH.nil)
        · have hld := h3.2
          go_simp
          clear hld
          refine hK.out _ _ h3.1 (fun _ => ?_)
          clear hK K
          refine wpAnyH_ready (rs := [9]) (by kernel_rfl) (by simp) ?_
          refine AllReadyH.cons rfl (fun K hK => ?_) AllReadyH.nil
          go_simp
          have h4 := HSK.out (U3.alloc (.cells #[.string x, .int .i64 (kx : Int), .slice p M cp] 209)) (HB3.out.alloc hs3 _)
          refine hK.out _ _ h4.1 (fun _ => ?_)
          clear hK K
          refine wpAnyH_ready (rs := [10]) (by kernel_rfl) (by simp) ?_
          refine AllReadyH.cons rfl (fun K hK => ?_) AllReadyH.nil
          have HNEW : Hid (∀ j u, ([.string x, .int .i64 (kx : Int), .slice p M cp] : List Value)[j]? = some u → (U3.alloc (.cells #[.string x, .int .i64 (kx : Int), .slice p M cp] 209)).cell? ((⟨U3.heap.size, 0, none⟩ : Addr).add j) = some u) := by
            intro j u hj
            rw [addr_add]
            have hh := Go.heap_alloc_new U3 (.cells #[.string x, .int .i64 (kx : Int), .slice p M cp] 209)
            exact cell_of hh (by simpa using hj)
          have HROW : Hid ((U3.alloc (.cells #[.string x, .int .i64 (kx : Int), .slice p M cp] 209)).ownsRow w1.heap.size 209 3 (.slice q cs.length cap) cs.length (crcs M cs)) := own_keep HI.out.own (fun b hb => by
            have hlt := own_lt HI.out.own hb
            rw [Below.heap_alloc U3 _ _ (by have := HB2.out.size; omega), HB3.out.block b (by have := HB2.out.size; omega), HB2.out.block b hlt])
          have HML : Hid (cs.length + 1 ≤ maxLen) := by show _ ≤ _; unfold maxLen; omega
          have HBY : Hid ((cs.length + 1) * 48 ≤ 140737488355328) := by show _ ≤ _; omega
          refine step_append_lies _ (by rfl) (.tmp 22) (.tmp 31) 206 (by rfl) w1.heap.size 209 iC (.agg #[.string ⟨#[]⟩, .int .i64 0, .slice none 0 0]) 3 48 Tryz.underlying206 hiC hzC hsC hbC rfl (by omega) (.slice q cs.length cap) cs.length (crcs M cs) (by rfl) HROW.out ⟨U3.heap.size, 0, none⟩ 1 1 [.string x, .int .i64 (kx : Int), .slice p M cp] (by rfl) rfl HNEW.out (fun u hu => by simp at hu; rcases hu with rfl | rfl | rfl <;> rfl) (by omega) HML.out HBY.out (by rw [World.size_alloc]; have := HBASE.out; omega) _ rfl ?_
          intro g2 cap2 V5 hown5 hgrow5 hat5 hlt5
          have hown5' : V5.ownsRow w1.heap.size 209 3 (.slice (some ⟨g2, 0, none⟩) (cs.length + 1) cap2) (cs.length + 1) (crcs M cs ++ [.string x, .int .i64 (knd x : Int), .slice p M cp]) := by rw [← HKX.out.1]; exact hown5
          obtain ⟨st1, st2, st3, st4⟩ := HI.out.step HN1.out HB2.out HB3.out HR3.out hown5' hgrow5 (by rw [← HKX.out.1]; exact HKX.out.2) rfl
          have c5 := cell_of (i := 0) st4 rfl
          have f5 := fz_of (i := 0) st4
          have h5 : V5.cell? ⟨U1.heap.size, 0, none⟩ = some (.int .i64 (kx : Int)) ∧ V5.cell? ⟨w.heap.size, 0, none⟩ = some (.pointer (some ⟨xb, 0, none⟩)) ∧ V5.cell? ⟨w.heap.size + 1, 0, none⟩ = some (.int .i64 (e : Int)) := by
            have hU4 : Below U2.heap.size U2 (U3.alloc (.cells #[.string x, .int .i64 (kx : Int), .slice p M cp] 209)) := HB3.out.alloc hs3 _
            obtain ⟨⟨a1, a2, a3⟩, _⟩ := HSK.out _ hU4
            exact ⟨hgrow5.cell a1 (fun e => by have h1 : _ ∧ U1.heap.size < U.heap.size := HI.out.own.lt _ e.symm; have h2 := HU1.out; omega), hgrow5.cell a2 (fun e => by have h1 : w1.heap.size ≤ w.heap.size ∧ _ := HI.out.own.lt _ e.symm; have h2 := HN1.out; omega), hgrow5.cell a3 (fun e => by have h1 : w1.heap.size ≤ w.heap.size + 1 ∧ _ := HI.out.own.lt _ e.symm; have h2 := HN1.out; have h3 := HNB.out.1; omega)⟩
          have h6 : (V5.setCell ⟨NB, 0, none⟩ (.slice (some ⟨g2, 0, none⟩) (cs.length + 1) cap2)).cell? ⟨U1.heap.size, 0, none⟩ = some (.int .i64 (kx : Int)) ∧ (V5.setCell ⟨NB, 0, none⟩ (.slice (some ⟨g2, 0, none⟩) (cs.length + 1) cap2)).cell? ⟨w.heap.size, 0, none⟩ = some (.pointer (some ⟨xb, 0, none⟩)) ∧ (V5.setCell ⟨NB, 0, none⟩ (.slice (some ⟨g2, 0, none⟩) (cs.length + 1) cap2)).cell? ⟨w.heap.size + 1, 0, none⟩ = some (.int .i64 (e : Int)) :=
            ⟨by rw [World.cell?_setCell_far _ _ _ _ (by show NB ≠ U1.heap.size; omega)]; exact h5.1, by rw [World.cell?_setCell_far _ _ _ _ (by show NB ≠ w.heap.size; omega)]; exact h5.2.1, by rw [World.cell?_setCell_far _ _ _ _ (by show NB ≠ w.heap.size + 1; have := HNB.out.1; omega)]; exact h5.2.2⟩
          have HPO : Hid (KeepsOthers U (V5.setCell ⟨NB, 0, none⟩ (.slice (some ⟨g2, 0, none⟩) (cs.length + 1) cap2)) ∧ KpB (fun b => b = TB ∨ (∃ o, pv = some ⟨b, o, none⟩)) U (V5.setCell ⟨NB, 0, none⟩ (.slice (some ⟨g2, 0, none⟩) (cs.length + 1) cap2)) ∧ CrJ w1 (V5.setCell ⟨NB, 0, none⟩ (.slice (some ⟨g2, 0, none⟩) (cs.length + 1) cap2)) NB ep W need L M ((pre ++ [(⟨x, hx⟩ : { x : ByteArray // ∃ e, seenG x (ep e) = true })]).map (·.1))) := by
            refine ⟨st2, fun b hb => ?_, ⟨_, _, _, by rw [List.map_append]; exact st1⟩⟩
            have hob := HOB.out b hb
            have hus := HUS.out
            have h2s := HB2.out.size
            rw [st3 b (by omega) (by omega) (Or.inl hob.2), HB2.out.block b (by omega)]
          clear hown5 hown5' hgrow5 hat5 hlt5 st1 st2 st3 st4
          refine hK.out _ _ h5 (fun _ => ?_)
          clear hK K
          change wpAnyH _ _ _ _ _ _ _ (Act.put _ (some 32) _) _
          simp only [Act.put, List.setIfInBounds_toArray, List.set_cons_zero, List.set_cons_succ]
          refine wpAnyH_ready (rs := [11]) (by kernel_rfl) (by simp) ?_
          refine AllReadyH.cons rfl (fun K hK => ?_) AllReadyH.nil
          go_simp
          refine hK.out _ _ h6 (fun _ => ?_)
          clear hK K
          refine wpAnyH_done (by kernel_rfl) ?_ _
          gi_wp2
          exact HPO.out
        · go_simp
          have h4 := HSK.out (U3.alloc (.cells #[.string x, .int .i64 (kx : Int), .slice p M cp] 209)) (HB3.out.alloc hs3 _)
          refine hK.out _ _ h4.1 (fun _ => ?_)
          clear hK K
          refine wpAnyH_ready (rs := [0]) (by kernel_rfl) (by simp) ?_
          refine AllReadyH.cons rfl (fun K hK => ?_) AllReadyH.nil
          have hld := h4.2
          go_simp
          clear hld
          refine hK.out _ _ h4.1 (fun _ => ?_)
          clear hK K
          refine wpAnyH_ready (rs := [10]) (by kernel_rfl) (by simp) ?_
          refine AllReadyH.cons rfl (fun K hK => ?_) AllReadyH.nil
          have HNEW : Hid (∀ j u, ([.string x, .int .i64 (kx : Int), .slice p M cp] : List Value)[j]? = some u → (U3.alloc (.cells #[.string x, .int .i64 (kx : Int), .slice p M cp] 209)).cell? ((⟨U3.heap.size, 0, none⟩ : Addr).add j) = some u) := by
            intro j u hj
            rw [addr_add]
            have hh := Go.heap_alloc_new U3 (.cells #[.string x, .int .i64 (kx : Int), .slice p M cp] 209)
            exact cell_of hh (by simpa using hj)
          have HROW : Hid ((U3.alloc (.cells #[.string x, .int .i64 (kx : Int), .slice p M cp] 209)).ownsRow w1.heap.size 209 3 (.slice q cs.length cap) cs.length (crcs M cs)) := own_keep HI.out.own (fun b hb => by
            have hlt := own_lt HI.out.own hb
            rw [Below.heap_alloc U3 _ _ (by have := HB2.out.size; omega), HB3.out.block b (by have := HB2.out.size; omega), HB2.out.block b hlt])
          have HML : Hid (cs.length + 1 ≤ maxLen) := by show _ ≤ _; unfold maxLen; omega
          have HBY : Hid ((cs.length + 1) * 48 ≤ 140737488355328) := by show _ ≤ _; omega
          refine step_append_lies _ (by rfl) (.tmp 22) (.tmp 31) 206 (by rfl) w1.heap.size 209 iC (.agg #[.string ⟨#[]⟩, .int .i64 0, .slice none 0 0]) 3 48 Tryz.underlying206 hiC hzC hsC hbC rfl (by omega) (.slice q cs.length cap) cs.length (crcs M cs) (by rfl) HROW.out ⟨U3.heap.size, 0, none⟩ 1 1 [.string x, .int .i64 (kx : Int), .slice p M cp] (by rfl) rfl HNEW.out (fun u hu => by simp at hu; rcases hu with rfl | rfl | rfl <;> rfl) (by omega) HML.out HBY.out (by rw [World.size_alloc]; have := HBASE.out; omega) _ rfl ?_
          intro g2 cap2 V5 hown5 hgrow5 hat5 hlt5
          have hown5' : V5.ownsRow w1.heap.size 209 3 (.slice (some ⟨g2, 0, none⟩) (cs.length + 1) cap2) (cs.length + 1) (crcs M cs ++ [.string x, .int .i64 (knd x : Int), .slice p M cp]) := by rw [← HKX.out.1]; exact hown5
          obtain ⟨st1, st2, st3, st4⟩ := HI.out.step HN1.out HB2.out HB3.out HR3.out hown5' hgrow5 (by rw [← HKX.out.1]; exact HKX.out.2) rfl
          have c5 := cell_of (i := 0) st4 rfl
          have f5 := fz_of (i := 0) st4
          have h5 : V5.cell? ⟨U1.heap.size, 0, none⟩ = some (.int .i64 (kx : Int)) ∧ V5.cell? ⟨w.heap.size, 0, none⟩ = some (.pointer (some ⟨xb, 0, none⟩)) ∧ V5.cell? ⟨w.heap.size + 1, 0, none⟩ = some (.int .i64 (e : Int)) := by
            have hU4 : Below U2.heap.size U2 (U3.alloc (.cells #[.string x, .int .i64 (kx : Int), .slice p M cp] 209)) := HB3.out.alloc hs3 _
            obtain ⟨⟨a1, a2, a3⟩, _⟩ := HSK.out _ hU4
            exact ⟨hgrow5.cell a1 (fun e => by have h1 : _ ∧ U1.heap.size < U.heap.size := HI.out.own.lt _ e.symm; have h2 := HU1.out; omega), hgrow5.cell a2 (fun e => by have h1 : w1.heap.size ≤ w.heap.size ∧ _ := HI.out.own.lt _ e.symm; have h2 := HN1.out; omega), hgrow5.cell a3 (fun e => by have h1 : w1.heap.size ≤ w.heap.size + 1 ∧ _ := HI.out.own.lt _ e.symm; have h2 := HN1.out; have h3 := HNB.out.1; omega)⟩
          have h6 : (V5.setCell ⟨NB, 0, none⟩ (.slice (some ⟨g2, 0, none⟩) (cs.length + 1) cap2)).cell? ⟨U1.heap.size, 0, none⟩ = some (.int .i64 (kx : Int)) ∧ (V5.setCell ⟨NB, 0, none⟩ (.slice (some ⟨g2, 0, none⟩) (cs.length + 1) cap2)).cell? ⟨w.heap.size, 0, none⟩ = some (.pointer (some ⟨xb, 0, none⟩)) ∧ (V5.setCell ⟨NB, 0, none⟩ (.slice (some ⟨g2, 0, none⟩) (cs.length + 1) cap2)).cell? ⟨w.heap.size + 1, 0, none⟩ = some (.int .i64 (e : Int)) :=
            ⟨by rw [World.cell?_setCell_far _ _ _ _ (by show NB ≠ U1.heap.size; omega)]; exact h5.1, by rw [World.cell?_setCell_far _ _ _ _ (by show NB ≠ w.heap.size; omega)]; exact h5.2.1, by rw [World.cell?_setCell_far _ _ _ _ (by show NB ≠ w.heap.size + 1; have := HNB.out.1; omega)]; exact h5.2.2⟩
          have HPO : Hid (KeepsOthers U (V5.setCell ⟨NB, 0, none⟩ (.slice (some ⟨g2, 0, none⟩) (cs.length + 1) cap2)) ∧ KpB (fun b => b = TB ∨ (∃ o, pv = some ⟨b, o, none⟩)) U (V5.setCell ⟨NB, 0, none⟩ (.slice (some ⟨g2, 0, none⟩) (cs.length + 1) cap2)) ∧ CrJ w1 (V5.setCell ⟨NB, 0, none⟩ (.slice (some ⟨g2, 0, none⟩) (cs.length + 1) cap2)) NB ep W need L M ((pre ++ [(⟨x, hx⟩ : { x : ByteArray // ∃ e, seenG x (ep e) = true })]).map (·.1))) := by
            refine ⟨st2, fun b hb => ?_, ⟨_, _, _, by rw [List.map_append]; exact st1⟩⟩
            have hob := HOB.out b hb
            have hus := HUS.out
            have h2s := HB2.out.size
            rw [st3 b (by omega) (by omega) (Or.inl hob.2), HB2.out.block b (by omega)]
          clear hown5 hown5' hgrow5 hat5 hlt5 st1 st2 st3 st4
          refine hK.out _ _ h5 (fun _ => ?_)
          clear hK K
          change wpAnyH _ _ _ _ _ _ _ (Act.put _ (some 32) _) _
          simp only [Act.put, List.setIfInBounds_toArray, List.set_cons_zero, List.set_cons_succ]
          refine wpAnyH_ready (rs := [11]) (by kernel_rfl) (by simp) ?_
          refine AllReadyH.cons rfl (fun K hK => ?_) AllReadyH.nil
          go_simp
          refine hK.out _ _ h6 (fun _ => ?_)
          clear hK K
          refine wpAnyH_done (by kernel_rfl) ?_ _
          gi_wp2
          exact HPO.out
    · rw [hpv] at HPA
      unfold TagA.noTag at HPA
      clear hpv
      gi_wp2_with fail
      refine ⟨trivial, (CallsIn.inRound l (callsIn_wide.2 HPA.out)).mono ?_⟩
      rintro e2 U1 ⟨rfl, hb1⟩
      have HPO : Hid (∀ o, KeepsOthers U (U1.alloc o) ∧ KpB (fun b => b = TB ∨ (∃ o, pv = some ⟨b, o, none⟩)) U (U1.alloc o) ∧ CrJ w1 (U1.alloc o) NB ep W need L M ((pre ++ [(⟨x, hx⟩ : { x : ByteArray // ∃ e, seenG x (ep e) = true })]).map (·.1))) := fun o => by
        have hbo : Below U.heap.size U (U1.alloc o) := hb1.alloc hb1.size o
        refine ⟨⟨hbo.size, fun k o hk _ => (hbo.block k (Array.getElem?_eq_some_iff.1 hk).1).trans hk⟩, fun b hb => hbo.block b (by have h1 := (HOB.out b hb).2; have h2 := HI.out.kp.size; omega), ⟨q, cap, cs, ?_⟩⟩
        have h := HI.out.keep (U' := U1.alloc o) (HI.out.kp.trans (below_kp hbo _)) (fun k c t f hk => hbo.block k (Array.getElem?_eq_some_iff.1 hk).1)
        exact ⟨h.box, h.own, h.pls, by rw [h.nms]; simp [hk0], h.kp⟩
      clear hb1 HPA
      gi_wp2
      exact HPO.out _
  case done =>
    rintro D ys U hD rfl hJ hK
    obtain ⟨q, cap, cs, hI⟩ := hJ.out
    have c5 := cell_of (i := 0) hI.box rfl
    have HFF : Hid (CP (.returned (.slice q cs.length cap)) (U.putObj D (.deferred none)) ep W need (lo span e) (e + 1 - lo span e) ∧ Below w.heap.size w (U.putObj D (.deferred none))) := by
      have g1 : U.grownBy (U.putObj D (.deferred none)) (some D) := grownBy_putObj' U D _
      have hkp : Kp (fun b => b = NB) w1 (U.putObj D (.deferred none)) := hI.kp.then (G := fun b => b = D) (grown_kp g1 (fun k e => by simpa using e.symm)) (fun i hi e => by have e : i = D := e; omega)
      have h' := hI.keep (U' := U.putObj D (.deferred none)) hkp (fun k c t f hk => g1.block k (Array.getElem?_eq_some_iff.1 hk).1 (fun e => by
        have e : k = D := by simpa using e
        rw [e, hK] at hk
        cases hk))
      have hwNB : w.heap.size < NB := by have := HNB.out.1; omega
      refine ⟨⟨q, cap, cs, rfl, by rw [← HL.out, ← HM.out]; exact h'.crs, ?_, fun g => ?_⟩, HBW.out.trans (hkp.below HBW.out.size (fun k hk e => by have e : k = NB := e; omega))⟩
      · have h1 : cs.length = (cs.map (·.g)).length := by simp
        rw [h1, hI.nms]
        have h2 := List.length_filter_le (fun g => decide (0 < knd g)) (ys.map (·.1))
        rw [List.length_map] at h2
        omega
      · rw [hI.nms, List.mem_filter, HMEM.out g]
        simp
    clear hI hJ
    go_wp2
    refine ⟨by simp, .inl ⟨_, _, rfl, run_takeDeferred hK, ?_⟩⟩
    refine ⟨.slice q cs.length cap, ?_, HFF.out⟩
    simp [results, Tryz.f110, go_sem]
  case stop =>
    rintro D c pre U _ _ h _
    exact h.elim
end
end Go.Proofs.YtmolafjalaeoaaaGreatDoor.InA
