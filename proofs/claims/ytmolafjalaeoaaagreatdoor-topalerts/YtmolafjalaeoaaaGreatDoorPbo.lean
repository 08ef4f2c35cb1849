/-
  Two watches side by side. · What the document's own answer does to the world: RuleFault.
-/
import Derived.Test.YtmolafjalaeoaaaGreatDoorPbn
import Derived.Test.YtmolafjalaeoaaaGreatDoorPap
namespace Go.Proofs.YtmolafjalaeoaaaGreatDoor.WbA
open Go.RowKit TkW WaM WaW WaB Go.Maps
open RuM (Rl)
set_option maxRecDepth 100000
structure Two (B : Nat) (V : World) (wa wb : Nat) (oa ob : Nat → Nat) (c : Cf) (rs : List Rl) (s t : St) : Prop where
  a : WaAt V wa oa c rs s
  b : WaAt V wb ob c rs t
  la : ∀ i, oa i ≠ 0 → B ≤ i
  lb : ∀ i, ob i ≠ 0 → B ≤ i
  ap : ∀ i, oa i ≠ 0 → ob i ≠ 0 → False
section
variable {B : Nat} {V V' : World} {wa wb : Nat} {oa ob oa' ob' : Nat → Nat} {c : Cf} {rs : List Rl} {s t s' t' : St}
theorem WaAt.lim {w : World} {ow : Nat → Nat} (h : WaAt w wa ow c rs s) (i : Nat) (hi : ow i ≠ 0) : i < w.heap.size := by
  obtain ⟨p, hp⟩ := h.out.out
  exact hp.lim i hi
theorem Two.below (h : Two B V wa wb oa ob c rs s t) (hb : Below V.heap.size V V') : Two B V' wa wb oa ob c rs s t := ⟨h.a.below hb, h.b.below hb, h.la, h.lb, h.ap⟩
theorem Two.turnA (h : Two B V wa wb oa ob c rs s t) (hB : B ≤ V.heap.size) (ha : WaAt V' wa oa' c rs s') (hp : Wp V V' oa oa') : Two B V' wa wb oa' ob c rs s' t ∧ Below B V V' := by
  obtain ⟨h1, h2⟩ := WaAt.low hp hB h.la
  refine ⟨⟨ha, h.b.kp hp.kp (fun b hb ha => h.ap b ha hb), h2, h.lb, fun i h3 h4 => ?_⟩, h1⟩
  rcases hp.new i h3 with h5 | h5
  · exact h.ap i h5 h4
  · have := WaAt.lim h.b i h4; omega
theorem Two.turnB (h : Two B V wa wb oa ob c rs s t) (hB : B ≤ V.heap.size) (hb : WaAt V' wb ob' c rs t') (hp : Wp V V' ob ob') : Two B V' wa wb oa ob' c rs s t' ∧ Below B V V' := by
  obtain ⟨h1, h2⟩ := WaAt.low hp hB h.lb
  refine ⟨⟨h.a.kp hp.kp (fun b ha hb => h.ap b ha hb), hb, h.la, h2, fun i h3 h4 => ?_⟩, h1⟩
  rcases hp.new i h4 with h5 | h5
  · exact h.ap i h3 h5
  · have := WaAt.lim h.a i h3; omega
theorem zero_cl (c : Cf) : St.zero.cl c = 0 := closedN0 c.len c.late
/-- Bytes in pieces. -/
theorem pf_split {r : Int} {x y z : ByteArray} (hz : z.size ≤ 2000) (he : z.data.toList = x.data.toList ++ y.data.toList) : pf c r y (pf c r x s) = pf c r z s := by
  have hl : z.size = x.size + y.size := by
    have h1 : z.data.toList.length = (x.data.toList ++ y.data.toList).length := by rw [he]
    rw [List.length_append, data_len, data_len, data_len] at h1
    exact h1
  unfold pf
  by_cases hr : 0 ≤ r ∧ r ≤ 3
  · rw [if_pos (show (0 ≤ r ∧ r ≤ 3) ∧ x.size ≤ 2000 from ⟨hr, by omega⟩), if_pos (show (0 ≤ r ∧ r ≤ 3) ∧ y.size ≤ 2000 from ⟨hr, by omega⟩), if_pos (show (0 ≤ r ∧ r ≤ 3) ∧ z.size ≤ 2000 from ⟨hr, hz⟩), feed_feed, he]
  · rw [if_neg (fun h => hr h.1), if_neg (fun h => hr h.1), if_neg (fun h => hr h.1)]
end
/-- Numbers wherever they lie. -/
structure IsOn (B : Nat) (w : World) (q : Option Addr) (l : List Int) : Prop where
  at_ : l ≠ [] → ∃ b o, q = some ⟨b, o, none⟩ ∧ b < B ∧ ∀ k v, l[k]? = some v → w.cell? ⟨b, o + k, none⟩ = some (.int .i64 v)
theorem IsOn.below {B : Nat} {w w' : World} {q : Option Addr} {l : List Int} (h : IsOn B w q l) (hb : Below B w w') : IsOn B w' q l where
  at_ := fun hne => by
    obtain ⟨b, o, h1, h2, h3⟩ := h.at_ hne
    exact ⟨b, o, h1, h2, fun k v hk => by rw [World.cell?_of_block (w := w) (hb.block b h2)]; exact h3 k v hk⟩
theorem tq_form {w V : World} {v : Value} {T : List ByteArray} (h : Tq w V v T) (hs : ∀ g, g ∈ T → g.size ≤ 100000) : ∃ q cap, v = .slice q T.length cap ∧ TgOn V q T := by
  obtain ⟨q, cap, hv, hq⟩ := strs_form h.own
  refine ⟨q, cap, hv, ⟨hs, fun hne => ?_⟩⟩
  cases T with
  | nil => exact absurd rfl hne
  | cons g T =>
    obtain ⟨b, h1, _⟩ := hq 0 g rfl
    subst hv
    refine ⟨b, h1, (h.own.lt b (by rw [h1]; rfl)).2, fun k x hx => ?_⟩
    obtain ⟨b', h2, h3⟩ := hq k x hx
    rw [h1] at h2
    simp at h2
    rw [h2]
    exact h3
theorem addO_sizes {T : List ByteArray} {g : ByteArray} (h : ∀ x, x ∈ T → x.size ≤ 100000) (hg : g.size ≤ 100000) : ∀ x, x ∈ addO T g → x.size ≤ 100000 := fun x hx => by
  unfold addO at hx
  split at hx
  · rcases List.mem_append.1 hx with h1 | h1
    · exact h x h1
    · simp at h1; subst h1; exact hg
  · exact h x hx
theorem foldO_sizes : ∀ (l : List ByteArray) (T : List ByteArray), (∀ g, g ∈ l → g.size ≤ 100000) → (∀ x, x ∈ T → x.size ≤ 100000) → ∀ x, x ∈ l.foldl addO T → x.size ≤ 100000
  | [], _, _, h => h
  | g :: l, T, hl, h => by
    rw [List.foldl_cons]
    exact foldO_sizes l _ (fun x hx => hl x (List.mem_cons_of_mem _ hx)) (addO_sizes h (hl g List.mem_cons_self))
theorem ftags_size {s : List UInt8} {g : ByteArray} (h : g ∈ ftags (FrmM.feed s).1) : g.size = 8 := by
  unfold ftags at h
  obtain ⟨f, hf, hg⟩ := List.mem_flatMap.1 h
  obtain ⟨r, hr, rfl⟩ := List.mem_map.1 hg
  exact ((FrmM.feed_ok s f hf).all r hr).2.2.2
theorem tgs_sizes (ac : List Ac) : ∀ x, x ∈ (tgs ac).out → x.size ≤ 100000 := by
  have key : ∀ (l : List Ac) (t : Tg), (∀ x, x ∈ t.out → x.size ≤ 100000) → ∀ x, x ∈ (l.foldl Tg.step t).out → x.size ≤ 100000 := by
    intro l
    induction l with
    | nil => intro t h; exact h
    | cons a l ih =>
      intro t h
      rw [List.foldl_cons]
      refine ih _ ?_
      unfold Tg.step
      split
      · exact h
      · exact foldO_sizes _ _ (fun g hg => by rw [ftags_size hg]; omega) h
  exact key ac Tg.zero (fun x hx => by simp [Tg.zero] at hx)
end Go.Proofs.YtmolafjalaeoaaaGreatDoor.WbA
namespace Go.Proofs.YtmolafjalaeoaaaGreatDoor.RuA
open Go.RowKit RuM
set_option maxRecDepth 100000
section
variable (r : Rl) (w : World)
set_option maxHeartbeats 8000000 in
theorem rfault_any (hs : r.nm.size ≤ 9223372036854775807) {n : Nat} (hn : r.flt n) :
    Calls Tryz.prog 38 #[rV r] w fun e w' => e = .returned (.int .i64 (n : Int)) ∧ Below w.heap.size w w' := by
  have hbnd := bnd_iff r
  obtain ⟨nm, K, F, T, O, I⟩ := r
  simp only at hs hbnd
  unfold rV
  simp only
  have HN4 : Hid (¬ nameOk nm.data.toList → n = 4) := fun h => flt_uniq hn (Or.inl ⟨h, rfl⟩)
  have HF1 : Hid (nameOk nm.data.toList → ¬ (Rl.mk nm K F T O I).bnd → n = 1) := fun hnm h => flt_uniq hn (Or.inr (Or.inl ⟨hnm, h, rfl⟩))
  have HF3 : Hid (nameOk nm.data.toList → (Rl.mk nm K F T O I).bnd → ¬ (F ≠ T ∧ F ≠ O ∧ T ≠ O) → n = 3) := fun hnm h h' => flt_uniq hn (Or.inr (Or.inr (Or.inl ⟨hnm, h, h', rfl⟩)))
  have HF0 : Hid (nameOk nm.data.toList → (Rl.mk nm K F T O I).bnd → (F ≠ T ∧ F ≠ O ∧ T ≠ O) → n = 0) := fun hnm h h' => flt_uniq hn (Or.inr (Or.inr (Or.inr ⟨⟨hnm, h, h'⟩, rfl⟩)))
  have HBD : Hid ((Rl.mk nm K F T O I).bnd ↔ btw K 0 3 = true ∧ btw F 0 7 = true ∧ btw T 0 7 = true ∧ btw O (-1) 7 = true ∧ btw I 1 50 = true) := hbnd
  clear hn hbnd
  have hbel : Below w.heap.size w (w.alloc (.cells #[.string nm, .int .i64 K, .int .i64 F, .int .i64 T, .int .i64 O, .int .i64 I] 32)) := (Below.refl _ _).alloc (Nat.le_refl _) _
  have HBL : Hid _ := hbel
  clear hbel
  by_cases h1 : nm.size < 1
  case pos =>
    have hn4 : n = 4 := HN4.out (fun h => by have h2 := h.1; rw [size_list] at h2; omega)
    subst hn4
    have h1I : (nm.size : Int) < 1 := by omega
    have h1D : decide ((nm.size : Int) < 1) = true := by simpa using h1I
    go_enter Tryz.func38, Tryz.ntmps38
    go_wp2
    go_ret
    exact ⟨rfl, HBL.out⟩
  have h1I : ¬ (nm.size : Int) < 1 := by omega
  have h1D : decide ((nm.size : Int) < 1) = false := by simpa using h1I
  by_cases h2 : 12 < nm.size
  case pos =>
    have hn4 : n = 4 := HN4.out (fun h => by have h2 := h.2.1; rw [size_list] at h2; omega)
    subst hn4
    have h2I : (12 : Int) < nm.size := by omega
    have h2D : decide ((12 : Int) < nm.size) = true := by simpa using h2I
    go_enter Tryz.func38, Tryz.ntmps38
    go_wp2
    go_ret
    exact ⟨rfl, HBL.out⟩
  have h2I : ¬ (12 : Int) < nm.size := by omega
  have h2D : decide ((12 : Int) < nm.size) = false := by simpa using h2I
  go_enter Tryz.func38, Tryz.ntmps38
  go_wp2
  go_loop [3] (fun i => ∃ k : Nat, k ≤ nm.size ∧ i = .int .i64 k ∧ let_ nm k) (fun i => nm.size - (intOf i).toNat)
  case atStart => exact ⟨0, Nat.zero_le _, rfl, fun c hc => by simp at hc⟩
  case round =>
    obtain ⟨k, hk, rfl, hlet⟩ := hrel
    have HL : Hid (let_ nm k) := hlet
    clear hlet
    by_cases hlt : k < nm.size
    case pos =>
      have hkI : (k : Int) < nm.size := by omega
      have hb := nm[k].toNat_lt
      by_cases c1 : nm[k].toNat < 97
      · have c1I : (nm[k].toNat : Int) < 97 := by omega
        have c1D : decide ((nm[k].toNat : Int) < 97) = true := by simpa using c1I
        have hn4 : n = 4 := HN4.out (fun h => let_mono hlt (fun h => by unfold lettr at h; omega) h.2.2)
        subst hn4
        go_wp2
        go_ret
        exact ⟨rfl, HBL.out⟩
      have c1I : ¬ (nm[k].toNat : Int) < 97 := by omega
      have c1D : decide ((nm[k].toNat : Int) < 97) = false := by simpa using c1I
      by_cases c2 : 122 < nm[k].toNat
      · have c2I : 122 < (nm[k].toNat : Int) := by omega
        have c2D : decide (122 < (nm[k].toNat : Int)) = true := by simpa using c2I
        have hn4 : n = 4 := HN4.out (fun h => let_mono hlt (fun h => by unfold lettr at h; omega) h.2.2)
        subst hn4
        go_wp2
        go_ret
        exact ⟨rfl, HBL.out⟩
      have c2I : ¬ 122 < (nm[k].toNat : Int) := by omega
      have c2D : decide (122 < (nm[k].toNat : Int)) = false := by simpa using c2I
      have HL2 : Hid (let_ nm (k + 1)) := (let_snoc hlt).2 ⟨HL.out, by unfold lettr; omega⟩
      go_wp2
      go_round
      case rel => exact ⟨k + 1, by omega, by go_num, HL2.out⟩
      case measure => simp [intOf]; omega
    case neg =>
      obtain rfl : k = nm.size := by omega
      have hnm : nameOk nm.data.toList := by
        unfold nameOk
        rw [size_list]
        exact ⟨by omega, by omega, let_all.1 HL.out⟩
      have G1 : Hid (¬ (Rl.mk nm K F T O I).bnd → n = 1) := HF1.out hnm
      have G3 : Hid ((Rl.mk nm K F T O I).bnd → ¬ (F ≠ T ∧ F ≠ O ∧ T ≠ O) → n = 3) := HF3.out hnm
      have G0 : Hid ((Rl.mk nm K F T O I).bnd → (F ≠ T ∧ F ≠ O ∧ T ≠ O) → n = 0) := HF0.out hnm
      clear hnm HF1 HF3 HF0 HN4 HL
      by_cases l0 : K < 0
      case pos =>
        have hn1 : n = 1 := G1.out (fun h => by have h2 := btw_true.1 (HBD.out.1 h).1; omega)
        subst hn1
        have l0D : decide (K < 0) = true := by simpa using l0
        go_wp2
        go_ret
        exact ⟨rfl, HBL.out⟩
      have l0D : decide (K < 0) = false := by simpa using l0
      by_cases u0 : 3 < K
      case pos =>
        have hn1 : n = 1 := G1.out (fun h => by have h2 := btw_true.1 (HBD.out.1 h).1; omega)
        subst hn1
        have u0D : decide (3 < K) = true := by simpa using u0
        go_wp2
        go_ret
        exact ⟨rfl, HBL.out⟩
      have u0D : decide (3 < K) = false := by simpa using u0
      by_cases l1 : F < 0
      case pos =>
        have hn1 : n = 1 := G1.out (fun h => by have h2 := btw_true.1 (HBD.out.1 h).2.1; omega)
        subst hn1
        have l1D : decide (F < 0) = true := by simpa using l1
        go_wp2
        go_ret
        exact ⟨rfl, HBL.out⟩
      have l1D : decide (F < 0) = false := by simpa using l1
      by_cases u1 : 7 < F
      case pos =>
        have hn1 : n = 1 := G1.out (fun h => by have h2 := btw_true.1 (HBD.out.1 h).2.1; omega)
        subst hn1
        have u1D : decide (7 < F) = true := by simpa using u1
        go_wp2
        go_ret
        exact ⟨rfl, HBL.out⟩
      have u1D : decide (7 < F) = false := by simpa using u1
      by_cases l2 : T < 0
      case pos =>
        have hn1 : n = 1 := G1.out (fun h => by have h2 := btw_true.1 (HBD.out.1 h).2.2.1; omega)
        subst hn1
        have l2D : decide (T < 0) = true := by simpa using l2
        go_wp2
        go_ret
        exact ⟨rfl, HBL.out⟩
      have l2D : decide (T < 0) = false := by simpa using l2
      by_cases u2 : 7 < T
      case pos =>
        have hn1 : n = 1 := G1.out (fun h => by have h2 := btw_true.1 (HBD.out.1 h).2.2.1; omega)
        subst hn1
        have u2D : decide (7 < T) = true := by simpa using u2
        go_wp2
        go_ret
        exact ⟨rfl, HBL.out⟩
      have u2D : decide (7 < T) = false := by simpa using u2
      by_cases l3 : O < (-1)
      case pos =>
        have hn1 : n = 1 := G1.out (fun h => by have h2 := btw_true.1 (HBD.out.1 h).2.2.2.1; omega)
        subst hn1
        have l3D : decide (O < (-1 : Int)) = true := by simpa using l3
        go_wp2
        go_ret
        exact ⟨rfl, HBL.out⟩
      have l3D : decide (O < (-1 : Int)) = false := by simpa using l3
      by_cases u3 : 7 < O
      case pos =>
        have hn1 : n = 1 := G1.out (fun h => by have h2 := btw_true.1 (HBD.out.1 h).2.2.2.1; omega)
        subst hn1
        have u3D : decide (7 < O) = true := by simpa using u3
        go_wp2
        go_ret
        exact ⟨rfl, HBL.out⟩
      have u3D : decide (7 < O) = false := by simpa using u3
      by_cases l4 : I < 1
      case pos =>
        have hn1 : n = 1 := G1.out (fun h => by have h2 := btw_true.1 (HBD.out.1 h).2.2.2.2; omega)
        subst hn1
        have l4D : decide (I < 1) = true := by simpa using l4
        go_wp2
        go_ret
        exact ⟨rfl, HBL.out⟩
      have l4D : decide (I < 1) = false := by simpa using l4
      by_cases u4 : 50 < I
      case pos =>
        have hn1 : n = 1 := G1.out (fun h => by have h2 := btw_true.1 (HBD.out.1 h).2.2.2.2; omega)
        subst hn1
        have u4D : decide (50 < I) = true := by simpa using u4
        go_wp2
        go_ret
        exact ⟨rfl, HBL.out⟩
      have u4D : decide (50 < I) = false := by simpa using u4
      have hB : (Rl.mk nm K F T O I).bnd := HBD.out.2 ⟨btw_true.2 (by omega), btw_true.2 (by omega), btw_true.2 (by omega), btw_true.2 (by omega), btw_true.2 (by omega)⟩
      have J3 : Hid (¬ (F ≠ T ∧ F ≠ O ∧ T ≠ O) → n = 3) := G3.out hB
      have J0 : Hid ((F ≠ T ∧ F ≠ O ∧ T ≠ O) → n = 0) := G0.out hB
      clear hB G1 G3 G0 HBD
      by_cases e0 : F = T
      case pos =>
        have hn3 : n = 3 := J3.out (fun h => absurd e0 h.1)
        subst hn3
        have e0' : (F == T) = true := by simpa using e0
        clear e0
        go_wp2
        go_ret
        exact ⟨rfl, HBL.out⟩
      have e0' : (F == T) = false := by simpa using e0
      by_cases e1 : F = O
      case pos =>
        have hn3 : n = 3 := J3.out (fun h => absurd e1 h.2.1)
        subst hn3
        have e1' : (F == O) = true := by simpa using e1
        clear e1
        go_wp2
        go_ret
        exact ⟨rfl, HBL.out⟩
      have e1' : (F == O) = false := by simpa using e1
      by_cases e2 : T = O
      case pos =>
        have hn3 : n = 3 := J3.out (fun h => absurd e2 h.2.2)
        subst hn3
        have e2' : (T == O) = true := by simpa using e2
        clear e2
        go_wp2
        go_ret
        exact ⟨rfl, HBL.out⟩
      have e2' : (T == O) = false := by simpa using e2
      have hn0 : n = 0 := J0.out ⟨e0, e1, e2⟩
      subst hn0
      go_wp2
      go_ret
      exact ⟨rfl, HBL.out⟩
end
end Go.Proofs.YtmolafjalaeoaaaGreatDoor.RuA
