/-
  What a watch's tell does to the world.
-/
import Derived.Test.YtmolafjalaeoaaaGreatDoorPbg
import Derived.Test.YtmolafjalaeoaaaGreatDoorPbi
namespace Go.Proofs.YtmolafjalaeoaaaGreatDoor.WaB
open Go.RowKit TkW WaM WaW Go.Maps
open TkM (Sg epOf told whr seenG)
open TkA (sv)
open RuM (Rl)
set_option maxRecDepth 100000
/-- What a watch comes to when an epoch is told. -/
structure Tq (w w' : World) (wb : Nat) (ow : Nat → Nat) (c : Cf) (rs : List Rl) (s : St) (k : Nat) : Prop where
  out : ∃ ow', WaK w' wb ow' c rs s k ∧ Wq w w' ow ow'
section
variable {w : World} {wb : Nat} {ow : Nat → Nat} {c : Cf} {rs : List Rl} {s : St} {k : Nat}
theorem grp_ok {p : Pt} (h : Wa w wb ow c rs s k p) (j : Nat) {x : Sg} (hx : x ∈ EpM.sorted (EpM.grp c.len s.all j)) : TkM.okS x = true ∧ x.g.size = 8 ∧ 0 < InA.knd x.g := by
  rw [EpM.sorted_mem] at hx
  have hx' := (List.mem_filter.1 hx).1
  obtain ⟨h1, h2⟩ := h.sok x hx'
  have ok := EpM.okS_iff.1 h1
  exact ⟨TkM.okS_iff.2 ⟨⟨ok.p0, ok.p1⟩, ok.s0, ok.s1⟩, ok.g, h2⟩
theorem seen_all {p : Pt} (h : Wa w wb ow c rs s k p) (j : Nat) {g : ByteArray} (hg : ∃ e, seenG g (epOf (Ep c s j) e) = true) : g.size = 8 ∧ 0 < InA.knd g := by
  obtain ⟨e, he⟩ := hg
  obtain ⟨x, hx, rfl⟩ := TkM.seen_iff.1 he
  rw [epOf_Ep] at hx
  split at hx
  · exact (grp_ok h e hx).2
  · simp at hx
set_option maxHeartbeats 4000000 in
theorem tell_any (q : Option Addr) (cap : Nat) (h : WaK w wb ow c rs s k) (hT : TagA.Tabs w) (h0 : ow 0 = 0) (hkc : k < EpM.closedN c.len c.late s.now) (hs : SgsOn w q (EpM.sorted (EpM.grp c.len s.all k))) (hap : EpM.sorted (EpM.grp c.len s.all k) ≠ [] → ∀ b o, q = some ⟨b, o, none⟩ → ow b ≠ 4) :
    Calls Tryz.prog 41 #[.pointer (some ⟨wb, 0, none⟩), .agg #[.int .i64 (k : Int), .slice q (EpM.sorted (EpM.grp c.len s.all k)).length cap]] w fun e w' => e = .returned (.tuple #[]) ∧ Tq w w' wb ow c rs s (k + 1) := by
  obtain ⟨p, hp⟩ := h.out
  have hall := hp.use
  unfold St.sum St.cnt at hall
  have hk9 : k < 1000 := Nat.lt_of_lt_of_le hkc (Nat.le_trans EpM.closedN_le hp.tim)
  obtain ⟨who, htr, how⟩ := hp.trk
  have hgl : (EpM.sorted (EpM.grp c.len s.all k)).length ≤ 6000 := by rw [EpM.sorted_length]; have := EpM.grp_length c.len s.all k; omega
  have hfl : (Ep c s k).flatten.length ≤ 6000 := by have := Ep_flat c s k; omega
  have hfl1 : (Ep c s (k + 1)).flatten.length ≤ 6000 := by have := Ep_flat c s (k + 1); omega
  obtain ⟨X, hX⟩ : ∃ X, X = w.alloc (.cells #[.int .i64 (k : Int), .slice q (EpM.sorted (EpM.grp c.len s.all k)).length cap] 125) := ⟨_, rfl⟩
  have hbX : Below w.heap.size w X := by rw [hX]; exact (Below.refl _ _).alloc (Nat.le_refl _) _
  have hbx : X.heap[w.heap.size]? = some (.cells #[.int .i64 (k : Int), .slice q (EpM.sorted (EpM.grp c.len s.all k)).length cap] 125) := by rw [hX]; exact Go.heap_alloc_new w _
  have hXs : w.heap.size < X.heap.size := by rw [hX]; simp
  have HBOX : Hid (X.heap[w.heap.size]? = some (.cells #[.int .i64 (k : Int), .slice q (EpM.sorted (EpM.grp c.len s.all k)).length cap] 125)) := hbx
  have HXW : Hid (Wt X wb ow c rs s k k (alerts c rs s k) p) := (Wt.start hp).below hbX
  have HWPX : Hid (Wq w X ow ow) := Wq.below hbX ow
  have hoB : ow w.heap.size = 0 := by
    apply Decidable.byContradiction
    intro hn
    have := hp.lim _ hn
    omega
  have HTELL : Hid (∀ V : World, V.heap = X.heap → Calls Tryz.prog 76 #[.pointer (some ⟨p.tb, 0, none⟩), .slice q (EpM.sorted (EpM.grp c.len s.all k)).length cap] V fun e w' => e = .returned .nilIface ∧ Wt w' wb (own3 ow V w' 4) c rs s (k + 1) k (alerts c rs s k) p ∧ Wq V w' ow (own3 ow V w' 4)) := fun V hV => by
    have hbV : ∀ b : Nat, V.heap[b]? = X.heap[b]? := fun b => by rw [hV]
    have hsV : V.heap.size = X.heap.size := by rw [hV]
    have hWV : Wt V wb ow c rs s k k (alerts c rs s k) p := HXW.out.move (by omega) (fun b _ _ => hbV b)
    have htV : TrAt V p.tb who c.W c.need k (Ep c s k).flatten.length (epOf (Ep c s k)) := (htr.below hbX).move (by omega) (fun b _ _ => hbV b)
    refine (TkA.tell_ok0 _ q cap htV hgl ((hs.below hbX).move (by omega) (fun b _ _ _ => hbV b)) (fun hne b o e hh => hap hne b o e (how b hh)) (fun x hx => (grp_ok hp k hx).1) (fun x hx => by have := (grp_ok hp k hx).2.1; omega) (by omega) (by omega) (by rw [epOf_Ep]; rw [if_neg (by omega)])).mono ?_
    rintro e w' ⟨rfl, who', h1, h2, h3⟩
    obtain ⟨h4, h5⟩ := Wt.tell hWV how h1 h2 h3 (by omega)
    exact ⟨rfl, h4, h5⟩
  have x1 : X.cell? ⟨w.heap.size, 1, none⟩ = some (.slice q (EpM.sorted (EpM.grp c.len s.all k)).length cap) := by simp [World.cell?, hbx]
  have HS0 : Hid (∀ V : World, V.heap = X.heap → V.cell? ⟨wb, 30, none⟩ = some (.pointer (some ⟨p.tb, 0, none⟩)) ∧ V.cell? ⟨w.heap.size, 1, none⟩ = some (.slice q (EpM.sorted (EpM.grp c.len s.all k)).length cap)) := fun V hV => by
    have hbV : ∀ b : Nat, V.heap[b]? = X.heap[b]? := fun b => by rw [hV]
    exact ⟨by rw [World.cell?_of_block (hbV wb)]; exact HXW.out.cell 30 (by omega), by rw [World.cell?_of_block (hbV w.heap.size)]; simp [World.cell?, HBOX.out]⟩
  have HBK : Hid (∀ (V w' : World) (o1 o2 : Nat → Nat), X.heap.size ≤ V.heap.size → V.heap[w.heap.size]? = X.heap[w.heap.size]? → o1 w.heap.size = 0 → Wq V w' o1 o2 → w'.heap[w.heap.size]? = X.heap[w.heap.size]? ∧ o2 w.heap.size = 0) := fun V w' o1 o2 hsz hb ho hwp => ⟨(hwp.wp.kp.block _ (by omega) (fun e => e ho)).trans hb, ow_wp ho (by omega) hwp.wp⟩
  have HS1 : Hid (∀ V w' : World, V.heap = X.heap → Wt w' wb (own3 ow V w' 4) c rs s (k + 1) k (alerts c rs s k) p → Wq V w' ow (own3 ow V w' 4) → w'.cell? ⟨wb, 30, none⟩ = some (.pointer (some ⟨p.tb, 0, none⟩)) ∧ w'.cell? ⟨w.heap.size, 1, none⟩ = some (.slice q (EpM.sorted (EpM.grp c.len s.all k)).length cap)) := fun V w' hV h1 h2 => by
    have hb := (HBK.out V w' _ _ (by rw [hV]; exact Nat.le_refl _) (by rw [hV]) hoB h2).1
    exact ⟨h1.cell 30 (by omega), by rw [World.cell?_of_block hb]; simp [World.cell?, HBOX.out]⟩
  have HT : Hid (TagA.Tabs w) := hT
  have HP : Hid (Wa w wb ow c rs s k p) := hp
  obtain ⟨N, hN⟩ : ∃ N, N = (EpM.sorted (EpM.grp c.len s.all k)).length := ⟨_, rfl⟩
  have HN : Hid (N = (EpM.sorted (EpM.grp c.len s.all k)).length) := hN
  rw [← hN] at HS0 HS1 HTELL HBOX hX ⊢
  clear h hp hT hs hap hbx hbX htr how hall hgl hN x1
  go_enter Tryz.func41, Tryz.ntmps41
  go_wp2_with fail
  rw [← hX]
  clear hX
  go_region_held3 (fun V => V.cell? ⟨wb, 30, none⟩ = some (.pointer (some ⟨p.tb, 0, none⟩)) ∧ V.cell? ⟨w.heap.size, 1, none⟩ = some (.slice q N cap))
    (first | exact HS0.out _ rfl | exact HS1.out X.drew _ rfl h2t h2p)
    (first | (go_at_call 76; go_split_ands; refine (HTELL.out X.drew rfl).mono ?_; rintro e w2 ⟨rfl, h2t, h2p⟩))
  obtain ⟨o2, ho2⟩ : ∃ o2, o2 = own3 ow X.drew w2 4 := ⟨_, rfl⟩
  rw [← ho2] at h2t h2p
  have HW2 : Hid (Wt w2 wb o2 c rs s (k + 1) k (alerts c rs s k) p) := h2t
  have h2w : Wq w w2 ow o2 := (HWPX.out.trans (Wq.below (TagA.drewBelow (Below.refl _ _)) ow)).trans h2p
  have HWP2 : Hid (Wq w w2 ow o2) := h2w
  have hB2 := HBK.out X.drew w2 ow o2 (Nat.le_refl _) rfl hoB h2p
  have HB2 : Hid (w2.heap[w.heap.size]? = X.heap[w.heap.size]? ∧ o2 w.heap.size = 0) := hB2
  have hs2 : X.heap.size ≤ w2.heap.size := h2p.wp.kp.size
  have ht2 : TagA.Tabs w2 := tabs_wp HT.out h0 h2w.wp
  have h02 : o2 0 = 0 := ow_wp h0 HT.out.size h2w.wp
  have m31 : w2.cell? ⟨wb, 31, none⟩ = some (.pointer (some ⟨p.xb, 0, none⟩)) := h2t.cell 31 (by omega)
  obtain ⟨who2, htr2, how2⟩ := h2t.trk
  obtain ⟨F2, f2, hin2, hP2, hoF2⟩ := h2t.ins
  have hP2' : InM.Prs InA.knd (epOf (Ep c s (k + 1))) c.W c.need c.span c.score f2 k := hP2.move (fun e he => by rw [epOf_Ep, epOf_Ep, if_pos he, if_pos (by omega)])
  have hco := HP.out.cok
  have HNX : Hid (Calls Tryz.prog 77 #[.pointer (some ⟨p.xb, 0, none⟩)] w2 fun e w' => e = .returned (.bool true) ∧ InA.NP w2 w' p.xb p.tb F2 (epOf (Ep c s (k + 1))) c.W c.need c.span c.score k) := InA.next_yes htr2 hin2 ht2 hP2' (by omega) hco.w1 hco.n0 (by omega) (by omega) (fun g hg => by have := (seen_all HP.out (k + 1) hg).1; omega) hco.s1 hco.c0 (by have := hco.c1; have := hco.s1; omega)
  have HOF2 : Hid (∀ b, F2 b → o2 b = 5) := hoF2
  clear h2t h2p ho2 htr2 how2 hin2 hP2 hP2' hoF2 ht2 h2w hB2 HS0 HS1 HTELL
  go_wp2_with fail
  refine Calls.mono HNX.out ?_
  rintro e w3 ⟨rfl, hnp⟩
  obtain ⟨F3, f3, hin3, hP3, hk3, hn3⟩ := hnp.out
  obtain ⟨h3t, h3p⟩ := Wt.next HW2.out HOF2.out hin3 hP3 hk3 hn3
  obtain ⟨o3, ho3⟩ : ∃ o3, o3 = own3 o2 w2 w3 5 := ⟨_, rfl⟩
  rw [← ho3] at h3t h3p
  have HW3 : Hid (Wt w3 wb o3 c rs s (k + 1) (k + 1) (alerts c rs s k) p) := h3t
  have HWP3 : Hid (Wq w w3 ow o3) := HWP2.out.trans h3p
  have HB3 : Hid (w3.heap[w.heap.size]? = X.heap[w.heap.size]? ∧ o3 w.heap.size = 0) := HBK.out w2 w3 o2 o3 hs2 HB2.out.1 HB2.out.2 h3p
  have hs3 : X.heap.size ≤ w3.heap.size := Nat.le_trans hs2 h3p.wp.kp.size
  obtain ⟨who3, htr3, _⟩ := h3t.trk
  have HTG : Hid (Calls Tryz.prog 78 #[.pointer (some ⟨wb, 0, none⟩)] w3 fun e w' => TP e w3 w' (tagsL (Ep c s (k + 1)))) := tags_of h3t.lt (h3t.cell 30 (by omega)) htr3 (by omega)
  clear hnp hin3 hP3 hk3 hn3 h3t h3p ho3 htr3 HNX HOF2 m31
  go_wp2_with fail
  refine Calls.mono HTG.out ?_
  rintro e w4 htp
  obtain ⟨tv, rfl, hrow⟩ := htp.out
  have hb4 := htp.kp
  obtain ⟨L, hL⟩ : ∃ L, L = tagsL (Ep c s (k + 1)) := ⟨_, rfl⟩
  have HL : Hid (L = tagsL (Ep c s (k + 1))) := hL
  rw [← hL] at hrow
  have HW4 : Hid (Wt w4 wb o3 c rs s (k + 1) (k + 1) (alerts c rs s k) p) := HW3.out.below hb4
  have HWP4 : Hid (Wq w w4 ow o3) := HWP3.out.trans (Wq.below hb4 o3)
  have HB4 : Hid (w4.heap[w.heap.size]? = some (.cells #[.int .i64 (k : Int), .slice q N cap] 125) ∧ o3 w.heap.size = 0) := ⟨((hb4.block _ (by omega)).trans HB3.out.1).trans HBOX.out, HB3.out.2⟩
  have hs4 : X.heap.size ≤ w4.heap.size := Nat.le_trans hs3 hb4.size
  have HROW : Hid (w4.ownsRow w3.heap.size 9 1 tv L.length (L.map sv)) := hrow
  have hLl : L.length ≤ 12 := by rw [hL]; exact Nat.le_trans (tags_len c s (k + 1)) HP.out.few
  have HLM3 : Hid (∀ b, o3 b ≠ 0 → b < w3.heap.size) := HW3.out.lim
  obtain ⟨tq, tcap, htv⟩ : ∃ tq tcap, tv = .slice tq L.length tcap := by
    rcases hrow.2 with ⟨rfl, h0⟩ | ⟨g, cap, cur, hv, _⟩
    · exact ⟨none, 0, by rw [h0]⟩
    · exact ⟨_, _, hv⟩
  subst htv
  have hrl := HP.out.rok.1
  obtain ⟨R, hR⟩ : ∃ R, R = rs.length := ⟨_, rfl⟩
  have HR : Hid (R = rs.length) := hR
  obtain ⟨rq, rcap, hrv⟩ : ∃ rq rcap, p.rv = .slice rq R rcap := by
    rw [hR]
    rcases HW4.out.rul.2 with ⟨h1, h0⟩ | ⟨g, cap, cur, hv, _⟩
    · exact ⟨none, 0, by rw [h1, h0]⟩
    · exact ⟨_, _, hv⟩
  have HRV : Hid (p.rv = .slice rq R rcap) := hrv
  have n32 : w4.cell? ⟨wb, 32, none⟩ = some (.slice rq R rcap) := by rw [HW4.out.cell 32 (by omega), ← hrv]; rfl
  have hR6 : R ≤ 6 := by omega
  obtain ⟨A0, hA0⟩ : ∃ A0, A0 = alerts c rs s k := ⟨_, rfl⟩
  have HA0 : Hid (A0 = alerts c rs s k) := hA0
  rw [← hA0] at HW4
  have hA9 : A0.length ≤ 72000 := by rw [hA0]; exact Wa.alen HP.out
  have HT4 : Hid (TagA.Tabs w4) := tabs_wp HT.out h0 HWP4.out.wp
  have h04 : o3 0 = 0 := ow_wp h0 HT.out.size HWP4.out.wp
  clear htp hrow hb4 hL hrv hR hA0 HTG HB3 HWP3 HW3 HW2 HWP2 HB2 hrl
  obtain ⟨ep, hep⟩ : ∃ ep, ep = epOf (Ep c s (k + 1)) := ⟨_, rfl⟩
  have HEP : Hid (ep = epOf (Ep c s (k + 1))) := hep
  clear hep
  go_wp2
  go_loopw [5, 6, 8, 28] (fun _ _ _ i V => ∃ (j : Nat) (o : Nat → Nat) (p' : Pt), j ≤ R ∧ i = .int .i64 (j : Int) ∧ Wt V wb o c rs s (k + 1) (k + 1) (A0 ++ als c.W c.need ep L k (rs.take j)) p' ∧ p'.rv = p.rv ∧ Wq w4 V o3 o) (fun _ _ _ i _ => R - (intOf i).toNat)
  case atStart => exact ⟨0, o3, p, Nat.zero_le _, rfl, by simpa [als, alsFrom] using HW4.out, rfl, Wq.refl _ _⟩
  case round =>
    obtain ⟨j, o1, p1, hj, rfl, hw, hrv, hwp⟩ := hrel
    have HW : Hid (Wt wr wb o1 c rs s (k + 1) (k + 1) (A0 ++ als c.W c.need ep L k (rs.take j)) p1) := hw
    have HRV1 : Hid (p1.rv = p.rv) := hrv
    have HWP : Hid (Wq w4 wr o3 o1) := hwp
    clear hw hrv hwp
    by_cases hlt : j < R
    case neg =>
      obtain rfl : j = R := by omega
      have hII : ¬ (j : Int) < j := by omega
      have HF : Hid (Tq w wr wb ow c rs s (k + 1)) := by
        have h1 := HW.out
        rw [HR.out, List.take_length, HA0.out, HEP.out, HL.out] at h1
        have e : alerts c rs s k ++ als c.W c.need (epOf (Ep c s (k + 1))) (tagsL (Ep c s (k + 1))) k rs = alerts c rs s (k + 1) := (alerts_snoc c rs s k).symm
        rw [e] at h1
        exact ⟨o1, ⟨p1, h1.wa⟩, HWP4.out.trans HWP.out⟩
      go_wp2
      go_end0
      exact ⟨rfl, HF.out⟩
    case pos =>
      have hII : (j : Int) < R := by omega
      have hj' : j < rs.length := by rw [← HR.out]; exact hlt
      have hrj : rs[j]? = some rs[j] := List.getElem?_eq_getElem hj'
      have hrow1 : wr.ownsRow 0 32 6 (.slice rq R rcap) rs.length (rcs rs) := by have := HW.out.rul; rw [HRV1.out, HRV.out] at this; exact this
      obtain ⟨g, rc', hq, hg1, hg2⟩ := hrow1.form (by omega)
      obtain ⟨rfl, -⟩ : rq = some ⟨g, 0, none⟩ ∧ True := by simp at hq; exact ⟨hq.1, trivial⟩
      have hcl : ∀ i u, i < 6 → (rcl rs[j])[i]? = some u → wr.cell? ⟨g, j * 6 + i, none⟩ = some u := fun i u hi hu => by
        have := hrow1.cells (g := g) rfl (j * 6 + i) u (by unfold rcs; rw [flat_at rcl 6 (fun _ => rfl) rs j i _ hrj hi]; exact hu)
        rw [addr_add] at this
        exact this
      have k0 := hcl 0 _ (by omega) rfl
      have k1 := hcl 1 _ (by omega) rfl
      have k2 := hcl 2 _ (by omega) rfl
      have k3 := hcl 3 _ (by omega) rfl
      have k4 := hcl 4 _ (by omega) rfl
      have k5 := hcl 5 _ (by omega) rfl
      rw [Nat.add_zero] at k0
      have hrok := HP.out.rok.2 _ (List.getElem_mem hj')
      have HTK : Hid (rs.take (j + 1) = rs.take j ++ [rs[j]]) := List.take_succ_eq_append_getElem hj'
      generalize rs[j] = r at *
      have HTA : Hid (als c.W c.need ep L k (rs.take (j + 1)) = als c.W c.need ep L k (rs.take j) ++ alR c.W c.need ep L k r j) := by
        show _ = _
        rw [HTK.out, als_snoc, List.length_take, Nat.min_eq_left (by omega)]
      have hAl : (als c.W c.need ep L k (rs.take j)).length ≤ 72 := by
        have h1 := alsFrom_len c.W c.need ep L k (rs.take j) 0
        rw [List.length_take] at h1
        have h2 : (min j rs.length) * L.length ≤ 6 * 12 := Nat.mul_le_mul (by omega) hLl
        exact Nat.le_trans h1 h2
      obtain ⟨AJ, hAJ⟩ : ∃ AJ, AJ = A0 ++ als c.W c.need ep L k (rs.take j) := ⟨_, rfl⟩
      have HAJ : Hid (AJ = A0 ++ als c.W c.need ep L k (rs.take j)) := hAJ
      rw [← hAJ] at HW
      have hAJl : AJ.length ≤ 72072 := by rw [hAJ, List.length_append]; omega
      obtain ⟨nm, rk, rf, rt, rw_, ri⟩ := r
      simp only at k0 k1 k2 k3 k4 k5
      obtain ⟨Y, hY⟩ : ∃ Y, Y = wr.alloc (.cells #[.string nm, .int .i64 rk, .int .i64 rf, .int .i64 rt, .int .i64 rw_, .int .i64 ri] 32) := ⟨_, rfl⟩
      have hbY : Below wr.heap.size wr Y := by rw [hY]; exact (Below.refl _ _).alloc (Nat.le_refl _) _
      have hrb : Y.heap[wr.heap.size]? = some (.cells #[.string nm, .int .i64 rk, .int .i64 rf, .int .i64 rt, .int .i64 rw_, .int .i64 ri] 32) := by rw [hY]; exact Go.heap_alloc_new wr _
      have hYs : wr.heap.size < Y.heap.size := by rw [hY]; simp
      have HWY : Hid (Wt Y wb o1 c rs s (k + 1) (k + 1) AJ p1) := HW.out.below hbY
      have HWPY : Hid (Wq w4 Y o3 o1) := HWP.out.trans (Wq.below hbY o1)
      have HRB : Hid (Y.heap[wr.heap.size]? = some (.cells #[.string nm, .int .i64 rk, .int .i64 rf, .int .i64 rt, .int .i64 rw_, .int .i64 ri] 32)) := hrb
      have hoR : o1 wr.heap.size = 0 := by
        apply Decidable.byContradiction
        intro hn
        have := HW.out.lim _ hn
        omega
      obtain ⟨RB, hRB⟩ : ∃ RB, RB = wr.heap.size := ⟨_, rfl⟩
      rw [← hRB] at HRB hoR hYs hrb
      have hnm : nm.size ≤ 9223372036854775807 := by
        have h1 := hrok.1
        unfold RuM.Rl.named RuM.nameOk at h1
        have : nm.data.toList.length = nm.size := by simp
        simp only at h1
        omega
      have HROK : Hid ((⟨nm, rk, rf, rt, rw_, ri⟩ : Rl).ok) := hrok
      clear hcl hrow1 hq hg1 hg2 hbY hrb hAJ hAl hrj hrok
      go_wp2
      rw [← hY, ← hRB]
      clear hY k0 k1 k2 k3 k4 k5 hRB
      have HOK4 : Hid (∀ V (o : Nat → Nat), Wq Y V o1 o → V.heap[w.heap.size]? = some (.cells #[.int .i64 (k : Int), .slice q N cap] 125) ∧ V.heap[RB]? = some (.cells #[.string nm, .int .i64 rk, .int .i64 rf, .int .i64 rt, .int .i64 rw_, .int .i64 ri] 32) ∧ TagA.Tabs V ∧ V.ownsRow w3.heap.size 9 1 (.slice tq L.length tcap) L.length (L.map sv)) := fun V o hV => by
        have hY4 : Wq w4 V o3 o := HWPY.out.trans hV
        refine ⟨(hY4.wp.kp.block _ (by omega) (fun e => e HB4.out.2)).trans HB4.out.1, (hV.wp.kp.block RB hYs (fun e => e hoR)).trans HRB.out, tabs_wp HT4.out h04 hY4.wp, own_keep HROW.out (fun b hb => hY4.wp.kp.block b (own_lt HROW.out hb) (fun e => ?_))⟩
        have h1 := HLM3.out b e
        have h2 := (HROW.out.lt b hb).1
        omega
      go_loopw [8, 35] (fun _ i V => ∃ (m : Nat) (o : Nat → Nat) (p' : Pt), m ≤ L.length ∧ i = .int .i64 (m : Int) ∧ Wt V wb o c rs s (k + 1) (k + 1) (AJ ++ alR c.W c.need ep (L.take m) k ⟨nm, rk, rf, rt, rw_, ri⟩ j) p' ∧ p'.rv = p.rv ∧ Wq Y V o1 o) (fun _ i _ => L.length - (intOf i).toNat)
      case atStart => exact ⟨0, o1, p1, Nat.zero_le _, rfl, by simpa [alR] using HWY.out, HRV1.out, Wq.refl _ _⟩
      case round =>
        obtain ⟨m, o2', p2, hm, rfl, hw2', hrv2, hwp2⟩ := hrel
        have HV : Hid (Wt wr wb o2' c rs s (k + 1) (k + 1) (AJ ++ alR c.W c.need ep (L.take m) k ⟨nm, rk, rf, rt, rw_, ri⟩ j) p2) := hw2'
        have HRV2 : Hid (p2.rv = p.rv) := hrv2
        have HWP2 : Hid (Wq Y wr o1 o2') := hwp2
        clear hw2' hrv2 hwp2
        by_cases hlt2 : m < L.length
        case neg =>
          have hmL : m = L.length := by omega
          have hI2 : ¬ (m : Int) < L.length := by omega
          have HF : Hid (Wt wr wb o2' c rs s (k + 1) (k + 1) (A0 ++ als c.W c.need ep L k (rs.take (j + 1))) p2) := by
            have h1 := HV.out
            rw [hmL, List.take_length, HAJ.out, List.append_assoc, ← HTA.out] at h1
            exact h1
          clear hmL
          go_wp2
          go_roundw
          case rel => exact ⟨j + 1, o2', p2, by omega, by go_num, HF.out, HRV2.out, HWPY.out.trans HWP2.out⟩
          case measure => simp [intOf]; omega
        case pos =>
          have hI2 : (m : Int) < L.length := by omega
          obtain ⟨hbx4, hrb4, htb4, hrow4⟩ := HOK4.out wr o2' HWP2.out
          obtain ⟨tg, tc', hq2, _, _⟩ := hrow4.form (by omega)
          obtain ⟨rfl, -⟩ : tq = some ⟨tg, 0, none⟩ ∧ True := by simp at hq2; exact ⟨hq2.1, trivial⟩
          have t0 : wr.cell? ⟨tg, m, none⟩ = some (.string L[m]) := by
            have := hrow4.cells (g := tg) rfl m (sv L[m]) (by simp [hlt2])
            rw [addr_add] at this
            exact this
          have hmem : L[m] ∈ tagsL (Ep c s (k + 1)) := by rw [← HL.out]; exact List.getElem_mem hlt2
          have htold := told_seen.1 (tagsL_mem.1 hmem)
          have HTKm : Hid (L.take (m + 1) = L.take m ++ [L[m]]) := List.take_succ_eq_append_getElem hlt2
          generalize L[m] = gg at *
          have hg8 := (seen_all HP.out (k + 1) htold).1
          obtain ⟨b, hbb⟩ : ∃ b, b = hb gg ep c.W c.need ⟨nm, rk, rf, rt, rw_, ri⟩ k := ⟨_, rfl⟩
          have HBB : Hid (b = hb gg ep c.W c.need ⟨nm, rk, rf, rt, rw_, ri⟩ k) := hbb
          have HAR : Hid (alR c.W c.need ep (L.take (m + 1)) k ⟨nm, rk, rf, rt, rw_, ri⟩ j = alR c.W c.need ep (L.take m) k ⟨nm, rk, rf, rt, rw_, ri⟩ j ++ (if b = true then [⟨j, k, gg⟩] else [])) := by
            show _ = _
            rw [HTKm.out, alR_snoc, HBB.out]
          obtain ⟨who4, htr4, _⟩ := HV.out.trk
          have HHO : Hid (∀ V, Below wr.heap.size wr V → Calls Tryz.prog 79 #[.pointer (some ⟨p2.tb, 0, none⟩), .agg #[.string nm, .int .i64 rk, .int .i64 rf, .int .i64 rt, .int .i64 rw_, .int .i64 ri], .string gg, .int .i64 (k : Int)] V fun x w' => x = .returned (.bool b) ∧ Below V.heap.size V w') := fun V hV => by
            have h1 := HlA.holds_any (t := true) (b := b) ⟨nm, rk, rf, rt, rw_, ri⟩ gg (k : Int) (htr4.below hV) (htb4.below hV htb4.size) hco.w1 (by omega) (by omega) ⟨fun _ => htold, fun _ => rfl⟩ (by omega) (by omega) hnm (by rw [hbb, ← HEP.out]; exact hb_iff HROK.out)
            exact h1
          have z0 : wr.cell? ⟨w.heap.size, 0, none⟩ = some (.int .i64 (k : Int)) := by simp [World.cell?, hbx4]
          have y0 : wr.cell? ⟨RB, 0, none⟩ = some (.string nm) := by simp [World.cell?, hrb4]
          have y1 : wr.cell? ⟨RB, 1, none⟩ = some (.int .i64 rk) := by simp [World.cell?, hrb4]
          have y2 : wr.cell? ⟨RB, 2, none⟩ = some (.int .i64 rf) := by simp [World.cell?, hrb4]
          have y3 : wr.cell? ⟨RB, 3, none⟩ = some (.int .i64 rt) := by simp [World.cell?, hrb4]
          have y4 : wr.cell? ⟨RB, 4, none⟩ = some (.int .i64 rw_) := by simp [World.cell?, hrb4]
          have y5 : wr.cell? ⟨RB, 5, none⟩ = some (.int .i64 ri) := by simp [World.cell?, hrb4]
          have x0 : wr.cell? ⟨wb, 30, none⟩ = some (.pointer (some ⟨p2.tb, 0, none⟩)) := HV.out.cell 30 (by omega)
          have HSS : Hid (∀ V, Below wr.heap.size wr V → (V.cell? ⟨wb, 30, none⟩ = some (.pointer (some ⟨p2.tb, 0, none⟩)) ∧ V.cell? ⟨RB, 0, none⟩ = some (.string nm) ∧ V.cell? ⟨RB, 1, none⟩ = some (.int .i64 rk) ∧ V.cell? ⟨RB, 2, none⟩ = some (.int .i64 rf) ∧ V.cell? ⟨RB, 3, none⟩ = some (.int .i64 rt) ∧ V.cell? ⟨RB, 4, none⟩ = some (.int .i64 rw_) ∧ V.cell? ⟨RB, 5, none⟩ = some (.int .i64 ri) ∧ V.cell? ⟨w.heap.size, 0, none⟩ = some (.int .i64 (k : Int))) ∧ Below wr.heap.size wr V) := fun V hV => ⟨⟨TagA.keepCell hV x0, TagA.keepCell hV y0, TagA.keepCell hV y1, TagA.keepCell hV y2, TagA.keepCell hV y3, TagA.keepCell hV y4, TagA.keepCell hV y5, TagA.keepCell hV z0⟩, hV⟩
          have hWW : Below wr.heap.size wr wr := Below.refl _ _
          clear hrow4 hq2 hbx4 hrb4 htr4 htold hmem hbb
          go_wp2
          clear x0 y0 y1 y2 y3 y4 y5 z0 t0
          go_region_held3 (fun V => (V.cell? ⟨wb, 30, none⟩ = some (.pointer (some ⟨p2.tb, 0, none⟩)) ∧ V.cell? ⟨RB, 0, none⟩ = some (.string nm) ∧ V.cell? ⟨RB, 1, none⟩ = some (.int .i64 rk) ∧ V.cell? ⟨RB, 2, none⟩ = some (.int .i64 rf) ∧ V.cell? ⟨RB, 3, none⟩ = some (.int .i64 rt) ∧ V.cell? ⟨RB, 4, none⟩ = some (.int .i64 rw_) ∧ V.cell? ⟨RB, 5, none⟩ = some (.int .i64 ri) ∧ V.cell? ⟨w.heap.size, 0, none⟩ = some (.int .i64 (k : Int))) ∧ Below wr.heap.size wr V)
            (first | exact HSS.out _ (TagA.drewBelow ‹_›) | (go_split_ands; exact HSS.out _ (TagA.keepBelow ‹_› hb5)))
            (first | (go_at_call 79; go_split_ands; refine (HHO.out _ ‹_›).mono ?_; rintro e w5 ⟨rfl, hb5⟩))
          rename_i hH
          obtain ⟨⟨_, _, _, _, _, _, _, z5⟩, hbw5⟩ := hH
          have HB5 : Hid (Below wr.heap.size wr w5) := hbw5
          have HZ5 : Hid (w5.cell? ⟨w.heap.size, 0, none⟩ = some (.int .i64 (k : Int))) := z5
          have HV5 : Hid (Wt w5 wb o2' c rs s (k + 1) (k + 1) (AJ ++ alR c.W c.need ep (L.take m) k ⟨nm, rk, rf, rt, rw_, ri⟩ j) p2) := HV.out.below hbw5
          have HWP5 : Hid (Wq Y w5 o1 o2') := HWP2.out.trans (Wq.below hbw5 o2')
          clear hbw5 hWW hb5
          cases b with
          | false =>
            have HF : Hid (Wt w5 wb o2' c rs s (k + 1) (k + 1) (AJ ++ alR c.W c.need ep (L.take (m + 1)) k ⟨nm, rk, rf, rt, rw_, ri⟩ j) p2) := by
              rw [HAR.out]
              show Wt _ _ _ _ _ _ _ _ _ _
              simpa using HV5.out
            clear z5
            go_wp2
            go_roundw
            case rel => exact ⟨m + 1, o2', p2, by omega, by go_num, HF.out, HRV2.out, HWP5.out⟩
            case measure => simp [intOf]; omega
          | true =>
            obtain ⟨i0, hi, hz0, hz1, hz2⟩ := info_parts info86
            obtain ⟨AM, hAM⟩ : ∃ AM, AM = AJ ++ alR c.W c.need ep (L.take m) k ⟨nm, rk, rf, rt, rw_, ri⟩ j := ⟨_, rfl⟩
            have HAM : Hid (AJ ++ alR c.W c.need ep (L.take (m + 1)) k ⟨nm, rk, rf, rt, rw_, ri⟩ j = AM ++ [⟨j, k, gg⟩]) := by
              show _ = _
              rw [HAR.out, hAM, if_pos rfl, List.append_assoc]
            have hAMl : AM.length ≤ 100000 := by
              have h1 := alR_len c.W c.need ep (L.take m) k ⟨nm, rk, rf, rt, rw_, ri⟩ j
              rw [List.length_take] at h1
              rw [hAM, List.length_append]
              omega
            rw [← hAM] at HV5
            have hbU : Below w5.heap.size w5 (w5.alloc (.cells #[.int .i64 (j : Int), .int .i64 (k : Int), .string gg] 86)).drew := ((Below.refl _ _).alloc (Nat.le_refl _) _).drew
            have HU : Hid (Wt (w5.alloc (.cells #[.int .i64 (j : Int), .int .i64 (k : Int), .string gg] 86)).drew wb o2' c rs s (k + 1) (k + 1) AM p2) := HV5.out.below hbU
            have HWPU : Hid (Wq Y (w5.alloc (.cells #[.int .i64 (j : Int), .int .i64 (k : Int), .string gg] 86)).drew o1 o2') := HWP5.out.trans (Wq.below hbU o2')
            have HUS : Hid ((w5.alloc (.cells #[.int .i64 (j : Int), .int .i64 (k : Int), .string gg] 86)).drew.heap.size = w5.heap.size + 1) := by show (w5.alloc _).heap.size = _; simp
            have HNEW : Hid (∀ j' u, ([.int .i64 (j : Int), .int .i64 (k : Int), .string gg] : List Value)[j']? = some u → (w5.alloc (.cells #[.int .i64 (j : Int), .int .i64 (k : Int), .string gg] 86)).drew.cell? ((⟨w5.heap.size, 0, none⟩ : Addr).add j') = some u) := by
              intro j' u hj'
              rw [addr_add]
              show (w5.alloc _).cell? _ = _
              match j', hj' with
              | 0, hj' => simp at hj'; subst hj'; simp
              | 1, hj' => simp at hj'; subst hj'; simp
              | 2, hj' => simp at hj'; subst hj'; simp
            have HML : Hid (AM.length + 1 ≤ maxLen) := by show _ ≤ _; unfold maxLen; omega
            have HBY : Hid ((AM.length + 1) * 32 ≤ 140737488355328) := by show _ ≤ _; omega
            have q33 : w5.cell? ⟨wb, 33, none⟩ = some p2.av := HV5.out.cell 33 (by omega)
            have q33' : ∀ o, (w5.alloc o).cell? ⟨wb, 33, none⟩ = some p2.av := fun o => by rw [((Below.refl w5.heap.size w5).alloc (Nat.le_refl _) o).cell HV5.out.lt]; exact q33
            have z5' : ∀ o, (w5.alloc o).cell? ⟨w.heap.size, 0, none⟩ = some (.int .i64 (k : Int)) := fun o => TagA.keepCell ((Below.refl w5.heap.size w5).alloc (Nat.le_refl _) o) z5
            have HV6 : Hid (∀ V6, (w5.alloc (.cells #[.int .i64 (j : Int), .int .i64 (k : Int), .string gg] 86)).drew.grownBy V6 p2.av.ownBlock → V6.cell? ⟨wb, 33, none⟩ = some p2.av ∧ V6.frozen? ⟨wb, 33, none⟩ = false) := fun V6 hg => by
              have hb6 : V6.heap[wb]? = _ := hg.block wb HU.out.lt (fun e => by have h1 := HU.out.oal wb e.symm; rw [HU.out.ob] at h1; omega)
              refine ⟨by rw [World.cell?_of_block hb6]; exact HU.out.cell 33 (by omega), ?_⟩
              have := HU.out.fz 33
              unfold World.frozen? at this ⊢
              simp only [hb6]
              exact this
            clear hAM
            go_wp2_with fail
            go_region_law (refine step_append_lies _ (by rfl) (.tmp 52) (.tmp 58) 77 (by rfl) 0 86 i0 (.agg #[.int .i64 0, .int .i64 0, .string ⟨#[]⟩]) 3 32 Tryz.underlying77 hi hz0 hz1 hz2 rfl (by omega) p2.av AM.length (acs AM) (by rfl) HU.out.alr ⟨w5.heap.size, 0, none⟩ 1 1 [.int .i64 (j : Int), .int .i64 (k : Int), .string gg] (by rfl) rfl HNEW.out (fun u hu => by simp at hu; rcases hu with rfl | rfl | rfl <;> rfl) (by omega) HML.out HBY.out (Nat.zero_le _) _ rfl ?_; intro g6 cap6 V6 hown6 hgrow6 hat6 hlt6; obtain ⟨c6, f6⟩ := HV6.out V6 hgrow6)
            all_goals
              obtain ⟨hfin, hfwp⟩ := Wt.alert (a := ⟨j, k, gg⟩) HU.out hown6 hgrow6 (by
                rcases hat6 with h | h
                · exact Or.inl h
                · exact Or.inr (Nat.le_of_eq h.symm))
              rw [← HAM.out] at hfin
              have HFIN : Hid (Wt (V6.setCell ⟨wb, 33, none⟩ (.slice (some ⟨g6, 0, none⟩) (AM.length + 1) cap6)) wb (own3 o2' (w5.alloc (.cells #[.int .i64 (j : Int), .int .i64 (k : Int), .string gg] 86)).drew V6 7) c rs s (k + 1) (k + 1) (AJ ++ alR c.W c.need ep (L.take (m + 1)) k ⟨nm, rk, rf, rt, rw_, ri⟩ j) { p2 with av := .slice (some ⟨g6, 0, none⟩) (AM.length + 1) cap6 }) := hfin
              have HFWP : Hid (Wq Y (V6.setCell ⟨wb, 33, none⟩ (.slice (some ⟨g6, 0, none⟩) (AM.length + 1) cap6)) o1 (own3 o2' (w5.alloc (.cells #[.int .i64 (j : Int), .int .i64 (k : Int), .string gg] 86)).drew V6 7)) := HWPU.out.trans hfwp
              clear hfin hfwp hown6 hgrow6 hat6 hlt6 c6 f6
              go_wp2
              go_roundw
              case rel => exact ⟨m + 1, _, _, by omega, by go_num, HFIN.out, HRV2.out, HFWP.out⟩
              case measure => simp [intOf]; omega
end
end Go.Proofs.YtmolafjalaeoaaaGreatDoor.WaB
