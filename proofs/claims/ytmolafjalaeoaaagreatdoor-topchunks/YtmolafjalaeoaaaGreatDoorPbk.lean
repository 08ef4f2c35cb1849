/-
  What a watch's Tick does to the world. · What a watch's Feed does to the world. · Acts are played on a watch.
-/
import Derived.Test.YtmolafjalaeoaaaGreatDoorPbj
import Derived.Test.YtmolafjalaeoaaaGreatDoorPaz
import Derived.Test.YtmolafjalaeoaaaGreatDoorPbi
namespace Go.Proofs.YtmolafjalaeoaaaGreatDoor.WaB
open Go.RowKit TkW WaM WaW Go.Maps
open TkM (Sg epOf told whr seenG)
open RuM (Rl)
set_option maxRecDepth 100000
section
variable {w w' : World} {wb : Nat} {ow : Nat → Nat} {c : Cf} {rs : List Rl} {s : St} {k : Nat} {p : Pt}
theorem okS_later {x : Sg} {a b : Nat} (hab : a ≤ b) (h : EpM.okS a x = true) : EpM.okS b x = true := by
  have ok := EpM.okS_iff.1 h
  exact EpM.okS_iff.2 ⟨ok.p0, ok.p1, ok.s0, ok.s1, ok.t0, by have := ok.t1; omega, ok.g⟩
/-- Time went by. -/
theorem Wa.later (h : Wa w wb ow c rs s k p) (n : Nat) (hkp : Kp (fun b => ow b = 3) w w') (hd : EpW.DeskAt w' p.db (fun b => ow b = 3) c.len c.late (s.now + n) s.all (EpM.closedN c.len c.late (s.now + n))) (hn : s.now + n ≤ 1000) : Wa w' wb ow c rs (s.tick n) k p := by
  have hmv : ∀ b l, b < w.heap.size → ow b = l → l ≠ 0 → l ≠ 3 → w'.heap[b]? = w.heap[b]? := fun b l hlt hb h0 h3 => hkp.block b hlt (fun hh => by rw [hb] at hh; exact h3 hh)
  have hlt : ∀ b l, ow b = l → l ≠ 0 → b < w.heap.size := fun b l hb h0 => h.lim b (by rw [hb]; exact h0)
  have hs := hkp.size
  refine ⟨?_, h.ob, fun b hb => Nat.lt_of_lt_of_le (h.lim b hb) hs, h.kn.keep (hmv _ 2 h.kn.lt h.ok (by decide) (by decide)), h.ok, hd, ?_, ?_, ?_, h.orl, ?_, h.oal, h.anil, h.cok, h.rok, hn, Nat.le_trans h.cls (EpM.closedN_mono (Nat.le_add_right _ _)), h.few, fun x hx => ⟨okS_later (Nat.le_add_right _ _) (h.sok x hx).1, (h.sok x hx).2⟩, h.use⟩
  · rw [hmv wb 1 (hlt wb 1 h.ob (by decide)) h.ob (by decide) (by decide)]
    exact h.blk
  · obtain ⟨who, h1, h2⟩ := h.trk
    exact ⟨who, h1.move hs (fun b hb h4 => hmv b 4 hb (h2 b h4) (by decide) (by decide)), h2⟩
  · obtain ⟨F, f, h1, h2, h3⟩ := h.ins
    exact ⟨F, f, h1.move hs (fun b hb h4 => hmv b 5 hb (h3 b h4) (by decide) (by decide)), h2, h3⟩
  · exact own_keep h.rul (fun b hb => hmv b 6 (own_lt h.rul hb) (h.orl b hb) (by decide) (by decide))
  · exact own_keep h.alr (fun b hb => hmv b 7 (own_lt h.alr hb) (h.oal b hb) (by decide) (by decide))
set_option maxHeartbeats 1000000 in
theorem tick_bad (n : Int) (h : WaK w wb ow c rs s k) (hn : ¬ (0 ≤ n ∧ (s.now : Int) + n ≤ 1000)) :
    Calls Tryz.prog 14 #[.pointer (some ⟨wb, 0, none⟩), .int .i64 n] w fun e w' => e = .returned (.tuple #[.int .i64 0, .iface 105 (.int .i64 1)]) ∧ w' = w := by
  obtain ⟨p, hp⟩ := h.out
  have c29 := hp.c29
  have HB : Hid (Calls Tryz.prog 40 #[.pointer (some ⟨p.db, 0, none⟩), .int .i64 n] w fun e w' => e = .returned (.tuple #[.slice none 0 0, .iface 105 (.int .i64 1)]) ∧ w' = w) := by
    exact EpA.tick_bad n hp.desk hp.tim (by omega)
  clear h hp
  go_enter Tryz.func14, Tryz.ntmps14
  go_wp2_with fail
  refine Calls.mono HB.out ?_
  rintro e w' ⟨rfl, rfl⟩
  go_wp2
  go_ret2
  exact ⟨rfl, rfl⟩
theorem tells_at (size : Nat) (all : List Sg) (a b i : Nat) (hi : i < b - a) : (EpM.tells size all a b)[i]? = some (a + i, EpM.sorted (EpM.grp size all (a + i))) := by
  unfold EpM.tells
  rw [List.getElem?_map, List.getElem?_range' hi]
  simp
theorem tells_len (size : Nat) (all : List Sg) (a b : Nat) : (EpM.tells size all a b).length = b - a := by simp [EpM.tells]
set_option maxHeartbeats 2000000 in
theorem tick_ok (n : Nat) (h : WaK w wb ow c rs s k) (hT : TagA.Tabs w) (h0 : ow 0 = 0) (hk : k = s.cl c) (hn : s.now + n ≤ 1000) :
    Calls Tryz.prog 14 #[.pointer (some ⟨wb, 0, none⟩), .int .i64 (n : Int)] w fun e w' => e = .returned (.tuple #[.int .i64 (((s.tick n).cl c - s.cl c : Nat) : Int), .nilIface]) ∧ To w w' wb ow c rs (s.tick n) ((s.tick n).cl c) := by
  obtain ⟨p, hp⟩ := h.out
  have c29 := hp.c29
  have hal : s.all.length ≤ 6000 := by have := hp.use; unfold St.sum St.cnt at this; omega
  have HTK : Hid (Calls Tryz.prog 40 #[.pointer (some ⟨p.db, 0, none⟩), .int .i64 (n : Int)] w fun e w' => ∃ v, e = .returned (.tuple #[v, .nilIface]) ∧ EpW.EpsOwn w' w.heap.size (fun b => ow b = 3) v (EpM.tells c.len s.all (EpM.closedN c.len c.late s.now) (EpM.closedN c.len c.late (s.now + n))) ∧ EpW.DeskAt w' p.db (fun b => ow b = 3) c.len c.late (s.now + n) s.all (EpM.closedN c.len c.late (s.now + n)) ∧ Kp (fun b => ow b = 3) w w') :=
    EpA.tick_any n hp.desk (fun b hb => hp.lim b (by rw [hb]; decide)) (by have := hp.cok.l0; omega) hp.cok.l1 hp.cok.t1 hn (by omega)
  have HP : Hid (Wa w wb ow c rs s k p) := hp
  have HT : Hid (TagA.Tabs w) := hT
  have HK : Hid (k = s.cl c) := hk
  have hk' : k ≤ (s.tick n).cl c := by rw [hk]; exact EpM.closedN_mono (Nat.le_add_right _ _)
  have hk9 : (s.tick n).cl c ≤ 1000 := Nat.le_trans EpM.closedN_le hn
  have HC : Hid ((s.tick n).cl c = EpM.closedN c.len c.late (s.now + n)) := rfl
  have HLM : Hid (∀ b, ow b ≠ 0 → b < w.heap.size) := hp.lim
  rw [← hk]
  obtain ⟨K1, hK1⟩ : ∃ K1, K1 = (s.tick n).cl c := ⟨_, rfl⟩
  have HK1 : Hid (K1 = (s.tick n).cl c) := hK1
  rw [← hK1] at hk' hk9 ⊢
  obtain ⟨N, hN⟩ : ∃ N, N = K1 - k := ⟨_, rfl⟩
  have HN : Hid (N = K1 - k) := hN
  rw [← hN]
  have hN9 : N ≤ 1000 := by omega
  clear h hp hT hk hK1 hN
  go_enter Tryz.func14, Tryz.ntmps14
  go_wp2_with fail
  refine Calls.mono HTK.out ?_
  rintro e w1 ⟨v, rfl, heps, hd1, hk1⟩
  have h1 : Wa w1 wb ow c rs (s.tick n) k p := Wa.later HP.out n hk1 hd1 hn
  have hwp : Wp w w1 ow ow := ⟨hk1.mono (fun b _ hb => by rw [hb]; decide), fun _ h => Or.inl h⟩
  have H1 : Hid (WaK w1 wb ow c rs (s.tick n) k) := ⟨p, h1⟩
  have HWP1 : Hid (Wp w w1 ow ow) := hwp
  have HT1 : Hid (TagA.Tabs w1) := tabs_wp HT.out h0 hwp
  rw [← HC.out, ← HK1.out, show EpM.closedN c.len c.late s.now = s.cl c from rfl, ← HK.out] at heps
  obtain ⟨ps, hpl, hrow, hrd⟩ := heps.out
  rw [tells_len, ← HN.out] at hpl hrow
  have HPL : Hid (ps.length = N) := hpl
  have HROW : Hid (w1.ownsRow w.heap.size 125 2 v N (EpW.epcs (EpM.tells c.len s.all k K1) ps)) := hrow
  have HRD : Hid (∀ (k' : Nat) (e : Nat × List Sg) (pc : Option Addr × Nat), (EpM.tells c.len s.all k K1)[k']? = some e → ps[k']? = some pc → SgsOn w1 pc.1 e.2 ∧ (e.2 ≠ [] → ∃ b o, pc.1 = some ⟨b, o, none⟩ ∧ ow b = 3 ∧ v.ownBlock ≠ some b)) := hrd
  obtain ⟨q, cp, hv⟩ : ∃ q cp, v = .slice q N cp := by
    rcases hrow.2 with ⟨rfl, h0⟩ | ⟨g, cap, cur, hv, _⟩
    · exact ⟨none, 0, by rw [h0]⟩
    · exact ⟨_, _, hv⟩
  subst hv
  clear heps hd1 hk1 h1 hwp hpl hrow hrd
  go_wp2
  go_loopw [9, 24] (fun _ i V => ∃ (j : Nat) (ow' : Nat → Nat), j ≤ N ∧ i = .int .i64 (j : Int) ∧ WaK V wb ow' c rs (s.tick n) (k + j) ∧ Wq w1 V ow ow') (fun _ i _ => N - (intOf i).toNat)
  case atStart => exact ⟨0, ow, Nat.zero_le _, rfl, H1.out, Wq.refl _ _⟩
  case round =>
    obtain ⟨j, ow', hj, rfl, hw, hwq⟩ := hrel
    have HW : Hid (WaK wr wb ow' c rs (s.tick n) (k + j)) := hw
    have HWQ : Hid (Wq w1 wr ow ow') := hwq
    clear hw hwq
    by_cases hlt : j < N
    case neg =>
      obtain rfl : j = N := by omega
      have hII : ¬ (j : Int) < j := by omega
      have HF : Hid (To w wr wb ow c rs (s.tick n) K1) := ⟨ow', by have h := HW.out; rw [show k + j = K1 by have := HN.out; omega] at h; exact h, HWP1.out.trans HWQ.out.wp⟩
      go_wp2
      go_ret2
      exact ⟨rfl, HF.out⟩
    case pos =>
      have hII : (j : Int) < N := by omega
      have hjp : j < ps.length := by rw [HPL.out]; exact hlt
      have hpj : ps[j]? = some ps[j] := List.getElem?_eq_getElem hjp
      have hej := tells_at c.len s.all k K1 j (by rw [← HN.out]; exact hlt)
      obtain ⟨hon, hblk⟩ := HRD.out j _ _ hej hpj
      obtain ⟨g, cp', hq, hg1, hg2⟩ := HROW.out.form (by omega)
      obtain ⟨rfl, -⟩ : q = some ⟨g, 0, none⟩ ∧ True := by simp at hq; exact ⟨hq.1, trivial⟩
      have hcl : ∀ i u, i < 2 → (EpW.epc1 (k + j, EpM.sorted (EpM.grp c.len s.all (k + j))) ps[j])[i]? = some u → w1.cell? ⟨g, j * 2 + i, none⟩ = some u := fun i u hi hu => by
        have := HROW.out.cells (g := g) rfl (j * 2 + i) u (by rw [EpW.epcs_at _ ps j i _ _ hej hpj hi]; exact hu)
        rw [addr_add] at this
        exact this
      have hog : ow g = 0 := by
        apply Decidable.byContradiction
        intro hn
        have := HLM.out g hn
        omega
      have hgk : wr.heap[g]? = w1.heap[g]? := HWQ.out.wp.kp.block g hg2 (fun e => e hog)
      have k0 : wr.cell? ⟨g, j * 2, none⟩ = some (.int .i64 ((k + j : Nat) : Int)) := by rw [World.cell?_of_block (w := w1) hgk]; exact hcl 0 _ (by omega) rfl
      have k1 : wr.cell? ⟨g, j * 2 + 1, none⟩ = some (.slice ps[j].1 (EpM.sorted (EpM.grp c.len s.all (k + j))).length ps[j].2) := by rw [World.cell?_of_block (w := w1) hgk]; exact hcl 1 _ (by omega) rfl
      generalize ps[j] = pc at *
      obtain ⟨pp, pcap⟩ := pc
      simp only at k1 hon hblk
      have hoY : ∀ o, Below wr.heap.size wr (wr.alloc o) := fun o => (Below.refl _ _).alloc (Nat.le_refl _) o
      have HTL : Hid (∀ o, Calls Tryz.prog 41 #[.pointer (some ⟨wb, 0, none⟩), .agg #[.int .i64 ((k + j : Nat) : Int), .slice pp (EpM.sorted (EpM.grp c.len s.all (k + j))).length pcap]] (wr.alloc o) fun e w2 => e = .returned (.tuple #[]) ∧ Tq (wr.alloc o) w2 wb ow' c rs (s.tick n) (k + j + 1)) := fun o => by
        have ht := tabs_wp HT1.out h0 HWQ.out.wp
        refine tell_any pp pcap (HW.out.below (hoY o)) (ht.below (hoY o) ht.size) (ow_wp h0 HT1.out.size HWQ.out.wp) (by have h2 := HN.out; have h3 := HK1.out; show k + j < (s.tick n).cl c; omega) ?_ ?_
        · by_cases hne : EpM.sorted (EpM.grp c.len s.all (k + j)) = []
          · show SgsOn _ _ (EpM.sorted (EpM.grp c.len s.all (k + j)))
            rw [hne]
            exact SgsOn.empty
          · refine (hon.move HWQ.out.wp.kp.size (fun b o e hb => ?_)).below (hoY o)
            obtain ⟨b', o', h1, h2, _⟩ := hblk hne
            rw [h1] at e
            simp at e
            exact (HWQ.out.k3 b hb (by rw [← e.1]; exact h2)).1
        · intro hne b o e
          obtain ⟨b', o', h1, h2, _⟩ := hblk hne
          obtain ⟨b'', o'', h3, h4, _⟩ := hon.at_ hne
          rw [h1] at e h3
          simp at e h3
          have := (HWQ.out.k3 b' (by rw [h3.1]; exact h4) h2).2
          rw [← e.1, this]
          decide
      clear hon hblk hcl hgk hq hpj hej hoY
      go_wp2_with fail
      refine (HTL.out _).mono ?_
      rintro e w4 ⟨rfl, hto⟩
      have HTO : Hid (∃ ow2, WaK w4 wb ow2 c rs (s.tick n) (k + (j + 1)) ∧ Wq w1 w4 ow ow2) := by
        obtain ⟨o2, h1, h2⟩ := hto.out
        exact ⟨o2, h1, (HWQ.out.trans (Wq.below ((Below.refl _ _).alloc (Nat.le_refl _) _) ow')).trans h2⟩
      clear hto
      go_wp2
      go_roundw
      case rel =>
        obtain ⟨o2, h1, h2⟩ := HTO.out
        exact ⟨j + 1, o2, by omega, by go_num, h1, h2⟩
      case measure => simp [intOf]; omega
end
end Go.Proofs.YtmolafjalaeoaaaGreatDoor.WaB
namespace Go.Proofs.YtmolafjalaeoaaaGreatDoor.WaB
open Go.RowKit TkW WaM WaW Go.Maps
open TkM (Sg epOf told whr)
open RuM (Rl)
set_option maxRecDepth 100000
theorem rdsN_append (a b : List FrmM.Fr) : rdsN (a ++ b) = rdsN a + rdsN b := by simp [rdsN]
theorem rdsN_take (l : List FrmM.Fr) (j : Nat) : rdsN (l.take j) ≤ rdsN l := by
  have := rdsN_append (l.take j) (l.drop j)
  rw [List.take_append_drop] at this
  omega
theorem hears_sum (c : Cf) (r : Nat) (l : List FrmM.Fr) (s : St) : (l.foldl (St.hear c r) s).sum = s.sum + rdsN l := by
  obtain ⟨h1, h2, _⟩ := hears_rest c r l s
  unfold St.sum
  rw [hears_cnt, h1, h2]
  omega
section
variable {w : World} {wb : Nat} {ow : Nat → Nat} {c : Cf} {rs : List Rl} {s : St} {k : Nat}
set_option maxHeartbeats 1000000 in
theorem feed_noreader (r : Int) (b : ByteArray) (hr : btw r 0 3 = false) :
    Calls Tryz.prog 16 #[.pointer (some ⟨wb, 0, none⟩), .int .i64 r, .string b] w fun e w' => e = .returned (.tuple #[.int .i64 0, .iface 105 (.int .i64 1)]) ∧ w' = w := by
  go_enter Tryz.func16, Tryz.ntmps16
  go_wp2_with fail
  refine (isReader_is hr _).mono ?_
  rintro e w' ⟨rfl, rfl⟩
  go_wp2
  go_ret2
  exact ⟨rfl, rfl⟩
set_option maxHeartbeats 1000000 in
theorem feed_long (r : Int) (b : ByteArray) (hr : btw r 0 3 = true) (hb : 2000 < b.size) (hm : b.size ≤ 9223372036854775807) :
    Calls Tryz.prog 16 #[.pointer (some ⟨wb, 0, none⟩), .int .i64 r, .string b] w fun e w' => e = .returned (.tuple #[.int .i64 0, .iface 105 (.int .i64 2)]) ∧ w' = w := by
  have hI : (2000 : Int) < b.size := by omega
  go_enter Tryz.func16, Tryz.ntmps16
  go_wp2_with fail
  refine (isReader_is hr _).mono ?_
  rintro e w' ⟨rfl, rfl⟩
  go_wp2
  go_ret2
  exact ⟨rfl, rfl⟩
set_option maxHeartbeats 2000000 in
theorem feed_ok (r : Nat) (b : ByteArray) (h : WaK w wb ow c rs s k) (hT : TagA.Tabs w) (h0 : ow 0 = 0) (hk : k = s.cl c) (hr : r < 4) (hb : b.size ≤ 2000) (hu : s.sum + b.size ≤ 6000) :
    Calls Tryz.prog 16 #[.pointer (some ⟨wb, 0, none⟩), .int .i64 (r : Int), .string b] w fun e w' => e = .returned (.tuple #[.int .i64 ((FrmM.feed (s.rest r ++ b.data.toList)).1.length : Int), .nilIface]) ∧ To w w' wb ow c rs (s.feed c r b.data.toList) k := by
  have hrb : btw (r : Int) 0 3 = true := by simp [btw]; omega
  have hrI : (r : Int) < 4 := by omega
  have hI : ¬ (2000 : Int) < b.size := by omega
  obtain ⟨p, hp⟩ := h.out
  have hlr : s.cnt + (s.rest r).length + s.lost r ≤ 6000 := Nat.le_trans (sum_rest hr) hp.use
  have hblen : b.data.toList.length = b.size := by simp
  have HFS := feed_sum c r s b.data.toList hr
  rw [hblen] at HFS
  have hFS : (s.feed c r b.data.toList).sum ≤ 6000 := by omega
  obtain ⟨fs, n, R, hfd⟩ : ∃ fs n R, FrmM.feed (s.rest r ++ b.data.toList) = (fs, n, R) := ⟨_, _, _, rfl⟩
  have hok := FrmM.feed_ok (s.rest r ++ b.data.toList)
  have hfe : s.feed c r b.data.toList = fs.foldl (St.hear c r) (s.line r R (s.lost r + n)) := by unfold St.feed; rw [hfd]
  have hfl := FrmM.feed_len (s.rest r ++ b.data.toList)
  rw [hfd] at hok hfl ⊢
  simp only at hok hfl ⊢
  rw [hfe] at hFS ⊢
  rw [List.length_append, hblen] at hfl
  have HOK : Hid (∀ f ∈ fs, FrmM.Ok f) := hok
  have HFSM : Hid ((fs.foldl (St.hear c r) (s.line r R (s.lost r + n))).sum ≤ 6000) := hFS
  have HFC : Hid (Calls Tryz.prog 45 #[.pointer (some ⟨wb, r * 7, none⟩), .string b] w fun e w' => ∃ v, e = .returned v ∧ FrmA.FramesOwn w' w.heap.size w.heap.size v fs ∧ w'.heap[wb]? = some (.cells (wcs c (s.line r R (s.lost r + n)) p) 116) ∧ FrmA.But w.heap.size wb w w') := by
    have hsl : (FrmA.str (s.rest r)).size = (s.rest r).length := by simp [FrmA.str, ByteArray.size]
    have hsd : (FrmA.str (s.rest r)).data.toList = s.rest r := by simp [FrmA.str]
    refine (FrmA.feed_any (L := layW c s p r hr) wb (FrmA.str (s.rest r)) b (s.lost r) w (line_at r hr hp.blk) (by rw [hsl]; omega) (by omega)).mono ?_
    rintro e w' ⟨v, rfl, h1, h2, h3⟩
    rw [hsd, hfd] at h1 h2
    refine ⟨v, rfl, h1, ?_, h3⟩
    rw [h2.at_, layW_obj]
  have HH : Hid (Wa w wb ow c rs s k p) := hp
  have HT : Hid (TagA.Tabs w) := hT
  have HK : Hid (k = s.cl c) := hk
  obtain ⟨N, hN⟩ : ∃ N, N = fs.length := ⟨_, rfl⟩
  have HN : Hid (N = fs.length) := hN
  rw [← hN] at hfl ⊢
  have hN9 : N ≤ 100000 := by omega
  have HLS : Hid ((s.line r R (s.lost r + n)).sum ≤ 6000) := by show _ ≤ _; have := hears_sum c r fs (s.line r R (s.lost r + n)); omega
  obtain ⟨s1, hs1⟩ : ∃ s1, s1 = s.line r R (s.lost r + n) := ⟨_, rfl⟩
  have HS1 : Hid (s1 = s.line r R (s.lost r + n)) := hs1
  rw [← hs1]
  rw [← hs1] at HFSM HFC HLS
  clear h hp hT hk hfd hok hfe hFS HFS hblen hN hfl hu hlr hs1
  go_enter Tryz.func16, Tryz.ntmps16
  go_wp2_with fail
  refine (isReader_is hrb _).mono ?_
  rintro e w' ⟨rfl, rfl⟩
  go_wp2_with fail
  refine Calls.mono HFC.out ?_
  rintro e w1 ⟨v, rfl, hfo, hblk, hbut⟩
  have hlm : ∀ b, ow b ≠ 0 → b < w'.heap.size := HH.out.lim
  have h1 : Wa w1 wb ow c rs s1 k p := Wa.own HH.out hbut.size (fun b hb _ hne => hbut.block b hb hne) hblk (by rw [HS1.out]; rfl) (by rw [HS1.out]; rfl) HLS.out
  have hwp : Wp w' w1 ow ow := ⟨⟨hbut.os, hbut.tape, hbut.output, hbut.size, fun b hb hn => hbut.block b hb (fun e => hn (by rw [e, HH.out.ob]; decide))⟩, fun _ h => Or.inl h⟩
  have H1 : Hid (WaK w1 wb ow c rs s1 k) := ⟨p, h1⟩
  have HWP1 : Hid (Wp w' w1 ow ow) := hwp
  have HT1 : Hid (TagA.Tabs w1) := tabs_wp HT.out h0 hwp
  obtain ⟨ps, hpl, hrow, hrd⟩ := hfo.out
  have HPL : Hid (ps.length = fs.length) := hpl
  have HROW : Hid (w1.ownsRow w'.heap.size 93 3 v fs.length (FrmA.frCells fs ps)) := hrow
  have HRD : Hid (∀ (k : Nat) (f : FrmM.Fr) (pc : Option Addr × Nat), fs[k]? = some f → ps[k]? = some pc → FrmA.ReadsOn w1 pc.1 f.rs ∧ (f.rs ≠ [] → ∃ b o, pc.1 = some ⟨b, o, none⟩ ∧ w'.heap.size ≤ b ∧ v.ownBlock ≠ some b)) := hrd
  obtain ⟨q, cp, hv⟩ : ∃ q cp, v = .slice q N cp := by
    rw [HN.out]
    rcases hrow.2 with ⟨rfl, h0⟩ | ⟨g, cap, cur, hv, _⟩
    · exact ⟨none, 0, by rw [h0]⟩
    · exact ⟨_, _, hv⟩
  have HV : Hid (v = .slice q N cp) := hv
  have HLM : Hid (∀ b, ow b ≠ 0 → b < w'.heap.size) := hlm
  subst hv
  clear hfo hblk hbut h1 hwp hpl hrow hrd hlm
  go_wp2
  go_loopw [11, 32] (fun _ i V => ∃ (j : Nat) (ow' : Nat → Nat), j ≤ N ∧ i = .int .i64 (j : Int) ∧ WaK V wb ow' c rs ((fs.take j).foldl (St.hear c r) s1) k ∧ Wp w1 V ow ow') (fun _ i _ => N - (intOf i).toNat)
  case atStart => exact ⟨0, ow, Nat.zero_le _, rfl, H1.out, Wp.refl _ _⟩
  case round =>
    obtain ⟨j, ow', hj, rfl, hw, hwp⟩ := hrel
    have HW : Hid (WaK wr wb ow' c rs ((fs.take j).foldl (St.hear c r) s1) k) := hw
    have HWP : Hid (Wp w1 wr ow ow') := hwp
    clear hw hwp
    by_cases hlt : j < N
    case neg =>
      obtain rfl : j = N := by omega
      have hII : ¬ (j : Int) < j := by omega
      have HF : Hid (To w' wr wb ow c rs (fs.foldl (St.hear c r) s1) k) := ⟨ow', by have := HW.out; rw [HN.out, List.take_length] at this; exact this, HWP1.out.trans HWP.out⟩
      go_wp2
      go_ret2
      exact ⟨rfl, HF.out⟩
    case pos =>
      have hII : (j : Int) < N := by omega
      have hj' : j < fs.length := by rw [← HN.out]; exact hlt
      have hjp : j < ps.length := by rw [HPL.out]; exact hj'
      have hfj : fs[j]? = some fs[j] := List.getElem?_eq_getElem hj'
      have hpj : ps[j]? = some ps[j] := List.getElem?_eq_getElem hjp
      obtain ⟨hon, hblk⟩ := HRD.out j _ _ hfj hpj
      obtain ⟨g, cp', hq, hg1, hg2⟩ := HROW.out.form (by omega)
      obtain ⟨rfl, hcp⟩ : q = some ⟨g, 0, none⟩ ∧ True := by simp at hq; exact ⟨hq.1, trivial⟩
      have hcl : ∀ i u, i < 3 → (FrmA.frCells1 fs[j] ps[j])[i]? = some u → w1.cell? ⟨g, j * 3 + i, none⟩ = some u := fun i u hi hu => by
        have := HROW.out.cells (g := g) rfl (j * 3 + i) u (by rw [FrmA.frCells_at fs ps j i _ _ hfj hpj hi]; exact hu)
        rw [addr_add] at this
        exact this
      have hog : ow g = 0 := by
        apply Decidable.byContradiction
        intro hn
        have := HLM.out g hn
        omega
      have hgk : wr.heap[g]? = w1.heap[g]? := HWP.out.kp.block g hg2 (fun e => e hog)
      have k0 : wr.cell? ⟨g, j * 3, none⟩ = some (.int .i64 fs[j].ty) := by rw [World.cell?_of_block (w := w1) hgk]; exact hcl 0 _ (by omega) rfl
      have k1 : wr.cell? ⟨g, j * 3 + 1, none⟩ = some (.slice ps[j].1 fs[j].rs.length ps[j].2) := by rw [World.cell?_of_block (w := w1) hgk]; exact hcl 1 _ (by omega) rfl
      have k2 : wr.cell? ⟨g, j * 3 + 1 + 1, none⟩ = some (.int .i64 fs[j].wm) := by rw [World.cell?_of_block (w := w1) hgk]; exact hcl 2 _ (by omega) rfl
      have hfok := HOK.out _ (List.getElem_mem hj')
      have HTK : Hid (fs.take (j + 1) = fs.take j ++ [fs[j]]) := List.take_succ_eq_append_getElem hj'
      have HBL : Hid (fs[j].rs ≠ [] → ∃ b o, ps[j].1 = some ⟨b, o, none⟩ ∧ ow b = 0 ∧ b < w1.heap.size) := fun hne => by
        obtain ⟨b, o, h1, h2, _⟩ := hblk hne
        obtain ⟨b', o', h3, h4, _⟩ := hon.at_ hne
        rw [h1] at h3
        simp at h3
        refine ⟨b, o, h1, ?_, by rw [h3.1]; exact h4⟩
        apply Decidable.byContradiction
        intro hn
        have := HLM.out b hn
        omega
      generalize fs[j] = f at *
      generalize ps[j] = pc at *
      obtain ⟨pp, pcap⟩ := pc
      simp only at k1 hon hblk HBL
      obtain ⟨S, hS⟩ : ∃ S, S = (fs.take j).foldl (St.hear c r) s1 := ⟨_, rfl⟩
      have HS : Hid ((fs.take (j + 1)).foldl (St.hear c r) s1 = S.hear c r f) := by show _ = _; rw [HTK.out, List.foldl_append, hS]; rfl
      rw [← hS] at HW
      have hsum : S.sum + f.rs.length ≤ 6000 := by
        have e1 := hears_sum c r (fs.take (j + 1)) s1
        rw [HS.out] at e1
        have e2 : (S.hear c r f).sum = S.sum + f.rs.length := by
          have := hears_sum c r [f] S
          simpa [rdsN] using this
        have e3 := rdsN_take fs (j + 1)
        have e4 := hears_sum c r fs s1
        have e5 := HFSM.out
        omega
      have hcl2 : k = S.cl c := by
        rw [HK.out]
        unfold St.cl
        rw [hS, (hears_rest c r (fs.take j) s1).2.2, HS1.out]
        rfl
      have hoY : ∀ o, Below wr.heap.size wr (wr.alloc o) := fun o => (Below.refl _ _).alloc (Nat.le_refl _) o
      have HHR : Hid (∀ o, Calls Tryz.prog 46 #[.pointer (some ⟨wb, 0, none⟩), .pointer (some ⟨wb, r * 7, none⟩), .agg #[.int .i64 f.ty, .slice pp f.rs.length pcap, .int .i64 f.wm]] (wr.alloc o) fun e w2 => e = .returned (.tuple #[]) ∧ To (wr.alloc o) w2 wb ow' c rs (S.hear c r f) k) := fun o => by
        have ht := tabs_wp HT1.out h0 HWP.out
        have hlt0 : 0 < w1.heap.size := HT1.out.size
        refine hear_any f r pp pcap (HW.out.below (hoY o)) (ht.below (hoY o) ht.size) (ow_wp h0 hlt0 HWP.out) hcl2 hr hfok ?_ ?_ hsum
        · by_cases hne : f.rs = []
          · exact ⟨hon.tags, fun hh => absurd hne hh⟩
          · refine (hon.move HWP.out.kp.size (fun b o e hb => ?_)).below (hoY o) (Nat.le_refl _)
            obtain ⟨b', o', h1, h2, _⟩ := HBL.out hne
            rw [h1] at e
            simp at e
            exact HWP.out.kp.block b hb (fun hh => hh (by rw [← e.1]; exact h2))
        · intro hne b o e
          obtain ⟨b', o', h1, h2, h3⟩ := HBL.out hne
          rw [h1] at e
          simp at e
          rw [← e.1]
          exact ow_wp h2 h3 HWP.out
      clear hon hblk hcl hgk hS hoY hcp hq hfok hfj hpj
      go_wp2_with fail
      refine (HHR.out _).mono ?_
      rintro e w4 ⟨rfl, hto⟩
      have HTO : Hid (∃ ow2, WaK w4 wb ow2 c rs ((fs.take (j + 1)).foldl (St.hear c r) s1) k ∧ Wp w1 w4 ow ow2) := by
        obtain ⟨o2, h1, h2⟩ := hto.out
        exact ⟨o2, by rw [HS.out]; exact h1, (HWP.out.trans (Wp.below ((Below.refl _ _).alloc (Nat.le_refl _) _) ow')).trans h2⟩
      clear hto
      go_wp2
      go_roundw
      case rel =>
        obtain ⟨o2, h1, h2⟩ := HTO.out
        exact ⟨j + 1, o2, by omega, by go_num, h1, h2⟩
      case measure => simp [intOf]; omega
end
end Go.Proofs.YtmolafjalaeoaaaGreatDoor.WaB
namespace Go.Proofs.YtmolafjalaeoaaaGreatDoor.WbA
open Go.RowKit TkW WaM WaW WaB Go.Maps
open RuM (Rl)
set_option maxRecDepth 100000
/-- What bytes of a reader, whoever it is, do to what a watch knows. -/
def pf (c : Cf) (r : Int) (b : ByteArray) (s : St) : St := if (0 ≤ r ∧ r ≤ 3) ∧ b.size ≤ 2000 then s.feed c r.toNat b.data.toList else s
/-- What a tick does. -/
def pt (n : Int) (s : St) : St := if 0 ≤ n ∧ (s.now : Int) + n ≤ 1000 then s.tick n.toNat else s
def tickW : ByteArray := ⟨#[116, 105, 99, 107]⟩
def pact (c : Cf) (s : St) (a : Ac) : St := if a.kd = tickW then pt a.n s else pf c a.n a.st s
def plays (c : Cf) (ac : List Ac) (s : St) : St := ac.foldl (pact c) s
theorem plays_succ {c : Cf} {ac : List Ac} {s : St} {j : Nat} {a : Ac} (h : ac[j]? = some a) : plays c (ac.take (j + 1)) s = pact c (plays c (ac.take j) s) a := by
  unfold plays
  rw [List.take_add_one, h]
  simp
theorem pf_now (c : Cf) (r : Int) (b : ByteArray) (s : St) : (pf c r b s).now = s.now := by
  unfold pf
  split
  · exact feed_now c _ s _
  · rfl
theorem pf_cl (c : Cf) (r : Int) (b : ByteArray) (s : St) : (pf c r b s).cl c = s.cl c := by unfold St.cl; rw [pf_now]
theorem data_len (b : ByteArray) : b.data.toList.length = b.size := by rw [Array.length_toList]; rfl
theorem pf_sum (c : Cf) (r : Int) (b : ByteArray) (s : St) : (pf c r b s).sum ≤ s.sum + b.size := by
  unfold pf
  split
  · rename_i h
    refine Nat.le_trans (feed_sum c r.toNat s b.data.toList (by omega)) ?_
    rw [data_len]
    exact Nat.le_refl _
  · omega
theorem pf_sum_long {c : Cf} {r : Int} {b : ByteArray} {s : St} (h : 2000 < b.size) : pf c r b s = s := by
  unfold pf
  rw [if_neg (by omega)]
theorem tick_sum (s : St) (n : Nat) : (s.tick n).sum = s.sum := rfl
theorem pt_sum (n : Int) (s : St) : (pt n s).sum = s.sum := by
  unfold pt
  split
  · exact tick_sum s _
  · rfl
/-- What an act may add. -/
theorem pact_sum (c : Cf) (s : St) (a : Ac) (h : aok a) : (pact c s a).sum ≤ s.sum + aw a := by
  unfold pact
  split
  · rw [pt_sum]; omega
  · by_cases hl : 2000 < a.st.size
    · rw [pf_sum_long hl]; omega
    · refine Nat.le_trans (pf_sum c a.n a.st s) ?_
      unfold aok at h
      unfold aw
      omega
theorem plays_sum {c : Cf} {ac : List Ac} {s : St} (h : ∀ a, a ∈ ac → aok a) : ∀ j, j ≤ ac.length → (plays c (ac.take j) s).sum ≤ s.sum + awS ac j
  | 0, _ => by simp [plays, awS]
  | j + 1, hj => by
    have ih := plays_sum (c := c) (s := s) h j (by omega)
    have hj' := List.getElem?_eq_getElem (l := ac) (i := j) (by omega)
    rw [plays_succ hj', awS_succ hj']
    have := pact_sum c (plays c (ac.take j) s) ac[j] (h _ (List.getElem_mem _))
    omega
theorem awS_mono (ac : List Ac) {i j : Nat} (h : i ≤ j) : awS ac i ≤ awS ac j := by
  induction j with
  | zero => obtain rfl : i = 0 := by omega
            exact Nat.le_refl _
  | succ j ih =>
    by_cases hi : i = j + 1
    · rw [hi]; exact Nat.le_refl _
    · refine Nat.le_trans (ih (by omega)) ?_
      cases hj : ac[j]? with
      | none =>
        have : awS ac (j + 1) = awS ac j := by
          unfold awS
          rw [List.take_add_one, hj]
          simp
        omega
      | some a => rw [awS_succ hj]; omega
theorem awS_all (ac : List Ac) {j : Nat} (h : j ≤ ac.length) : awS ac j ≤ awS ac ac.length := awS_mono ac h
section
variable {w : World} {wb : Nat} {ow : Nat → Nat} {c : Cf} {rs : List Rl} {s : St}
/-- Bytes are fed, whatever they are. -/
theorem feed_each (r : Int) (b : ByteArray) (h : WaAt w wb ow c rs s) (hT : TagA.Tabs w) (h0 : ow 0 = 0) (hb : b.size ≤ 9223372036854775807) (hu : b.size ≤ 2000 → s.sum + b.size ≤ 6000) :
    Calls Tryz.prog 16 #[.pointer (some ⟨wb, 0, none⟩), .int .i64 r, .string b] w fun e w' => (∃ u v, e = .returned (.tuple #[u, v])) ∧ ∃ ow', WaAt w' wb ow' c rs (pf c r b s) ∧ Wp w w' ow ow' := by
  by_cases hr : 0 ≤ r ∧ r ≤ 3
  · by_cases hl : b.size ≤ 2000
    · have e1 : pf c r b s = s.feed c r.toNat b.data.toList := by unfold pf; rw [if_pos ⟨hr, hl⟩]
      have hrr : r = (r.toNat : Int) := by omega
      have h1 := feed_ok r.toNat b h.out hT h0 rfl (by omega) hl (hu hl)
      rw [← hrr] at h1
      refine h1.mono ?_
      rintro e w' ⟨rfl, ⟨ow', hk, hp⟩⟩
      refine ⟨⟨_, _, rfl⟩, ow', ⟨?_⟩, hp⟩
      rw [pf_cl, e1]
      exact hk
    · rw [pf_sum_long (by omega)]
      refine (feed_long r b (by simp [btw]; omega) (by omega) hb).mono ?_
      rintro e w' ⟨rfl, rfl⟩
      exact ⟨⟨_, _, rfl⟩, ow, h, Wp.refl _ _⟩
  · have e1 : pf c r b s = s := by unfold pf; rw [if_neg (by intro h; exact hr h.1)]
    rw [e1]
    refine (feed_noreader r b (by simp [btw]; omega)).mono ?_
    rintro e w' ⟨rfl, rfl⟩
    exact ⟨⟨_, _, rfl⟩, ow, h, Wp.refl _ _⟩
/-- A tick, whatever it is. -/
theorem tick_each (n : Int) (h : WaAt w wb ow c rs s) (hT : TagA.Tabs w) (h0 : ow 0 = 0) :
    Calls Tryz.prog 14 #[.pointer (some ⟨wb, 0, none⟩), .int .i64 n] w fun e w' => (∃ u v, e = .returned (.tuple #[u, v])) ∧ ∃ ow', WaAt w' wb ow' c rs (pt n s) ∧ Wp w w' ow ow' := by
  by_cases hn : 0 ≤ n ∧ (s.now : Int) + n ≤ 1000
  · have e1 : pt n s = s.tick n.toNat := by unfold pt; rw [if_pos hn]
    have hnn : n = (n.toNat : Int) := by omega
    have h1 := tick_ok n.toNat h.out hT h0 rfl (by omega)
    rw [← hnn] at h1
    refine h1.mono ?_
    rintro e w' ⟨rfl, ⟨ow', hk, hp⟩⟩
    refine ⟨⟨_, _, rfl⟩, ow', ⟨?_⟩, hp⟩
    rw [e1]
    exact hk
  · have e1 : pt n s = s := by unfold pt; rw [if_neg hn]
    rw [e1]
    refine (tick_bad n h.out hn).mono ?_
    rintro e w' ⟨rfl, rfl⟩
    exact ⟨⟨_, _, rfl⟩, ow, h, Wp.refl _ _⟩
theorem WaAt.low {B : Nat} {w' : World} {ow' : Nat → Nat} (hp : Wp w w' ow ow') (hB : B ≤ w.heap.size) (hl : ∀ b, ow b ≠ 0 → B ≤ b) : Below B w w' ∧ ∀ b, ow' b ≠ 0 → B ≤ b :=
  ⟨hp.kp.below hB (fun k hk h => by have := hl k h; omega), fun b hb => by
    rcases hp.new b hb with h | h
    · exact hl b h
    · omega⟩
end
end Go.Proofs.YtmolafjalaeoaaaGreatDoor.WbA
