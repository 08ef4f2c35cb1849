/-
  The tags that acts feed: the loops.
-/
import Derived.Test.YtmolafjalaeoaaaGreatDoorPbm
namespace Go.Proofs.YtmolafjalaeoaaaGreatDoor.WbA
open Go.RowKit TkW WaM WaW WaB Go.Maps
open RuM (Rl)
open TkA (sbeq_true sbeq_false)
set_option maxRecDepth 100000
theorem info_parts {t : TypeId} {z : Value} {a b : Nat} (h : (Tryz.prog.info? t).map (fun i => (i.zero, i.size, i.bytes)) = some (some z, a, b)) : ∃ i, Tryz.prog.info? t = some i ∧ i.zero = some z ∧ i.size = a ∧ i.bytes = b := by
  cases hi : Tryz.prog.info? t with
  | none => rw [hi] at h; simp at h
  | some i =>
    rw [hi] at h
    simp at h
    exact ⟨i, rfl, h.1, h.2.1, h.2.2⟩
/-- Where tags lie, so far. -/
structure Tq (w V : World) (v : Value) (T : List ByteArray) : Prop where
  own : V.ownsRow (w.heap.size + 1) 9 1 v T.length (T.map Value.string)
  below : Below w.heap.size w V
set_option maxHeartbeats 4000000 in
theorem tagsOf_any {B : Nat} (ac : List Ac) (p : Option Addr) (cap : Nat) (w : World) (hA : AcsOn B w p ac) (hB : B ≤ w.heap.size) (hl : ac.length ≤ 1000) (hok : ∀ a, a ∈ ac → aok a) (hu : awS ac ac.length ≤ 6000) :
    Calls Tryz.prog 22 #[.slice p ac.length cap] w fun e w' => ∃ v, e = .returned v ∧ Tq w w' v (tgs ac).out := by
  have HA : Hid (AcsOn B w p ac) := hA
  have HOK : Hid (∀ a, a ∈ ac → aok a) := hok
  have HU : Hid (awS ac ac.length ≤ 6000) := hu
  obtain ⟨i9, hi9, hz9, hs9, hb9⟩ := info_parts info9
  obtain ⟨N, hNN⟩ : ∃ N, N = ac.length := ⟨_, rfl⟩
  have HNN : Hid (N = ac.length) := hNN
  rw [← hNN] at hl ⊢
  clear hA hok hu hNN
  have HB0 : Hid (∀ o, Below w.heap.size w (w.alloc o)) := fun o => (Below.refl _ _).alloc (Nat.le_refl _) o
  have HN0 : Hid (∀ o, (w.alloc o).heap[w.heap.size]? = some o) := fun o => Go.heap_alloc_new w o
  go_enter Tryz.func22, Tryz.ntmps22
  go_wp2
  go_loopw [3, 5] (fun o i V => ∃ j : Nat, j ≤ N ∧ i = .int .i64 (j : Int) ∧ Tq w V o (tgs (ac.take j)).out ∧ V.heap[w.heap.size]? = some (.cells (lvs (tgs (ac.take j))) 143)) (fun _ i _ => N - (intOf i).toNat)
  case atStart => exact ⟨0, by omega, rfl, ⟨World.ownsRow_nil _ _ _ _, HB0.out _⟩, HN0.out _⟩
  case round =>
    obtain ⟨j, hj, rfl, htq, hlb⟩ := hrel
    have HTQ : Hid (Tq w wr u3 (tgs (ac.take j)).out) := htq
    have HLB : Hid (wr.heap[w.heap.size]? = some (.cells (lvs (tgs (ac.take j))) 143)) := hlb
    clear htq hlb
    by_cases hlt : j < N
    case neg =>
      have hII : ¬ (j : Int) < N := by omega
      have HE : Hid (tgs (ac.take j) = tgs ac) := by
        show _ = _
        rw [List.take_of_length_le (by have := HNN.out; omega)]
      go_wp2
      go_ret
      exact ⟨_, rfl, by rw [← HE.out]; exact HTQ.out⟩
    case pos =>
      have hII : (j : Int) < N := by omega
      have hj' : j < ac.length := by rw [← HNN.out]; exact hlt
      have hne : ac ≠ [] := fun e => by rw [e] at hj'; simp at hj'
      obtain ⟨g, o, rfl, hg, hc'⟩ := (HA.out.below (HTQ.out.below.mono hB)).at_ hne
      have hrj := List.getElem?_eq_getElem hj'
      have hsz := HA.out.sizes _ (List.getElem_mem hj')
      have k0 := (hc' j _ hrj).c0
      have k1 := (hc' j _ hrj).c1
      have k2 := (hc' j _ hrj).c2
      have HTS : Hid (tgs (ac.take (j + 1)) = (tgs (ac.take j)).step ac[j]) := tgs_succ hrj
      have HUS : Hid (∀ r, ((tgs (ac.take j)).rest r).length + (tgs (ac.take j)).lost r ≤ 6000) := fun r => by
        have h1 := tgs_use HOK.out j (by omega) r
        have h2 := awS_all ac (j := j) (by omega)
        have h3 := HU.out
        show _ ≤ _
        omega
      have HTL : Hid ((tgs (ac.take j)).out.length ≤ 40) := tgs_len ac j
      generalize ac[j] = a at *
      clear hrj hc' hne
      generalize tgs (ac.take j) = t at *
      by_cases hsk : skips a
      case pos =>
        have HST : Hid (t.step a = t) := by show _ = _; unfold Tg.step; rw [if_pos hsk]
        by_cases hkd : a.kd = tickW
        · have hkq := kd_eq hkd
          clear hkd hsk
          go_wp2
          go_roundw
          case rel => exact ⟨j + 1, by omega, by go_num, by rw [HTS.out, HST.out]; exact HTQ.out, by rw [HTS.out, HST.out]; exact HLB.out⟩
          case measure => simp [intOf]; omega
        · have hkq := kd_ne hkd
          by_cases hn0 : a.n < 0
          · clear hkd hsk
            go_wp2
            go_roundw
            case rel => exact ⟨j + 1, by omega, by go_num, by rw [HTS.out, HST.out]; exact HTQ.out, by rw [HTS.out, HST.out]; exact HLB.out⟩
            case measure => simp [intOf]; omega
          · by_cases hn3 : 3 < a.n
            · clear hkd hsk
              go_wp2
              go_roundw
              case rel => exact ⟨j + 1, by omega, by go_num, by rw [HTS.out, HST.out]; exact HTQ.out, by rw [HTS.out, HST.out]; exact HLB.out⟩
              case measure => simp [intOf]; omega
            · have hbig : (2000 : Int) < a.st.size := by
                rcases hsk with h | h | h | h
                · exact absurd h hkd
                · omega
                · omega
                · omega
              clear hkd hsk
              go_wp2
              go_roundw
              case rel => exact ⟨j + 1, by omega, by go_num, by rw [HTS.out, HST.out]; exact HTQ.out, by rw [HTS.out, HST.out]; exact HLB.out⟩
              case measure => simp [intOf]; omega
      case neg =>
        have hkd : ¬ a.kd = tickW := fun h => hsk (Or.inl h)
        have hkq := kd_ne hkd
        obtain ⟨r, hr⟩ : ∃ r : Nat, a.n = (r : Int) := ⟨a.n.toNat, by unfold skips at hsk; omega⟩
        have hr4 : r < 4 := by unfold skips at hsk; omega
        have hrI : (r : Int) < 4 := by omega
        have hrI3 : ¬ (3 : Int) < r := by omega
        have hrI0 : ¬ (r : Int) < 0 := by omega
        have hbig : ¬ (2000 : Int) < a.st.size := by unfold skips at hsk; omega
        rw [hr] at k1
        obtain ⟨fs, n, R, hfd⟩ : ∃ fs n R, FrmM.feed (t.rest r ++ a.st.data.toList) = (fs, n, R) := ⟨_, _, _, rfl⟩
        have HST : Hid (t.step a = ⟨upd t.rest r R, upd t.lost r (t.lost r + n), (ftags fs).foldl addO t.out⟩) := by
          show _ = _
          unfold Tg.step Tg.feed
          rw [if_neg hsk, hr, Int.toNat_natCast, hfd]
        have hfok := FrmM.feed_ok (t.rest r ++ a.st.data.toList)
        rw [hfd] at hfok
        have HFO : Hid (∀ f ∈ fs, FrmM.Ok f) := hfok
        clear hfok
        have hfl := FrmM.feed_len (t.rest r ++ a.st.data.toList)
        rw [hfd, List.length_append, data_len] at hfl
        simp only at hfl
        have hus := HUS.out r
        have hlb1 : w.heap.size < wr.heap.size := (Array.getElem?_eq_some_iff.1 HLB.out).1
        have HFC : Hid (Calls Tryz.prog 45 #[.pointer (some ⟨w.heap.size, r * 2, none⟩), .string a.st] wr.drew fun e w' => ∃ v, e = .returned v ∧ FrmA.FramesOwn w' wr.heap.size wr.heap.size v fs ∧ w'.heap[w.heap.size]? = some (.cells (lvs ⟨upd t.rest r R, upd t.lost r (t.lost r + n), (ftags fs).foldl addO t.out⟩) 143) ∧ FrmA.But wr.heap.size w.heap.size wr w') := by
          have hsl : (FrmA.str (t.rest r)).size = (t.rest r).length := by simp [FrmA.str, ByteArray.size]
          have hsd : (FrmA.str (t.rest r)).data.toList = t.rest r := by simp [FrmA.str]
          refine (FrmA.feed_any (L := layT t r hr4) w.heap.size (FrmA.str (t.rest r)) a.st (t.lost r) wr.drew ⟨by rw [layT_self]; exact HLB.out⟩ (by rw [hsl]; omega) (by omega)).mono ?_
          rintro e w' ⟨v, rfl, h1, h2, h3⟩
          rw [hsd, hfd] at h1 h2
          refine ⟨v, rfl, h1, ?_, ⟨h3.os, h3.tape, h3.output, h3.size, h3.block⟩⟩
          rw [h2.at_, layT_obj t r hr4 _ _ ((ftags fs).foldl addO t.out)]
        obtain ⟨M, hM⟩ : ∃ M, M = fs.length := ⟨_, rfl⟩
        have HM : Hid (M = fs.length) := hM
        rw [← hM] at hfl
        have hM9 : M ≤ 100000 := by omega
        have HSZ : Hid (a.st.size ≤ 9223372036854775807) := hsz
        clear hkd hsk hfd hM hus hfl hr
        go_wp2_with fail
        go_region_with (go_at_call 45; refine HFC.out.mono ?_; rintro e w2 ⟨v6, rfl, hfo, hlb2, hbut⟩)
        all_goals
          have HLB2 : Hid (w2.heap[w.heap.size]? = some (.cells (lvs ⟨upd t.rest r R, upd t.lost r (t.lost r + n), (ftags fs).foldl addO t.out⟩) 143)) := hlb2
          have hown2 : w2.ownsRow (w.heap.size + 1) 9 1 u3 t.out.length (t.out.map Value.string) := own_keep HTQ.out.own (fun b hb => hbut.block b (HTQ.out.own.lt b hb).2 (by have := (HTQ.out.own.lt b hb).1; omega))
          have hbel2 : Below w.heap.size w w2 := HTQ.out.below.trans ⟨hbut.os, hbut.tape, hbut.output, hbut.size, fun k hk => hbut.block k (by omega) (by omega)⟩
          have HTQ2 : Hid (Tq w w2 u3 t.out) := ⟨hown2, hbel2⟩
          have HU3 : Hid (∀ b, u3.ownBlock = some b → w.heap.size + 1 ≤ b ∧ b < wr.heap.size) := fun b hb => HTQ.out.own.lt b hb
          have hsz2 : wr.heap.size ≤ w2.heap.size := hbut.size
          obtain ⟨ps, hpl, hrow, hrd⟩ := hfo.out
          have HPL : Hid (ps.length = fs.length) := hpl
          have HROW : Hid (w2.ownsRow wr.heap.size 93 3 v6 fs.length (FrmA.frCells fs ps)) := hrow
          have HRD : Hid (∀ (k : Nat) (f : FrmM.Fr) (pc : Option Addr × Nat), fs[k]? = some f → ps[k]? = some pc → FrmA.ReadsOn w2 pc.1 f.rs ∧ (f.rs ≠ [] → ∃ b o, pc.1 = some ⟨b, o, none⟩ ∧ wr.heap.size ≤ b ∧ v6.ownBlock ≠ some b)) := hrd
          obtain ⟨q6, cp6, hv6⟩ : ∃ q cp, v6 = .slice q M cp := by
            rw [HM.out]
            rcases hrow.2 with ⟨rfl, h0⟩ | ⟨g, cap, cur, hv, _⟩
            · exact ⟨none, 0, by rw [h0]⟩
            · exact ⟨_, _, hv⟩
          subst hv6
          clear hfo hlb2 hbut hown2 hbel2 hpl hrow hrd
          obtain ⟨W0, hW0⟩ : ∃ W0, W0 = wr.heap.size := ⟨_, rfl⟩
          rw [← hW0] at HROW HRD HU3 hsz2
          clear hW0 HTQ HLB k0 k1 k2 hlb1 HFC
          generalize u3 = v0 at *
          go_wp2
          go_loopw [3, 7] (fun o i V => ∃ m : Nat, m ≤ M ∧ i = .int .i64 (m : Int) ∧ Tq w V o ((ftags (fs.take m)).foldl addO t.out) ∧ Ow w2 V v0 o) (fun _ i _ => M - (intOf i).toNat)
          case atStart => exact ⟨0, by omega, rfl, HTQ2.out, Ow.refl _ _⟩
          case round =>
            obtain ⟨m, hm, rfl, htq, how⟩ := hrel
            have HTM : Hid (Tq w wr u3 ((ftags (fs.take m)).foldl addO t.out)) := htq
            have HOM : Hid (Ow w2 wr v0 u3) := how
            clear htq how
            by_cases hmM : m < M
            case neg =>
              have hMI : ¬ (m : Int) < M := by omega
              have HNX : Hid (Tq w wr u3 (tgs (ac.take (j + 1))).out ∧ wr.heap[w.heap.size]? = some (.cells (lvs (tgs (ac.take (j + 1)))) 143)) := by
                rw [HTS.out, HST.out]
                have h1 := HTM.out
                rw [List.take_of_length_le (by have := HM.out; omega)] at h1
                refine ⟨h1, ?_⟩
                rw [HOM.out.kp.block w.heap.size (Array.getElem?_eq_some_iff.1 HLB2.out).1 (fun e => by have := (HU3.out _ e).1; omega)]
                exact HLB2.out
              go_wp2
              go_roundw
              case rel => exact ⟨j + 1, by omega, by go_num, HNX.out.1, HNX.out.2⟩
              case measure => simp [intOf]; omega
            case pos =>
              have hMI : (m : Int) < M := by omega
              have hm' : m < fs.length := by rw [← HM.out]; exact hmM
              have hmp : m < ps.length := by rw [HPL.out]; exact hm'
              have hfm : fs[m]? = some fs[m] := List.getElem?_eq_getElem hm'
              have hpm : ps[m]? = some ps[m] := List.getElem?_eq_getElem hmp
              obtain ⟨hon, hblk⟩ := HRD.out m _ _ hfm hpm
              obtain ⟨g6, cp', hq6, hg1, hg2⟩ := HROW.out.form (by omega)
              obtain ⟨rfl, hcp⟩ : q6 = some ⟨g6, 0, none⟩ ∧ True := by simp at hq6; exact ⟨hq6.1, trivial⟩
              have hcl : ∀ i u, i < 3 → (FrmA.frCells1 fs[m] ps[m])[i]? = some u → w2.cell? ⟨g6, m * 3 + i, none⟩ = some u := fun i u hi hu => by
                have := HROW.out.cells (g := g6) rfl (m * 3 + i) u (by rw [FrmA.frCells_at fs ps m i _ _ hfm hpm hi]; exact hu)
                rw [addr_add] at this
                exact this
              have HFT : Hid ((ftags (fs.take (m + 1))).foldl addO t.out = (fs[m].rs.map (·.t)).foldl addO ((ftags (fs.take m)).foldl addO t.out)) := by
                show _ = _
                rw [ftags_succ hfm, List.foldl_append]
              have HK6 : Hid (∀ (V : World) (v : Value), Ow w2 V v0 v → V.cell? ⟨g6, m * 3 + 1, none⟩ = some (.slice ps[m].1 fs[m].rs.length ps[m].2)) := fun V v hV => by
                rw [World.cell?_of_block (w := w2) (hV.kp.block g6 hg2 (fun e => by have := (HU3.out _ e).2; omega))]
                exact hcl 1 _ (by omega) rfl
              have HON : Hid (∀ (V : World) (v : Value), Ow w2 V v0 v → FrmA.ReadsOn V ps[m].1 fs[m].rs) := fun V v hV => by
                by_cases hne : fs[m].rs = []
                · exact ⟨hon.tags, fun hh => absurd hne hh⟩
                · refine hon.move hV.kp.size (fun b o e hb => hV.kp.block b hb (fun e2 => ?_))
                  obtain ⟨b', o', h1, h2, _⟩ := hblk hne
                  rw [h1] at e
                  simp at e
                  have := (HU3.out _ e2).2
                  omega
              have hrs4 : fs[m].rs.length ≤ 4 := (HFO.out _ (List.getElem_mem hm')).len
              generalize fs[m] = f at *
              generalize ps[m] = pc at *
              obtain ⟨pp, pcap⟩ := pc
              simp only at HK6 HON
              obtain ⟨Tm, hTm⟩ : ∃ Tm, Tm = (ftags (fs.take m)).foldl addO t.out := ⟨_, rfl⟩
              rw [← hTm] at HTM HFT
              have HTL2 : Hid (Tm.length ≤ 40) := by show _ ≤ _; rw [hTm]; exact foldO_len _ _ HTL.out
              obtain ⟨L, hL⟩ : ∃ L, L = f.rs.length := ⟨_, rfl⟩
              have HL : Hid (L = f.rs.length) := hL
              rw [← hL] at HK6 hrs4
              clear hfm hpm hon hblk hcl hTm hL hm' hmp hq6 hcp
              go_wp2
              go_loopw [3, 8] (fun o i V => ∃ k : Nat, k ≤ L ∧ i = .int .i64 (k : Int) ∧ Tq w V o (((f.rs.take k).map (·.t)).foldl addO Tm) ∧ Ow w2 V v0 o) (fun _ i _ => L - (intOf i).toNat)
              case atStart => exact ⟨0, by omega, rfl, HTM.out, HOM.out⟩
              case round =>
                obtain ⟨k, hk, rfl, htq, how⟩ := hrel
                obtain ⟨T, hT⟩ : ∃ T, T = ((f.rs.take k).map (·.t)).foldl addO Tm := ⟨_, rfl⟩
                rw [← hT] at htq
                obtain ⟨q3, cap3, rfl, hq3⟩ := strs_form htq.own
                have HTK : Hid (Tq w wr (.slice q3 T.length cap3) T) := htq
                have HOK3 : Hid (Ow w2 wr v0 (.slice q3 T.length cap3)) := how
                have HQ3 : Hid (∀ j x, T[j]? = some x → ∃ g, q3 = some ⟨g, 0, none⟩ ∧ wr.cell? ⟨g, j, none⟩ = some (.string x)) := hq3
                have HT : Hid (T = ((f.rs.take k).map (·.t)).foldl addO Tm) := hT
                have hT40 : T.length ≤ 40 := by rw [hT]; exact foldO_len _ _ HTL2.out
                have c6 := HK6.out _ _ how
                clear htq how hq3 hT
                obtain ⟨Z, hZ⟩ : ∃ Z, Z = T.length := ⟨_, rfl⟩
                have HZ : Hid (Z = T.length) := hZ
                rw [← hZ] at hT40 HTK HOK3 ⊢
                clear hZ
                by_cases hkL : k < L
                case neg =>
                  have hLI : ¬ (k : Int) < L := by omega
                  have HNX : Hid (Tq w wr (.slice q3 Z cap3) ((ftags (fs.take (m + 1))).foldl addO t.out)) := by
                    rw [HFT.out]
                    have h1 := HTK.out
                    rw [HT.out, List.take_of_length_le (by have := HL.out; omega)] at h1
                    exact h1
                  go_wp2
                  go_roundw
                  case rel => exact ⟨m + 1, by omega, by go_num, HNX.out, HOK3.out⟩
                  case measure => simp [intOf]; omega
                case pos =>
                  have hLI : (k : Int) < L := by omega
                  by_cases hZ40 : Z < 40
                  case neg =>
                    have hZI : ¬ (Z : Int) < 40 := by omega
                    have HNX : Hid (Tq w wr (.slice q3 Z cap3) ((ftags (fs.take (m + 1))).foldl addO t.out)) := by
                      rw [HFT.out]
                      have h1 := HTK.out
                      have e1 : (f.rs.map (·.t)).foldl addO Tm = T := by
                        have h2 : f.rs.map (·.t) = (f.rs.take k).map (·.t) ++ (f.rs.drop k).map (·.t) := by rw [← List.map_append, List.take_append_drop]
                        rw [h2, List.foldl_append, ← HT.out]
                        exact foldO_full _ _ (by rw [← HZ.out]; omega)
                      rw [e1]
                      exact h1
                    go_wp2
                    go_roundw
                    case rel => exact ⟨m + 1, by omega, by go_num, HNX.out, HOK3.out⟩
                    case measure => simp [intOf]; omega
                  case pos =>
                    have hZI : (Z : Int) < 40 := by omega
                    have hkr : k < f.rs.length := by rw [← HL.out]; exact hkL
                    have hrd : f.rs[k]? = some f.rs[k] := List.getElem?_eq_getElem hkr
                    have hrne : f.rs ≠ [] := fun e => by rw [e] at hkr; simp at hkr
                    obtain ⟨b9, o9, rfl, hb9', hc9⟩ := (HON.out _ _ HOK3.out).at_ hrne
                    have k3 := (hc9 k _ hrd).c3
                    have HNT : Hid (((f.rs.take (k + 1)).map (·.t)).foldl addO Tm = addO T f.rs[k].t) := by
                      show _ = _
                      rw [List.take_add_one, hrd, HT.out, List.map_append, List.foldl_append]
                      rfl
                    generalize f.rs[k] = rd at *
                    obtain ⟨gt, hgt⟩ : ∃ gt, gt = rd.t := ⟨_, rfl⟩
                    rw [← hgt] at k3 HNT
                    have hg6 : g6 < wr.heap.size := Nat.lt_of_lt_of_le hg2 HOK3.out.kp.size
                    have HCX : Hid (∀ V, Below wr.heap.size wr V → V.cell? ⟨g6, m * 3 + 1, none⟩ = some (.slice (some ⟨b9, o9, none⟩) L pcap) ∧ V.cell? ⟨b9, o9 + k * 4 + 1 + 1 + 1, none⟩ = some (.string gt)) := fun V hV => ⟨by rw [World.cell?_of_block (w := wr) (hV.block g6 hg6)]; exact c6, by rw [World.cell?_of_block (w := wr) (hV.block b9 hb9')]; exact k3⟩
                    have HBX : Hid (Below wr.heap.size wr wr) := Below.refl _ _
                    have HQX : Hid (∀ y x, T[y]? = some x → ∃ g, q3 = some ⟨g, 0, none⟩ ∧ ∀ V, Below wr.heap.size wr V → V.cell? ⟨g, y, none⟩ = some (.string x)) := fun y x hx => by
                      obtain ⟨g3, h1, h2⟩ := HQ3.out y x hx
                      refine ⟨g3, h1, fun V hV => ?_⟩
                      have hlt3 : g3 < wr.heap.size := (HTK.out.own.lt g3 (by rw [h1]; rfl)).2
                      rw [World.cell?_of_block (w := wr) (hV.block g3 hlt3)]
                      exact h2
                    clear hrd hrne hc9 k3 hgt hkr
                    go_wp2
                    generalize wr = X at *
                    go_loopw [9, 10] (fun fr i V => ∃ y : Nat, y ≤ Z ∧ i = .int .i64 (y : Int) ∧ fr = .bool (!(hasT (T.take y) gt)) ∧ Below X.heap.size X V) (fun _ i _ => Z - (intOf i).toNat)
                    case atStart => exact ⟨0, by omega, rfl, rfl, HBX.out⟩
                    case round =>
                      obtain ⟨y, hy, rfl, rfl, hbl⟩ := hrel
                      have HBL : Hid (Below X.heap.size X wr) := hbl
                      obtain ⟨d1, d2⟩ := HCX.out _ hbl
                      clear hbl
                      by_cases hyZ : y < Z
                      case pos =>
                        have hyI : (y : Int) < Z := by omega
                        have hyT : y < T.length := by rw [← HZ.out]; exact hyZ
                        have hTy := List.getElem?_eq_getElem hyT
                        obtain ⟨g3, rfl, hc3⟩ := HQX.out y _ hTy
                        have d3 := hc3 _ HBL.out
                        have HHT : Hid (hasT (T.take (y + 1)) gt = (hasT (T.take y) gt || decide (T[y] = gt))) := hasT_take hTy
                        generalize T[y] = x at *
                        clear hTy hc3
                        generalize hfb : (!(hasT (T.take y) gt)) = fb at *
                        cases fb with
                        | false =>
                          have hh : hasT (T.take y) gt = true := by simpa using hfb
                          have HH2 : Hid (hasT (T.take (y + 1)) gt = true) := by show _ = _; rw [HHT.out, hh]; rfl
                          clear hh hfb
                          go_wp2
                          go_region
                          all_goals
                            go_wp2
                            go_roundw
                            case rel => exact ⟨y + 1, by omega, by go_num, by rw [HH2.out]; rfl, HBL.out.drew⟩
                            case measure => simp [intOf]; omega
                        | true =>
                          have hh : hasT (T.take y) gt = false := by simpa using hfb
                          clear hfb
                          by_cases hxg : x = gt
                          · have HH2 : Hid (hasT (T.take (y + 1)) gt = true) := by show _ = _; rw [HHT.out, hh]; simp [hxg]
                            have hxe := sbeq_true hxg
                            clear hh hxg
                            go_wp2
                            go_region
                            all_goals
                              go_wp2
                              go_roundw
                              case rel => exact ⟨y + 1, by omega, by go_num, by rw [HH2.out]; rfl, HBL.out.drew⟩
                              case measure => simp [intOf]; omega
                          · have HH2 : Hid (hasT (T.take (y + 1)) gt = false) := by show _ = _; rw [HHT.out, hh]; simp [hxg]
                            have hxe := sbeq_false hxg
                            clear hh hxg
                            go_wp2
                            go_region
                            all_goals
                              go_wp2
                              go_roundw
                              case rel => exact ⟨y + 1, by omega, by go_num, by rw [HH2.out]; rfl, HBL.out.drew⟩
                              case measure => simp [intOf]; omega
                      case neg =>
                        have hyI : ¬ (y : Int) < Z := by omega
                        have eT : T.take y = T := List.take_of_length_le (by have := HZ.out; omega)
                        rw [eT]
                        have HTV : Hid (Tq w wr (.slice q3 Z cap3) T) := ⟨own_keep HTK.out.own (fun b hb => HBL.out.block b (HTK.out.own.lt b hb).2), HTK.out.below.trans (HBL.out.mono HTK.out.below.size)⟩
                        have HOV : Hid (Ow w2 wr v0 (.slice q3 Z cap3)) := HOK3.out.then_below HBL.out
                        clear eT
                        generalize hfb : (!(hasT T gt)) = fb at *
                        cases fb with
                        | false =>
                          have hh : hasT T gt = true := by simpa using hfb
                          clear hfb
                          have HNX : Hid (Tq w wr (.slice q3 Z cap3) (((f.rs.take (k + 1)).map (·.t)).foldl addO Tm)) := by
                            rw [HNT.out]
                            unfold addO
                            rw [if_neg (by rw [hh]; simp)]
                            exact HTV.out
                          clear hh
                          go_wp2
                          go_roundw
                          case rel => exact ⟨k + 1, by omega, by go_num, HNX.out, HOV.out⟩
                          case measure => simp [intOf]; omega
                        | true =>
                          have hh : hasT T gt = false := by simpa using hfb
                          clear hfb
                          have HAD : Hid (addO T gt = T ++ [gt]) := by
                            show _ = _
                            unfold addO
                            rw [if_pos ⟨by rw [← HZ.out]; exact hZ40, hh⟩]
                          clear hh
                          have hown := HTV.out.own.alloc (.cells #[.string gt] 9)
                          rw [← HZ.out] at hown
                          have HQ1 : Hid (∀ j u, [Value.string gt][j]? = some u → (wr.alloc (.cells #[.string gt] 9)).cell? ((⟨wr.heap.size, 0, none⟩ : Addr).add j) = some u) := fun j u hj => by
                            cases j with
                            | zero => simp at hj; subst hj; simp [Addr.add]
                            | succ j => simp at hj
                          have HQ2 : Hid (∀ u ∈ [Value.string gt], u.oneCell' = true) := fun u hu => by simp at hu; subst hu; rfl
                          have HQ3' : Hid (Z + 1 ≤ maxLen) := by show _ ≤ _; unfold maxLen; omega
                          have HQ4 : Hid ((Z + 1) * 16 ≤ 140737488355328) := by show _ ≤ _; omega
                          have HQ5 : Hid (w.heap.size + 1 ≤ (wr.alloc (.cells #[.string gt] 9)).heap.size) := by show _ ≤ _; have := HTV.out.below.size; rw [World.size_alloc]; omega
                          have HQ6 : Hid ((wr.alloc (.cells #[.string gt] 9)).heap.size = wr.heap.size + 1) := World.size_alloc _ _
                          go_wp2_with (at_builtin; refine wpList_append_lies _ rfl _ _ 63 rfl (w.heap.size + 1) 9 i9 (.string ⟨#[]⟩) 1 16 Tryz.underlying63 hi9 hz9 hs9 hb9 rfl (by decide) _ _ _ rfl hown ⟨wr.heap.size, 0, none⟩ 1 1 [.string gt] rfl rfl HQ1.out HQ2.out (by omega) HQ3'.out HQ4.out HQ5.out (wr.heap.size + 1) HQ6.out ?_)
                          intro g7 cap7 w7 hown7 hgrow7 hat7 hlt7
                          have HNX : Hid (Tq w w7 (.slice (some ⟨g7, 0, none⟩) (Z + 1) cap7) (((f.rs.take (k + 1)).map (·.t)).foldl addO Tm)) := by
                            rw [HNT.out, HAD.out]
                            have hsw := HTV.out.below.size
                            have hk7 : Kp (fun b => (Value.slice q3 Z cap3).ownBlock = some b) (wr.alloc (.cells #[.string gt] 9)) w7 := grown_kp hgrow7 (fun k hk => hk)
                            have hb7 : Below w.heap.size (wr.alloc (.cells #[.string gt] 9)) w7 := hk7.below (by rw [World.size_alloc]; omega) (fun k hk e => by have := (HTV.out.own.lt k e).1; omega)
                            refine ⟨?_, (HTV.out.below.alloc hsw _).trans hb7⟩
                            rw [List.length_append, List.length_singleton, ← HZ.out, List.map_append]
                            exact hown7
                          have HOX : Hid (Ow w2 w7 v0 (.slice (some ⟨g7, 0, none⟩) (Z + 1) cap7)) := (HOV.out.then_below ((Below.refl _ _).alloc (Nat.le_refl _) _)).grow hgrow7 (fun b hb => by
                            have e : g7 = b := by simpa [Value.ownBlock] using hb
                            subst e
                            rcases hat7 with h | h
                            · exact Or.inl h
                            · exact Or.inr (by rw [h]; simp))
                          clear hown7 hgrow7 hat7 hlt7 hown
                          go_wp2
                          go_roundw
                          case rel => exact ⟨k + 1, by omega, by go_num, HNX.out, HOX.out⟩
                          case measure => simp [intOf]; omega
end Go.Proofs.YtmolafjalaeoaaaGreatDoor.WbA
