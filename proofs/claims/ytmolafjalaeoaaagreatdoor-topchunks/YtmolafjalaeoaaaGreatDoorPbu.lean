/-
  TopOrder: its loops.
-/
import Derived.Test.YtmolafjalaeoaaaGreatDoorPbt
namespace Go.Proofs.YtmolafjalaeoaaaGreatDoor.WbA
open Go.RowKit TkW WaM WaW WaB WbO Go.Maps
open RuM (Rl)
open TkA (sbeq_true sbeq_false)
set_option maxRecDepth 100000
theorem plays_in {c : Cf} {ac : List Ac} (hU : (tgs ac).out.length ≤ 12) : ∀ j, j ≤ ac.length → In (tgs ac).out (plays c (ac.take j) St.zero)
  | 0, _ => fun y hy => by simp [plays, St.zero] at hy
  | j + 1, hj => by
    have ih := plays_in (c := c) hU j (by omega)
    have hj' := List.getElem?_eq_getElem (l := ac) (i := j) (by omega)
    rw [plays_succ hj']
    unfold pact
    by_cases hk : ac[j].kd = tickW
    · rw [if_pos hk]
      intro y hy
      refine ih y ?_
      unfold pt at hy
      split at hy
      · exact hy
      · exact hy
    · rw [if_neg hk]
      exact pf_in hU (reads_in (by omega) hj' hk) ih
theorem seg_mem {ac : List Ac} {f i : Nat} {a : Ac} (h : a ∈ seg ac f i) : a ∈ ac := List.mem_of_mem_drop (List.mem_of_mem_take h)
theorem awS_seg (ac : List Ac) {f i : Nat} (h : f ≤ i) : awS ac i = awS ac f + wS (seg ac f i) := by
  have e : ac.take i = ac.take f ++ seg ac f i := by
    unfold seg
    have h1 := List.take_add (l := ac) (i := f) (j := i - f)
    rw [show f + (i - f) = i by omega] at h1
    exact h1
  show wS (ac.take i) = wS (ac.take f) + wS (seg ac f i)
  rw [e, wS_append]
/-- Tags that neither watch has. -/
structure TgK (V : World) (q : Option Addr) (T : List ByteArray) (oa ob : Nat → Nat) : Prop where
  sizes : ∀ g, g ∈ T → g.size ≤ 100000
  at_ : T ≠ [] → ∃ b, q = some ⟨b, 0, none⟩ ∧ b < V.heap.size ∧ (∀ k g, T[k]? = some g → V.cell? ⟨b, k, none⟩ = some (.string g)) ∧ oa b = 0 ∧ ob b = 0
theorem TgK.on {V : World} {q : Option Addr} {T : List ByteArray} {oa ob : Nat → Nat} (h : TgK V q T oa ob) : TgOn V q T := ⟨h.sizes, fun hne => by
  obtain ⟨b, h1, h2, h3, _⟩ := h.at_ hne
  exact ⟨b, h1, h2, h3⟩⟩
theorem TgK.turnB {V V' : World} {q : Option Addr} {T : List ByteArray} {oa ob ob' : Nat → Nat} (h : TgK V q T oa ob) (hp : Wp V V' ob ob') : TgK V' q T oa ob' := ⟨h.sizes, fun hne => by
  obtain ⟨b, h1, h2, h3, h4, h5⟩ := h.at_ hne
  refine ⟨b, h1, Nat.lt_of_lt_of_le h2 hp.kp.size, fun k g hk => ?_, h4, ow_wp h5 h2 hp⟩
  rw [World.cell?_of_block (w := V) (hp.kp.block b h2 (fun e => e h5))]
  exact h3 k g hk⟩
theorem TgK.turnA {V V' : World} {q : Option Addr} {T : List ByteArray} {oa ob oa' : Nat → Nat} (h : TgK V q T oa ob) (hp : Wp V V' oa oa') : TgK V' q T oa' ob := ⟨h.sizes, fun hne => by
  obtain ⟨b, h1, h2, h3, h4, h5⟩ := h.at_ hne
  refine ⟨b, h1, Nat.lt_of_lt_of_le h2 hp.kp.size, fun k g hk => ?_, ow_wp h4 h2 hp, h5⟩
  rw [World.cell?_of_block (w := V) (hp.kp.block b h2 (fun e => e h4))]
  exact h3 k g hk⟩
set_option maxHeartbeats 4000000 in
theorem topOrder_some (x : Ci) (rs : List Rl) (q : Option Addr) (cap : Nat) (ac : List Ac) (p : Option Addr) (capA : Nat) (w : World)
    (hr : RsIn w q cap rs) (hT : TagA.Tabs w) (hA : AcsOn w.heap.size w p ac) (hL : light ac 50) (hG : Good x rs) :
    Calls Tryz.prog 5 #[.agg (cfw x), .slice q rs.length cap, .slice p ac.length capA] w fun e w' => e = .returned (.bool true) ∧ Below w.heap.size w w' := by
  have HLA : Hid (∀ V, Below w.heap.size w V → Calls Tryz.prog 8 #[.slice p ac.length capA, .int .i64 50] V fun e w' => e = .returned (.bool true) ∧ Below V.heap.size V w') := fun V hV => (lightActs_is ac p capA 50 w.heap.size (r := true) (by simp [hL]) V (hA.below hV) (by omega) (Nat.le_trans hL.1 (by decide))).mono (fun e w' ⟨h1, qq, h2⟩ => ⟨h1, by rw [h2]; exact below_drewN (Below.refl _ _) qq⟩)
  have HB0 : Hid (∀ o, Below w.heap.size w (w.alloc o)) := fun o => (Below.refl _ _).alloc (Nat.le_refl _) o
  have HCF : Hid (∀ w' : World, Below (w.alloc (.cells (cfw x) 25)).heap.size (w.alloc (.cells (cfw x) 25)) w' → w'.heap[w.heap.size]? = some (.cells (cfw x) 25)) := fun w' hb => (hb.block w.heap.size (by simp)).trans (Go.heap_alloc_new w _)
  have HRA : Hid (∀ w' : World, Below (w.alloc (.cells (cfw x) 25)).heap.size (w.alloc (.cells (cfw x) 25)) w' → w'.rangeAt w.heap.size 0 (cfw x).toList) := fun w' hb => range_new (HCF.out w' hb)
  obtain ⟨c, hcok, hci, hmk⟩ := made_some hr hG
  have HMK : Hid (∀ V, Below w.heap.size w V → Calls Tryz.prog 19 #[.agg (cfw x), .slice q rs.length cap] V fun e w' => ∃ wb ow, e = .returned (.tuple #[.pointer (some ⟨wb, 0, none⟩), .bool true]) ∧ WaAt w' wb ow c rs St.zero ∧ (∀ b, ow b ≠ 0 → V.heap.size ≤ b) ∧ Below V.heap.size V w') := hmk
  have HT : Hid (TagA.Tabs w) := hT
  have HA : Hid (AcsOn w.heap.size w p ac) := hA
  have HL : Hid (light ac 50) := hL
  have hsz1 : 1 ≤ w.heap.size := hT.size
  have hi' : (Tryz.prog.info? 25).map (·.size) = some (cfw x).toList.length := by kernel_rfl
  obtain ⟨mR, hmR⟩ : ∃ mR, mR = rs.length := ⟨_, rfl⟩
  obtain ⟨mA, hmA⟩ : ∃ mA, mA = ac.length := ⟨_, rfl⟩
  have HmA : Hid (mA = ac.length) := hmA
  rw [← hmR, ← hmA]
  rw [← hmA] at HLA
  rw [← hmR] at HMK
  have hA50 : mA ≤ 50 := by rw [hmA]; exact hL.1
  have HPL : Hid (∀ V wa oa s, WaAt V wa oa c rs s → Below w.heap.size w V → (∀ b, oa b ≠ 0 → w.heap.size ≤ b) → s.sum = 0 → Calls Tryz.prog 20 #[.pointer (some ⟨wa, 0, none⟩), .slice p mA capA] V fun e w' => Pld e V w' wa oa c rs (plays c ac s)) := fun V wa oa s h1 h2 h3 h4 => by
    rw [hmA]
    exact played_any ac p capA h1 (hT.below h2 hsz1) hsz1 h2.size h3 (hA.below h2) hL.2.1 (by omega) (by have := hL.2.2; omega)
  have HTG : Hid (∀ V, Below w.heap.size w V → Calls Tryz.prog 22 #[.slice p mA capA] V fun e w' => (∃ qg cg, e = .returned (.slice qg (tgs ac).out.length cg) ∧ TgOn w' qg (tgs ac).out ∧ ∀ b, qg = some ⟨b, 0, none⟩ → V.heap.size ≤ b) ∧ Below V.heap.size V w') := fun V hV => by
    rw [hmA]
    refine (tagsOf_any ac p capA V (hA.below hV) hV.size (by omega) hL.2.1 (by have := hL.2.2; omega)).mono ?_
    rintro e w' ⟨v, rfl, h1⟩
    obtain ⟨qg, cg, rfl, h2⟩ := tq_form h1 (tgs_sizes ac)
    exact ⟨⟨qg, cg, rfl, h2, fun b hb => by have := (h1.own.lt b (by rw [hb]; rfl)).1; omega⟩, h1.below⟩
  generalize cfw x = C at *
  clear hr hA hL hG hmR hmA hmk hci hcok hT
  go_enter Tryz.func5, Tryz.ntmps5
  go_wp2_with fail
  refine (HLA.out _ (HB0.out _)).mono ?_
  rintro e w1 ⟨rfl, hb1⟩
  have HA1 : Hid (Below (w.alloc (.cells C 25)).heap.size (w.alloc (.cells C 25)) w1) := hb1
  have hra := HRA.out _ hb1
  have HBW : Hid (∀ V, Below (w.alloc (.cells C 25)).heap.size (w.alloc (.cells C 25)) V → Below w.heap.size w V) := fun V hV => (HB0.out _).trans (hV.mono (HB0.out _).size)
  clear hb1
  go_wp2_with (refine wpList_load_mid rfl 25 (.tmp 3) rfl w.heap.size 0 rfl C.toList _ hra Tryz.underlying25 rfl hi' ?_)
  refine (HMK.out _ (HBW.out _ HA1.out)).mono ?_
  rintro e w2 ⟨wa, oa, rfl, hwa, hoa, hb2⟩
  have HA2 : Hid (Below (w.alloc (.cells C 25)).heap.size (w.alloc (.cells C 25)) w2) := HA1.out.trans (hb2.mono HA1.out.size)
  have HWA : Hid (WaAt w2 wa oa c rs St.zero) := hwa
  have HOA : Hid (∀ b, oa b ≠ 0 → w.heap.size ≤ b) := fun b hb => Nat.le_trans (HBW.out _ HA1.out).size (hoa b hb)
  clear hb2 hra hwa hoa
  have hra := HRA.out _ HA2.out
  go_wp2_with (refine wpList_load_mid rfl 25 (.tmp 3) rfl w.heap.size 0 rfl C.toList _ hra Tryz.underlying25 rfl hi' ?_)
  refine (HMK.out _ (HBW.out _ HA2.out)).mono ?_
  rintro e w3 ⟨wb, ob, rfl, hwb, hob, hb3⟩
  have HTW : Hid (Two w.heap.size w3 wa wb oa ob c rs St.zero St.zero) := ⟨HWA.out.below hb3, hwb, HOA.out, fun b hb => Nat.le_trans (HBW.out _ HA2.out).size (hob b hb), fun i h1 h2 => by
    have := hob i h2
    have := WaAt.lim HWA.out i h1
    omega⟩
  have HB3 : Hid (Below w.heap.size w w3) := (HBW.out _ HA2.out).trans (hb3.mono (HBW.out _ HA2.out).size)
  clear hb3 hra hwb hob HWA HOA
  go_wp2_with fail
  refine (HTG.out _ HB3.out).mono ?_
  rintro e w3' ⟨⟨qg, cg, rfl, hgo, hgl⟩, hb3'⟩
  have HGO : Hid (TgK w3' qg (tgs ac).out oa ob) := ⟨hgo.sizes, fun hne => by
    obtain ⟨b, h1, h2, h3⟩ := hgo.at_ hne
    have hlb := hgl b h1
    refine ⟨b, h1, h2, h3, ?_, ?_⟩
    · by_cases hz : oa b = 0
      · exact hz
      · have := WaAt.lim HTW.out.a b hz; omega
    · by_cases hz : ob b = 0
      · exact hz
      · have := WaAt.lim HTW.out.b b hz; omega⟩
  clear hgl
  have HTW' : Hid (Two w.heap.size w3' wa wb oa ob c rs St.zero St.zero) := HTW.out.below hb3'
  have HB3' : Hid (Below w.heap.size w w3') := HB3.out.trans (hb3'.mono HB3.out.size)
  clear hgo hb3' HTW HB3
  go_wp2_with fail
  refine (HPL.out _ _ _ _ HTW'.out.a HB3'.out HTW'.out.la rfl).mono ?_
  rintro e w4 ⟨⟨b, rfl, oa', s', hwa, hwp, hbs⟩⟩
  obtain ⟨hT4, hB4⟩ := HTW'.out.turnA HB3'.out.size hwa hwp
  have HB4 : Hid (Below w.heap.size w w4) := HB3'.out.trans hB4
  cases b with
  | false =>
    clear hT4 hB4 hwa hwp hbs
    go_wp2
    go_ret
    exact ⟨rfl, HB4.out⟩
  | true =>
    have HT4 : Hid (Two w.heap.size w4 wa wb oa' ob c rs (plays c ac St.zero) St.zero) := by rw [← hbs rfl]; exact hT4
    have HGO4 : Hid (TgK w4 qg (tgs ac).out oa' ob) := HGO.out.turnA hwp
    obtain ⟨Z, hZ⟩ : ∃ Z, Z = (tgs ac).out.length := ⟨_, rfl⟩
    have HZ : Hid (Z = (tgs ac).out.length) := hZ
    rw [← hZ]
    clear hT4 hB4 hwa hwp hbs HTW' HB3' HA1 HA2 hZ
    by_cases h12 : 12 < Z
    · have h12I : (12 : Int) < Z := by omega
      go_wp2
      go_ret
      exact ⟨rfl, HB4.out⟩
    · have h12I : ¬ (12 : Int) < Z := by omega
      have h12L : (tgs ac).out.length ≤ 12 := by have := HZ.out; omega
      have HU : Hid ((tgs ac).out.length ≤ 12) := h12L
      clear h12L
      go_wp2
      go_loopw [13, 14] (fun f i V => ∃ (j f0 : Nat) (oB : Nat → Nat) (t : St), j ≤ mA + 1 ∧ f0 ≤ j ∧ (j = mA + 1 → f0 = mA + 1) ∧ i = .int .i64 (j : Int) ∧ f = .int .i64 (f0 : Int) ∧ Two w.heap.size V wa wb oa' oB c rs (plays c ac St.zero) t ∧ Eqv (plays c (ac.take f0) St.zero) t ∧ (∀ k, f0 ≤ k → k < j → ∀ a, ac[k]? = some a → a.kd ≠ tickW) ∧ TgK V qg (tgs ac).out oa' oB ∧ Below w.heap.size w V) (fun _ i _ => mA + 1 - (intOf i).toNat)
      case atStart => exact ⟨0, 0, ob, St.zero, by omega, by omega, by omega, rfl, rfl, HT4.out, Eqv.refl _, fun k h1 h2 => by omega, HGO4.out, HB4.out⟩
      case round =>
        obtain ⟨j, f0, oB, t, hj, hf0, hjf, rfl, rfl, htw, heq, hnt, htg, hbl⟩ := hrel
        have HTX : Hid (Two w.heap.size wr wa wb oa' oB c rs (plays c ac St.zero) t) := htw
        have HEQ : Hid (Eqv (plays c (ac.take f0) St.zero) t) := heq
        have HNT : Hid (∀ k, f0 ≤ k → k < j → ∀ a, ac[k]? = some a → a.kd ≠ tickW) := hnt
        have HTK : Hid (TgK wr qg (tgs ac).out oa' oB) := htg
        have HBL : Hid (Below w.heap.size w wr) := hbl
        clear htw heq hnt htg hbl
        by_cases hle : j ≤ mA
        case neg =>
          have hII : ¬ (j : Int) ≤ mA := by omega
          have HAG : Hid (Ag c (plays c ac St.zero) t) := by
            have h1 := HEQ.out
            rw [List.take_of_length_le (by have := HmA.out; omega)] at h1
            exact Eqv.ag h1
          have HAL : Hid (Calls Tryz.prog 21 #[.pointer (some ⟨wa, 0, none⟩), .pointer (some ⟨wb, 0, none⟩), .slice qg Z cg] wr fun e w' => e = .returned (.bool true) ∧ Below wr.heap.size wr w') := by
            rw [HZ.out]
            exact alike_true (tgs ac).out qg cg HTX.out.a HTX.out.b HAG.out HTK.out.on (by have := HU.out; omega)
          go_wp2_with fail
          refine HAL.out.mono ?_
          rintro e w6 ⟨rfl, hb6⟩
          have HB6 : Hid (Below w.heap.size w w6) := HBL.out.trans (hb6.mono HBL.out.size)
          clear hb6
          go_wp2
          go_ret
          exact ⟨rfl, HB6.out⟩
        case pos =>
          have hII : (j : Int) ≤ mA := by omega
          have HSP : Hid (plays c (ac.take j) St.zero = fl c (seg ac f0 j) (plays c (ac.take f0) St.zero)) := seg_plays hf0 (by have := HmA.out; omega) HNT.out
          have HGR : Hid (Eqv (plays c (ac.take j) St.zero) (fl c (dn (seg ac f0 j) 4) t)) := by
            rw [HSP.out, dn_grouped]
            exact grouped_eqv HU.out HEQ.out (seg_ga (by have := HU.out; omega) hf0 (by have := HmA.out; omega) HNT.out) (plays_in HU.out f0 (by have := HmA.out; omega))
          by_cases hjA : j < mA
          case neg =>
            have hjm : j = mA := by omega
            have hjI : ¬ (j : Int) < mA := by omega
            go_wp2
            go_loopw [15] (fun r V => ∃ (d : Nat) (oB : Nat → Nat), d ≤ 4 ∧ r = .int .i64 (3 - (d : Int)) ∧ Two w.heap.size V wa wb oa' oB c rs (plays c ac St.zero) (fl c (dn (seg ac f0 j) d) t) ∧ TgK V qg (tgs ac).out oa' oB ∧ Below w.heap.size w V) (fun r _ => (intOf r + 1).toNat)
            case atStart => exact ⟨0, oB, by omega, rfl, HTX.out, HTK.out, HBL.out⟩
            case round =>
              obtain ⟨d, oB, hd, rfl, htw, htg, hbl⟩ := hrel
              have HTD : Hid (Two w.heap.size wr wa wb oa' oB c rs (plays c ac St.zero) (fl c (dn (seg ac f0 j) d) t)) := htw
              have HKD : Hid (TgK wr qg (tgs ac).out oa' oB) := htg
              have HBD : Hid (Below w.heap.size w wr) := hbl
              clear htw htg hbl
              by_cases hd4 : d < 4
              case pos =>
                have hdI : (0 : Int) ≤ 3 - (d : Int) := by omega
                have hdI3 : (d : Int) ≤ 3 := by omega
                go_wp2
                go_loopw [16] (fun k V => ∃ (m : Nat) (oB : Nat → Nat), f0 + m ≤ j ∧ k = .int .i64 ((f0 + m : Nat) : Int) ∧ Two w.heap.size V wa wb oa' oB c rs (plays c ac St.zero) (fl c (dn (seg ac f0 j) d ++ fr ((seg ac f0 j).take m) (3 - (d : Int))) t) ∧ TgK V qg (tgs ac).out oa' oB ∧ Below w.heap.size w V) (fun k _ => j - (intOf k).toNat)
                case atStart => exact ⟨0, oB, by omega, rfl, by rw [List.take_zero]; show Two _ _ _ _ _ _ _ _ _ (fl c (dn (seg ac f0 j) d ++ []) t); rw [List.append_nil]; exact HTD.out, HKD.out, HBD.out⟩
                case round =>
                  obtain ⟨m, oB, hm, rfl, htw, htg, hbl⟩ := hrel
                  have HTM : Hid (Two w.heap.size wr wa wb oa' oB c rs (plays c ac St.zero) (fl c (dn (seg ac f0 j) d ++ fr ((seg ac f0 j).take m) (3 - (d : Int))) t)) := htw
                  have HKM : Hid (TgK wr qg (tgs ac).out oa' oB) := htg
                  have HBM : Hid (Below w.heap.size w wr) := hbl
                  clear htw htg hbl
                  by_cases hmj : f0 + m < j
                  case neg =>
                    have hmI : ¬ ((f0 + m : Nat) : Int) < j := by omega
                    have HTE : Hid (Two w.heap.size wr wa wb oa' oB c rs (plays c ac St.zero) (fl c (dn (seg ac f0 j) (d + 1)) t)) := by
                      have h1 := HTM.out
                      rw [List.take_of_length_le (by unfold seg; rw [List.length_take]; omega)] at h1
                      exact h1
                    go_wp2
                    go_roundw
                    case rel => exact ⟨d + 1, oB, by omega, by go_num, HTE.out, HKM.out, HBM.out⟩
                    case measure => simp [intOf]; omega
                  case pos =>
                    have hmI : ((f0 + m : Nat) : Int) < j := by omega
                    have hmA2 : ((f0 + m : Nat) : Int) < mA := by omega
                    have hk' : f0 + m < ac.length := by have := HmA.out; omega
                    have hne : ac ≠ [] := fun e => by rw [e] at hk'; simp at hk'
                    obtain ⟨g, o, rfl, hg, hc'⟩ := (HA.out.below HBM.out).at_ hne
                    have hrk := List.getElem?_eq_getElem hk'
                    have hsz := HA.out.sizes _ (List.getElem_mem hk')
                    have k1 := (hc' (f0 + m) _ hrk).c1
                    have k2 := (hc' (f0 + m) _ hrk).c2
                    have HSG : Hid ((seg ac f0 j)[m]? = some ac[f0 + m]) := by show _ = _; rw [seg_at (by omega)]; exact hrk
                    generalize ac[f0 + m] = a at *
                    clear hc' hne hrk
                    generalize hfm : f0 + m = fm at *
                    have HFM : Hid (f0 + m = fm) := hfm
                    clear hfm
                    by_cases han : a.n = 3 - (d : Int)
                    case neg =>
                      have HTE : Hid (Two w.heap.size wr wa wb oa' oB c rs (plays c ac St.zero) (fl c (dn (seg ac f0 j) d ++ fr ((seg ac f0 j).take (m + 1)) (3 - (d : Int))) t)) := by rw [fr_take_succ HSG.out, if_neg han]; exact HTM.out
                      go_wp2
                      go_roundw
                      case rel => exact ⟨m + 1, oB, by have := HFM.out; omega, by rw [show f0 + (m + 1) = fm + 1 by have := HFM.out; omega]; go_num, HTE.out, HKM.out, HBM.out⟩
                      case measure => simp [intOf]; omega
                    case pos =>
                      have HFE : Hid (Calls Tryz.prog 16 #[.pointer (some ⟨wb, 0, none⟩), .int .i64 (3 - (d : Int)), .string a.st] wr fun e w' => (∃ u v, e = .returned (.tuple #[u, v])) ∧ ∃ ow2, WaAt w' wb ow2 c rs (pf c (3 - (d : Int)) a.st (fl c (dn (seg ac f0 j) d ++ fr ((seg ac f0 j).take m) (3 - (d : Int))) t)) ∧ Wp wr w' oB ow2) := feed_each (3 - (d : Int)) a.st HTM.out.b (HT.out.below HBM.out hsz1) (by
                        by_cases hz : oB 0 = 0
                        · exact hz
                        · have := HTM.out.lb 0 hz; omega) hsz (fun hl => by
                        have h1 := dn_room (c := c) (t := t) hd4 (fun x hx => HL.out.2.1 x (seg_mem hx)) HSG.out han hl
                        have h2 := Eqv.sum HEQ.out
                        have h3 := plays_sum (c := c) (s := St.zero) HL.out.2.1 f0 (by have := HmA.out; omega)
                        have h4 := awS_seg ac hf0
                        have h5 := awS_all ac (j := j) (by have := HmA.out; omega)
                        have h6 := HL.out.2.2
                        have h7 : St.zero.sum = 0 := rfl
                        omega)
                      have HFL : Hid (pf c (3 - (d : Int)) a.st (fl c (dn (seg ac f0 j) d ++ fr ((seg ac f0 j).take m) (3 - (d : Int))) t) = fl c (dn (seg ac f0 j) d ++ fr ((seg ac f0 j).take (m + 1)) (3 - (d : Int))) t) := by
                        show _ = _
                        rw [fr_take_succ HSG.out, if_pos han, ← List.append_assoc, fl_append c (dn (seg ac f0 j) d ++ fr ((seg ac f0 j).take m) (3 - (d : Int))) [a] t]
                        show pf c (3 - (d : Int)) a.st _ = pf c a.n a.st _
                        rw [han]
                      go_wp2_with fail
                      refine HFE.out.mono ?_
                      rintro e w5 ⟨⟨u, v, rfl⟩, oB2, hwb, hwp⟩
                      obtain ⟨h1, h2⟩ := HTM.out.turnB HBM.out.size hwb hwp
                      have HTE : Hid (Two w.heap.size w5 wa wb oa' oB2 c rs (plays c ac St.zero) (fl c (dn (seg ac f0 j) d ++ fr ((seg ac f0 j).take (m + 1)) (3 - (d : Int))) t)) := by rw [← HFL.out]; exact h1
                      have HKE : Hid (TgK w5 qg (tgs ac).out oa' oB2) := HKM.out.turnB hwp
                      have HBE : Hid (Below w.heap.size w w5) := HBM.out.trans h2
                      clear hwb hwp h1 h2
                      go_wp2
                      go_roundw
                      case rel => exact ⟨m + 1, oB2, by have := HFM.out; omega, by rw [show f0 + (m + 1) = fm + 1 by have := HFM.out; omega]; go_num, HTE.out, HKE.out, HBE.out⟩
                      case measure => simp [intOf]; omega
              case neg =>
                obtain rfl : d = 4 := by omega
                have hdI : ¬ (0 : Int) ≤ 3 - ((4 : Nat) : Int) := by omega
                have HNE : Hid (Eqv (plays c (ac.take (j + 1)) St.zero) (fl c (dn (seg ac f0 j) 4) t)) := by
                  have h1 := HGR.out
                  rw [List.take_of_length_le (by have := HmA.out; omega)] at h1 ⊢
                  exact h1
                go_wp2
                go_roundw
                case rel => exact ⟨j + 1, j + 1, oB, _, by omega, by omega, by omega, by go_num, by go_num, HTD.out, HNE.out, fun k h1 h2 => by omega, HKD.out, HBD.out⟩
                case measure => simp [intOf]; omega
          case pos =>
            have hjI : (j : Int) < mA := by omega
            have hj' : j < ac.length := by have := HmA.out; omega
            have hne0 : ac ≠ [] := fun e => by rw [e] at hj'; simp at hj'
            have hrj := List.getElem?_eq_getElem hj'
            have HCE : Hid (∃ g o, p = some ⟨g, o, none⟩ ∧ ∀ V, Below w.heap.size w V → V.cell? ⟨g, o + j * 7, none⟩ = some (.string ac[j].kd) ∧ V.cell? ⟨g, o + j * 7 + 1, none⟩ = some (.int .i64 ac[j].n)) := by
              obtain ⟨g, o, h1, hg, hc'⟩ := HA.out.at_ hne0
              refine ⟨g, o, h1, fun V hV => ?_⟩
              have h2 := (hc' j _ hrj).keep (hV.block g hg)
              exact ⟨h2.c0, h2.c1⟩
            have HRJ : Hid (ac[j]? = some ac[j]) := hrj
            have HPS : Hid (plays c (ac.take (j + 1)) St.zero = pact c (plays c (ac.take j) St.zero) ac[j]) := plays_succ hrj
            generalize ac[j] = b at *
            obtain ⟨gg, og, rfl, hcc⟩ := HCE.out
            have HCC : Hid (∀ V, Below w.heap.size w V → V.cell? ⟨gg, og + j * 7, none⟩ = some (.string b.kd) ∧ V.cell? ⟨gg, og + j * 7 + 1, none⟩ = some (.int .i64 b.n)) := hcc
            obtain ⟨z0, z1⟩ := hcc _ HBL.out
            clear hcc hne0 hrj HCE
            by_cases hkd : b.kd = tickW
            case neg =>
              have HNN : Hid (∀ k, f0 ≤ k → k < j + 1 → ∀ a, ac[k]? = some a → a.kd ≠ tickW) := fun k h1 h2 a h3 => by
                by_cases hkj : k = j
                · rw [hkj, HRJ.out] at h3
                  cases h3
                  exact hkd
                · exact HNT.out k h1 (by omega) a h3
              have hkq := kd_ne hkd
              clear hkd
              go_wp2
              go_roundw
              case rel => exact ⟨j + 1, f0, oB, t, by omega, by omega, by omega, by go_num, rfl, HTX.out, HEQ.out, HNN.out, HTK.out, HBL.out⟩
              case measure => simp [intOf]; omega
            case pos =>
              have HPA : Hid (pact c (plays c (ac.take j) St.zero) b = pt b.n (plays c (ac.take j) St.zero)) := by show _ = _; unfold pact; rw [if_pos hkd]
              have hkq := kd_eq hkd
              clear hkd
              go_wp2
              go_loopw [15] (fun r V => ∃ (d : Nat) (oB : Nat → Nat), d ≤ 4 ∧ r = .int .i64 (3 - (d : Int)) ∧ Two w.heap.size V wa wb oa' oB c rs (plays c ac St.zero) (fl c (dn (seg ac f0 j) d) t) ∧ TgK V qg (tgs ac).out oa' oB ∧ Below w.heap.size w V) (fun r _ => (intOf r + 1).toNat)
              case atStart => exact ⟨0, oB, by omega, rfl, HTX.out, HTK.out, HBL.out⟩
              case round =>
                obtain ⟨d, oB, hd, rfl, htw, htg, hbl⟩ := hrel
                have HTD : Hid (Two w.heap.size wr wa wb oa' oB c rs (plays c ac St.zero) (fl c (dn (seg ac f0 j) d) t)) := htw
                have HKD : Hid (TgK wr qg (tgs ac).out oa' oB) := htg
                have HBD : Hid (Below w.heap.size w wr) := hbl
                clear htw htg hbl
                by_cases hd4 : d < 4
                case pos =>
                  have hdI : (0 : Int) ≤ 3 - (d : Int) := by omega
                  have hdI3 : (d : Int) ≤ 3 := by omega
                  go_wp2
                  go_loopw [16] (fun k V => ∃ (m : Nat) (oB : Nat → Nat), f0 + m ≤ j ∧ k = .int .i64 ((f0 + m : Nat) : Int) ∧ Two w.heap.size V wa wb oa' oB c rs (plays c ac St.zero) (fl c (dn (seg ac f0 j) d ++ fr ((seg ac f0 j).take m) (3 - (d : Int))) t) ∧ TgK V qg (tgs ac).out oa' oB ∧ Below w.heap.size w V) (fun k _ => j - (intOf k).toNat)
                  case atStart => exact ⟨0, oB, by omega, rfl, by rw [List.take_zero]; show Two _ _ _ _ _ _ _ _ _ (fl c (dn (seg ac f0 j) d ++ []) t); rw [List.append_nil]; exact HTD.out, HKD.out, HBD.out⟩
                  case round =>
                    obtain ⟨m, oB, hm, rfl, htw, htg, hbl⟩ := hrel
                    have HTM : Hid (Two w.heap.size wr wa wb oa' oB c rs (plays c ac St.zero) (fl c (dn (seg ac f0 j) d ++ fr ((seg ac f0 j).take m) (3 - (d : Int))) t)) := htw
                    have HKM : Hid (TgK wr qg (tgs ac).out oa' oB) := htg
                    have HBM : Hid (Below w.heap.size w wr) := hbl
                    clear htw htg hbl
                    by_cases hmj : f0 + m < j
                    case neg =>
                      have hmI : ¬ ((f0 + m : Nat) : Int) < j := by omega
                      have HTE : Hid (Two w.heap.size wr wa wb oa' oB c rs (plays c ac St.zero) (fl c (dn (seg ac f0 j) (d + 1)) t)) := by
                        have h1 := HTM.out
                        rw [List.take_of_length_le (by unfold seg; rw [List.length_take]; omega)] at h1
                        exact h1
                      go_wp2
                      go_roundw
                      case rel => exact ⟨d + 1, oB, by omega, by go_num, HTE.out, HKM.out, HBM.out⟩
                      case measure => simp [intOf]; omega
                    case pos =>
                      have hmI : ((f0 + m : Nat) : Int) < j := by omega
                      have hmA2 : ((f0 + m : Nat) : Int) < mA := by omega
                      have hk' : f0 + m < ac.length := by have := HmA.out; omega
                      have hne : ac ≠ [] := fun e => by rw [e] at hk'; simp at hk'
                      obtain ⟨g, o, hpe, hg, hc'⟩ := (HA.out.below HBM.out).at_ hne
                      cases hpe
                      have hrk := List.getElem?_eq_getElem hk'
                      have hsz := HA.out.sizes _ (List.getElem_mem hk')
                      have k1 := (hc' (f0 + m) _ hrk).c1
                      have k2 := (hc' (f0 + m) _ hrk).c2
                      have HSG : Hid ((seg ac f0 j)[m]? = some ac[f0 + m]) := by show _ = _; rw [seg_at (by omega)]; exact hrk
                      generalize ac[f0 + m] = a at *
                      clear hc' hne hrk
                      generalize hfm : f0 + m = fm at *
                      have HFM : Hid (f0 + m = fm) := hfm
                      clear hfm
                      by_cases han : a.n = 3 - (d : Int)
                      case neg =>
                        have HTE : Hid (Two w.heap.size wr wa wb oa' oB c rs (plays c ac St.zero) (fl c (dn (seg ac f0 j) d ++ fr ((seg ac f0 j).take (m + 1)) (3 - (d : Int))) t)) := by rw [fr_take_succ HSG.out, if_neg han]; exact HTM.out
                        go_wp2
                        go_roundw
                        case rel => exact ⟨m + 1, oB, by have := HFM.out; omega, by rw [show f0 + (m + 1) = fm + 1 by have := HFM.out; omega]; go_num, HTE.out, HKM.out, HBM.out⟩
                        case measure => simp [intOf]; omega
                      case pos =>
                        have HFE : Hid (Calls Tryz.prog 16 #[.pointer (some ⟨wb, 0, none⟩), .int .i64 (3 - (d : Int)), .string a.st] wr fun e w' => (∃ u v, e = .returned (.tuple #[u, v])) ∧ ∃ ow2, WaAt w' wb ow2 c rs (pf c (3 - (d : Int)) a.st (fl c (dn (seg ac f0 j) d ++ fr ((seg ac f0 j).take m) (3 - (d : Int))) t)) ∧ Wp wr w' oB ow2) := feed_each (3 - (d : Int)) a.st HTM.out.b (HT.out.below HBM.out hsz1) (by
                          by_cases hz : oB 0 = 0
                          · exact hz
                          · have := HTM.out.lb 0 hz; omega) hsz (fun hl => by
                          have h1 := dn_room (c := c) (t := t) hd4 (fun x hx => HL.out.2.1 x (seg_mem hx)) HSG.out han hl
                          have h2 := Eqv.sum HEQ.out
                          have h3 := plays_sum (c := c) (s := St.zero) HL.out.2.1 f0 (by have := HmA.out; omega)
                          have h4 := awS_seg ac hf0
                          have h5 := awS_all ac (j := j) (by have := HmA.out; omega)
                          have h6 := HL.out.2.2
                          have h7 : St.zero.sum = 0 := rfl
                          omega)
                        have HFL : Hid (pf c (3 - (d : Int)) a.st (fl c (dn (seg ac f0 j) d ++ fr ((seg ac f0 j).take m) (3 - (d : Int))) t) = fl c (dn (seg ac f0 j) d ++ fr ((seg ac f0 j).take (m + 1)) (3 - (d : Int))) t) := by
                          show _ = _
                          rw [fr_take_succ HSG.out, if_pos han, ← List.append_assoc, fl_append c (dn (seg ac f0 j) d ++ fr ((seg ac f0 j).take m) (3 - (d : Int))) [a] t]
                          show pf c (3 - (d : Int)) a.st _ = pf c a.n a.st _
                          rw [han]
                        go_wp2_with fail
                        refine HFE.out.mono ?_
                        rintro e w5 ⟨⟨u, v, rfl⟩, oB2, hwb, hwp⟩
                        obtain ⟨h1, h2⟩ := HTM.out.turnB HBM.out.size hwb hwp
                        have HTE : Hid (Two w.heap.size w5 wa wb oa' oB2 c rs (plays c ac St.zero) (fl c (dn (seg ac f0 j) d ++ fr ((seg ac f0 j).take (m + 1)) (3 - (d : Int))) t)) := by rw [← HFL.out]; exact h1
                        have HKE : Hid (TgK w5 qg (tgs ac).out oa' oB2) := HKM.out.turnB hwp
                        have HBE : Hid (Below w.heap.size w w5) := HBM.out.trans h2
                        clear hwb hwp h1 h2
                        go_wp2
                        go_roundw
                        case rel => exact ⟨m + 1, oB2, by have := HFM.out; omega, by rw [show f0 + (m + 1) = fm + 1 by have := HFM.out; omega]; go_num, HTE.out, HKE.out, HBE.out⟩
                        case measure => simp [intOf]; omega
                case neg =>
                  obtain rfl : d = 4 := by omega
                  have hdI : ¬ (0 : Int) ≤ 3 - ((4 : Nat) : Int) := by omega
                  obtain ⟨y0, y1⟩ := HCC.out _ HBD.out
                  have HTI : Hid (Calls Tryz.prog 14 #[.pointer (some ⟨wb, 0, none⟩), .int .i64 b.n] wr fun e w' => (∃ u v, e = .returned (.tuple #[u, v])) ∧ ∃ ow2, WaAt w' wb ow2 c rs (pt b.n (fl c (dn (seg ac f0 j) 4) t)) ∧ Wp wr w' oB ow2) := tick_each b.n HTD.out.b (HT.out.below HBD.out hsz1) (by
                    by_cases hz : oB 0 = 0
                    · exact hz
                    · have := HTD.out.lb 0 hz; omega)
                  go_wp2_with fail
                  refine HTI.out.mono ?_
                  rintro e w5 ⟨⟨u, v, rfl⟩, oB2, hwb, hwp⟩
                  obtain ⟨h1, h2⟩ := HTD.out.turnB HBD.out.size hwb hwp
                  have HTE : Hid (Two w.heap.size w5 wa wb oa' oB2 c rs (plays c ac St.zero) (pt b.n (fl c (dn (seg ac f0 j) 4) t))) := h1
                  have HKE : Hid (TgK w5 qg (tgs ac).out oa' oB2) := HKD.out.turnB hwp
                  have HBE : Hid (Below w.heap.size w w5) := HBD.out.trans h2
                  have HNE : Hid (Eqv (plays c (ac.take (j + 1)) St.zero) (pt b.n (fl c (dn (seg ac f0 j) 4) t))) := by
                    rw [HPS.out, HPA.out]
                    exact Eqv.tick HGR.out b.n
                  clear hwb hwp h1 h2
                  go_wp2
                  go_roundw
                  case rel => exact ⟨j + 1, j + 1, oB2, _, by omega, by omega, by omega, by go_num, by go_num, HTE.out, HNE.out, fun k h1 h2 => by omega, HKE.out, HBE.out⟩
                  case measure => simp [intOf]; omega
end Go.Proofs.YtmolafjalaeoaaaGreatDoor.WbA
