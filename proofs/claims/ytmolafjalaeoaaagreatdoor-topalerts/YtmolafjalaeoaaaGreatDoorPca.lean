/-
  TopAlerts: its loops.
-/
import Derived.Test.YtmolafjalaeoaaaGreatDoorPbq
import Derived.Test.YtmolafjalaeoaaaGreatDoorPby
import Derived.Test.YtmolafjalaeoaaaGreatDoorPbz
import Derived.Lib.QuietBelow
namespace Go.Proofs.YtmolafjalaeoaaaGreatDoor.WbA
open Go.RowKit TkW WaM WaW WaB WbO Go.Maps
open RuM (Rl)
open TkM (epOf told)
open TkA (sbeq_true sbeq_false)
open WdM (ps)
open Go.Sort (grow)
set_option maxRecDepth 100000
theorem eqA (a b a' b' : Int) (g g' : ByteArray) (w : World) : (binOp BinOp.eql 86 (.agg #[.int .i64 a, .int .i64 b, .string g]) (.agg #[.int .i64 a', .int .i64 b', .string g'])).run Tryz.prog w = .ok (.bool (a == a' && b == b' && g.toList == g'.toList)) w := by
  rw [run_eql_struct, eqA_in]
  rfl
theorem al_is {a : Al} {k e : Nat} {g : ByteArray} : (((a.rule : Int) == (k : Int)) && ((a.ep : Int) == (e : Int)) && (a.g.toList == g.toList)) = true ↔ a = ⟨k, e, g⟩ := by
  obtain ⟨a1, a2, a3⟩ := a
  simp only [Bool.and_eq_true, beq_iff_eq, Al.mk.injEq]
  constructor
  · rintro ⟨⟨h1, h2⟩, h3⟩
    exact ⟨by omega, by omega, by
      by_cases h : a3 = g
      · exact h
      · have := sbeq_false h
        rw [h3] at this
        simp at this⟩
  · rintro ⟨rfl, rfl, rfl⟩
    simp
/-- The rule holds, by what the statement asks. -/
theorem want_iff {g : ByteArray} {c : Cf} {s : St} {K : Nat} {r : Rl} {m : Nat} {b : Bool} (hok : r.ok) (hk : 0 < InA.knd g) (hkr : r.k = 0 ∨ r.k = (InA.knd g : Int))
    (hb : b = true ↔ HlA.HoldsP g (epOf (Ep c s K)) c.W c.need K (told g (Ep c s K)) r (m : Int)) :
    b = true ↔ HlA.cm g (epOf (Ep c s K)) c.W c.need K (told g (Ep c s K)) r.t (m : Int) = true ∧ RuN.Back (HlA.cm g (epOf (Ep c s K)) c.W c.need K (told g (Ep c s K)) r.f) (HlA.ws g (epOf (Ep c s K)) c.W c.need K (told g (Ep c s K)) r.wo) (max 0 ((m : Int) - r.wi)) (m : Int) := by
  rw [hb]
  unfold HlA.HoldsP
  constructor
  · rintro ⟨_, _, h1, h2⟩
    exact ⟨h1, h2⟩
  · rintro ⟨h1, h2⟩
    refine ⟨hok, ?_, h1, h2⟩
    unfold HlA.ofK
    rcases hkr with h | h
    · simp [hk, h]
    · simp [hk, h]
theorem want_not {g : ByteArray} {c : Cf} {s : St} {K : Nat} {r : Rl} {m : Nat} {b : Bool} (h0 : r.k ≠ 0) (h1 : r.k ≠ (InA.knd g : Int))
    (hb : b = true ↔ HlA.HoldsP g (epOf (Ep c s K)) c.W c.need K (told g (Ep c s K)) r (m : Int)) : b = false := by
  rw [← Bool.not_eq_true, hb]
  rintro ⟨_, h, _⟩
  unfold HlA.ofK at h
  simp at h
  omega
set_option maxHeartbeats 8000000 in
theorem topAlerts_some (x : Ci) (rs : List Rl) (q : Option Addr) (cap : Nat) (ac : List Ac) (p : Option Addr) (capA : Nat) (w : World)
    (hr : RsIn w q cap rs) (hT : TagA.Tabs w) (hA : AcsOn w.heap.size w p ac) (hL : light ac 50) (hG : Good x rs) :
    Calls Tryz.prog 6 #[.agg (cfw x), .slice q rs.length cap, .slice p ac.length capA] w fun e w' => e = .returned (.bool true) ∧ Below w.heap.size w w' := by
  have HLA : Hid (∀ V, Below w.heap.size w V → Calls Tryz.prog 8 #[.slice p ac.length capA, .int .i64 50] V fun e w' => e = .returned (.bool true) ∧ Below V.heap.size V w') := fun V hV => (lightActs_is ac p capA 50 w.heap.size (r := true) (by simp [hL]) V (hA.below hV) (by omega) (Nat.le_trans hL.1 (by decide))).mono (fun e w' ⟨h1, qq, h2⟩ => ⟨h1, by rw [h2]; exact below_drewN (Below.refl _ _) qq⟩)
  have HB0 : Hid (∀ o, Below w.heap.size w (w.alloc o)) := fun o => (Below.refl _ _).alloc (Nat.le_refl _) o
  have HCF : Hid (∀ w' : World, Below (w.alloc (.cells (cfw x) 25)).heap.size (w.alloc (.cells (cfw x) 25)) w' → w'.heap[w.heap.size]? = some (.cells (cfw x) 25)) := fun w' hb => (hb.block w.heap.size (by simp)).trans (Go.heap_alloc_new w _)
  have HRA : Hid (∀ w' : World, Below (w.alloc (.cells (cfw x) 25)).heap.size (w.alloc (.cells (cfw x) 25)) w' → w'.rangeAt w.heap.size 0 (cfw x).toList) := fun w' hb => range_new (HCF.out w' hb)
  obtain ⟨c, hcok, hci, hmk⟩ := made_some hr hG
  have HMK : Hid (∀ V, Below w.heap.size w V → Calls Tryz.prog 19 #[.agg (cfw x), .slice q rs.length cap] V fun e w' => ∃ wb ow, e = .returned (.tuple #[.pointer (some ⟨wb, 0, none⟩), .bool true]) ∧ WaAt w' wb ow c rs St.zero ∧ (∀ b, ow b ≠ 0 → V.heap.size ≤ b) ∧ Below V.heap.size V w') := hmk
  have HT : Hid (TagA.Tabs w) := hT
  have HRS : Hid (RsOn w q rs) := hr.on
  have hsz1 : 1 ≤ w.heap.size := hT.size
  have hi' : (Tryz.prog.info? 25).map (·.size) = some (cfw x).toList.length := by kernel_rfl
  obtain ⟨mR, hmR⟩ : ∃ mR, mR = rs.length := ⟨_, rfl⟩
  obtain ⟨mA, hmA⟩ : ∃ mA, mA = ac.length := ⟨_, rfl⟩
  have HmR : Hid (mR = rs.length) := hmR
  rw [← hmR, ← hmA]
  rw [← hmA] at HLA
  rw [← hmR] at HMK
  have hA50 : mA ≤ 50 := by rw [hmA]; exact hL.1
  have HPL : Hid (∀ V wa oa s, WaAt V wa oa c rs s → Below w.heap.size w V → (∀ b, oa b ≠ 0 → w.heap.size ≤ b) → s.sum = 0 → Calls Tryz.prog 20 #[.pointer (some ⟨wa, 0, none⟩), .slice p mA capA] V fun e w' => Pld e V w' wa oa c rs (plays c ac s)) := fun V wa oa s h1 h2 h3 h4 => by
    rw [hmA]
    exact played_any ac p capA h1 (hT.below h2 hsz1) hsz1 h2.size h3 (hA.below h2) hL.2.1 (by omega) (by have := hL.2.2; omega)
  have HTG : Hid (∀ V, Below w.heap.size w V → Calls Tryz.prog 22 #[.slice p mA capA] V fun e w' => (∃ qg cg, e = .returned (.slice qg (tgs ac).out.length cg) ∧ TgOn w' qg (tgs ac).out) ∧ Below V.heap.size V w') := fun V hV => by
    rw [hmA]
    refine (tagsOf_any ac p capA V (hA.below hV) hV.size (by omega) hL.2.1 (by have := hL.2.2; omega)).mono ?_
    rintro e w' ⟨v, rfl, h1⟩
    obtain ⟨qg, cg, rfl, h2⟩ := tq_form h1 (tgs_sizes ac)
    exact ⟨⟨qg, cg, rfl, h2⟩, h1.below⟩
  have hn0 : 1 ≤ c.need := hcok.n0
  generalize cfw x = C at *
  clear hr hA hL hG hmR hmA hmk hci hcok hT
  go_enter Tryz.func6, Tryz.ntmps6
  go_wp2_with fail
  refine (HLA.out _ (HB0.out _)).mono ?_
  rintro e w1 ⟨rfl, hb1⟩
  have HA1 : Hid (Below (w.alloc (.cells C 25)).heap.size (w.alloc (.cells C 25)) w1) := hb1
  have hra := HRA.out _ hb1
  have HBW : Hid (∀ V, Below (w.alloc (.cells C 25)).heap.size (w.alloc (.cells C 25)) V → Below w.heap.size w V) := fun V hV => (HB0.out _).trans (hV.mono (HB0.out _).size)
  clear hb1
  go_wp2_with (refine wpList_load_mid rfl 25 (.tmp 3) rfl w.heap.size 0 rfl C.toList _ hra Tryz.underlying25 rfl hi' ?_)
  refine (HMK.out _ (HBW.out _ HA1.out)).mono ?_
  rintro e w2 ⟨wa, oa, rfl, hwa, hoa, hb2⟩
  have HA2 : Hid (Below (w.alloc (.cells C 25)).heap.size (w.alloc (.cells C 25)) w2) := HA1.out.trans (hb2.mono HA1.out.size)
  have HWA : Hid (WaAt w2 wa oa c rs St.zero) := hwa
  have HOA : Hid (∀ b, oa b ≠ 0 → w.heap.size ≤ b) := fun b hb => Nat.le_trans (HBW.out _ HA1.out).size (hoa b hb)
  have HB2 : Hid (Below w.heap.size w w2) := HBW.out _ HA2.out
  clear hb2 hra hwa hoa HA1 HA2 HRA HCF HLA HMK HB0 HBW
  go_wp2_with fail
  refine (HPL.out _ _ _ _ HWA.out HB2.out HOA.out rfl).mono ?_
  rintro e w4 ⟨⟨b, rfl, oa', s', hwa, hwp, hbs⟩⟩
  obtain ⟨hB4, _⟩ := WaAt.low hwp HB2.out.size HOA.out
  have HB4 : Hid (Below w.heap.size w w4) := HB2.out.trans hB4
  have HWA4 : Hid (WaAt w4 wa oa' c rs s') := hwa
  clear hB4 hwa hwp HWA HB2 HOA HPL
  cases b with
  | false =>
    clear hbs
    go_wp2
    go_ret
    exact ⟨rfl, HB4.out⟩
  | true =>
    obtain rfl := hbs rfl
    have HIN0 : Hid (∀ a, (tgs ac).out.length < 40 → a ∈ alerts c rs (plays c ac St.zero) ((plays c ac St.zero).cl c) → a.g ∈ (tgs ac).out) := fun a h1 h2 => alert_tag h1 h2
    have HND : Hid ((tgs ac).out.Nodup) := tgs_nodup ac
    have h40 : (tgs ac).out.length ≤ 40 := by
      have := tgs_len ac ac.length
      rw [List.take_of_length_le (Nat.le_refl _)] at this
      exact this
    clear hbs
    generalize (tgs ac).out = T at *
    generalize plays c ac St.zero = s at *
    obtain ⟨N, hN⟩ : ∃ N, N = T.length := ⟨_, rfl⟩
    have HN : Hid (N = T.length) := hN
    rw [← hN] at HTG HIN0 h40
    clear hN
    go_wp2_with fail
    refine (HTG.out _ HB4.out).mono ?_
    rintro e w5 ⟨⟨qg, cg, rfl, hgo⟩, hb5⟩
    have HB5 : Hid (Below w.heap.size w w5) := HB4.out.trans (hb5.mono HB4.out.size)
    have HWA5 : Hid (WaAt w5 wa oa' c rs s) := HWA4.out.below hb5
    have HGO5 : Hid (TgOn w5 qg T) := hgo
    clear hgo hb5 HWA4 HB4 HTG
    obtain ⟨K, hK⟩ : ∃ K, K = s.cl c := ⟨_, rfl⟩
    obtain ⟨A, hAA⟩ : ∃ A, A = alerts c rs s K := ⟨_, rfl⟩
    have HAA : Hid (A = alerts c rs s K) := hAA
    have hAl : A.length ≤ 72000 := by
      obtain ⟨p, hp⟩ := HWA5.out.out.out
      rw [hAA, hK]
      exact Wa.alen hp
    have hK9 : K ≤ 1000 := by
      obtain ⟨p, hp⟩ := HWA5.out.out.out
      rw [hK]
      exact Nat.le_trans EpM.closedN_le hp.tim
    have HSK : Hid (∀ a, a ∈ A → 0 < InA.knd a.g) := fun a ha => by
      obtain ⟨p, hp⟩ := HWA5.out.out.out
      rw [hAA] at ha
      obtain ⟨_, r, _, h2, _⟩ := WdM.mem_alerts.1 ha
      have h3 := tags_sub (tagsL_mem.2 h2)
      rw [kn_mem] at h3
      obtain ⟨x, hx, hxg⟩ := h3
      rw [← hxg]
      exact (hp.sok x hx).2
    have HROK : Hid (∀ r, r ∈ rs → r.ok) := by
      obtain ⟨p, hp⟩ := HWA5.out.out.out
      exact hp.rok.2
    have hmR6 : mR ≤ 6 := by
      obtain ⟨p, hp⟩ := HWA5.out.out.out
      rw [HmR.out]
      exact hp.rok.1
    have HAL : Hid (Calls Tryz.prog 23 #[.pointer (some ⟨wa, 0, none⟩)] w5 fun e w' => (∃ qa ca, e = .returned (.slice qa A.length ca) ∧ AlsOn w' qa A) ∧ Below w5.heap.size w5 w') := (alerts_any HWA5.out.out).mono (fun e w' ⟨u, h1, h2, h3⟩ => by
      rw [← hK, ← hAA] at h2
      obtain ⟨qa, ca, h4, h5⟩ := own_als h2
      exact ⟨⟨qa, ca, by rw [h1, h4], h5⟩, h3⟩)
    rw [← hK, ← hAA] at HIN0
    have HIN : Hid (N < 40 → ∀ a, a ∈ alerts c rs s K → a.g ∈ T) := fun h a ha => HIN0.out a h (by rw [hAA]; exact ha)
    have HKK : Hid (K = s.cl c) := hK
    clear hAA hK HIN0
    obtain ⟨NA, hNA⟩ : ∃ NA, NA = A.length := ⟨_, rfl⟩
    have HNA : Hid (NA = A.length) := hNA
    rw [← hNA] at HAL hAl
    clear hNA
    go_wp2_with fail
    refine Calls.mono HAL.out ?_
    rintro e w6 ⟨⟨qa, ca, rfl, hqa⟩, hb6⟩
    have HB6 : Hid (Below w.heap.size w w6) := HB5.out.trans (hb6.mono HB5.out.size)
    have HWA : Hid (WaAt w6 wa oa' c rs s) := HWA5.out.below hb6
    have HGO : Hid (TgOn w6 qg T) := HGO5.out.below hb6
    have HAO : Hid (AlsOn w6 qa A) := hqa
    have HRO : Hid (RsOn w6 q rs) := HRS.out.below HB6.out
    have hsz6 : 1 ≤ w6.heap.size := Nat.le_trans hsz1 HB6.out.size
    have HT6 : Hid (TagA.Tabs w6) := HT.out.below HB6.out hsz1
    have HPA : Hid (∀ V g, Below w6.heap.size w6 V → g.size ≤ 100000 → Calls Tryz.prog 24 #[.string g] V fun e w' => e = .returned (TagA.parseV g) ∧ Below w6.heap.size w6 w') := fun V g hV hg => (TagA.parse_any g V (HT6.out.below hV hsz6) (by unfold maxLen; omega)).mono (fun e w' ⟨h1, h2⟩ => ⟨h1, hV.trans (h2.mono hV.size)⟩)
    have HEP : Hid (∀ B V, Below w6.heap.size w6 V → Below B.heap.size B V → Calls Tryz.prog 25 #[.pointer (some ⟨wa, 0, none⟩)] V fun e w' => e = .returned (.int .i64 (K : Int)) ∧ Below B.heap.size B w') := fun B V hV hB => (epochs_any (HWA.out.below hV).out).mono (fun e w' ⟨h1, q, h2⟩ => ⟨by rw [h1, HKK.out], by rw [h2]; exact below_drewN hB q⟩)
    have HFO : Hid (∀ V (r : Rl) (g : ByteArray) (m : Nat) (b : Bool), Below w6.heap.size w6 V → r.ok → g.size ≤ 100000 → m < K → (b = true ↔ HlA.cm g (epOf (Ep c s K)) c.W c.need K (told g (Ep c s K)) r.t (m : Int) = true ∧ RuN.Back (HlA.cm g (epOf (Ep c s K)) c.W c.need K (told g (Ep c s K)) r.f) (HlA.ws g (epOf (Ep c s K)) c.W c.need K (told g (Ep c s K)) r.wo) (max 0 ((m : Int) - r.wi)) (m : Int)) → Calls Tryz.prog 26 #[.pointer (some ⟨wa, 0, none⟩), RuA.rV r, .string g, .int .i64 (m : Int)] V fun x w' => x = .returned (.bool b) ∧ Below V.heap.size V w') := fun V r g m b hV hok hg hm hb => WdA.follows_w r g m (by have := (HWA.out.below hV).out; rw [← HKK.out] at this; exact this) hg hm hK9 hok hb
    clear hqa hb6 HWA5 HB5 HGO5 HAL HT HRS HT6
    go_wp2
    go_loopw [12, 13] (fun f i V => ∃ j : Nat, j ≤ N ∧ i = .int .i64 (j : Int) ∧ f = .int .i64 ((A.countP (ps T j 0 0) : Nat) : Int) ∧ Below w6.heap.size w6 V) (fun _ i _ => N - (intOf i).toNat)
    case atStart => exact ⟨0, Nat.zero_le _, rfl, by rw [WdM.ps_zero]; rfl, Below.refl _ _⟩
    case round =>
      obtain ⟨j, hj, rfl, rfl, hbl⟩ := hrel
      have HBL : Hid (Below w6.heap.size w6 wr) := hbl
      have HBE : Hid (Below w.heap.size w wr) := HB6.out.trans (hbl.mono HB6.out.size)
      clear hbl
      by_cases hlt : j < N
      case neg =>
        have hII : ¬ (j : Int) < N := by omega
        obtain ⟨n, hn⟩ : ∃ n, n = A.countP (ps T j 0 0) := ⟨_, rfl⟩
        have hor : n = NA ∨ N = 40 := by
          by_cases h : N < 40
          · left
            have hj2 : j = T.length := by rw [← HN.out]; omega
            rw [hn, hj2, HNA.out, HAA.out]
            exact WdM.ps_all (HIN.out h)
          · right; omega
        rw [← hn]
        clear hn
        cases hfe : ((n : Int) == (NA : Int)) with
        | true =>
          go_wp2
          go_ret
          exact ⟨rfl, HBE.out⟩
        | false =>
          have h4 : ((N : Int) == 40) = true := by
            rcases hor with h | h
            · rw [h] at hfe; simp at hfe
            · rw [h]; rfl
          clear hor
          go_wp2
          go_ret
          exact ⟨rfl, HBE.out⟩
      case pos =>
        have hII : (j : Int) < N := by omega
        have hj' : j < T.length := by rw [← HN.out]; exact hlt
        have hne : T ≠ [] := fun e => by rw [e] at hj'; simp at hj'
        have hrj := List.getElem?_eq_getElem hj'
        obtain ⟨gb, rfl, hgb, hgc⟩ := HGO.out.at_ hne
        have hc0 := hgc j _ hrj
        have hgs := HGO.out.sizes _ (List.getElem_mem hj')
        generalize T[j] = g at *
        have HGJ : Hid (T[j]? = some g) := hrj
        have HCE : Hid (∀ V, Below w6.heap.size w6 V → V.cell? ⟨gb, j, none⟩ = some (.string g)) := fun V hV => by
          rw [World.cell?_of_block (w := w6) (hV.block gb hgb)]
          exact hc0
        clear hrj hgc hne hc0
        have hcr := HCE.out _ HBL.out
        have HPG : Hid (Calls Tryz.prog 24 #[.string g] wr fun e w' => e = .returned (TagA.parseV g) ∧ Below w6.heap.size w6 w') := HPA.out wr g HBL.out hgs
        rcases InA.parse_knd g with ⟨hk0, F, P, C', R, S, hv⟩ | ⟨hk0, hv⟩
        case inr =>
          rw [hv] at HPG
          unfold TagA.noTag at HPG
          have HSKIP : Hid (A.countP (ps T j 0 0) = A.countP (ps T (j + 1) 0 0)) := by
            show _ = _
            rw [HAA.out]
            exact WdM.ps_skip HGJ.out (fun a ha e => by
              have := HSK.out a (by rw [HAA.out]; exact ha)
              rw [e, hk0] at this
              omega)
          clear hv hk0
          go_wp2_with fail
          refine Calls.mono HPG.out ?_
          rintro e v1 ⟨rfl, hb1⟩
          have HB1 : Hid (∀ o, Below w6.heap.size w6 (v1.alloc o)) := fun o => hb1.trans (((Below.refl _ v1).alloc (Nat.le_refl _) o).mono hb1.size)
          clear hb1 hcr
          go_wp2
          go_roundw
          case rel => exact ⟨j + 1, by omega, by go_num, by rw [HSKIP.out], HB1.out _⟩
          case measure => simp [intOf]; omega
        case inl =>
          rw [hv] at HPG
          unfold TagA.tagV at HPG
          clear hv
          obtain ⟨kd, hkd⟩ : ∃ kd, kd = InA.knd g := ⟨_, rfl⟩
          have HKD : Hid (kd = InA.knd g) := hkd
          rw [← hkd] at HPG hk0
          clear hkd
          go_wp2_with fail
          refine Calls.mono HPG.out ?_
          rintro e v1 ⟨rfl, hb1⟩
          obtain ⟨V2, hV2⟩ : ∃ V2, V2 = v1.alloc (.cells #[.int .i64 (kd : Int), .int .i64 F, .int .i64 P, .int .i64 C', .int .i64 R, .int .i64 S] 80) := ⟨_, rfl⟩
          have HB2 : Hid (Below w6.heap.size w6 V2) := by
            show Below _ _ _
            rw [hV2]
            exact hb1.trans (((Below.refl _ v1).alloc (Nat.le_refl _) _).mono hb1.size)
          have HTB : Hid (V2.cell? ⟨v1.heap.size, 0, none⟩ = some (.int .i64 (kd : Int))) := by show _ = _; rw [hV2]; simp
          have HTL : Hid (v1.heap.size < V2.heap.size) := by show _ < _; rw [hV2]; simp
          clear hb1 hcr HPG
          go_wp2
          rw [← hV2]
          clear hV2
          go_loopw [12, 16] (fun f i V => ∃ kk : Nat, kk ≤ mR ∧ i = .int .i64 (kk : Int) ∧ f = .int .i64 ((A.countP (ps T j kk 0) : Nat) : Int) ∧ Below V2.heap.size V2 V) (fun _ i _ => mR - (intOf i).toNat)
          case atStart => exact ⟨0, Nat.zero_le _, rfl, rfl, Below.refl _ _⟩
          case round =>
            obtain ⟨kk, hkk, rfl, rfl, hbl⟩ := hrel
            have HB3 : Hid (Below V2.heap.size V2 wr) := hbl
            have HB36 : Hid (Below w6.heap.size w6 wr) := HB2.out.trans (hbl.mono HB2.out.size)
            clear hbl
            by_cases hkm : kk < mR
            case neg =>
              have hKI : ¬ (kk : Int) < mR := by omega
              have HTAG : Hid (A.countP (ps T j kk 0) = A.countP (ps T (j + 1) 0 0)) := by
                show _ = _
                rw [show kk = rs.length by rw [← HmR.out]; omega, HAA.out]
                exact WdM.ps_tag HGJ.out
              go_wp2
              go_roundw
              case rel => exact ⟨j + 1, by omega, by go_num, by rw [HTAG.out], HB36.out⟩
              case measure => simp [intOf]; omega
            case pos =>
              have hKI : (kk : Int) < mR := by omega
              have hk' : kk < rs.length := by rw [← HmR.out]; exact hkm
              have hrne : rs ≠ [] := fun e => by rw [e] at hk'; simp at hk'
              have hrk := List.getElem?_eq_getElem hk'
              obtain ⟨qb, qo, rfl, hqb, hqc⟩ := HRO.out.at_ hrne
              have hqk := hqc kk _ hrk
              have hrok := HROK.out _ (List.getElem_mem hk')
              generalize rs[kk] = r at *
              have HRK : Hid (rs[kk]? = some r) := hrk
              have HRC : Hid (∀ V, Below w6.heap.size w6 V → V.cell? ⟨qb, qo + kk * 6, none⟩ = some (.string r.nm) ∧ V.cell? ⟨qb, qo + kk * 6 + 1, none⟩ = some (.int .i64 r.k) ∧ V.cell? ⟨qb, qo + kk * 6 + 1 + 1, none⟩ = some (.int .i64 r.f) ∧ V.cell? ⟨qb, qo + kk * 6 + 1 + 1 + 1, none⟩ = some (.int .i64 r.t) ∧ V.cell? ⟨qb, qo + kk * 6 + 1 + 1 + 1 + 1, none⟩ = some (.int .i64 r.wo) ∧ V.cell? ⟨qb, qo + kk * 6 + 1 + 1 + 1 + 1 + 1, none⟩ = some (.int .i64 r.wi)) := fun V hV => by
                have e : ∀ i, V.cell? ⟨qb, i, none⟩ = w6.cell? ⟨qb, i, none⟩ := fun i => World.cell?_of_block (hV.block qb hqb)
                simp only [e]
                exact hqk
              have HOK : Hid r.ok := hrok
              clear hrk hqc hrne hqk hrok HRO
              go_wp2
              go_loopw [12, 17] (fun f i V => ∃ e : Nat, e ≤ K ∧ i = .int .i64 (e : Int) ∧ f = .int .i64 ((A.countP (ps T j kk e) : Nat) : Int) ∧ Below V2.heap.size V2 V) (fun _ i _ => K - (intOf i).toNat)
              case atStart => exact ⟨0, Nat.zero_le _, rfl, rfl, HB3.out⟩
              case round =>
                obtain ⟨e, he, rfl, rfl, hbl⟩ := hrel
                have HB4 : Hid (Below V2.heap.size V2 wr) := hbl
                have HB46 : Hid (Below w6.heap.size w6 wr) := HB2.out.trans (hbl.mono HB2.out.size)
                clear hbl
                go_wp2_with fail
                refine (HEP.out V2 wr HB46.out HB4.out).mono ?_
                rintro e' v3 ⟨rfl, hb3⟩
                have HB5 : Hid (Below V2.heap.size V2 v3) := hb3
                have HB56 : Hid (Below w6.heap.size w6 v3) := HB2.out.trans (hb3.mono HB2.out.size)
                clear hb3 HB4 HB46
                by_cases hek : e < K
                case neg =>
                  have hEI : ¬ (e : Int) < K := by omega
                  have HRUL : Hid (A.countP (ps T j kk e) = A.countP (ps T j (kk + 1) 0)) := by
                    show _ = _
                    rw [show e = K by omega, HAA.out]
                    exact WdM.ps_rule
                  go_wp2
                  go_roundw
                  case rel => exact ⟨kk + 1, by omega, by go_num, by rw [HRUL.out], HB5.out⟩
                  case measure => simp [intOf]; omega
                case pos =>
                  have hEI : (e : Int) < K := by omega
                  obtain ⟨wt, hwt⟩ : ∃ b : Bool, b = true ↔ HlA.HoldsP g (epOf (Ep c s K)) c.W c.need K (told g (Ep c s K)) r (e : Int) := by
                    by_cases h : HlA.HoldsP g (epOf (Ep c s K)) c.W c.need K (told g (Ep c s K)) r (e : Int)
                    · exact ⟨true, by simp [h]⟩
                    · exact ⟨false, by simp [h]⟩
                  have HWT : Hid (wt = true ↔ HlA.HoldsP g (epOf (Ep c s K)) c.W c.need K (told g (Ep c s K)) r (e : Int)) := hwt
                  clear hwt
                  go_upto_region 23 with fail
                  go_cut [18] from 78 to 106 (fun v V => v = .bool wt ∧ Below V2.heap.size V2 V)
                  case first =>
                    obtain ⟨c0, c1, c2, c3, c4, c5⟩ := HRC.out v3 HB56.out
                    have cg := HCE.out v3 HB56.out
                    have ct : v3.cell? ⟨v1.heap.size, 0, none⟩ = some (.int .i64 (kd : Int)) := by rw [HB5.out.cell HTL.out]; exact HTB.out
                    have k0 := cell_regrown c0
                    have k1 := cell_regrown c1
                    have k2 := cell_regrown c2
                    have k3 := cell_regrown c3
                    have k4 := cell_regrown c4
                    have k5 := cell_regrown c5
                    have kg := cell_regrown cg
                    have kt := cell_regrown ct
                    clear c0 c1 c2 c3 c4 c5 cg ct
                    have HFW : r.k = 0 ∨ r.k = (kd : Int) → Hid (∀ d os, Calls Tryz.prog 26 #[.pointer (some ⟨wa, 0, none⟩), .agg #[.string r.nm, .int .i64 r.k, .int .i64 r.f, .int .i64 r.t, .int .i64 r.wo, .int .i64 r.wi], .string g, .int .i64 (e : Int)] (grow (redrawn v3 d) os) fun x w' => x = .returned (.bool wt) ∧ Below (grow (redrawn v3 d) os).heap.size (grow (redrawn v3 d) os) w') := fun hor d os => HFO.out _ r g e wt (HB56.out.trans ((below_regrown v3 d os).mono HB56.out.size)) HOK.out hgs hek (want_iff HOK.out (by rw [← HKD.out]; exact hk0) (by rw [← HKD.out]; exact hor) HWT.out)
                    by_cases hk1 : r.k = 0
                    case pos =>
                      have HF2 := HFW (Or.inl hk1)
                      have hz : (r.k == 0) = true := by simpa using hk1
                      clear HFW hk1
                      refine wp_region_quiet_below (by kernel_rfl) (by kernel_rfl) ?_
                      repeat (go_big_quiet_step (exact Calls.regrown_of (HF2.out _ _)))
                      refine wpQuiet_nil ?_
                      intro _ hw'
                      obtain ⟨⟨dq, osq⟩, hw''⟩ := hw'
                      subst hw''
                      go_wp2
                      go_meet
                      case rel => exact ⟨rfl, HB5.out.trans ((below_regrown v3 dq osq).mono HB5.out.size)⟩
                    case neg =>
                      have hz : (r.k == 0) = false := by simpa using hk1
                      by_cases hk2 : r.k = (kd : Int)
                      case pos =>
                        have HF2 := HFW (Or.inr hk2)
                        have hz2 : (r.k == (kd : Int)) = true := by simpa using hk2
                        clear HFW hk1 hk2
                        refine wp_region_quiet_below (by kernel_rfl) (by kernel_rfl) ?_
                        repeat (go_big_quiet_step (exact Calls.regrown_of (HF2.out _ _)))
                        refine wpQuiet_nil ?_
                        intro _ hw'
                        obtain ⟨⟨dq, osq⟩, hw''⟩ := hw'
                        subst hw''
                        go_wp2
                        go_meet
                        case rel => exact ⟨rfl, HB5.out.trans ((below_regrown v3 dq osq).mono HB5.out.size)⟩
                      case neg =>
                        have hz2 : (r.k == (kd : Int)) = false := by simpa using hk2
                        have hwf := want_not hk1 (by rw [← HKD.out]; exact hk2) HWT.out
                        subst hwf
                        clear HFW hk1 hk2
                        refine wp_region_quiet_below (by kernel_rfl) (by kernel_rfl) ?_
                        repeat (go_big_quiet_step (fail))
                        refine wpQuiet_nil ?_
                        intro _ hw'
                        obtain ⟨⟨dq, osq⟩, hw''⟩ := hw'
                        subst hw''
                        go_wp2
                        go_meet
                        case rel => exact ⟨rfl, HB5.out.trans ((below_regrown v3 dq osq).mono HB5.out.size)⟩
                  case rest =>
                    obtain ⟨rfl, hb4⟩ := hcut
                    have HB7 : Hid (Below V2.heap.size V2 wc) := hb4
                    clear hb4 HB5 HB56
                    have HWA' : Hid (wt = true ↔ (⟨kk, e, g⟩ : Al) ∈ A) := by
                      show _ ↔ _
                      rw [HWT.out, HAA.out]
                      exact (WdM.alert_iff hn0 HRK.out HOK.out hek).symm
                    go_wp2
                    go_loopw [19, 20] (fun h i V => ∃ (jj : Nat) (hv : Bool), jj ≤ NA ∧ i = .int .i64 (jj : Int) ∧ h = .bool hv ∧ (hv = true ↔ (⟨kk, e, g⟩ : Al) ∈ A.take jj) ∧ Below V2.heap.size V2 V) (fun _ i _ => NA - (intOf i).toNat)
                    case atStart => exact ⟨0, false, Nat.zero_le _, rfl, rfl, by simp, HB7.out⟩
                    case round =>
                      obtain ⟨jj, hv, hjj, rfl, rfl, hvi, hbl⟩ := hrel
                      have HVI : Hid (hv = true ↔ (⟨kk, e, g⟩ : Al) ∈ A.take jj) := hvi
                      have HB8 : Hid (Below V2.heap.size V2 wr) := hbl
                      have HB86 : Hid (Below w6.heap.size w6 wr) := HB2.out.trans (hbl.mono HB2.out.size)
                      clear hvi hbl HB7
                      by_cases hja : jj < NA
                      case neg =>
                        have hJI : ¬ (jj : Int) < NA := by omega
                        have hvw : hv = wt := by
                          have h1 := HVI.out
                          rw [List.take_of_length_le (by rw [← HNA.out]; omega)] at h1
                          rw [Bool.eq_iff_iff, h1, HWA'.out]
                        subst hvw
                        have hc9 : A.countP (ps T j kk e) ≤ 72000 := Nat.le_trans List.countP_le_length (by rw [← HNA.out]; exact hAl)
                        have HNX : Hid (A.countP (ps T j kk (e + 1)) = A.countP (ps T j kk e) + (if hv = true then 1 else 0)) := by
                          show _ = _
                          by_cases h : hv = true
                          · rw [if_pos h]
                            exact WdM.cnt_more (by rw [HAA.out]; exact WdM.alerts_nodup c rs s K) (HWA'.out.1 h) (WdM.ps_fresh HND.out HGJ.out) (fun a _ => WdM.ps_epoch HGJ.out a)
                          · rw [if_neg h]
                            exact WdM.cnt_same (fun h2 => h (HWA'.out.2 h2)) (fun a _ => WdM.ps_epoch HGJ.out a)
                        obtain ⟨n, hn⟩ : ∃ n, n = A.countP (ps T j kk e) := ⟨_, rfl⟩
                        rw [← hn] at HNX hc9 ⊢
                        clear hn
                        cases hv with
                        | true =>
                          go_wp2
                          go_roundw
                          case rel => exact ⟨e + 1, by omega, by go_num, by rw [HNX.out]; go_num, HB8.out⟩
                          case measure => simp [intOf]; omega
                        | false =>
                          go_wp2
                          go_roundw
                          case rel => exact ⟨e + 1, by omega, by go_num, by rw [HNX.out]; rfl, HB8.out⟩
                          case measure => simp [intOf]; omega
                      case pos =>
                        have hJI : (jj : Int) < NA := by omega
                        have hja' : jj < A.length := by rw [← HNA.out]; exact hja
                        have hAne : A ≠ [] := fun e => by rw [e] at hja'; simp at hja'
                        have haj := List.getElem?_eq_getElem hja'
                        obtain ⟨ab, rfl, hab, hac⟩ := HAO.out.at_ hAne
                        have hak := hac jj _ haj
                        have hgl := HCE.out wr HB86.out
                        have hmem : (⟨kk, e, g⟩ : Al) ∈ A.take (jj + 1) ↔ (⟨kk, e, g⟩ : Al) ∈ A.take jj ∨ A[jj] = ⟨kk, e, g⟩ := by
                          rw [List.take_add_one, haj, List.mem_append]
                          simp [eq_comm]
                        generalize A[jj] = a at *
                        have e0 : ∀ i, wr.cell? ⟨ab, i, none⟩ = w6.cell? ⟨ab, i, none⟩ := fun i => World.cell?_of_block (HB86.out.block ab hab)
                        obtain ⟨a0, a1, a2⟩ := hak
                        rw [← e0] at a0 a1 a2
                        have HMEM : Hid _ := hmem
                        have heq := eqA (a.rule : Int) (a.ep : Int) (kk : Int) (e : Int) a.g g
                        have hai := al_is (a := a) (k := kk) (e := e) (g := g)
                        generalize ((a.rule : Int) == (kk : Int) && (a.ep : Int) == (e : Int) && a.g.toList == g.toList) = bb at *
                        have HAI : Hid (bb = true ↔ a = ⟨kk, e, g⟩) := hai
                        have HB9 : Hid (∀ q, Below V2.heap.size V2 (wr.drewN q)) := fun q => below_drewN HB8.out q
                        clear haj hac hAne hmem hai e0 hja'
                        go_upto_region 28 with fail
                        cases hv with
                        | true =>
                          go_quiet (fail)
                          go_wp2
                          go_roundw
                          case rel => exact ⟨jj + 1, true, by omega, by go_num, rfl, ⟨fun _ => HMEM.out.2 (Or.inl (HVI.out.1 rfl)), fun _ => rfl⟩, HB9.out _⟩
                          case measure => simp [intOf]; omega
                        | false =>
                          go_quiet (fail)
                          go_wp2
                          go_roundw
                          case rel => exact ⟨jj + 1, bb, by omega, by go_num, rfl, ⟨fun h => HMEM.out.2 (Or.inr (HAI.out.1 h)), fun h => by
                            rcases HMEM.out.1 h with h1 | h1
                            · exact Bool.noConfusion (HVI.out.2 h1)
                            · exact HAI.out.2 h1⟩, HB9.out _⟩
                          case measure => simp [intOf]; omega
end Go.Proofs.YtmolafjalaeoaaaGreatDoor.WbA
