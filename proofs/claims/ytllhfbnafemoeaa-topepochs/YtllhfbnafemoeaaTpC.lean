/-
  What TopEpochs does to the world.
-/
import Derived.Test.YtllhfbnafemoeaaTpB
namespace Go.Proofs.Ytllhfbnafemoeaa.EpA
open Go.RowKit EpM EpW Go.Maps
set_option maxRecDepth 100000

theorem two_new (w w1 w2 : World) (size late : Nat) (hs1 : w1.heap.size = w.heap.size + 2) (d1 : DeskAt w1 (w.heap.size + 1) (fun b => w.heap.size ≤ b ∧ b < w.heap.size + 2) size late 0 [] 0) (hs2 : w2.heap.size = w1.heap.size + 2) (d2 : DeskAt w2 (w1.heap.size + 1) (fun b => w1.heap.size ≤ b ∧ b < w1.heap.size + 2) size late 0 [] 0) (hb : Below w1.heap.size w1 w2) :
    Two w.heap.size w2 (w.heap.size + 1) (w1.heap.size + 1) size late 0 [] [] (fun b => w.heap.size ≤ b ∧ b < w.heap.size + 2) (fun b => w1.heap.size ≤ b ∧ b < w1.heap.size + 2) where
  d := by
    have hc : closedN size late 0 = 0 := by unfold closedN; simp
    rw [hc]
    exact d1.below hb
  o := by
    have hc : closedN size late 0 = 0 := by unfold closedN; simp
    rw [hc]
    exact d2
  ld := fun b hb => by omega
  lo := fun b hb => by omega
  ap := fun b hb he => by omega
set_option maxHeartbeats 1000000 in
theorem top_main (size late : Nat) (acts : List Ac) (p : Option Addr) (cap : Nat) (w : World) (hn : acts.length ≤ 80) (h0 : 1 ≤ size) (h1 : size ≤ 50) (h2 : late ≤ 50) (ha : AcsOn w p acts) :
    Calls Try.prog 7 #[.int .i64 (size : Int), .int .i64 (late : Int), .slice p acts.length cap] w fun e w' => e = .returned (.bool true) ∧ Below w.heap.size w w' := by
  have mixed : Try.prog.follows .mixedOrders = true := by kernel_rfl
  obtain ⟨i0, hi, hz0, hz1, hz2⟩ := info_parts info61
  have HA : Hid (AcsOn w p acts) := ha
  obtain ⟨n, hnn⟩ : ∃ n, n = acts.length := ⟨_, rfl⟩
  have HN : Hid (n = acts.length) := hnn
  rw [← hnn] at hn ⊢
  clear hnn ha
  have hI : decide ((80 : Int) < n) = false := by simp; omega
  go_enter Try.func7, Try.ntmps7
  go_wp2_with fail
  refine (new_ok size late w h0 h1 h2).mono ?_
  rintro e w1 ⟨rfl, hs1, hd1, hb1⟩
  have HB1 : Hid (Below w.heap.size w w1) := hb1
  have HS1 : Hid (w1.heap.size = w.heap.size + 2) := hs1
  have HD1 : Hid (DeskAt w1 (w.heap.size + 1) (fun b => w.heap.size ≤ b ∧ b < w.heap.size + 2) size late 0 [] 0) := hd1
  clear hs1 hd1 hb1
  go_wp2_with fail
  refine (new_ok size late w1 h0 h1 h2).mono ?_
  rintro e w2 ⟨rfl, hs2, hd2, hb2⟩
  have HTW : Hid (Two w.heap.size w2 (w.heap.size + 1) (w1.heap.size + 1) size late 0 [] [] (fun b => w.heap.size ≤ b ∧ b < w.heap.size + 2) (fun b => w1.heap.size ≤ b ∧ b < w1.heap.size + 2)) := two_new w w1 w2 size late HS1.out HD1.out hs2 hd2 hb2
  have HBW : Hid (Below w.heap.size w w2) := HB1.out.trans (hb2.mono HB1.out.size)
  clear hs2 hd2 hb2 HD1 HS1 HB1
  obtain ⟨db, hdb⟩ : ∃ db, db = w.heap.size + 1 := ⟨_, rfl⟩
  obtain ⟨ob, hob⟩ : ∃ ob, ob = w1.heap.size + 1 := ⟨_, rfl⟩
  rw [← hdb, ← hob] at HTW
  rw [← hdb, ← hob]
  clear hdb hob
  go_wp2_with fail
  go_loopw [11, 12, 13, 14, 15, 16, 17, 18, 19, 20, 21, 22, 23] (fun wv av tv nv i _ _ _ _ _ _ _ _ V => ∃ (k now : Nat) (alld allo W : List Sg) (Fd Fo : Nat → Prop), k ≤ n + 1 ∧ i = .int .i64 (k : Int) ∧ now ≤ 1000 ∧ (k = n + 1 → now = 1000) ∧ alld.length ≤ k ∧ (∀ x ∈ alld, 0 ≤ x.t ∧ x.t ≤ 1000) ∧ alld.Perm (allo ++ W) ∧ (∀ x ∈ W, addF size late now x = 0) ∧ av = .int .i64 (alld.length : Int) ∧ tv = .int .i64 (cnt size alld (closedN size late now) : Int) ∧ nv = .int .i64 (closedN size late now : Int) ∧ Two w.heap.size V db ob size late now alld allo Fd Fo ∧ Wait w.heap.size V wv W (fun b => Fd b ∨ Fo b) ∧ Below w.heap.size w V) (fun _ _ _ _ i _ _ _ _ _ _ _ _ _ => n + 1 - (intOf i).toNat)
  case atStart =>
    have hc : closedN size late 0 = 0 := by unfold closedN; simp
    refine ⟨0, 0, [], [], [], _, _, by omega, rfl, by omega, fun h => by omega, Nat.le_refl _, fun x hx => by simp at hx, List.Perm.refl _, fun x hx => by simp at hx, rfl, ?_, ?_, HTW.out, Wait.nil _ _ _, HBW.out⟩
    · rw [hc, cnt_zero]; rfl
    · rw [hc]; rfl
  case round =>
    obtain ⟨k, now, alld, allo, W, Fd, Fo, hk, rfl, hnow, hend, hal, htm, hpm, hwt, rfl, rfl, rfl, htw, hwa, hbe⟩ := hrel
    obtain ⟨c, hc⟩ : ∃ c, c = closedN size late now := ⟨_, rfl⟩
    have hc9 : c ≤ 1000 := by rw [hc]; exact Nat.le_trans closedN_le hnow
    rw [← hc]
    obtain ⟨T, hT⟩ : ∃ T, T = cnt size alld c := ⟨_, rfl⟩
    have hTl : T ≤ alld.length := by rw [hT]; exact cnt_le _ _ _
    rw [← hT]
    obtain ⟨A, hA⟩ : ∃ A, A = alld.length := ⟨_, rfl⟩
    rw [← hA] at hal hTl
    rw [← hA]
    have HC : Hid (c = closedN size late now) := hc
    have HT : Hid (T = cnt size alld c) := hT
    have HAL : Hid (A = alld.length) := hA
    have HTM : Hid (∀ x ∈ alld, 0 ≤ x.t ∧ x.t ≤ 1000) := htm
    have HPM : Hid (alld.Perm (allo ++ W)) := hpm
    have HWT : Hid (∀ x ∈ W, addF size late now x = 0) := hwt
    have HTW2 : Hid (Two w.heap.size wr db ob size late now alld allo Fd Fo) := htw
    obtain ⟨pw, cw, hu11, hwon⟩ := own_sgs hwa.own
    subst hu11
    obtain ⟨mW, hmW⟩ : ∃ m, m = W.length := ⟨_, rfl⟩
    have hpl : W.length ≤ alld.length := by
      have := hpm.length_eq
      simp at this
      omega
    rw [← hmW] at hwa hpl
    rw [← hmW]
    have HMW : Hid (mW = W.length) := hmW
    have HWA : Hid (Wait w.heap.size wr (.slice pw mW cw) W (fun b => Fd b ∨ Fo b)) := hwa
    rw [← hA] at hpl
    clear hmW hwon
    have HBE : Hid (Below w.heap.size w wr) := hbe
    have hsz : w.heap.size ≤ wr.heap.size := hbe.size
    have HEND : Hid (k = n + 1 → now = 1000) := hend
    clear hc hT hA htm hpm hwt htw hwa hend HTW HBW
    by_cases hkn : k = n + 1
    case pos =>
      have h1000 : now = 1000 := HEND.out hkn
      subst h1000
      subst hkn
      have hI2 : ¬ ((n + 1 : Nat) : Int) ≤ n := by omega
      have hI3 : ¬ (n : Int) + 1 ≤ n := by omega
      have hmx : max 0 ((1000 - (late : Int)) / (size : Int)) = (c : Int) := by
        rw [HC.out]
        unfold closedN
        have e1 : (1000 - (late : Int)) = ((1000 - late : Nat) : Int) := by omega
        rw [e1, ← Int.natCast_ediv]
        exact Int.max_eq_right (Int.natCast_nonneg _)
      have hTA : (T : Int) ≤ A := by omega
      clear hbe
      go_wp2_with fail
      refine (closed_is HC.out HTW2.out.d h0 h1 h2 (by omega)).mono ?_
      rintro e w3 ⟨rfl, q3, rfl⟩
      go_wp2
      go_ret
      exact ⟨rfl, HBE.out.trans ((drewN_below _ _).mono HBE.out.size)⟩
    case neg =>
      have hkI : (k : Int) ≤ n := by omega
      by_cases hlt : k < n
      case neg =>
        have HKK : Hid (k = n) := by show _ = _; omega
        have hkI2 : ¬ (k : Int) < n := by omega
        clear hbe
        go_wp2_with fail
        refine (now_any HTW2.out.d).mono ?_
        rintro e w3 ⟨rfl, hw3⟩
        subst hw3
        go_wp2_with fail
        obtain ⟨pw2, hpw2⟩ : ∃ q, q = pw := ⟨_, rfl⟩
        clear hpw2 pw2
        go_loopw [17] (fun kk V => ∃ (j : Nat) (Gx : Nat → Prop), j ≤ mW ∧ kk = .int .i64 ((j : Int) - 1) ∧ Two w.heap.size V db ob size late now alld (allo ++ (W.drop j).reverse) Fd Gx ∧ Wait w.heap.size V (.slice pw mW cw) W (fun b => Fd b ∨ Gx b) ∧ Below w.heap.size w V) (fun kk _ => (intOf kk + 1).toNat)
        case atStart =>
          refine ⟨mW, Fo, Nat.le_refl _, rfl, ?_, HWA.out, HBE.out⟩
          have e : W.drop mW = [] := by rw [HMW.out]; exact List.drop_length
          rw [e]
          simpa using HTW2.out
        case round =>
          obtain ⟨j, Gx, hj, rfl, htwf, hwaf, hbef⟩ := hrel
          by_cases hj0 : j = 0
          case neg =>
            obtain ⟨i, rfl⟩ : ∃ i, j = i + 1 := ⟨j - 1, by omega⟩
            have hcast : (((i + 1 : Nat)) : Int) - 1 = (i : Int) := by omega
            rw [hcast]
            have hiW : i < W.length := by rw [← HMW.out]; omega
            obtain ⟨x, hx⟩ : ∃ x, x = W[i] := ⟨_, rfl⟩
            have hWx : W[i]? = some x := by rw [hx]; exact List.getElem?_eq_getElem hiW
            have hxw : x ∈ W := by rw [hx]; exact List.getElem_mem hiW
            have hx0 := HWT.out x hxw
            obtain ⟨q', c', hv', hon'⟩ := own_sgs hwaf.own
            obtain ⟨b', o', hp', hb', hc'⟩ := hon'.at_ (by intro e; rw [e] at hiW; simp at hiW)
            have hsl : pw = some ⟨b', o', none⟩ := by simp at hv'; rw [hv'.1]; exact hp'
            obtain ⟨e0, e1, e2, e3⟩ := hc' i x hWx
            have hdr : W.drop i = x :: W.drop (i + 1) := by
              obtain ⟨h1, h2⟩ := List.getElem?_eq_some_iff.1 hWx
              rw [← h2]
              exact List.drop_eq_getElem_cons h1
            have hxg : x.g.size ≤ maxLen := by
              have ok := okS_iff.1 (addF_ok hx0).1
              have := ok.g
              unfold maxLen
              omega
            have hlo : (allo ++ (W.drop (i + 1)).reverse).length ≤ 100000 := by
              have h1 := HPM.out.length_eq
              have h2 := HAL.out
              simp at h1
              simp
              omega
            have hadd := add_any x htwf.o h0 h1 h2 hnow hlo (fun b h => (htwf.lo b h).2) hxg
            rw [hx0, show errV 0 = .nilIface from rfl, if_pos rfl] at hadd
            have HADD : Hid (Calls Try.prog 25 #[.pointer (some ⟨ob, 0, none⟩), .agg #[.int .i64 x.p, .int .i64 x.s, .int .i64 x.t, .string x.g]] wr fun e w' => e = .returned .nilIface ∧ DeskAt w' ob (more Gx wr w') size late now ((allo ++ (W.drop (i + 1)).reverse) ++ [x]) (closedN size late now) ∧ Kp Gx wr w') := hadd
            have HTWF : Hid (Two w.heap.size wr db ob size late now alld (allo ++ (W.drop (i + 1)).reverse) Fd Gx) := htwf
            have HWAF : Hid (Wait w.heap.size wr (.slice pw mW cw) W (fun b => Fd b ∨ Gx b)) := hwaf
            have HBEF : Hid (Below w.heap.size w wr) := hbef
            have hszf : w.heap.size ≤ wr.heap.size := hbef.size
            have hI4 : (i : Int) < mW := by omega
            have HAPP : Hid ((allo ++ (W.drop (i + 1)).reverse) ++ [x] = allo ++ (W.drop i).reverse) := by show _ = _; rw [hdr]; simp
            clear htwf hwaf hbef hadd hx hWx hxw hx0 hv' hon' hp' hc' hdr hlo hcast hj0
            subst hsl
            obtain ⟨xp, xs, xt, xg⟩ := x
            simp only at e0 e1 e2 e3 HADD
            go_wp2_with fail
            refine HADD.out.mono ?_
            rintro e w4 ⟨rfl, hd4, hk4⟩
            have HTW4 : Hid (Two w.heap.size w4 db ob size late now alld (allo ++ (W.drop i).reverse) Fd (more Gx wr w4)) := HTWF.out.second hszf (by rw [← HAPP.out]; exact hd4) hk4
            have HWA4 : Hid (Wait w.heap.size w4 (.slice (some ⟨b', o', none⟩) mW cw) W (fun b => Fd b ∨ more Gx wr w4 b)) := HWAF.out.keep (hk4.mono (fun b _ h => Or.inr h)) (fun b hb h => by
              rcases h with h | h
              · exact Or.inl h
              · rcases h with h | h
                · exact Or.inr h
                · omega)
            have HBE4 : Hid (Below w.heap.size w w4) := HBEF.out.trans (hk4.below hszf (fun q hq hF => by have := (HTWF.out.lo q hF).1; omega))
            clear hd4 hk4 e0 e1 e2 e3 HADD
            go_wp2
            go_roundw
            case rel => exact ⟨i, _, by omega, by go_num, HTW4.out, HWA4.out, HBE4.out⟩
            case measure => simp [intOf]
          case pos =>
            subst hj0
            have hcast : (((0 : Nat)) : Int) - 1 = -1 := by omega
            rw [hcast]
            obtain ⟨allo', hallo⟩ : ∃ allo', allo' = allo ++ (W.drop 0).reverse := ⟨_, rfl⟩
            rw [← hallo] at htwf
            have HPM2 : Hid (alld.Perm allo') := by
              show List.Perm _ _
              rw [hallo]
              exact HPM.out.trans (List.Perm.append_left _ (List.reverse_perm _).symm)
            have HTWf : Hid (Two w.heap.size wr db ob size late now alld allo' Fd Gx) := htwf
            have HBEf : Hid (Below w.heap.size w wr) := hbef
            have szf : w.heap.size ≤ wr.heap.size := hbef.size
            clear htwf hwaf hbef hallo hcast hj
            go_wp2_with fail
            obtain ⟨wf, hwf⟩ : ∃ wf, wf = wr := ⟨_, rfl⟩
            rw [← hwf] at HTWf HBEf szf
            rw [← hwf]
            clear hwf
            obtain ⟨N, hN⟩ : ∃ N : Nat, (1000 : Int) - (now : Int) = (N : Int) := ⟨1000 - now, by omega⟩
            have hNN : now + N = 1000 := by omega
            rw [hN]
            clear hN
            obtain ⟨M, hM⟩ : ∃ M, M = now + N := ⟨_, rfl⟩
            have HNW : Hid (M ≤ 1000) := by show _ ≤ _; omega
            obtain ⟨c1, hc1⟩ : ∃ c1, c1 = closedN size late M := ⟨_, rfl⟩
            have hcc : c ≤ c1 := by rw [HC.out, hc1, hM]; exact closedN_mono (by omega)
            have hc19 : c1 ≤ 1000 := by rw [hc1]; exact Nat.le_trans closedN_le HNW.out
            have HC1 : Hid (c1 = closedN size late M) := hc1
            have HM : Hid (M = now + N) := hM
            have ht1 := tick_any N HTWf.out.d (fun b h => (HTWf.out.ld b h).2) h0 h1 h2 (by omega) (by rw [← HAL.out]; omega)
            rw [← HC.out, ← hM, ← hc1] at ht1
            refine ht1.mono ?_
            clear ht1
            rintro e w4 ⟨v, rfl, heo, hd4, hk4⟩
            have ho4 := HTWf.out.oleft hk4
            have ht2 := tick_any N ho4 (fun b h => Nat.lt_of_lt_of_le (HTWf.out.lo b h).2 hk4.size) h0 h1 h2 (by omega) (by have := HPM2.out.length_eq; rw [← HAL.out] at this; omega)
            rw [← HC.out, ← hM, ← hc1, ← tells_perm HPM2.out] at ht2
            have HT2 : Hid (Calls Try.prog 22 #[.pointer (some ⟨ob, 0, none⟩), .int .i64 (N : Int)] w4 fun e w' => ∃ v, e = .returned (.tuple #[v, .nilIface]) ∧ EpsOwn w' w4.heap.size Gx v (tells size alld c c1) ∧ DeskAt w' ob Gx size late M allo' c1 ∧ Kp Gx w4 w') := ht2
            have HEO : Hid (EpsOwn w4 wf.heap.size Fd v (tells size alld c c1)) := heo
            have HD4 : Hid (DeskAt w4 db Fd size late M alld c1) := hd4
            have HK4 : Hid (Kp Fd wf w4) := hk4
            clear ht2 heo hd4 hk4 ho4 hM hc1
            go_wp2_with fail
            refine HT2.out.mono ?_
            clear HT2
            rintro e w5 ⟨v', rfl, heo', ho5, hk5⟩
            have HTWx0 : Hid (Two w.heap.size w5 db ob size late M alld allo' Fd Gx) := HTWf.out.tock (by rw [← HC1.out]; exact HD4.out) HK4.out (by rw [← HC1.out]; exact ho5) hk5
            have HBEx0 : Hid (Below w.heap.size w w5) := (HBEf.out.trans (HK4.out.below szf (fun q hq hF => by have := (HTWf.out.ld q hF).1; omega))).trans (hk5.below (Nat.le_trans szf HK4.out.size) (fun q hq hF => by have := (HTWf.out.lo q hF).1; omega))
            have heo5 : EpsOwn w5 wf.heap.size Fd v (tells size alld c c1) := HEO.out.move hk5.size (fun q hq hF => hk5.block q hq (fun hr => by
              rcases hF with hF | hF
              · have := (HTWf.out.lo q hr).2; omega
              · exact HTWf.out.ap q hF hr))
            obtain ⟨pa, ca, rfl, hona⟩ := heo5.on
            obtain ⟨pb, cb, rfl, honb⟩ := heo'.on
            have htl : (tells size alld c c1).length ≤ 100000 := by rw [tells_len]; omega
            have htf : ∀ f ∈ tells size alld c c1, f.2.length ≤ 100000 := by
              intro f hf
              unfold tells at hf
              simp at hf
              obtain ⟨j, _, rfl⟩ := hf
              have := grp_length size alld j
              have := HAL.out
              simp only [sorted_length]
              omega
            have HSE : Hid (∀ d os, Calls Try.prog 24 #[.slice pa (tells size alld c c1).length ca, .slice pb (tells size alld c c1).length cb] (Go.Sort.grow (redrawn w5 d) os) fun e w' => e = .returned (.bool true) ∧ Below (Go.Sort.grow (redrawn w5 d) os).heap.size (Go.Sort.grow (redrawn w5 d) os) w') := fun d os => sameEpochs_any _ pa pb ca cb _ htl (EpsOn.below hona (below_regrown _ _ _)) (EpsOn.below honb (below_regrown _ _ _)) htf
            obtain ⟨L, hL⟩ : ∃ L, L = (tells size alld c c1).length := ⟨_, rfl⟩
            have hLc : L = c1 - c := by rw [hL, tells_len]
            rw [← hL] at HSE
            rw [← hL]
            have HON : Hid (EpsOn w5 pa (tells size alld c c1)) := hona
            have HLC : Hid (L = c1 - c) := hLc
            have hL9 : L ≤ 1000 := by omega
            have hcL : c + L = c1 := by omega
            have HCL : Hid (c + L = c1) := hcL
            clear heo5 heo' ho5 hk5 hona honb htl htf hL hLc hcL HEO HD4 HK4
            go_wp2
            refine wp_region_quiet_below (by kernel_rfl) (by kernel_rfl) ?_
            repeat (go_big_quiet_step (with_reducible exact Calls.regrown_of (HSE.out _ _)))
            refine wpQuiet_nil ?_
            intro _ hw'
            obtain ⟨⟨dq, osq⟩, hw''⟩ := hw'
            subst hw''
            obtain ⟨V6, hV6⟩ : ∃ V6, V6 = Go.Sort.grow (redrawn w5 dq) osq := ⟨_, rfl⟩
            have hb6 : Below w5.heap.size w5 V6 := by rw [hV6]; exact below_regrown _ _ _
            show Exit.then _ _ _ _ (Go.Sort.grow (redrawn w5 dq) osq)
            rw [← hV6]
            have HON6 : Hid (EpsOn V6 pa (tells size alld c c1)) := EpsOn.below HON.out hb6
            have HTWx : Hid (Two w.heap.size V6 db ob size late M alld allo' Fd Gx) := HTWx0.out.below hb6
            have HBEx : Hid (Below w.heap.size w V6) := HBEx0.out.trans (hb6.mono HBEx0.out.size)
            clear hV6 hb6 HSE HON HTWx0 HBEx0
            go_wp2
            go_loopw [13, 14, 22, 23] (fun tv nv kk _ V' => ∃ m : Nat, m ≤ L ∧ kk = .int .i64 (m : Int) ∧ nv = .int .i64 ((c + m : Nat) : Int) ∧ tv = .int .i64 (cnt size alld (c + m) : Int) ∧ Below V6.heap.size V6 V') (fun _ _ kk _ _ => L - (intOf kk).toNat)
            case atStart => exact ⟨0, Nat.zero_le _, rfl, rfl, by rw [HT.out]; rfl, Below.refl _ _⟩
            case round =>
              obtain ⟨m, hm, rfl, rfl, rfl, hbx⟩ := hrel
              have HBx : Hid (Below V6.heap.size V6 wr) := hbx
              obtain ⟨cm, hcm⟩ : ∃ cm, cm = c + m := ⟨_, rfl⟩
              rw [← hcm]
              obtain ⟨tm, htm2⟩ : ∃ tm, tm = cnt size alld cm := ⟨_, rfl⟩
              rw [← htm2]
              have htA : tm ≤ A := by rw [htm2, HAL.out]; exact cnt_le _ _ _
              have HCM : Hid (cm = c + m) := hcm
              have HTMM : Hid (tm = cnt size alld cm) := htm2
              have hcm9 : cm ≤ 1000 := by have := HCL.out; have := HCM.out; omega
              clear hcm htm2
              by_cases hmL : m < L
              case neg =>
                have hmm : m = L := by omega
                have hI5 : ¬ (m : Int) < L := by omega
                have HCC : Hid (cm = c1) := by show _ = _; rw [HCM.out, hmm]; exact HCL.out
                clear hmm hbx
                go_wp2
                go_roundw
                case rel => exact ⟨k + 1, M, alld, allo', [], _, _, by omega, by go_num, HNW.out, fun _ => by rw [HM.out]; exact hNN, by rw [← HAL.out]; omega, HTM.out, by rw [List.append_nil]; exact HPM2.out, fun x hx => by simp at hx, by rw [HAL.out], by rw [HTMM.out, HCC.out, HC1.out], by rw [HCC.out, HC1.out], HTWx.out.below HBx.out, Wait.nil _ _ _, HBEx.out.trans (HBx.out.mono HBEx.out.size)⟩
                case measure => simp [intOf]; omega
              case pos =>
                have hI5 : (m : Int) < L := by omega
                obtain ⟨tb, to, rfl, htb, htc⟩ := HON6.out.at_ (by intro e; have h5 := tells_len size alld c c1; rw [e] at h5; simp at h5; have := HLC.out; omega)
                obtain ⟨ps, cs, hps⟩ := htc m _ (tells_at (by have := HCL.out; omega))
                obtain ⟨g0, g1, hgs⟩ := EpAt.below hps hbx htb
                rw [← HCM.out] at g0 g1 hgs
                obtain ⟨Ls, hLs⟩ : ∃ Ls, Ls = sorted (grp size alld cm) := ⟨_, rfl⟩
                simp only at g0 g1 hgs
                rw [← hLs] at g1 hgs
                have hLl : Ls.length ≤ A := by rw [hLs, sorted_length, HAL.out]; exact grp_length _ _ _
                have HSUM : Hid (cnt size alld (cm + 1) = tm + Ls.length) := by show _ = _; rw [cnt_succ, HTMM.out, hLs, sorted_length]
                have HLS : Hid (Ls = sorted (grp size alld cm)) := hLs
                have HGS : Hid (SgsOn wr ps Ls) := hgs
                have hszx : V6.heap.size ≤ wr.heap.size := hbx.size
                clear htc hps hgs hbx hLs
                have hn0 : ((size : Int) == 0) = false := by simp; omega
                have hcmI : (cm : Int) ≤ 1000 := by omega
                go_wp2
                rename World => wx
                go_loopw [23] (fun jj V'' => ∃ q : Nat, q ≤ Ls.length ∧ jj = .int .i64 (q : Int) ∧ Below wx.heap.size wx V'') (fun jj _ => Ls.length - (intOf jj).toNat)
                case atStart => exact ⟨0, Nat.zero_le _, rfl, Below.refl _ _⟩
                case round =>
                  obtain ⟨q, hq, rfl, hbj⟩ := hrel
                  have d0 := keepCell hbj (by show tb < wx.heap.size; omega) g0
                  have d1 := keepCell hbj (by show tb < wx.heap.size; omega) g1
                  have HBJ : Hid (Below wx.heap.size wx wr) := hbj
                  by_cases hql : q < Ls.length
                  case pos =>
                    have hqI : (q : Int) < Ls.length := by omega
                    obtain ⟨yb, yo, rfl, hyb, hyc⟩ := HGS.out.at_ (by intro e; rw [e] at hql; simp at hql)
                    obtain ⟨_, _, y2, _⟩ := (hyc q _ (List.getElem?_eq_getElem hql)).keep (hbj.block yb hyb)
                    have hym : Ls[q] ∈ sorted (grp size alld cm) := by rw [← HLS.out]; exact List.getElem_mem hql
                    obtain ⟨hya, hye⟩ := mem_grp hym
                    obtain ⟨ht0, ht1⟩ := HTM.out _ hya
                    obtain ⟨yt, hyt⟩ : ∃ yt : Nat, Ls[q].t = (yt : Int) := ⟨Ls[q].t.toNat, by omega⟩
                    rw [hyt] at y2
                    have hdiv : ((yt : Int) / (size : Int)) = (cm : Int) := by rw [← hye]; unfold epo; rw [hyt]; simp
                    clear hyc hym hya hye hyt ht0 ht1 hbj
                    go_wp2
                    go_quiet (fail)
                    go_wp2
                    go_roundw
                    case rel => exact ⟨q + 1, by omega, by go_num, HBJ.out.trans ((drewN_below _ _).mono HBJ.out.size)⟩
                    case measure => simp [intOf]; omega
                  case neg =>
                    have hqq : q = Ls.length := by omega
                    have hqI : ¬ (q : Int) < Ls.length := by omega
                    clear hbj hqq
                    go_wp2
                    go_roundw
                    case rel =>
                      have e1 : cnt size alld (c + (m + 1)) = tm + Ls.length := by rw [← HSUM.out, HCM.out]; rfl
                      have e2 : c + (m + 1) = cm + 1 := by rw [HCM.out]; omega
                      refine ⟨m + 1, by omega, by go_num, by rw [e2]; go_num, by rw [e1]; go_num, HBx.out.trans (HBJ.out.mono hszx)⟩
                    case measure => simp [intOf]; omega
      case pos =>
        have hkI2 : (k : Int) < n := by omega
        have hk' : k < acts.length := by rw [← HN.out]; exact hlt
        obtain ⟨b, o, rfl, hb, hcc⟩ := HA.out.at_ (by intro e; rw [e] at hk'; simp at hk')
        have htag := HA.out.tags _ (List.getElem_mem hk')
        have hac := (hcc k _ (List.getElem?_eq_getElem hk')).keep (hbe.block b hb)
        clear hcc hbe
        generalize acts[k] = a at *
        obtain ⟨kd, an, ast, ⟨xp, xs, xt, xg⟩⟩ := a
        obtain ⟨a0, a1, a2, a3, a4, a5, a6⟩ := hac
        simp only at a0 a1 a2 a3 a4 a5 a6 htag
        cases hkd : (kd.toList == ([116, 105, 99, 107] : List UInt8))
        case false =>
          go_wp2_with fail
          refine (now_any HTW2.out.d).mono ?_
          rintro e w3 ⟨rfl, hw3⟩
          subst hw3
          go_wp2_with fail
          clear a0 a1 a2 HEND
          obtain ⟨E, hE⟩ : ∃ E, E = addF size late now ⟨xp, xs, xt, xg⟩ := ⟨_, rfl⟩
          have hadd := add_any ⟨xp, xs, xt, xg⟩ HTW2.out.d h0 h1 h2 hnow (by rw [← HAL.out]; omega) (fun b h => (HTW2.out.ld b h).2) htag
          rw [← hE] at hadd
          by_cases hE0 : E = 0
          case neg =>
            rw [errV_pos hE0, if_neg hE0] at hadd
            refine hadd.mono ?_
            rintro e w4 ⟨rfl, hd4, hk4⟩
            have HTW4 : Hid (Two w.heap.size w4 db ob size late now alld allo (more Fd w3 w4) Fo) := HTW2.out.first hsz hd4 hk4
            have HWA4 : Hid (Wait w.heap.size w4 (.slice pw mW cw) W (fun b => more Fd w3 w4 b ∨ Fo b)) := HWA.out.keep (hk4.mono (fun b _ h => Or.inl h)) (fun b hb h => by
              rcases h with h | h
              · rcases h with h | h
                · exact Or.inl h
                · omega
              · exact Or.inr h)
            have HBE4 : Hid (Below w.heap.size w w4) := HBE.out.trans (hk4.below hsz (fun q hq hF => by have := (HTW2.out.ld q hF).1; omega))
            clear hadd hd4 hk4 hE a3 a4 a5 a6
            go_wp2
            go_roundw
            case rel => exact ⟨k + 1, now, alld, allo, W, _, _, by omega, by go_num, hnow, fun h => by omega, by rw [← HAL.out]; omega, HTM.out, HPM.out, HWT.out, by rw [HAL.out], by rw [HT.out, HC.out], by rw [HC.out], HTW4.out, HWA4.out, HBE4.out⟩
            case measure => simp [intOf]; omega
          case pos =>
            rw [hE0, show errV 0 = .nilIface from rfl, if_pos rfl] at hadd
            rw [hE0] at hE
            have HE : Hid (addF size late now ⟨xp, xs, xt, xg⟩ = 0) := hE.symm
            refine hadd.mono ?_
            rintro e w4 ⟨rfl, hd4, hk4⟩
            have HTW4 : Hid (Two w.heap.size w4 db ob size late now (alld ++ [⟨xp, xs, xt, xg⟩]) allo (more Fd w3 w4) Fo) := HTW2.out.first hsz hd4 hk4
            have hwa4 : Wait w.heap.size w4 (.slice pw mW cw) W (fun b => more Fd w3 w4 b ∨ Fo b) := HWA.out.keep (hk4.mono (fun b _ h => Or.inl h)) (fun b hb h => by
              rcases h with h | h
              · rcases h with h | h
                · exact Or.inl h
                · omega
              · exact Or.inr h)
            have HBE4 : Hid (Below w.heap.size w w4) := HBE.out.trans (hk4.below hsz (fun q hq hF => by have := (HTW2.out.ld q hF).1; omega))
            have hsz4 : w.heap.size ≤ w4.heap.size := HBE4.out.size
            have hb4 : b < w4.heap.size := by omega
            have hfr : w4.heap[b]? = w3.heap[b]? := hk4.block b (by omega) (fun hF => by have := (HTW2.out.ld b hF).1; omega)
            have d3 := (World.cell?_of_block (a := ⟨b, o + k * 7 + 1 + 1 + 1, none⟩) hfr).trans a3
            have d4 := (World.cell?_of_block (a := ⟨b, o + k * 7 + 1 + 1 + 1 + 1, none⟩) hfr).trans a4
            have d5 := (World.cell?_of_block (a := ⟨b, o + k * 7 + 1 + 1 + 1 + 1 + 1, none⟩) hfr).trans a5
            have d6 := (World.cell?_of_block (a := ⟨b, o + k * 7 + 1 + 1 + 1 + 1 + 1 + 1, none⟩) hfr).trans a6
            have hown4 : (w4.alloc (.cells #[.int .i64 xp, .int .i64 xs, .int .i64 xt, .string xg] 61)).ownsRow w.heap.size 61 4 (.slice pw mW cw) mW (sgcs W) := (by have := hwa4.own; rw [← HMW.out] at this; exact this : w4.ownsRow w.heap.size 61 4 (.slice pw mW cw) mW (sgcs W)).alloc _
            have HWA4 : Hid (Wait w.heap.size w4 (.slice pw mW cw) W (fun b => more Fd w3 w4 b ∨ Fo b)) := hwa4
            clear hadd hd4 hk4 hE a3 a4 a5 a6 hfr hwa4 hE0
            go_wp2_with (at_builtin; refine wpList_append_lies _ rfl _ _ 73 rfl w.heap.size 61 i0 (.agg #[.int .i64 0, .int .i64 0, .int .i64 0, .string ⟨#[]⟩]) 4 40 Try.underlying73 hi hz0 hz1 hz2 rfl (by decide) _ _ _ rfl hown4 ⟨w4.heap.size, 0, none⟩ 1 1 [.int .i64 xp, .int .i64 xs, .int .i64 xt, .string xg] rfl rfl ?q1 ?q2 (by omega) ?q3 ?q4 ?q5 (w4.heap.size + 1) ?q6 ?_)
            case q1 =>
              intro j u hj
              match j, hj with
              | 0, hj => simp at hj; subst hj; simp [Addr.add]
              | 1, hj => simp at hj; subst hj; simp [Addr.add]
              | 2, hj => simp at hj; subst hj; simp [Addr.add]
              | 3, hj => simp at hj; subst hj; simp [Addr.add]
            case q2 => intro u hu; simp at hu; rcases hu with rfl | rfl | rfl | rfl <;> rfl
            case q3 => unfold maxLen; omega
            case q4 => omega
            case q5 => simp; omega
            case q6 => simp
            intro g capg w5 hown5 hgrow5 hat5 hlt5
            have hk5 : Kp (fun q => (Value.slice pw mW cw).ownBlock = some q) w4 w5 := (alloc_kp _ w4 _).trans (grown_kp hgrow5 (fun q hq => hq))
            have HTW5 : Hid (Two w.heap.size w5 db ob size late now (alld ++ [⟨xp, xs, xt, xg⟩]) allo (more Fd w3 w4) Fo) := HTW4.out.keep hk5 (fun q _ hq => ⟨fun hf => HWA4.out.off q hq (Or.inl hf), fun hf => HWA4.out.off q hq (Or.inr hf)⟩)
            have HWA5 : Hid (Wait w.heap.size w5 (.slice (some ⟨g, 0, none⟩) (mW + 1) capg) (W ++ [⟨xp, xs, xt, xg⟩]) (fun b => more Fd w3 w4 b ∨ Fo b)) := by
              have hm := HMW.out
              have hw := HWA4.out
              show Wait _ _ _ _ _
              rw [hm] at hown5 hw ⊢
              refine hw.snoc (x := ⟨xp, xs, xt, xg⟩) hown5 (fun q hq => ?_) (by rcases hat5 with h | h; exact Or.inl (by rw [hm] at h; exact h); exact Or.inr (by omega))
              rcases hq with hq | hq
              · exact (HTW4.out.ld q hq).2
              · exact (HTW4.out.lo q hq).2
            have HBE5 : Hid (Below w.heap.size w w5) := HBE4.out.trans (hk5.below hsz4 (fun q hq hF => by have := (hown4.lt q hF).1; omega))
            clear hown5 hgrow5 hat5 hlt5 hk5 hown4 d3 d4 d5 d6
            have hok := addF_ok HE.out
            have HOK : Hid (okS now ⟨xp, xs, xt, xg⟩ = true ∧ closedN size late now ≤ epo size ⟨xp, xs, xt, xg⟩) := hok
            clear hok
            go_wp2
            go_roundw
            case rel =>
              refine ⟨k + 1, now, alld ++ [⟨xp, xs, xt, xg⟩], allo, W ++ [⟨xp, xs, xt, xg⟩], _, _, by omega, by go_num, hnow, fun h => by omega, by rw [List.length_append, ← HAL.out]; simp; omega, ?_, ?_, ?_, ?_, ?_, by rw [HC.out], HTW5.out, HWA5.out, HBE5.out⟩
              · intro x hx
                rcases List.mem_append.1 hx with hx | hx
                · exact HTM.out x hx
                · simp at hx
                  subst hx
                  have ok := okS_iff.1 HOK.out.1
                  have e1 := ok.t0
                  have e2 := ok.t1
                  exact ⟨e1, by omega⟩
              · rw [← List.append_assoc]
                exact HPM.out.append_right _
              · intro x hx
                rcases List.mem_append.1 hx with hx | hx
                · exact HWT.out x hx
                · simp at hx
                  subst hx
                  exact HE.out
              · rw [List.length_append, ← HAL.out]
                go_num
              · rw [cnt_snoc HOK.out.2, HT.out, HC.out]
            case measure => simp [intOf]; omega
        case true =>
          go_wp2_with fail
          refine (now_any HTW2.out.d).mono ?_
          rintro e w3 ⟨rfl, hw3⟩
          subst hw3
          go_wp2_with fail
          clear a0 a1 a2 a3 a4 a5 a6 HEND hkd
          obtain ⟨pw2, hpw2⟩ : ∃ q, q = pw := ⟨_, rfl⟩
          clear hpw2 pw2
          go_loopw [17] (fun kk V => ∃ (j : Nat) (Gx : Nat → Prop), j ≤ mW ∧ kk = .int .i64 ((j : Int) - 1) ∧ Two w.heap.size V db ob size late now alld (allo ++ (W.drop j).reverse) Fd Gx ∧ Wait w.heap.size V (.slice pw mW cw) W (fun b => Fd b ∨ Gx b) ∧ Below w.heap.size w V) (fun kk _ => (intOf kk + 1).toNat)
          case atStart =>
            refine ⟨mW, Fo, Nat.le_refl _, rfl, ?_, HWA.out, HBE.out⟩
            have e : W.drop mW = [] := by rw [HMW.out]; exact List.drop_length
            rw [e]
            simpa using HTW2.out
          case round =>
            obtain ⟨j, Gx, hj, rfl, htwf, hwaf, hbef⟩ := hrel
            by_cases hj0 : j = 0
            case neg =>
              obtain ⟨i, rfl⟩ : ∃ i, j = i + 1 := ⟨j - 1, by omega⟩
              have hcast : (((i + 1 : Nat)) : Int) - 1 = (i : Int) := by omega
              rw [hcast]
              have hiW : i < W.length := by rw [← HMW.out]; omega
              obtain ⟨x, hx⟩ : ∃ x, x = W[i] := ⟨_, rfl⟩
              have hWx : W[i]? = some x := by rw [hx]; exact List.getElem?_eq_getElem hiW
              have hxw : x ∈ W := by rw [hx]; exact List.getElem_mem hiW
              have hx0 := HWT.out x hxw
              obtain ⟨q', c', hv', hon'⟩ := own_sgs hwaf.own
              obtain ⟨b', o', hp', hb', hc'⟩ := hon'.at_ (by intro e; rw [e] at hiW; simp at hiW)
              have hsl : pw = some ⟨b', o', none⟩ := by simp at hv'; rw [hv'.1]; exact hp'
              obtain ⟨e0, e1, e2, e3⟩ := hc' i x hWx
              have hdr : W.drop i = x :: W.drop (i + 1) := by
                obtain ⟨h1, h2⟩ := List.getElem?_eq_some_iff.1 hWx
                rw [← h2]
                exact List.drop_eq_getElem_cons h1
              have hxg : x.g.size ≤ maxLen := by
                have ok := okS_iff.1 (addF_ok hx0).1
                have := ok.g
                unfold maxLen
                omega
              have hlo : (allo ++ (W.drop (i + 1)).reverse).length ≤ 100000 := by
                have h1 := HPM.out.length_eq
                have h2 := HAL.out
                simp at h1
                simp
                omega
              have hadd := add_any x htwf.o h0 h1 h2 hnow hlo (fun b h => (htwf.lo b h).2) hxg
              rw [hx0, show errV 0 = .nilIface from rfl, if_pos rfl] at hadd
              have HADD : Hid (Calls Try.prog 25 #[.pointer (some ⟨ob, 0, none⟩), .agg #[.int .i64 x.p, .int .i64 x.s, .int .i64 x.t, .string x.g]] wr fun e w' => e = .returned .nilIface ∧ DeskAt w' ob (more Gx wr w') size late now ((allo ++ (W.drop (i + 1)).reverse) ++ [x]) (closedN size late now) ∧ Kp Gx wr w') := hadd
              have HTWF : Hid (Two w.heap.size wr db ob size late now alld (allo ++ (W.drop (i + 1)).reverse) Fd Gx) := htwf
              have HWAF : Hid (Wait w.heap.size wr (.slice pw mW cw) W (fun b => Fd b ∨ Gx b)) := hwaf
              have HBEF : Hid (Below w.heap.size w wr) := hbef
              have hszf : w.heap.size ≤ wr.heap.size := hbef.size
              have hI4 : (i : Int) < mW := by omega
              have HAPP : Hid ((allo ++ (W.drop (i + 1)).reverse) ++ [x] = allo ++ (W.drop i).reverse) := by show _ = _; rw [hdr]; simp
              clear htwf hwaf hbef hadd hx hWx hxw hx0 hv' hon' hp' hc' hdr hlo hcast hj0
              subst hsl
              obtain ⟨xp, xs, xt, xg⟩ := x
              simp only at e0 e1 e2 e3 HADD
              go_wp2_with fail
              refine HADD.out.mono ?_
              rintro e w4 ⟨rfl, hd4, hk4⟩
              have HTW4 : Hid (Two w.heap.size w4 db ob size late now alld (allo ++ (W.drop i).reverse) Fd (more Gx wr w4)) := HTWF.out.second hszf (by rw [← HAPP.out]; exact hd4) hk4
              have HWA4 : Hid (Wait w.heap.size w4 (.slice (some ⟨b', o', none⟩) mW cw) W (fun b => Fd b ∨ more Gx wr w4 b)) := HWAF.out.keep (hk4.mono (fun b _ h => Or.inr h)) (fun b hb h => by
                rcases h with h | h
                · exact Or.inl h
                · rcases h with h | h
                  · exact Or.inr h
                  · omega)
              have HBE4 : Hid (Below w.heap.size w w4) := HBEF.out.trans (hk4.below hszf (fun q hq hF => by have := (HTWF.out.lo q hF).1; omega))
              clear hd4 hk4 e0 e1 e2 e3 HADD
              go_wp2
              go_roundw
              case rel => exact ⟨i, _, by omega, by go_num, HTW4.out, HWA4.out, HBE4.out⟩
              case measure => simp [intOf]
            case pos =>
              subst hj0
              have hcast : (((0 : Nat)) : Int) - 1 = -1 := by omega
              rw [hcast]
              obtain ⟨allo', hallo⟩ : ∃ allo', allo' = allo ++ (W.drop 0).reverse := ⟨_, rfl⟩
              rw [← hallo] at htwf
              have HPM2 : Hid (alld.Perm allo') := by
                show List.Perm _ _
                rw [hallo]
                exact HPM.out.trans (List.Perm.append_left _ (List.reverse_perm _).symm)
              have HTWf : Hid (Two w.heap.size wr db ob size late now alld allo' Fd Gx) := htwf
              have HBEf : Hid (Below w.heap.size w wr) := hbef
              have szf : w.heap.size ≤ wr.heap.size := hbef.size
              clear htwf hwaf hbef hallo hcast hj
              go_wp2_with fail
              obtain ⟨wf, hwf⟩ : ∃ wf, wf = wr := ⟨_, rfl⟩
              rw [← hwf] at HTWf HBEf szf
              rw [← hwf]
              clear hwf
              by_cases hok : 0 ≤ an ∧ an ≤ 1000 - now
              case pos =>
                obtain ⟨N, hNe⟩ : ∃ N : Nat, an = (N : Int) := ⟨an.toNat, by omega⟩
                subst hNe
                obtain ⟨M, hM⟩ : ∃ M, M = now + N := ⟨_, rfl⟩
                have HNW : Hid (M ≤ 1000) := by show _ ≤ _; omega
                obtain ⟨c1, hc1⟩ : ∃ c1, c1 = closedN size late M := ⟨_, rfl⟩
                have hcc : c ≤ c1 := by rw [HC.out, hc1, hM]; exact closedN_mono (by omega)
                have hc19 : c1 ≤ 1000 := by rw [hc1]; exact Nat.le_trans closedN_le HNW.out
                have HC1 : Hid (c1 = closedN size late M) := hc1
                have HM : Hid (M = now + N) := hM
                have ht1 := tick_any N HTWf.out.d (fun b h => (HTWf.out.ld b h).2) h0 h1 h2 (by omega) (by rw [← HAL.out]; omega)
                rw [← HC.out, ← hM, ← hc1] at ht1
                refine ht1.mono ?_
                clear ht1
                rintro e w4 ⟨v, rfl, heo, hd4, hk4⟩
                have ho4 := HTWf.out.oleft hk4
                have ht2 := tick_any N ho4 (fun b h => Nat.lt_of_lt_of_le (HTWf.out.lo b h).2 hk4.size) h0 h1 h2 (by omega) (by have := HPM2.out.length_eq; rw [← HAL.out] at this; omega)
                rw [← HC.out, ← hM, ← hc1, ← tells_perm HPM2.out] at ht2
                have HT2 : Hid (Calls Try.prog 22 #[.pointer (some ⟨ob, 0, none⟩), .int .i64 (N : Int)] w4 fun e w' => ∃ v, e = .returned (.tuple #[v, .nilIface]) ∧ EpsOwn w' w4.heap.size Gx v (tells size alld c c1) ∧ DeskAt w' ob Gx size late M allo' c1 ∧ Kp Gx w4 w') := ht2
                have HEO : Hid (EpsOwn w4 wf.heap.size Fd v (tells size alld c c1)) := heo
                have HD4 : Hid (DeskAt w4 db Fd size late M alld c1) := hd4
                have HK4 : Hid (Kp Fd wf w4) := hk4
                clear ht2 heo hd4 hk4 ho4 hM hc1
                go_wp2_with fail
                refine HT2.out.mono ?_
                clear HT2
                rintro e w5 ⟨v', rfl, heo', ho5, hk5⟩
                have HTWx0 : Hid (Two w.heap.size w5 db ob size late M alld allo' Fd Gx) := HTWf.out.tock (by rw [← HC1.out]; exact HD4.out) HK4.out (by rw [← HC1.out]; exact ho5) hk5
                have HBEx0 : Hid (Below w.heap.size w w5) := (HBEf.out.trans (HK4.out.below szf (fun q hq hF => by have := (HTWf.out.ld q hF).1; omega))).trans (hk5.below (Nat.le_trans szf HK4.out.size) (fun q hq hF => by have := (HTWf.out.lo q hF).1; omega))
                have heo5 : EpsOwn w5 wf.heap.size Fd v (tells size alld c c1) := HEO.out.move hk5.size (fun q hq hF => hk5.block q hq (fun hr => by
                  rcases hF with hF | hF
                  · have := (HTWf.out.lo q hr).2; omega
                  · exact HTWf.out.ap q hF hr))
                obtain ⟨pa, ca, rfl, hona⟩ := heo5.on
                obtain ⟨pb, cb, rfl, honb⟩ := heo'.on
                have htl : (tells size alld c c1).length ≤ 100000 := by rw [tells_len]; omega
                have htf : ∀ f ∈ tells size alld c c1, f.2.length ≤ 100000 := by
                  intro f hf
                  unfold tells at hf
                  simp at hf
                  obtain ⟨j, _, rfl⟩ := hf
                  have := grp_length size alld j
                  have := HAL.out
                  simp only [sorted_length]
                  omega
                have HSE : Hid (∀ d os, Calls Try.prog 24 #[.slice pa (tells size alld c c1).length ca, .slice pb (tells size alld c c1).length cb] (Go.Sort.grow (redrawn w5 d) os) fun e w' => e = .returned (.bool true) ∧ Below (Go.Sort.grow (redrawn w5 d) os).heap.size (Go.Sort.grow (redrawn w5 d) os) w') := fun d os => sameEpochs_any _ pa pb ca cb _ htl (EpsOn.below hona (below_regrown _ _ _)) (EpsOn.below honb (below_regrown _ _ _)) htf
                obtain ⟨L, hL⟩ : ∃ L, L = (tells size alld c c1).length := ⟨_, rfl⟩
                have hLc : L = c1 - c := by rw [hL, tells_len]
                rw [← hL] at HSE
                rw [← hL]
                have HON : Hid (EpsOn w5 pa (tells size alld c c1)) := hona
                have HLC : Hid (L = c1 - c) := hLc
                have hL9 : L ≤ 1000 := by omega
                have hcL : c + L = c1 := by omega
                have HCL : Hid (c + L = c1) := hcL
                clear heo5 heo' ho5 hk5 hona honb htl htf hL hLc hcL HEO HD4 HK4
                go_wp2
                refine wp_region_quiet_below (by kernel_rfl) (by kernel_rfl) ?_
                repeat (go_big_quiet_step (with_reducible exact Calls.regrown_of (HSE.out _ _)))
                refine wpQuiet_nil ?_
                intro _ hw'
                obtain ⟨⟨dq, osq⟩, hw''⟩ := hw'
                subst hw''
                obtain ⟨V6, hV6⟩ : ∃ V6, V6 = Go.Sort.grow (redrawn w5 dq) osq := ⟨_, rfl⟩
                have hb6 : Below w5.heap.size w5 V6 := by rw [hV6]; exact below_regrown _ _ _
                show Exit.then _ _ _ _ (Go.Sort.grow (redrawn w5 dq) osq)
                rw [← hV6]
                have HON6 : Hid (EpsOn V6 pa (tells size alld c c1)) := EpsOn.below HON.out hb6
                have HTWx : Hid (Two w.heap.size V6 db ob size late M alld allo' Fd Gx) := HTWx0.out.below hb6
                have HBEx : Hid (Below w.heap.size w V6) := HBEx0.out.trans (hb6.mono HBEx0.out.size)
                clear hV6 hb6 HSE HON HTWx0 HBEx0
                go_wp2
                go_loopw [13, 14, 22, 23] (fun tv nv kk _ V' => ∃ m : Nat, m ≤ L ∧ kk = .int .i64 (m : Int) ∧ nv = .int .i64 ((c + m : Nat) : Int) ∧ tv = .int .i64 (cnt size alld (c + m) : Int) ∧ Below V6.heap.size V6 V') (fun _ _ kk _ _ => L - (intOf kk).toNat)
                case atStart => exact ⟨0, Nat.zero_le _, rfl, rfl, by rw [HT.out]; rfl, Below.refl _ _⟩
                case round =>
                  obtain ⟨m, hm, rfl, rfl, rfl, hbx⟩ := hrel
                  have HBx : Hid (Below V6.heap.size V6 wr) := hbx
                  obtain ⟨cm, hcm⟩ : ∃ cm, cm = c + m := ⟨_, rfl⟩
                  rw [← hcm]
                  obtain ⟨tm, htm2⟩ : ∃ tm, tm = cnt size alld cm := ⟨_, rfl⟩
                  rw [← htm2]
                  have htA : tm ≤ A := by rw [htm2, HAL.out]; exact cnt_le _ _ _
                  have HCM : Hid (cm = c + m) := hcm
                  have HTMM : Hid (tm = cnt size alld cm) := htm2
                  have hcm9 : cm ≤ 1000 := by have := HCL.out; have := HCM.out; omega
                  clear hcm htm2
                  by_cases hmL : m < L
                  case neg =>
                    have hmm : m = L := by omega
                    have hI5 : ¬ (m : Int) < L := by omega
                    have HCC : Hid (cm = c1) := by show _ = _; rw [HCM.out, hmm]; exact HCL.out
                    clear hmm hbx
                    go_wp2
                    go_roundw
                    case rel => exact ⟨k + 1, M, alld, allo', [], _, _, by omega, by go_num, HNW.out, fun h => by omega, by rw [← HAL.out]; omega, HTM.out, by rw [List.append_nil]; exact HPM2.out, fun x hx => by simp at hx, by rw [HAL.out], by rw [HTMM.out, HCC.out, HC1.out], by rw [HCC.out, HC1.out], HTWx.out.below HBx.out, Wait.nil _ _ _, HBEx.out.trans (HBx.out.mono HBEx.out.size)⟩
                    case measure => simp [intOf]; omega
                  case pos =>
                    have hI5 : (m : Int) < L := by omega
                    obtain ⟨tb, to, rfl, htb, htc⟩ := HON6.out.at_ (by intro e; have h5 := tells_len size alld c c1; rw [e] at h5; simp at h5; have := HLC.out; omega)
                    obtain ⟨ps, cs, hps⟩ := htc m _ (tells_at (by have := HCL.out; omega))
                    obtain ⟨g0, g1, hgs⟩ := EpAt.below hps hbx htb
                    rw [← HCM.out] at g0 g1 hgs
                    obtain ⟨Ls, hLs⟩ : ∃ Ls, Ls = sorted (grp size alld cm) := ⟨_, rfl⟩
                    simp only at g0 g1 hgs
                    rw [← hLs] at g1 hgs
                    have hLl : Ls.length ≤ A := by rw [hLs, sorted_length, HAL.out]; exact grp_length _ _ _
                    have HSUM : Hid (cnt size alld (cm + 1) = tm + Ls.length) := by show _ = _; rw [cnt_succ, HTMM.out, hLs, sorted_length]
                    have HLS : Hid (Ls = sorted (grp size alld cm)) := hLs
                    have HGS : Hid (SgsOn wr ps Ls) := hgs
                    have hszx : V6.heap.size ≤ wr.heap.size := hbx.size
                    clear htc hps hgs hbx hLs
                    have hn0 : ((size : Int) == 0) = false := by simp; omega
                    have hcmI : (cm : Int) ≤ 1000 := by omega
                    go_wp2
                    rename World => wx
                    go_loopw [23] (fun jj V'' => ∃ q : Nat, q ≤ Ls.length ∧ jj = .int .i64 (q : Int) ∧ Below wx.heap.size wx V'') (fun jj _ => Ls.length - (intOf jj).toNat)
                    case atStart => exact ⟨0, Nat.zero_le _, rfl, Below.refl _ _⟩
                    case round =>
                      obtain ⟨q, hq, rfl, hbj⟩ := hrel
                      have d0 := keepCell hbj (by show tb < wx.heap.size; omega) g0
                      have d1 := keepCell hbj (by show tb < wx.heap.size; omega) g1
                      have HBJ : Hid (Below wx.heap.size wx wr) := hbj
                      by_cases hql : q < Ls.length
                      case pos =>
                        have hqI : (q : Int) < Ls.length := by omega
                        obtain ⟨yb, yo, rfl, hyb, hyc⟩ := HGS.out.at_ (by intro e; rw [e] at hql; simp at hql)
                        obtain ⟨_, _, y2, _⟩ := (hyc q _ (List.getElem?_eq_getElem hql)).keep (hbj.block yb hyb)
                        have hym : Ls[q] ∈ sorted (grp size alld cm) := by rw [← HLS.out]; exact List.getElem_mem hql
                        obtain ⟨hya, hye⟩ := mem_grp hym
                        obtain ⟨ht0, ht1⟩ := HTM.out _ hya
                        obtain ⟨yt, hyt⟩ : ∃ yt : Nat, Ls[q].t = (yt : Int) := ⟨Ls[q].t.toNat, by omega⟩
                        rw [hyt] at y2
                        have hdiv : ((yt : Int) / (size : Int)) = (cm : Int) := by rw [← hye]; unfold epo; rw [hyt]; simp
                        clear hyc hym hya hye hyt ht0 ht1 hbj
                        go_wp2
                        go_quiet (fail)
                        go_wp2
                        go_roundw
                        case rel => exact ⟨q + 1, by omega, by go_num, HBJ.out.trans ((drewN_below _ _).mono HBJ.out.size)⟩
                        case measure => simp [intOf]; omega
                      case neg =>
                        have hqq : q = Ls.length := by omega
                        have hqI : ¬ (q : Int) < Ls.length := by omega
                        clear hbj hqq
                        go_wp2
                        go_roundw
                        case rel =>
                          have e1 : cnt size alld (c + (m + 1)) = tm + Ls.length := by rw [← HSUM.out, HCM.out]; rfl
                          have e2 : c + (m + 1) = cm + 1 := by rw [HCM.out]; omega
                          refine ⟨m + 1, by omega, by go_num, by rw [e2]; go_num, by rw [e1]; go_num, HBx.out.trans (HBJ.out.mono hszx)⟩
                        case measure => simp [intOf]; omega
              case neg =>
                have ht1 := tick_bad an HTWf.out.d hnow hok
                have ht2 := tick_bad an HTWf.out.o hnow hok
                have HT2 : Hid (Calls Try.prog 22 #[.pointer (some ⟨ob, 0, none⟩), .int .i64 an] wf fun e w' => e = .returned (.tuple #[.slice none 0 0, .iface 79 (.int .i64 1)]) ∧ w' = wf) := ht2
                refine ht1.mono ?_
                clear ht1 ht2
                rintro e w4 ⟨rfl, hw4⟩
                rw [hw4]
                clear hw4
                go_wp2_with fail
                refine HT2.out.mono ?_
                clear HT2
                rintro e w5 ⟨rfl, hw5⟩
                rw [hw5]
                clear hw5
                have HSE : Hid (∀ d os, Calls Try.prog 24 #[.slice none 0 0, .slice none 0 0] (Go.Sort.grow (redrawn wf d) os) fun e w' => e = .returned (.bool true) ∧ Below (Go.Sort.grow (redrawn wf d) os).heap.size (Go.Sort.grow (redrawn wf d) os) w') := fun d os => sameEpochs_any [] none none 0 0 _ (by simp) ⟨fun h => absurd rfl h⟩ ⟨fun h => absurd rfl h⟩ (by simp)
                go_wp2
                refine wp_region_quiet_below (by kernel_rfl) (by kernel_rfl) ?_
                repeat (go_big_quiet_step (with_reducible exact Calls.regrown_of (HSE.out _ _)))
                refine wpQuiet_nil ?_
                intro _ hw'
                obtain ⟨⟨dq, osq⟩, hw''⟩ := hw'
                subst hw''
                obtain ⟨V6, hV6⟩ : ∃ V6, V6 = Go.Sort.grow (redrawn wf dq) osq := ⟨_, rfl⟩
                have hb6 : Below wf.heap.size wf V6 := by rw [hV6]; exact below_regrown _ _ _
                show Exit.then _ _ _ _ (Go.Sort.grow (redrawn wf dq) osq)
                rw [← hV6]
                have HTWx : Hid (Two w.heap.size V6 db ob size late now alld allo' Fd Gx) := HTWf.out.below hb6
                have HBEx : Hid (Below w.heap.size w V6) := HBEf.out.trans (hb6.mono HBEf.out.size)
                have HNW : Hid (now ≤ 1000) := hnow
                clear hV6 hb6 HSE
                go_wp2
                go_loopw [13, 14, 22, 23] (fun tv nv kk _ V' => kk = .int .i64 0 ∧ nv = .int .i64 (c : Int) ∧ tv = .int .i64 (T : Int) ∧ V' = V6) (fun _ _ _ _ _ => 0)
                case atStart => exact ⟨rfl, rfl, rfl, rfl⟩
                case round =>
                  obtain ⟨rfl, rfl, rfl, hwr⟩ := hrel
                  subst hwr
                  have HBx : Hid (Below wr.heap.size wr wr) := Below.refl _ _
                  go_wp2
                  go_roundw
                  case rel => exact ⟨k + 1, now, alld, allo', [], _, _, by omega, by go_num, HNW.out, fun h => by omega, by rw [← HAL.out]; omega, HTM.out, by rw [List.append_nil]; exact HPM2.out, fun x hx => by simp at hx, by rw [HAL.out], by rw [HT.out, HC.out], by rw [HC.out], HTWx.out.below HBx.out, Wait.nil _ _ _, HBEx.out.trans (HBx.out.mono HBEx.out.size)⟩
                  case measure => simp [intOf]; omega
end Go.Proofs.Ytllhfbnafemoeaa.EpA
