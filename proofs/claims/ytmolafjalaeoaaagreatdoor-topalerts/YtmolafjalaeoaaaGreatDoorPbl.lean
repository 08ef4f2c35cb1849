/-
  Acts are played on a watch: the loop. · The same alerts. · Two watches that know the same are alike.
-/
import Derived.Test.YtmolafjalaeoaaaGreatDoorPbk
namespace Go.Proofs.YtmolafjalaeoaaaGreatDoor.WbA
open Go.RowKit TkW WaM WaW WaB Go.Maps
open RuM (Rl)
open TkA (sbeq_true sbeq_false)
set_option maxRecDepth 100000
/-- What is so when acts were played. -/
structure Pld (e : Ending) (w w' : World) (wb : Nat) (ow : Nat → Nat) (c : Cf) (rs : List Rl) (s : St) : Prop where
  out : ∃ b, e = .returned (.bool b) ∧ ∃ ow' s', WaAt w' wb ow' c rs s' ∧ Wp w w' ow ow' ∧ (b = true → s' = s)
theorem tickL : tickW.toList = [116, 105, 99, 107] := by kernel_rfl
theorem kd_ne {a : ByteArray} (h : ¬ a = tickW) : (a.toList == [116, 105, 99, 107]) = false := by
  have := sbeq_false h
  rwa [tickL] at this
theorem kd_eq {a : ByteArray} (h : a = tickW) : (a.toList == [116, 105, 99, 107]) = true := by
  have := sbeq_true h
  rwa [tickL] at this
set_option maxHeartbeats 1000000 in
theorem played_any {w : World} {wb : Nat} {ow : Nat → Nat} {c : Cf} {rs : List Rl} {s : St} {B : Nat} (ac : List Ac) (p : Option Addr) (cap : Nat) (h : WaAt w wb ow c rs s) (hT : TagA.Tabs w) (hB : 1 ≤ B) (hBw : B ≤ w.heap.size) (hlo : ∀ b, ow b ≠ 0 → B ≤ b) (hA : AcsOn B w p ac) (hok : ∀ a, a ∈ ac → aok a) (hl : ac.length ≤ 1000) (hu : s.sum + awS ac ac.length ≤ 6000) :
    Calls Tryz.prog 20 #[.pointer (some ⟨wb, 0, none⟩), .slice p ac.length cap] w fun e w' => Pld e w w' wb ow c rs (plays c ac s) := by
  have H : Hid (WaAt w wb ow c rs s) := h
  have HT : Hid (TagA.Tabs w) := hT
  have HLO : Hid (∀ b, ow b ≠ 0 → B ≤ b) := hlo
  have HA : Hid (AcsOn B w p ac) := hA
  have HOK : Hid (∀ a, a ∈ ac → aok a) := hok
  have HU : Hid (s.sum + awS ac ac.length ≤ 6000) := hu
  obtain ⟨N, hNN⟩ : ∃ N, N = ac.length := ⟨_, rfl⟩
  have HNN : Hid (N = ac.length) := hNN
  rw [← hNN] at hl ⊢
  clear h hT hlo hA hok hu hNN
  go_enter Tryz.func20, Tryz.ntmps20
  go_wp2
  go_loopw [5] (fun i V => ∃ j : Nat, j ≤ N ∧ i = .int .i64 (j : Int) ∧ ∃ ow', WaAt V wb ow' c rs (plays c (ac.take j) s) ∧ Wp w V ow ow') (fun i _ => N - (intOf i).toNat)
  case atStart => exact ⟨0, by omega, rfl, ow, H.out, Wp.refl _ _⟩
  case round =>
    obtain ⟨j, hj, rfl, ow', hw, hp⟩ := hrel
    have HW : Hid (WaAt wr wb ow' c rs (plays c (ac.take j) s)) := hw
    have HP : Hid (Wp w wr ow ow') := hp
    clear hw hp
    by_cases hlt : j < N
    case neg =>
      have hII : ¬ (j : Int) < N := by omega
      have HE : Hid (plays c (ac.take j) s = plays c ac s) := by
        show _ = _
        rw [List.take_of_length_le (by have := HNN.out; omega)]
      go_wp2
      go_ret
      exact ⟨true, rfl, ow', _, HW.out, HP.out, fun _ => HE.out⟩
    case pos =>
      have hII : (j : Int) < N := by omega
      have hj' : j < ac.length := by rw [← HNN.out]; exact hlt
      have hne : ac ≠ [] := fun e => by rw [e] at hj'; simp at hj'
      have hlow := WaAt.low HP.out hBw HLO.out
      obtain ⟨g, o, rfl, hg, hc'⟩ := (HA.out.below hlow.1).at_ hne
      have hrj := List.getElem?_eq_getElem hj'
      have hsz := HA.out.sizes _ (List.getElem_mem hj')
      have k0 := (hc' j _ hrj).c0
      have k1 := (hc' j _ hrj).c1
      have k2 := (hc' j _ hrj).c2
      have HSU : Hid ((plays c (ac.take j) s).sum + awS ac (j + 1) ≤ 6000 + awS ac j) := by
        show _ ≤ _
        have h1 := plays_sum (c := c) (s := s) HOK.out j (by omega)
        have h2 := awS_all ac (j := j + 1) (by omega)
        have h3 := HU.out
        omega
      have hSS := awS_succ hrj
      have HPS : Hid (plays c (ac.take (j + 1)) s = pact c (plays c (ac.take j) s) ac[j]) := plays_succ hrj
      have HAO : Hid (aok ac[j]) := HOK.out _ (List.getElem_mem hj')
      have HTB : Hid (TagA.Tabs wr) := HT.out.below hlow.1 hB
      have HO0 : Hid (ow' 0 = 0) := by
        show _ = _
        by_cases hz : ow' 0 = 0
        · exact hz
        · have := hlow.2 0 hz; omega
      generalize ac[j] = a at *
      have HUA : Hid (a.st.size ≤ 2000 → (plays c (ac.take j) s).sum + a.st.size ≤ 6000) := fun h2 => by
        have h1 := HSU.out
        have h3 := HAO.out
        unfold aok at h3
        have h4 : aw a = a.st.size := by unfold aw; omega
        show _ ≤ _
        have h5 : awS ac (j + 1) = awS ac j + aw a := hSS
        omega
      have hcs := hc' j a hrj
      clear hrj hc' hne hlow hSS hcs
      generalize plays c (ac.take j) s = s1 at *
      by_cases hkd : a.kd = tickW
      case neg =>
        have HFE : Hid (∀ V : World, Below wr.heap.size wr V → Calls Tryz.prog 16 #[.pointer (some ⟨wb, 0, none⟩), .int .i64 a.n, .string a.st] V fun e w' => (∃ u v, e = .returned (.tuple #[u, v])) ∧ ∃ ow2, WaAt w' wb ow2 c rs (pf c a.n a.st s1) ∧ Wp wr w' ow' ow2) := fun V hV => (feed_each a.n a.st (HW.out.below hV) (HTB.out.below hV HTB.out.size) HO0.out hsz HUA.out).mono (fun e w' ⟨h1, ow2, h2, h3⟩ => ⟨h1, ow2, h2, (Wp.below hV ow').trans h3⟩)
        have HDR : Hid (Below wr.heap.size wr wr.drew) := (Below.refl _ _).drew
        have HPA : Hid (pact c s1 a = pf c a.n a.st s1) := by show _ = _; unfold pact; rw [if_neg hkd]
        have hne := kd_ne hkd
        clear hkd
        go_wp2_with fail
        go_region_with (go_at_call 16; refine (HFE.out wr.drew HDR.out).mono ?_; rintro e w2 ⟨⟨u, v, rfl⟩, ow2, hw2, hp2⟩)
        all_goals
          have HW2 : Hid (WaAt w2 wb ow2 c rs (plays c (ac.take (j + 1)) s)) := by
            show WaAt _ _ _ _ _ _
            rw [HPS.out, HPA.out]
            exact hw2
          have HP2 : Hid (Wp w w2 ow ow2) := HP.out.trans hp2
          clear hw2 hp2
          go_wp2
          go_roundw
          case rel => exact ⟨j + 1, by omega, by go_num, ow2, HW2.out, HP2.out⟩
          case measure => simp [intOf]; omega
      case pos =>
        have HTE : Hid (Calls Tryz.prog 14 #[.pointer (some ⟨wb, 0, none⟩), .int .i64 a.n] wr fun e w' => (∃ u v, e = .returned (.tuple #[u, v])) ∧ ∃ ow2, WaAt w' wb ow2 c rs (pt a.n s1) ∧ Wp wr w' ow' ow2) := tick_each a.n HW.out HTB.out HO0.out
        have HPA : Hid (pact c s1 a = pt a.n s1) := by show _ = _; unfold pact; rw [if_pos hkd]
        have hne := kd_eq hkd
        clear hkd
        go_wp2_with fail
        refine HTE.out.mono ?_
        rintro e w2 ⟨⟨u, v, rfl⟩, ow2, hw2, hp2⟩
        have HW2 : Hid (WaAt w2 wb ow2 c rs (plays c (ac.take (j + 1)) s)) := by
          show WaAt _ _ _ _ _ _
          rw [HPS.out, HPA.out]
          exact hw2
        have HP2 : Hid (Wp w w2 ow ow2) := HP.out.trans hp2
        have hcl : (plays c (ac.take (j + 1)) s).cl c ≤ 1000 := by
          obtain ⟨p, hp⟩ := HW2.out.out.out
          exact Nat.le_trans EpM.closedN_le hp.tim
        clear hw2 hp2
        have HEP : Hid (Calls Tryz.prog 25 #[.pointer (some ⟨wb, 0, none⟩)] w2 fun e w' => e = .returned (.int .i64 (((plays c (ac.take (j + 1)) s).cl c : Nat) : Int)) ∧ ∃ q, w' = w2.drewN q) := epochs_any HW2.out.out
        go_wp2_with fail
        refine HEP.out.mono ?_
        rintro e w3 ⟨rfl, q, rfl⟩
        have HB3 : Hid (Below w2.heap.size w2 (w2.drewN q)) := below_drewN (Below.refl _ _) q
        have HW3 : Hid (WaAt (w2.drewN q) wb ow2 c rs (plays c (ac.take (j + 1)) s)) := HW2.out.below HB3.out
        have HP3 : Hid (Wp w (w2.drewN q) ow ow2) := HP2.out.trans (Wp.below HB3.out ow2)
        clear HW2 HP2 HB3 HEP
        generalize (plays c (ac.take (j + 1)) s).cl c = K at *
        by_cases h60 : 60 < K
        · have h6I : (60 : Int) < K := by omega
          go_wp2
          go_ret
          exact ⟨false, rfl, ow2, _, HW3.out, HP3.out, fun h => by cases h⟩
        · have h6I : ¬ (60 : Int) < K := by omega
          go_wp2
          go_roundw
          case rel => exact ⟨j + 1, by omega, by go_num, ow2, HW3.out, HP3.out⟩
          case measure => simp [intOf]; omega
end Go.Proofs.YtmolafjalaeoaaaGreatDoor.WbA
namespace Go.Proofs.YtmolafjalaeoaaaGreatDoor.WbA
open Go.RowKit TkW WaM WaW WaB Go.Maps
open RuM (Rl)
set_option maxRecDepth 100000
/-- Alerts wherever they lie. -/
structure AlsOn (w : World) (q : Option Addr) (A : List Al) : Prop where
  at_ : A ≠ [] → ∃ b, q = some ⟨b, 0, none⟩ ∧ b < w.heap.size ∧ ∀ k a, A[k]? = some a → w.cell? ⟨b, k * 3, none⟩ = some (.int .i64 (a.rule : Int)) ∧ w.cell? ⟨b, k * 3 + 1, none⟩ = some (.int .i64 (a.ep : Int)) ∧ w.cell? ⟨b, k * 3 + 1 + 1, none⟩ = some (.string a.g)
theorem AlsOn.below {w w' : World} {q : Option Addr} {A : List Al} (h : AlsOn w q A) (hb : Below w.heap.size w w') : AlsOn w' q A where
  at_ := fun hne => by
    obtain ⟨b, h1, h2, h3⟩ := h.at_ hne
    refine ⟨b, h1, Nat.lt_of_lt_of_le h2 hb.size, fun k a hk => ?_⟩
    obtain ⟨k0, k1, k2⟩ := h3 k a hk
    have e := hb.block b h2
    exact ⟨by rw [World.cell?_of_block (w := w) e]; exact k0, by rw [World.cell?_of_block (w := w) e]; exact k1, by rw [World.cell?_of_block (w := w) e]; exact k2⟩
theorem own_als {w : World} {base : Nat} {v : Value} {A : List Al} (h : w.ownsRow base 86 3 v A.length (acs A)) : ∃ q cap, v = .slice q A.length cap ∧ AlsOn w q A := by
  rcases h.2 with ⟨rfl, h0⟩ | ⟨g, cap, cur, hv, hb, hg, _⟩
  · exact ⟨none, 0, by rw [h0], ⟨fun hne => absurd (List.length_eq_zero_iff.1 h0) hne⟩⟩
  · refine ⟨some ⟨g, 0, none⟩, cap, hv, ⟨fun hne => ⟨g, rfl, ?_, fun k a hk => ?_⟩⟩⟩
    · exact (Array.getElem?_eq_some_iff.1 hg).1
    · have hc := World.ownsRow.cells h (g := g) (by rw [hv]; rfl)
      have key : ∀ j u, j < 3 → (acl a)[j]? = some u → w.cell? ⟨g, k * 3 + j, none⟩ = some u := fun j u hj hu => by
        have h1 := hc (k * 3 + j) u (by
          unfold acs
          rw [flat_at acl 3 (fun _ => rfl) A k j a hk hj]
          exact hu)
        rw [addr_addo, Nat.zero_add] at h1
        exact h1
      exact ⟨key 0 _ (by omega) rfl, key 1 _ (by omega) rfl, key 2 _ (by omega) rfl⟩
theorem und86 : Tryz.prog.underlying 86 = some (.struct (Tryz.prog.fieldsOf 86)) := by kernel_rfl
theorem stood86 : Tryz.prog.stoodInHeld 86 = false := by kernel_rfl
theorem eqA_in (a b a' b' : Int) (g g' : ByteArray) (w : World) : (Op.equalIn 10000 86 (.agg #[.int .i64 a, .int .i64 b, .string g]) (.agg #[.int .i64 a', .int .i64 b', .string g'])).run Tryz.prog w = .ok (a == a' && b == b' && g.toList == g'.toList) w := by
  rw [run_equalIn_agg _ 9999 _ _ _ und86 stood86]
  simp [go_sem, Tryz.underlying86]
  by_cases h1 : a = a' <;> by_cases h2 : b = b' <;> by_cases h3 : g.toList = g'.toList <;> simp [h1, h2, h3]
theorem neqA (a b : Int) (g : ByteArray) (w : World) : (binOp BinOp.neq 86 (.agg #[.int .i64 a, .int .i64 b, .string g]) (.agg #[.int .i64 a, .int .i64 b, .string g])).run Tryz.prog w = .ok (.bool false) w := by
  rw [run_neq_struct, eqA_in]
  simp
set_option maxHeartbeats 1000000 in
theorem sameAlerts_eq (A : List Al) (q q' : Option Addr) (cap cap' : Nat) (w : World) (h : AlsOn w q A) (h' : AlsOn w q' A) (hl : A.length ≤ 100000) :
    Calls Tryz.prog 51 #[.slice q A.length cap, .slice q' A.length cap'] w fun e w' => e = .returned (.bool true) ∧ Below w.heap.size w w' := by
  have HA : Hid (AlsOn w q A) := h
  have HA' : Hid (AlsOn w q' A) := h'
  obtain ⟨N, hNN⟩ : ∃ N, N = A.length := ⟨_, rfl⟩
  have HNN : Hid (N = A.length) := hNN
  rw [← hNN] at hl ⊢
  clear h h' hNN
  go_enter Tryz.func51, Tryz.ntmps51
  go_wp2
  go_loopw [5] (fun i V => ∃ j : Nat, j ≤ N ∧ i = .int .i64 (j : Int) ∧ Below w.heap.size w V) (fun i _ => N - (intOf i).toNat)
  case atStart => exact ⟨0, by omega, rfl, Below.refl _ _⟩
  case round =>
    obtain ⟨j, hj, rfl, hbl⟩ := hrel
    have HBL : Hid (Below w.heap.size w wr) := hbl
    by_cases hlt : j < N
    case neg =>
      have hII : ¬ (j : Int) < N := by omega
      clear hbl
      go_wp2
      go_ret
      exact ⟨rfl, HBL.out⟩
    case pos =>
      have hII : (j : Int) < N := by omega
      have hj' : j < A.length := by rw [← HNN.out]; exact hlt
      have hne : A ≠ [] := fun e => by rw [e] at hj'; simp at hj'
      have hrj := List.getElem?_eq_getElem hj'
      obtain ⟨g, rfl, hg, hc⟩ := (HA.out.below hbl).at_ hne
      obtain ⟨g', rfl, hg', hc'⟩ := (HA'.out.below hbl).at_ hne
      obtain ⟨k0, k1, k2⟩ := hc j _ hrj
      obtain ⟨l0, l1, l2⟩ := hc' j _ hrj
      generalize A[j] = a at *
      clear hrj hc hc' hne hbl
      have hnq := neqA (a.rule : Int) (a.ep : Int) a.g
      go_wp2
      go_region
      all_goals
        go_wp2
        go_roundw
        case rel => exact ⟨j + 1, by omega, by go_num, HBL.out.drew⟩
        case measure => simp [intOf]; omega
end Go.Proofs.YtmolafjalaeoaaaGreatDoor.WbA
namespace Go.Proofs.YtmolafjalaeoaaaGreatDoor.WbA
open Go.RowKit TkW WaM WaW WaB Go.Maps
open RuM (Rl)
set_option maxRecDepth 100000
/-- Two states that tell the same. -/
structure Ag (c : Cf) (s t : St) : Prop where
  now : s.now = t.now
  dv : dv s (los s 4) = dv t (los t 4)
  ep : ∀ j, j ≤ s.cl c → Ep c s j = Ep c t j
theorem Ag.cl {c : Cf} {s t : St} (h : Ag c s t) : s.cl c = t.cl c := by unfold St.cl; rw [h.now]
theorem Ag.refl (c : Cf) (s : St) : Ag c s s := ⟨rfl, rfl, fun _ _ => rfl⟩
theorem Ag.al {c : Cf} {s t : St} (h : Ag c s t) (rs : List Rl) : alerts c rs s (s.cl c) = alerts c rs t (t.cl c) := by
  rw [← h.cl]
  exact alerts_congr c rs s t _ h.ep
/-- Texts wherever they lie. -/
structure TgOn (w : World) (q : Option Addr) (T : List ByteArray) : Prop where
  sizes : ∀ g, g ∈ T → g.size ≤ 100000
  at_ : T ≠ [] → ∃ b, q = some ⟨b, 0, none⟩ ∧ b < w.heap.size ∧ ∀ k g, T[k]? = some g → w.cell? ⟨b, k, none⟩ = some (.string g)
theorem TgOn.below {w w' : World} {q : Option Addr} {T : List ByteArray} (h : TgOn w q T) (hb : Below w.heap.size w w') : TgOn w' q T where
  sizes := h.sizes
  at_ := fun hne => by
    obtain ⟨b, h1, h2, h3⟩ := h.at_ hne
    exact ⟨b, h1, Nat.lt_of_lt_of_le h2 hb.size, fun k g hk => by rw [World.cell?_of_block (w := w) (hb.block b h2)]; exact h3 k g hk⟩
theorem und65 : Tryz.prog.underlying 65 = some (.struct (Tryz.prog.fieldsOf 65)) := by kernel_rfl
theorem stood65 : Tryz.prog.stoodInHeld 65 = false := by kernel_rfl
theorem neqD (a b c d e : Int) (w : World) : (binOp BinOp.neq 65 (.agg #[.int .i64 a, .int .i64 b, .int .i64 c, .int .i64 d, .int .i64 e]) (.agg #[.int .i64 a, .int .i64 b, .int .i64 c, .int .i64 d, .int .i64 e])).run Tryz.prog w = .ok (.bool false) w := by
  rw [run_neq_struct, run_equalIn_agg _ 9999 _ _ _ und65 stood65]
  simp [go_sem, Tryz.underlying65]
set_option maxHeartbeats 1000000 in
theorem alike_true {w : World} {wa wb : Nat} {oa ob : Nat → Nat} {c : Cf} {rs : List Rl} {s t : St} (T : List ByteArray) (q : Option Addr) (cap : Nat) (ha : WaAt w wa oa c rs s) (hb : WaAt w wb ob c rs t) (hg : Ag c s t) (hT : TgOn w q T) (hl : T.length ≤ 100000) :
    Calls Tryz.prog 21 #[.pointer (some ⟨wa, 0, none⟩), .pointer (some ⟨wb, 0, none⟩), .slice q T.length cap] w fun e w' => e = .returned (.bool true) ∧ Below w.heap.size w w' := by
  have HT : Hid (TgOn w q T) := hT
  obtain ⟨N, hNN⟩ : ∃ N, N = T.length := ⟨_, rfl⟩
  have HNN : Hid (N = T.length) := hNN
  have hcl := hg.cl
  have HE1 : Hid (∀ V, Below w.heap.size w V → Calls Tryz.prog 25 #[.pointer (some ⟨wa, 0, none⟩)] V fun e w' => e = .returned (.int .i64 (s.cl c : Int)) ∧ Below w.heap.size w w') := fun V hV => (epochs_any (ha.below hV).out).mono (fun e w' ⟨h1, q, h2⟩ => ⟨h1, by rw [h2]; exact below_drewN hV q⟩)
  have HE2 : Hid (∀ V, Below w.heap.size w V → Calls Tryz.prog 25 #[.pointer (some ⟨wb, 0, none⟩)] V fun e w' => e = .returned (.int .i64 (s.cl c : Int)) ∧ Below w.heap.size w w') := fun V hV => (epochs_any (hb.below hV).out).mono (fun e w' ⟨h1, q, h2⟩ => ⟨by rw [h1, hcl], by rw [h2]; exact below_drewN hV q⟩)
  have HN1 : Hid (∀ V, Below w.heap.size w V → Calls Tryz.prog 30 #[.pointer (some ⟨wa, 0, none⟩)] V fun e w' => e = .returned (.int .i64 (s.now : Int)) ∧ w' = V) := fun V hV => now_any (ha.below hV).out
  have HN2 : Hid (∀ V, Below w.heap.size w V → Calls Tryz.prog 30 #[.pointer (some ⟨wb, 0, none⟩)] V fun e w' => e = .returned (.int .i64 (s.now : Int)) ∧ w' = V) := fun V hV => by rw [hg.now]; exact now_any (hb.below hV).out
  have HD1 : Hid (∀ V, Below w.heap.size w V → Calls Tryz.prog 49 #[.pointer (some ⟨wa, 0, none⟩)] V fun e w' => e = .returned (dv s (los s 4)) ∧ Below w.heap.size w w') := fun V hV => (drops_any (ha.below hV).out).mono (fun e w' ⟨h1, h2⟩ => ⟨h1, hV.trans (h2.mono hV.size)⟩)
  have HD2 : Hid (∀ V, Below w.heap.size w V → Calls Tryz.prog 49 #[.pointer (some ⟨wb, 0, none⟩)] V fun e w' => e = .returned (dv s (los s 4)) ∧ Below w.heap.size w w') := fun V hV => (drops_any (hb.below hV).out).mono (fun e w' ⟨h1, h2⟩ => ⟨by rw [h1, hg.dv], hV.trans (h2.mono hV.size)⟩)
  have hcl1 : s.cl c ≤ 1000 := by
    obtain ⟨p, hp⟩ := ha.out.out
    exact Nat.le_trans EpM.closedN_le hp.tim
  obtain ⟨A, hAA⟩ : ∃ A, A = alerts c rs s (s.cl c) := ⟨_, rfl⟩
  have hAl : A.length ≤ 72000 := by
    obtain ⟨p, hp⟩ := ha.out.out
    rw [hAA]
    exact Wa.alen hp
  have HL1 : Hid (∀ V, Below w.heap.size w V → Calls Tryz.prog 23 #[.pointer (some ⟨wa, 0, none⟩)] V fun e w' => (∃ q cap, e = .returned (.slice q A.length cap) ∧ AlsOn w' q A) ∧ Below V.heap.size V w') := fun V hV => (alerts_any (ha.below hV).out).mono (fun e w' ⟨u, h1, h2, h3⟩ => by
    rw [← hAA] at h2
    obtain ⟨q, cap, h4, h5⟩ := own_als h2
    exact ⟨⟨q, cap, by rw [h1, h4], h5⟩, h3⟩)
  have HL2 : Hid (∀ V, Below w.heap.size w V → Calls Tryz.prog 23 #[.pointer (some ⟨wb, 0, none⟩)] V fun e w' => (∃ q cap, e = .returned (.slice q A.length cap) ∧ AlsOn w' q A) ∧ Below V.heap.size V w') := fun V hV => (alerts_any (hb.below hV).out).mono (fun e w' ⟨u, h1, h2, h3⟩ => by
    rw [← hg.al rs, ← hAA] at h2
    obtain ⟨q, cap, h4, h5⟩ := own_als h2
    exact ⟨⟨q, cap, by rw [h1, h4], h5⟩, h3⟩)
  have HSA : Hid (∀ q q' cap cap' V, AlsOn V q A → AlsOn V q' A → Calls Tryz.prog 51 #[.slice q A.length cap, .slice q' A.length cap'] V fun e w' => e = .returned (.bool true) ∧ Below V.heap.size V w') := fun q q' cap cap' V h h' => sameAlerts_eq A q q' cap cap' V h h' (by omega)
  have hEp : Ep c s (s.cl c) = Ep c t (t.cl c) := by rw [← hcl]; exact hg.ep _ (Nat.le_refl _)
  have HWP : Hid (∀ (g : ByteArray) (e : Nat), g.size ≤ 100000 → ∃ (P : Int) (E : Nat) (X : ByteArray), ∀ V, Below w.heap.size w V →
      (Calls Tryz.prog 29 #[.pointer (some ⟨wa, 0, none⟩), .string g, .int .i64 (e : Int)] V fun x w' => x = .returned (.tuple #[.int .i64 P, TkA.errV E]) ∧ Below w.heap.size w w') ∧
      (Calls Tryz.prog 29 #[.pointer (some ⟨wb, 0, none⟩), .string g, .int .i64 (e : Int)] V fun x w' => x = .returned (.tuple #[.int .i64 P, TkA.errV E]) ∧ Below w.heap.size w w') ∧
      (Calls Tryz.prog 55 #[.pointer (some ⟨wa, 0, none⟩), .string g, .int .i64 (e : Int)] V fun x w' => x = .returned (.tuple #[.string X, TkA.errV E]) ∧ Below w.heap.size w w') ∧
      (Calls Tryz.prog 55 #[.pointer (some ⟨wb, 0, none⟩), .string g, .int .i64 (e : Int)] V fun x w' => x = .returned (.tuple #[.string X, TkA.errV E]) ∧ Below w.heap.size w w')) := fun g e hgs => by
    obtain ⟨X, hX⟩ := parEx ha.out g (e : Int)
    have hX' : PaV c t (t.cl c) g (e : Int) X := by
      unfold PaV IsPar at hX ⊢
      rw [← hEp, ← hcl]
      exact hX
    refine ⟨(TkA.wv (s.cl c) (TkM.told g (Ep c s (s.cl c))) (e : Int) (TkM.whr g (TkM.epOf (Ep c s (s.cl c))) c.W c.need (e : Int).toNat)).1, (TkA.wv (s.cl c) (TkM.told g (Ep c s (s.cl c))) (e : Int) (TkM.whr g (TkM.epOf (Ep c s (s.cl c))) c.W c.need (e : Int).toNat)).2, X, fun V hV => ⟨?_, ?_, ?_, ?_⟩⟩
    · exact (where_any g (e : Int) (ha.below hV).out hgs).mono (fun x w' ⟨h1, h2⟩ => ⟨h1, hV.trans (h2.mono hV.size)⟩)
    · refine (where_any g (e : Int) (hb.below hV).out hgs).mono (fun x w' ⟨h1, h2⟩ => ⟨?_, hV.trans (h2.mono hV.size)⟩)
      rw [h1, ← hEp, ← hcl]
    · exact (parent_any g (e : Int) (ha.below hV).out hgs hX).mono (fun x w' ⟨h1, h2⟩ => ⟨h1, hV.trans (h2.mono hV.size)⟩)
    · refine (parent_any g (e : Int) (hb.below hV).out hgs hX').mono (fun x w' ⟨h1, h2⟩ => ⟨?_, hV.trans (h2.mono hV.size)⟩)
      rw [h1, ← hEp, ← hcl]
  rw [← hNN] at hl ⊢
  unfold dv at HD1 HD2
  have hnq := neqD (los s 4 : Int) (s.bad : Int) (s.nowh : Int) (s.late : Int) (s.full : Int)
  generalize s.cl c = K at *
  clear ha hb hg hT hNN hAA hEp hcl
  have HBR : Hid (Below w.heap.size w w) := Below.refl _ _
  go_enter Tryz.func21, Tryz.ntmps21
  go_wp2_with fail
  refine (HE1.out _ HBR.out).mono ?_
  rintro e w1 ⟨rfl, hb1⟩
  have HB1 : Hid (Below w.heap.size w w1) := hb1
  clear hb1
  go_wp2_with fail
  refine (HE2.out _ HB1.out).mono ?_
  rintro e w2 ⟨rfl, hb2⟩
  have HB2 : Hid (Below w.heap.size w w2) := hb2
  clear hb2
  go_wp2_with fail
  refine (HN1.out _ HB2.out).mono ?_
  rintro e w3 ⟨rfl, rfl⟩
  go_wp2_with fail
  refine (HN2.out _ HB2.out).mono ?_
  rintro e w4 ⟨rfl, rfl⟩
  go_wp2_with fail
  refine (HD1.out _ HB2.out).mono ?_
  rintro e w5 ⟨rfl, hb5⟩
  have HB5 : Hid (Below w.heap.size w w5) := hb5
  clear hb5
  go_wp2_with fail
  refine (HD2.out _ HB5.out).mono ?_
  rintro e w6 ⟨rfl, hb6⟩
  have HB6 : Hid (Below w.heap.size w w6) := hb6
  clear hb6
  go_wp2_with fail
  refine (HL1.out _ HB6.out).mono ?_
  rintro e w7 ⟨⟨q1, cap1, rfl, hq1⟩, hb7⟩
  have HB7 : Hid (Below w.heap.size w w7) := HB6.out.trans (hb7.mono HB6.out.size)
  have HQ1 : Hid (AlsOn w7 q1 A) := hq1
  clear hb7 hq1
  go_wp2_with fail
  refine (HL2.out _ HB7.out).mono ?_
  rintro e w8 ⟨⟨q2, cap2, rfl, hq2⟩, hb8⟩
  have HB8 : Hid (Below w.heap.size w w8) := HB7.out.trans (hb8.mono HB7.out.size)
  have HQ1' : Hid (AlsOn w8 q1 A) := HQ1.out.below hb8
  have HQ2 : Hid (AlsOn w8 q2 A) := hq2
  clear hb8 hq2
  go_wp2_with fail
  refine (HSA.out _ _ _ _ _ HQ1'.out HQ2.out).mono ?_
  rintro e w9 ⟨rfl, hb9⟩
  have HB9 : Hid (Below w.heap.size w w9) := HB8.out.trans (hb9.mono HB8.out.size)
  clear hb9 HQ1 HQ1' HQ2 HB1 HB2 HB5 HB6 HB7 HB8
  go_wp2
  go_loopw [7] (fun i V => ∃ j : Nat, j ≤ N ∧ i = .int .i64 (j : Int) ∧ Below w.heap.size w V) (fun i _ => N - (intOf i).toNat)
  case atStart => exact ⟨0, by omega, rfl, HB9.out⟩
  case round =>
    obtain ⟨j, hj, rfl, hbl⟩ := hrel
    have HBL : Hid (Below w.heap.size w wr) := hbl
    clear hbl
    by_cases hlt : j < N
    case neg =>
      have hII : ¬ (j : Int) < N := by omega
      go_wp2
      go_ret
      exact ⟨rfl, HBL.out⟩
    case pos =>
      have hII : (j : Int) < N := by omega
      have hj' : j < T.length := by rw [← HNN.out]; exact hlt
      have hne : T ≠ [] := fun e => by rw [e] at hj'; simp at hj'
      have hrj := List.getElem?_eq_getElem hj'
      obtain ⟨b, rfl, hbb, hcc⟩ := HT.out.at_ hne
      have hc0 := hcc j _ hrj
      have hgs := HT.out.sizes _ (List.getElem_mem hj')
      generalize T[j] = g at *
      have HCE : Hid (∀ V, Below w.heap.size w V → V.cell? ⟨b, j, none⟩ = some (.string g)) := fun V hV => by
        rw [World.cell?_of_block (w := w) (hV.block b hbb)]
        exact hc0
      clear hrj hcc hne hc0
      go_wp2
      go_loopw [8] (fun i V => ∃ e : Nat, e ≤ K ∧ i = .int .i64 (e : Int) ∧ Below w.heap.size w V) (fun i _ => K - (intOf i).toNat)
      case atStart => exact ⟨0, by omega, rfl, HBL.out⟩
      case round =>
        obtain ⟨e, he, rfl, hbl⟩ := hrel
        have HB10 : Hid (Below w.heap.size w wr) := hbl
        clear hbl
        go_wp2_with fail
        refine (HE1.out _ HB10.out).mono ?_
        rintro e' v1 ⟨rfl, hb1⟩
        have HC1 : Hid (Below w.heap.size w v1) := hb1
        have hc1 := HCE.out _ hb1
        clear hb1
        by_cases hek : e < K
        case neg =>
          have hKI : ¬ (e : Int) < K := by omega
          go_wp2
          go_roundw
          case rel => exact ⟨j + 1, by omega, by go_num, HC1.out⟩
          case measure => simp [intOf]; omega
        case pos =>
          have hKI : (e : Int) < K := by omega
          obtain ⟨P, E, X, hWP⟩ := HWP.out g e hgs
          have HF : Hid (∀ V, Below w.heap.size w V → _) := hWP
          by_cases hE : E = 0
          all_goals
            first
            | (rw [hE] at HF
               have ee : TkA.errV 0 = .nilIface := rfl
               rw [ee] at HF)
            | (have ee : TkA.errV E = .iface 105 (.int .i64 E) := TkA.errV_pos hE
               rw [ee] at HF)
            clear ee hE hWP
            go_wp2_with fail
            refine (HF.out _ HC1.out).1.mono ?_
            rintro e' v2 ⟨rfl, hb2⟩
            have HC2 : Hid (Below w.heap.size w v2) := hb2
            have hc2 := HCE.out _ hb2
            clear hb2 hc1
            go_wp2_with fail
            refine (HF.out _ HC2.out).2.1.mono ?_
            rintro e' v3 ⟨rfl, hb3⟩
            have HC3 : Hid (Below w.heap.size w v3) := hb3
            have hc3 := HCE.out _ hb3
            clear hb3 hc2
            go_wp2_with fail
            refine (HF.out _ HC3.out).2.2.1.mono ?_
            rintro e' v4 ⟨rfl, hb4⟩
            have HC4 : Hid (Below w.heap.size w v4) := hb4
            have hc4 := HCE.out _ hb4
            clear hb4 hc3
            go_wp2_with fail
            refine (HF.out _ HC4.out).2.2.2.mono ?_
            rintro e' v5 ⟨rfl, hb5⟩
            have HC5 : Hid (Below w.heap.size w v5) := hb5
            have HC6 : Hid (Below w.heap.size w v5.drew) := HC5.out.drew
            clear hb5 hc4
            go_wp2
            go_region
            all_goals
              go_wp2
              go_roundw
              case rel => exact ⟨e + 1, by omega, by go_num, HC6.out⟩
              case measure => simp [intOf]; omega
end Go.Proofs.YtmolafjalaeoaaaGreatDoor.WbA
