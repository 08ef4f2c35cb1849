/-
  What the document's own answer does to the world: RuleOf, at work.
-/
import Derived.Test.YtnahkonklkcbeabGreatDoorRuK
namespace Go.Proofs.YtnahkonklkcbeabGreatDoor.RuA
open Go.RowKit RuM RfC
set_option maxRecDepth 100000

/-- RuleOf at work, ahead of its rule. -/
structure OP (w V : World) (g : Nat) (L : List (List UInt8)) : Prop where
  bl : Below w.heap.size w V
  ws : Wds V (w.heap.size + 1) g L
  p : Cells6 V w.heap.size (.string ⟨#[]⟩) (.int .i64 0) (.int .i64 0) (.int .i64 0) (.int .i64 0) (.int .i64 0)
theorem OP.keep {w V V' : World} {g : Nat} {L : List (List UInt8)} (h : OP w V g L) (hb : Below V.heap.size V V') : OP w V' g L :=
  ⟨h.bl.trans (hb.mono h.bl.size), h.ws.move (hb.block _ h.ws.hi) hb.size, h.p.move (hb.block _ h.p.lt) hb.size⟩
theorem OP.drew {w V : World} {g : Nat} {L : List (List UInt8)} (h : OP w V g L) : OP w V.drew g L := h.keep (Below.refl V.heap.size V).drew
theorem OP.alloc {w V : World} {g : Nat} {L : List (List UInt8)} (o : Obj) (h : OP w V g L) : OP w (V.alloc o) g L := h.keep ((Below.refl V.heap.size V).alloc (Nat.le_refl _) o)
/-- .. with its rule at rb. -/
structure OS (w V : World) (g rb : Nat) (L : List (List UInt8)) (a b c d e f : Value) : Prop where
  o : OP w V g L
  r : Cells6 V rb a b c d e f
  ne : rb ≠ g
  lo : w.heap.size + 1 ≤ rb
theorem OS.keep {w V V' : World} {g rb : Nat} {L : List (List UInt8)} {a b c d e f : Value} (h : OS w V g rb L a b c d e f) (hb : Below V.heap.size V V') : OS w V' g rb L a b c d e f :=
  ⟨h.o.keep hb, h.r.move (hb.block _ h.r.lt) hb.size, h.ne, h.lo⟩
theorem OS.set {w V : World} {g rb : Nat} {L : List (List UInt8)} {a b c d e f a' b' c' d' e' f' : Value} (h : OS w V g rb L a b c d e f) {i : Nat} {x : Value}
    (hc : Cells6 (V.setCell ⟨rb, i, none⟩ x) rb a' b' c' d' e' f') : OS w (V.setCell ⟨rb, i, none⟩ x) g rb L a' b' c' d' e' f' := by
  have h1 := h.lo
  have hz : V.heap.size ≤ (V.setCell ⟨rb, i, none⟩ x).heap.size := by simp [World.setCell]
  exact ⟨⟨h.o.bl.setCell (by show w.heap.size ≤ rb; omega) _, h.o.ws.move (Below.heap_setCell V _ _ _ (fun e => h.ne e.symm)) hz, h.o.p.far _ _ (by show w.heap.size ≠ rb; omega)⟩, hc, h.ne, h.lo⟩
structure OSx (w V : World) (v : Value) (g : Nat) (L : List (List UInt8)) (nm : ByteArray) : Prop where
  out : ∃ rb, v = .pointer (some ⟨rb, 0, none⟩) ∧ OS w V g rb L (.string nm) (.int .i64 (-1)) (.int .i64 0) (.int .i64 0) (.int .i64 (-1)) (.int .i64 0)
theorem six_new (V : World) (r : Rl) : Cells6 (V.alloc (.cells #[.string r.nm, .int .i64 r.k, .int .i64 r.f, .int .i64 r.t, .int .i64 r.wo, .int .i64 r.wi] 23)) V.heap.size (.string r.nm) (.int .i64 r.k) (.int .i64 r.f) (.int .i64 r.t) (.int .i64 r.wo) (.int .i64 r.wi) := by
  refine ⟨?_, ?_, ?_, ?_, ?_, ?_, ?_, ?_⟩
  all_goals first | go_simp | (intro i; go_simp)
section
variable (s : ByteArray) (w : World)
set_option maxHeartbeats 8000000 in
theorem rof_seven (hs : s.size ≤ 200) (x0 x1 x2 x3 x4 x5 x6 : List UInt8) (hc : cuts s = [x0, x1, x2, x3, x4, x5, x6]) :
    Calls Tryz.prog 12 #[.string s] w fun e w' => ROut s w e w' := by
  have hcl : ∀ x, x ∈ cuts s → x.length ≤ 200 := fun x hx => Nat.le_trans (cuts_len hx) hs
  have l0 : x0.length ≤ 200 := hcl _ (by rw [hc]; simp)
  have HS : Hid (∀ r, Reads s r → r.wo = -1 ∧ x0 ≠ [] ∧ (∀ a o, Fig x2 a o → a = r.f ∧ o = true) ∧ (∀ a o, Fig x4 a o → a = r.t ∧ o = true) ∧ (∀ a o, Fig x6 a o → a = r.wi ∧ o = true) ∧ mk7 x0 x1 r.f r.t r.wi = r) := fun r hr => seven hr hc
  have HCL : Hid (∀ x, x ∈ [x0, x1, x2, x3, x4, x5, x6] → (bt x).size ≤ 200) := by
    show ∀ x, x ∈ [x0, x1, x2, x3, x4, x5, x6] → (bt x).size ≤ 200
    intro x hx
    rw [bt_size]
    rw [← hc] at hx
    exact hcl x hx
  have HC : Hid (cutG 32 [] [] s.data.toList = [x0, x1, x2, x3, x4, x5, x6]) := hc
  clear hcl hc
  go_enter Tryz.func12, Tryz.ntmps12
  go_wp2_with fail
  refine (refcut_any s 32 _ hs).mono ?_
  rw [HC.out]
  rintro e w1 ⟨v, rfl, ht, hb⟩
  obtain ⟨g, cap, rfl, hw, hcap⟩ := texts_wds ht (by simp)
  have HO : Hid (OP w w1 g [x0, x1, x2, x3, x4, x5, x6]) := ⟨((Below.refl _ w).alloc (Nat.le_refl _) _).trans (hb.mono (by simp)), ⟨hw.at_, by have h := hw.lo; simp at h; omega, hw.hi⟩, (zero_new w).move (hb.block _ (by simp)) hb.size⟩
  clear ht hb hw
  rw [show ([x0, x1, x2, x3, x4, x5, x6] : List (List UInt8)).length = 7 from rfl] at hcap ⊢
  obtain ⟨y0, hy0⟩ : ∃ y, y = bt x0 := ⟨_, rfl⟩
  have hy0s : y0.size = x0.length := by rw [hy0]; exact bt_size x0
  have g0 := HO.out.ws.at_ 0 x0 rfl
  rw [← hy0] at g0
  have HY0 : Hid (y0 = bt x0) := hy0
  clear hy0
  by_cases he : x0.length = 0
  case pos =>
    have e0 : ((y0.size : Int) == 0) = true := by rw [beq_iff_eq]; omega
    have HNO : Hid (¬ ∃ r, Reads s r) := fun ⟨r, hr⟩ => (HS.out r hr).2.1 (List.length_eq_zero_iff.1 he)
    have p0 := HO.out.p.c0
    have p1 := HO.out.p.c1
    have p2 := HO.out.p.c2
    have p3 := HO.out.p.c3
    have p4 := HO.out.p.c4
    have p5 := HO.out.p.c5
    have pf := HO.out.p.fz
    go_wp2
    refine bodyPost_ret (v := .tuple #[rV zR, .bool false]) (by simp [results, Tryz.results12, go_sem, rV, zR, p0, p1, p2, p3, p4, p5]) rfl ⟨Or.inr ⟨HNO.out, rfl⟩, ?_⟩
    exact (((((HO.out.bl.setCell (Nat.le_refl _) _).setCell (Nat.le_refl _) _).setCell (Nat.le_refl _) _).setCell (Nat.le_refl _) _).setCell (Nat.le_refl _) _).setCell (Nat.le_refl _) _
  case neg =>
    have e0 : ((y0.size : Int) == 0) = false := by rw [beq_eq_false_iff_ne]; omega
    have hwr : IntKind.i64.wrap ((y0.size : Int) - 1) = (y0.size : Int) - 1 := by simp [IntKind.wrap, IntKind.bits, IntKind.signed]; omega
    have e3 : (1 : Int) ≤ (y0.size : Int) := by omega
    have e2 : (y0.size : Int) - 1 ≤ (y0.size : Int) := by omega
    have HYS : Hid (y0.size = x0.length) := hy0s
    have hyl : y0.size ≤ 200 := by omega
    clear hy0s he
    go_upto_region 4 with fail
    have hO := HO.out
    go_cut [5] from 33 to 42 (fun v V => OSx w V v g [x0, x1, x2, x3, x4, x5, x6] (bt (x0.take (x0.length - 1))))
    case first =>
      go_region_held3 (fun V => V.cell? ⟨g, 0, none⟩ = some (.string y0) ∧ OP w V g [x0, x1, x2, x3, x4, x5, x6])
        (first | exact ⟨drewCell ‹_›, OP.drew ‹_›⟩ | (go_split_ands; exact ⟨allocCell _ ‹_›, OP.alloc _ ‹_›⟩) | exact ⟨drewCell (allocCell _ g0), OP.drew (OP.alloc _ hO)⟩ | exact ⟨allocCell _ g0, OP.alloc _ hO⟩)
        (fail)
      rename_i hH
      go_wp2
      go_meet
      case rel =>
        have h1 := hO.ws.lo
        have h2 := hO.ws.hi
        have h3 := hO.p.lt
        refine ⟨w1.heap.size, rfl, hH.2, ?_, by omega, by omega⟩
        have hn : y0.extract 0 (y0.size - 1) = bt (x0.take (x0.length - 1)) := by
          rw [HYS.out, HY0.out]
          apply ByteArray.ext
          simp [bt, ByteArray.data_extract]
          exact List.dropLast_eq_take
        rw [hn]
        have h4 : Cells6 (w1.alloc (.cells #[.string (bt (x0.take (x0.length - 1))), .int .i64 (-1), .int .i64 0, .int .i64 0, .int .i64 (-1), .int .i64 0] 23)) w1.heap.size (.string (bt (x0.take (x0.length - 1)))) (.int .i64 (-1)) (.int .i64 0) (.int .i64 0) (.int .i64 (-1)) (.int .i64 0) := six_new w1 ⟨bt (x0.take (x0.length - 1)), -1, 0, 0, -1, 0⟩
        exact h4.move rfl (Nat.le_refl _)
    case rest =>
      obtain ⟨rb, rfl, hos⟩ := hcut.out
      have HOS : Hid _ := hos
      have hnl : (bt (x0.take (x0.length - 1))).size ≤ 200 := by rw [bt_size, List.length_take]; omega
      clear hcut hos hO g0 e0 hwr e3 e2 hyl HY0 HYS
      obtain ⟨nm, hnm⟩ : ∃ nm, nm = bt (x0.take (x0.length - 1)) := ⟨_, rfl⟩
      have HNM : Hid (nm = bt (x0.take (x0.length - 1))) := hnm
      rw [← hnm] at HOS hnl
      clear hnm
      obtain ⟨y1, hy1⟩ : ∃ y, y = bt x1 := ⟨_, rfl⟩
      have HY1 : Hid (y1 = bt x1) := hy1
      clear hy1
      go_wp2
      go_loopw [6] (fun i V => ∃ k : Nat, k ≤ 4 ∧ i = .int .i64 k ∧ OS w V g rb [x0, x1, x2, x3, x4, x5, x6] (.string nm) (.int .i64 (kUp x1 k)) (.int .i64 0) (.int .i64 0) (.int .i64 (-1)) (.int .i64 0)) (fun i _ => 4 - (intOf i).toNat)
      case atStart => exact ⟨0, Nat.zero_le _, rfl, HOS.out⟩
      case round =>
        obtain ⟨k, hk, rfl, hos⟩ := hrel
        have HO2 : Hid _ := hos
        clear hos HOS
        by_cases hk4 : k < 4
        case pos =>
          have hkI : (k : Int) < 4 := by omega
          have hkN : (0 : Int) ≤ (k : Int) := by omega
          have ik := idxK k hk4
          have g1 := HO2.out.o.ws.at_ 1 x1 rfl
          rw [← HY1.out] at g1
          go_upto_region 8 with fail
          have kg1 := cell_regrown g1
          refine wp_region_quiet_below (by kernel_rfl) (by kernel_rfl) ?_
          repeat (go_big_quiet_step (first | with_reducible exact Calls.regrown_of (kindNames_any _)))
          refine wpQuiet_nil ?_
          intro _ hw'
          obtain ⟨⟨dq, osq⟩, hw''⟩ := hw'
          subst hw''
          have HO3 : Hid _ := HO2.out.keep (below_regrown wr dq osq)
          clear kg1 g1 ik HO2
          generalize Sort.grow (redrawn wr dq) osq = V3 at *
          have HEQ : Hid (kwB k = y1 ↔ kwL k = x1) := ⟨fun h => by rw [HY1.out] at h; have h2 := congrArg (fun b : ByteArray => b.data.toList) h; simpa [kwB, bt] using h2, fun h => by rw [HY1.out, ← h]; rfl⟩
          have f1 := HO3.out.r.fz 1
          have c1 := HO3.out.r.c1
          by_cases hb : kwB k = y1
          case pos =>
            have hb' : ((kwB k).toList == y1.toList) = true := sbeq_true hb
            have HU : Hid (kUp x1 (k + 1) = (k : Int)) := by
              show kUp x1 (k + 1) = (k : Int)
              rw [kUp, if_pos (HEQ.out.1 hb)]
            have HO4 : Hid _ := HO3.out.set (HO3.out.r.set1 (.int .i64 (k : Int)))
            clear hb HEQ HO3
            rw [hb']
            go_wp2
            go_roundw
            case rel => exact ⟨k + 1, by omega, by go_num, by rw [HU.out]; exact HO4.out⟩
            case measure => simp [intOf]; omega
          case neg =>
            have hb' : ((kwB k).toList == y1.toList) = false := sbeq_false hb
            have HU : Hid (kUp x1 (k + 1) = kUp x1 k) := by
              show kUp x1 (k + 1) = kUp x1 k
              rw [kUp, if_neg (fun h => hb (HEQ.out.2 h))]
            clear hb HEQ f1 c1
            rw [hb']
            go_wp2
            go_roundw
            case rel => exact ⟨k + 1, by omega, by go_num, by rw [HU.out]; exact HO3.out⟩
            case measure => simp [intOf]; omega
        case neg =>
          obtain rfl : k = 4 := by omega
          clear hk hk4
          generalize hK : kUp x1 4 = K at *
          have HK : Hid (kUp x1 4 = K) := hK
          clear hK
          obtain ⟨a2, o2, hf2⟩ := fig_ex x2
          obtain ⟨a4, o4, hf4⟩ := fig_ex x4
          obtain ⟨a6, o6, hf6⟩ := fig_ex x6
          have HF2 : Hid (∀ V : World, Calls Tryz.prog 26 #[.string (bt x2)] V fun e w' => e = .returned (.tuple #[.int .i64 a2, .bool o2]) ∧ w' = V) := fun V => by
            have h := figures_any (bt x2) V (HCL.out x2 (by simp))
            rw [hf2.eq] at h
            exact h
          have HF4 : Hid (∀ V : World, Calls Tryz.prog 26 #[.string (bt x4)] V fun e w' => e = .returned (.tuple #[.int .i64 a4, .bool o4]) ∧ w' = V) := fun V => by
            have h := figures_any (bt x4) V (HCL.out x4 (by simp))
            rw [hf4.eq] at h
            exact h
          have HF6 : Hid (∀ V : World, Calls Tryz.prog 26 #[.string (bt x6)] V fun e w' => e = .returned (.tuple #[.int .i64 a6, .bool o6]) ∧ w' = V) := fun V => by
            have h := figures_any (bt x6) V (HCL.out x6 (by simp))
            rw [hf6.eq] at h
            exact h
          have HR : Hid (∀ r, Reads s r → o2 = true ∧ o4 = true ∧ o6 = true ∧ r = ⟨nm, K, a2, a4, -1, a6⟩) := fun r hr => by
            obtain ⟨h1, h2, h3, h4, h5, h6⟩ := HS.out r hr
            obtain ⟨rfl, b2⟩ := h3 _ _ hf2
            obtain ⟨rfl, b4⟩ := h4 _ _ hf4
            obtain ⟨rfl, b6⟩ := h5 _ _ hf6
            refine ⟨b2, b4, b6, ?_⟩
            rw [← h6]
            unfold mk7
            rw [← HNM.out, HK.out]
          clear hf2 hf4 hf6 HS
          have g2 := HO2.out.o.ws.at_ 2 x2 rfl
          generalize bt x2 = y2 at *
          have g4 := HO2.out.o.ws.at_ 4 x4 rfl
          generalize bt x4 = y4 at *
          have g6 := HO2.out.o.ws.at_ 6 x6 rfl
          generalize bt x6 = y6 at *
          go_wp2_with fail
          refine (HF2.out _).mono ?_
          rintro e V ⟨rfl, hV⟩
          subst hV
          go_wp2_with fail
          refine (HF4.out _).mono ?_
          rintro e V ⟨rfl, hV⟩
          subst hV
          go_wp2_with fail
          refine (HF6.out _).mono ?_
          rintro e V ⟨rfl, hV⟩
          subst hV
          cases o2 with
          | false =>
            have HNO : Hid (¬ ∃ r, Reads s r) := fun ⟨r, hr⟩ => Bool.noConfusion (HR.out r hr).1
            have p0 := HO2.out.o.p.c0
            have p1 := HO2.out.o.p.c1
            have p2 := HO2.out.o.p.c2
            have p3 := HO2.out.o.p.c3
            have p4 := HO2.out.o.p.c4
            have p5 := HO2.out.o.p.c5
            have pf := HO2.out.o.p.fz
            go_wp2
            refine bodyPost_ret (v := .tuple #[rV zR, .bool false]) (by simp [results, Tryz.results12, go_sem, rV, zR, p0, p1, p2, p3, p4, p5]) rfl ⟨Or.inr ⟨HNO.out, rfl⟩, ?_⟩
            exact (((((HO2.out.o.bl.setCell (Nat.le_refl _) _).setCell (Nat.le_refl _) _).setCell (Nat.le_refl _) _).setCell (Nat.le_refl _) _).setCell (Nat.le_refl _) _).setCell (Nat.le_refl _) _
          | true =>
            cases o4 with
            | false =>
              have HNO : Hid (¬ ∃ r, Reads s r) := fun ⟨r, hr⟩ => Bool.noConfusion (HR.out r hr).2.1
              have p0 := HO2.out.o.p.c0
              have p1 := HO2.out.o.p.c1
              have p2 := HO2.out.o.p.c2
              have p3 := HO2.out.o.p.c3
              have p4 := HO2.out.o.p.c4
              have p5 := HO2.out.o.p.c5
              have pf := HO2.out.o.p.fz
              go_wp2
              refine bodyPost_ret (v := .tuple #[rV zR, .bool false]) (by simp [results, Tryz.results12, go_sem, rV, zR, p0, p1, p2, p3, p4, p5]) rfl ⟨Or.inr ⟨HNO.out, rfl⟩, ?_⟩
              exact (((((HO2.out.o.bl.setCell (Nat.le_refl _) _).setCell (Nat.le_refl _) _).setCell (Nat.le_refl _) _).setCell (Nat.le_refl _) _).setCell (Nat.le_refl _) _).setCell (Nat.le_refl _) _
            | true =>
              cases o6 with
              | false =>
                have HNO : Hid (¬ ∃ r, Reads s r) := fun ⟨r, hr⟩ => Bool.noConfusion (HR.out r hr).2.2.1
                have p0 := HO2.out.o.p.c0
                have p1 := HO2.out.o.p.c1
                have p2 := HO2.out.o.p.c2
                have p3 := HO2.out.o.p.c3
                have p4 := HO2.out.o.p.c4
                have p5 := HO2.out.o.p.c5
                have pf := HO2.out.o.p.fz
                go_wp2
                refine bodyPost_ret (v := .tuple #[rV zR, .bool false]) (by simp [results, Tryz.results12, go_sem, rV, zR, p0, p1, p2, p3, p4, p5]) rfl ⟨Or.inr ⟨HNO.out, rfl⟩, ?_⟩
                exact (((((HO2.out.o.bl.setCell (Nat.le_refl _) _).setCell (Nat.le_refl _) _).setCell (Nat.le_refl _) _).setCell (Nat.le_refl _) _).setCell (Nat.le_refl _) _).setCell (Nat.le_refl _) _
              | true =>
                have c0 := HO2.out.r.c0
                have c1 := HO2.out.r.c1
                have c4 := HO2.out.r.c4
                have c2 := HO2.out.r.c2
                have c3 := HO2.out.r.c3
                have c5 := HO2.out.r.c5
                have rf := HO2.out.r.fz
                have HA : Hid _ := HO2.out.set (HO2.out.r.set2 (.int .i64 a2))
                have HB : Hid _ := HA.out.set (HA.out.r.set3 (.int .i64 a4))
                have HD : Hid _ := HB.out.set (HB.out.r.set5 (.int .i64 a6))
                clear HA HB
                have hne := HO2.out.ne
                have hne2 : g ≠ rb := fun e => HO2.out.ne e.symm
                obtain ⟨n, hn⟩ := flt_ex ⟨nm, K, a2, a4, -1, a6⟩
                have HFN : Hid (∀ V : World, Calls Tryz.prog 6 #[rV ⟨nm, K, a2, a4, -1, a6⟩] V fun e w' => e = .returned (.int .i64 (n : Int)) ∧ Below V.heap.size V w') := fun V => rfault_any ⟨nm, K, a2, a4, -1, a6⟩ V (by show nm.size ≤ _; omega) hn
                have HN : Hid _ := hn
                unfold rV at HFN
                simp only at HFN
                clear hn HF2 HF4 HF6 g2 g4 g6
                go_wp2_with fail
                refine (HFN.out _).mono ?_
                rintro e V5 ⟨rfl, hb5⟩
                have HZ : Hid _ := HD.out.keep hb5
                clear hb5 HD c0 c1 c2 c3 c4 c5 rf HFN
                by_cases h0 : n = 0
                case neg =>
                  have i0 : decide ((0 : Int) < (n : Int)) = true := by simp; omega
                  have i1 : (0 : Int) < (n : Int) := by omega
                  have i2 : 0 < n := by omega
                  have HNO : Hid (¬ ∃ r, Reads s r) := fun ⟨r, hr⟩ => by
                    have h := (HR.out r hr).2.2.2
                    have h2 := hr.1
                    rw [h] at h2
                    exact h0 ((flt_ok HN.out).2 h2)
                  clear h0
                  have p0 := HZ.out.o.p.c0
                  have p1 := HZ.out.o.p.c1
                  have p2 := HZ.out.o.p.c2
                  have p3 := HZ.out.o.p.c3
                  have p4 := HZ.out.o.p.c4
                  have p5 := HZ.out.o.p.c5
                  have pf := HZ.out.o.p.fz
                  go_wp2
                  refine bodyPost_ret (v := .tuple #[rV zR, .bool false]) (by simp [results, Tryz.results12, go_sem, rV, zR, p0, p1, p2, p3, p4, p5]) rfl ⟨Or.inr ⟨HNO.out, rfl⟩, ?_⟩
                  exact (((((HZ.out.o.bl.setCell (Nat.le_refl _) _).setCell (Nat.le_refl _) _).setCell (Nat.le_refl _) _).setCell (Nat.le_refl _) _).setCell (Nat.le_refl _) _).setCell (Nat.le_refl _) _
                case pos =>
                  have hok := (flt_ok HN.out).1 h0
                  subst h0
                  have HTX : Hid (∀ V : World, Calls Tryz.prog 10 #[rV ⟨nm, K, a2, a4, -1, a6⟩] V fun e w' => e = .returned (.string (textB ⟨nm, K, a2, a4, -1, a6⟩)) ∧ Below V.heap.size V w') := fun V => rtext_any V ⟨nm, K, a2, a4, -1, a6⟩ hok
                  have HT2 : Hid (∀ r, Reads s r → textB ⟨nm, K, a2, a4, -1, a6⟩ = s) := fun r hr => by
                    have h := (HR.out r hr).2.2.2
                    have h2 := hr.2
                    rw [h] at h2
                    exact h2
                  have HT3 : Hid (textB ⟨nm, K, a2, a4, -1, a6⟩ = s → Reads s ⟨nm, K, a2, a4, -1, a6⟩) := fun h => ⟨hok, h⟩
                  generalize textB ⟨nm, K, a2, a4, -1, a6⟩ = X at *
                  unfold rV at HTX
                  simp only at HTX
                  have c0 := HZ.out.r.c0
                  have c1 := HZ.out.r.c1
                  have c2 := HZ.out.r.c2
                  have c3 := HZ.out.r.c3
                  have c4 := HZ.out.r.c4
                  have c5 := HZ.out.r.c5
                  clear hok HN HR
                  go_wp2_with fail
                  refine (HTX.out _).mono ?_
                  rintro e V6 ⟨rfl, hb6⟩
                  have HY : Hid _ := HZ.out.keep hb6
                  clear hb6 HZ c0 c1 c2 c3 c4 c5 HTX
                  by_cases hx : X = s
                  case neg =>
                    have hb1 : (X.toList == s.toList) = false := sbeq_false hx
                    have hb2 : (X.toList != s.toList) = true := by rw [bne, hb1]; rfl
                    have HNO : Hid (¬ ∃ r, Reads s r) := fun ⟨r, hr⟩ => hx (HT2.out r hr)
                    clear hx
                    have p0 := HY.out.o.p.c0
                    have p1 := HY.out.o.p.c1
                    have p2 := HY.out.o.p.c2
                    have p3 := HY.out.o.p.c3
                    have p4 := HY.out.o.p.c4
                    have p5 := HY.out.o.p.c5
                    have pf := HY.out.o.p.fz
                    go_wp2
                    refine bodyPost_ret (v := .tuple #[rV zR, .bool false]) (by simp [results, Tryz.results12, go_sem, rV, zR, p0, p1, p2, p3, p4, p5]) rfl ⟨Or.inr ⟨HNO.out, rfl⟩, ?_⟩
                    exact (((((HY.out.o.bl.setCell (Nat.le_refl _) _).setCell (Nat.le_refl _) _).setCell (Nat.le_refl _) _).setCell (Nat.le_refl _) _).setCell (Nat.le_refl _) _).setCell (Nat.le_refl _) _
                  case pos =>
                    have HRD : Hid (Reads s ⟨nm, K, a2, a4, -1, a6⟩) := HT3.out hx
                    subst hx
                    have hb1 : (X.toList == X.toList) = true := sbeq_true rfl
                    have hb2 : (X.toList != X.toList) = false := by rw [bne, hb1]; rfl
                    have c0 := HY.out.r.c0
                    have c1 := HY.out.r.c1
                    have c2 := HY.out.r.c2
                    have c3 := HY.out.r.c3
                    have c4 := HY.out.r.c4
                    have c5 := HY.out.r.c5
                    have p0 := HY.out.o.p.c0
                    have p1 := HY.out.o.p.c1
                    have p2 := HY.out.o.p.c2
                    have p3 := HY.out.o.p.c3
                    have p4 := HY.out.o.p.c4
                    have p5 := HY.out.o.p.c5
                    have pf := HY.out.o.p.fz
                    go_wp2
                    clear c0 c1 c2 c3 c4 c5
                    refine bodyPost_ret (v := .tuple #[rV ⟨nm, K, a2, a4, -1, a6⟩, .bool true]) (by simp [results, Tryz.results12, go_sem, rV, p0, p1, p2, p3, p4, p5]) rfl ⟨Or.inl ⟨_, HRD.out, rfl⟩, ?_⟩
                    exact (((((HY.out.o.bl.setCell (Nat.le_refl _) _).setCell (Nat.le_refl _) _).setCell (Nat.le_refl _) _).setCell (Nat.le_refl _) _).setCell (Nat.le_refl _) _).setCell (Nat.le_refl _) _
end
end Go.Proofs.YtnahkonklkcbeabGreatDoor.RuA
