/-
  What EpochSays does to the world.
-/
import Derived.Test.YtllhfbnafemoeaaEpO
namespace Go.Proofs.Ytllhfbnafemoeaa.EpA
open Go.RowKit EpM EpW Go.Maps
set_option maxRecDepth 100000

theorem epoch_long (size late : Int) (p : Option Addr) (n cap : Nat) (w : World) (hn : 120 < n) :
    Calls Try.prog 6 #[.int .i64 size, .int .i64 late, .slice p n cap] w fun e w' => e = .returned (.bool true) ∧ Below w.heap.size w w' := by
  have hI : (120 : Int) < n := by omega
  go_enter Try.func6, Try.ntmps6
  go_wp2_with fail
  refine (closes_any w).mono ?_
  rintro e w1 ⟨rfl, hb⟩
  have HB : Hid (Below w.heap.size w w1) := hb
  clear hb
  go_wp2
  go_ret
  exact ⟨rfl, HB.out⟩
theorem epoch_bad (size late : Int) (p : Option Addr) (n cap : Nat) (w : World) (hn : n ≤ 120) (h : ¬ (1 ≤ size ∧ size ≤ 50 ∧ 0 ≤ late ∧ late ≤ 50)) :
    Calls Try.prog 6 #[.int .i64 size, .int .i64 late, .slice p n cap] w fun e w' => e = .returned (.bool true) ∧ Below w.heap.size w w' := by
  have hI : ¬ (120 : Int) < n := by omega
  have hcs : decide (size < 1) = true ∨ (decide (size < 1) = false ∧ decide (50 < size) = true) ∨ (decide (size < 1) = false ∧ decide (50 < size) = false ∧ decide (late < 0) = true) ∨ (decide (size < 1) = false ∧ decide (50 < size) = false ∧ decide (late < 0) = false ∧ decide (50 < late) = true) := by
    simp
    omega
  have HN : Hid (¬ (1 ≤ size ∧ size ≤ 50 ∧ 0 ≤ late ∧ late ≤ 50)) := h
  clear h
  rcases hcs with h1 | ⟨h1, h2⟩ | ⟨h1, h2, h3⟩ | ⟨h1, h2, h3, h4⟩
  all_goals
    go_enter Try.func6, Try.ntmps6
    go_wp2_with fail
    refine (closes_any w).mono ?_
    rintro e w1 ⟨rfl, hb⟩
    have HB : Hid (Below w.heap.size w w1) := hb
    clear hb
    go_wp2_with fail
    refine (new_bad size late w1 HN.out).mono ?_
    rintro e w2 ⟨rfl, hw2⟩
    subst hw2
    go_wp2_with fail
    refine (same_err 1 _ (by omega)).mono ?_
    rintro e w3 ⟨rfl, hw3⟩
    subst hw3
    go_wp2
    go_ret
    exact ⟨rfl, HB.out⟩

def tickB : ByteArray := ⟨#[116, 105, 99, 107]⟩
theorem both_new (w1 w2 : World) (size late : Nat) (B : Nat) (hB : B ≤ w1.heap.size) (hs : w2.heap.size = w1.heap.size + 2) (d : DeskAt w2 (w1.heap.size + 1) (fun b => w1.heap.size ≤ b ∧ b < w1.heap.size + 2) size late 0 [] 0) :
    Both B (w2.alloc (.cells #[.int .i64 (size : Int), .int .i64 (late : Int), .int .i64 0, .slice none 0 0] 59)) (w1.heap.size + 1) w2.heap.size size late 0 [] (fun b => w1.heap.size ≤ b ∧ b < w1.heap.size + 2) (fun b => b = w2.heap.size) where
  d := by
    have hc : closedN size late 0 = 0 := by unfold closedN; simp
    rw [hc]
    exact d.below ((Below.refl _ _).alloc (Nat.le_refl _) _)
  r := ⟨.slice none 0 0, Go.heap_alloc_new _ _, World.ownsRow_nil _ _ _ _, rfl, fun b hb => by simp [Value.ownBlock] at hb⟩
  ld := fun b hb => by simp; omega
  lr := fun b hb => by simp; omega
  ap := fun b hb he => by omega
set_option maxHeartbeats 1000000 in
theorem epoch_main (size late : Nat) (acts : List Ac) (p : Option Addr) (cap : Nat) (w : World) (hn : acts.length ≤ 120) (h0 : 1 ≤ size) (h1 : size ≤ 50) (h2 : late ≤ 50) (ha : AcsOn w p acts) :
    Calls Try.prog 6 #[.int .i64 (size : Int), .int .i64 (late : Int), .slice p acts.length cap] w fun e w' => e = .returned (.bool true) ∧ Below w.heap.size w w' := by
  have mixed : Try.prog.follows .mixedOrders = true := by kernel_rfl
  have HA : Hid (AcsOn w p acts) := ha
  obtain ⟨n, hnn⟩ : ∃ n, n = acts.length := ⟨_, rfl⟩
  have HN : Hid (n = acts.length) := hnn
  rw [← hnn] at hn ⊢
  clear hnn ha
  have hI : decide ((120 : Int) < n) = false := by simp; omega
  have i1 : decide ((size : Int) < 1) = false := by simp; omega
  have i2 : decide ((50 : Int) < size) = false := by simp; omega
  have i3 : decide ((late : Int) < 0) = false := by simp
  have i4 : decide ((50 : Int) < late) = false := by simp; omega
  go_enter Try.func6, Try.ntmps6
  go_wp2_with fail
  refine (closes_any w).mono ?_
  rintro e w1 ⟨rfl, hb1⟩
  have HB1 : Hid (Below w.heap.size w w1) := hb1
  have hs1 : w.heap.size ≤ w1.heap.size := hb1.size
  clear hb1
  go_wp2_with fail
  refine (new_ok size late w1 h0 h1 h2).mono ?_
  rintro e w2 ⟨rfl, hs2, hd2, hb2⟩
  have HBO : Hid (Both w.heap.size (w2.alloc (.cells #[.int .i64 (size : Int), .int .i64 (late : Int), .int .i64 0, .slice none 0 0] 59)) (w1.heap.size + 1) w2.heap.size size late 0 [] (fun b => w1.heap.size ≤ b ∧ b < w1.heap.size + 2) (fun b => b = w2.heap.size)) := both_new w1 w2 size late _ hs1 hs2 hd2
  have HBW : Hid (Below w.heap.size w (w2.alloc (.cells #[.int .i64 (size : Int), .int .i64 (late : Int), .int .i64 0, .slice none 0 0] 59))) := (HB1.out.trans (hb2.mono hs1)).alloc (by omega) _
  clear hd2 hb2 hs2
  obtain ⟨db, hdb⟩ : ∃ db, db = w1.heap.size + 1 := ⟨_, rfl⟩
  rw [← hdb] at HBO ⊢
  clear hdb
  go_wp2_with fail
  go_loopw [11, 12, 13, 14, 15, 16] (fun i _ _ _ _ _ V => ∃ (k now : Nat) (all : List Sg) (Fd Fr : Nat → Prop), k ≤ n ∧ i = .int .i64 (k : Int) ∧ now ≤ 1000 ∧ all.length ≤ k ∧ (∀ x ∈ all, epo size x ≤ 1000) ∧ Both w.heap.size V db w2.heap.size size late now all Fd Fr ∧ Below w.heap.size w V) (fun i _ _ _ _ _ _ => n - (intOf i).toNat)
  case atStart => exact ⟨0, 0, [], _, _, Nat.zero_le _, rfl, by omega, Nat.le_refl _, fun x hx => by simp at hx, HBO.out, HBW.out⟩
  case round =>
    obtain ⟨k, now, all, Fd, Fr, hk, rfl, hnow, hal, hep, hbo, hbe⟩ := hrel
    have HEP : Hid (∀ x ∈ all, epo size x ≤ 1000) := hep
    have HBO2 : Hid (Both w.heap.size wr db w2.heap.size size late now all Fd Fr) := hbo
    have HBE : Hid (Below w.heap.size w wr) := hbe
    have hsz : w.heap.size ≤ wr.heap.size := hbe.size
    clear hep hbo HBO HBW HB1
    by_cases hlt : k < n
    case neg =>
      have hkk : k = n := by omega
      subst hkk
      have hI : ¬ (k : Int) < k := by omega
      clear hlt hbe
      go_wp2
      go_ret
      exact ⟨rfl, HBE.out⟩
    case pos =>
      have hkI : (k : Int) < n := by omega
      have hk' : k < acts.length := by rw [← HN.out]; exact hlt
      obtain ⟨b, o, rfl, hb, hc⟩ := HA.out.at_ (by intro e; rw [e] at hk'; simp at hk')
      have htag := HA.out.tags _ (List.getElem_mem hk')
      have hac := (hc k _ (List.getElem?_eq_getElem hk')).keep (hbe.block b hb)
      clear hc hbe
      generalize acts[k] = a at *
      obtain ⟨kd, an, ast, ⟨xp, xs, xt, xg⟩⟩ := a
      obtain ⟨a0, a1, a2, a3, a4, a5, a6⟩ := hac
      simp only at a0 a1 a2 a3 a4 a5 a6 htag
      have hBo1 : Both w.heap.size (wr.alloc (.cells #[.string kd, .int .i64 an, .string ast, .int .i64 xp, .int .i64 xs, .int .i64 xt, .string xg] 63)) db w2.heap.size size late now all Fd Fr := HBO2.out.below ((Below.refl _ wr).alloc (Nat.le_refl _) _)
      have HBO3 : Hid (Both w.heap.size (wr.alloc (.cells #[.string kd, .int .i64 an, .string ast, .int .i64 xp, .int .i64 xs, .int .i64 xt, .string xg] 63)) db w2.heap.size size late now all Fd Fr) := hBo1
      have HBE3 : Hid (Below w.heap.size w (wr.alloc (.cells #[.string kd, .int .i64 an, .string ast, .int .i64 xp, .int .i64 xs, .int .i64 xt, .string xg] 63))) := HBE.out.alloc hsz _
      have HAB : Hid ((wr.alloc (.cells #[.string kd, .int .i64 an, .string ast, .int .i64 xp, .int .i64 xs, .int .i64 xt, .string xg] 63)).heap[wr.heap.size]? = some (.cells #[.string kd, .int .i64 an, .string ast, .int .i64 xp, .int .i64 xs, .int .i64 xt, .string xg] 63)) := Go.heap_alloc_new wr _
      have HFA : Hid (¬ Fd wr.heap.size ∧ ¬ Fr wr.heap.size) := ⟨fun h => by have := (HBO2.out.ld _ h).2; omega, fun h => by have := (HBO2.out.lr _ h).2; omega⟩
      clear hBo1
      go_wp2_with fail
      · clear a0 a1 a2 a3 a4 a5 a6
        generalize wr.alloc (.cells #[.string kd, .int .i64 an, .string ast, .int .i64 xp, .int .i64 xs, .int .i64 xt, .string xg] 63) = V at *
        by_cases hok : 0 ≤ an ∧ an ≤ 1000 - now
        case pos =>
          obtain ⟨N, rfl⟩ : ∃ N : Nat, an = (N : Int) := ⟨an.toNat, by omega⟩
          refine (tick_any N HBO3.out.d (fun b h => (HBO3.out.ld b h).2) h0 h1 h2 (by omega) (by omega)).mono ?_
          rintro e w3 ⟨v, rfl, heo, hd3, hk3⟩
          have HEO : Hid (EpsOwn w3 V.heap.size Fd v (tells size all (closedN size late now) (closedN size late (now + N)))) := heo
          have HD3 : Hid (DeskAt w3 db Fd size late (now + N) all (closedN size late (now + N))) := hd3
          have HK3 : Hid (Kp Fd V w3) := hk3
          have hA3 : w3.heap[wr.heap.size]? = some (.cells #[.string kd, .int .i64 (N : Int), .string ast, .int .i64 xp, .int .i64 xs, .int .i64 xt, .string xg] 63) := by
            rw [hk3.block _ (Array.getElem?_eq_some_iff.1 HAB.out).1 HFA.out.1]
            exact HAB.out
          have n1 : w3.cell? ⟨wr.heap.size, 1, none⟩ = some (.int .i64 (N : Int)) := by simp [World.cell?, hA3]
          have HR3 : Hid (RefAt w3 w2.heap.size Fr size late now all) := HBO3.out.rleft hk3
          clear heo hd3 hk3 hA3
          go_wp2_with fail
          refine (rtick_any N HR3.out (fun b h => Nat.lt_of_lt_of_le (HBO3.out.lr b h).2 HK3.out.size) h0 h1 h2 (by omega) (by omega) HEP.out).mono ?_
          rintro e w4 ⟨v', rfl, heo', hr4, hk4⟩
          obtain ⟨M, hM⟩ : ∃ M, M = now + N := ⟨_, rfl⟩
          rw [← hM] at hr4 heo'
          have HNW : Hid (M ≤ 1000) := by show _ ≤ _; omega
          have HD4 : Hid (DeskAt w3 db Fd size late M all (closedN size late M)) := by show DeskAt _ _ _ _ _ _ _ _; rw [hM]; exact HD3.out
          have heo2 : EpsOwn w3 V.heap.size Fd v (tells size all (closedN size late now) (closedN size late M)) := by rw [hM]; exact HEO.out
          have HFX : Hid (Both w.heap.size w4 db w2.heap.size size late M all Fd Fr) := HBO3.out.tock HD4.out HK3.out hr4 hk4
          have HBE4 : Hid (Below w.heap.size w w4) := (HBE3.out.trans (HK3.out.below HBE3.out.size (fun q hq hF => by have := (HBO3.out.ld q hF).1; omega))).trans (hk4.below (Nat.le_trans HBE3.out.size HK3.out.size) (fun q hq hF => by have := (HBO3.out.lr q hF).1; omega))
          have heo4 : EpsOwn w4 V.heap.size Fd v (tells size all (closedN size late now) (closedN size late M)) := heo2.move hk4.size (fun q hq hF => hk4.block q hq (fun hr => by
            rcases hF with hF | hF
            · have := (HBO3.out.lr q hr).2; omega
            · exact HBO3.out.ap q hF hr))
          obtain ⟨pa, ca, rfl, hona⟩ := heo4.on
          obtain ⟨pb, cb, rfl, honb⟩ := heo'.on
          have htl : (tells size all (closedN size late now) (closedN size late M)).length ≤ 100000 := by
            have h5 : closedN size late M ≤ M := closedN_le
            unfold tells
            simp
            omega
          have htm : ∀ f ∈ tells size all (closedN size late now) (closedN size late M), f.2.length ≤ 100000 := by
            intro f hf
            unfold tells at hf
            simp at hf
            obtain ⟨j, _, rfl⟩ := hf
            have := grp_length size all j
            simp only [sorted_length]
            omega
          have HSE : Hid (Calls Try.prog 24 #[.slice pa (tells size all (closedN size late now) (closedN size late M)).length ca, .slice pb (tells size all (closedN size late now) (closedN size late M)).length cb] w4 fun e w' => e = .returned (.bool true) ∧ Below w4.heap.size w4 w') := sameEpochs_any _ pa pb ca cb w4 htl hona honb htm
          clear hM heo2 heo4 hona honb htl htm heo' hr4 hk4 HEO HD3 HD4 HK3 HR3 HBO3 HBE3 HAB n1
          go_wp2_with fail
          refine (same_nil w4).mono ?_
          rintro e w5 ⟨rfl, hw5⟩
          subst hw5
          go_wp2_with fail
          refine HSE.out.mono ?_
          rintro e w6 ⟨rfl, hb6⟩
          have HFIN : Hid (Both w.heap.size w6 db w2.heap.size size late M all Fd Fr) := HFX.out.below hb6
          have HBEF : Hid (Below w.heap.size w w6) := HBE4.out.trans (hb6.mono HBE4.out.size)
          clear hb6 HFX HBE4 HSE
          have c5 : w6.cell? ⟨w2.heap.size, 2, none⟩ = some (.int .i64 (M : Int)) := by obtain ⟨vv, dd⟩ := HFIN.out.r.out; exact dd.c2
          obtain ⟨cc, hcc⟩ : ∃ cc, cc = closedN size late M := ⟨_, rfl⟩
          have HNOW : Hid (∀ m, Calls Try.prog 27 #[.pointer (some ⟨db, 0, none⟩)] (w6.drewN m) fun e w' => e = .returned (.int .i64 (M : Int)) ∧ ∃ m', w' = w6.drewN m') := fun m => (now_any (HFIN.out.d.below (drewN_below _ m))).mono (fun _ _ h => ⟨h.1, m, h.2⟩)
          have HCL : Hid (∀ m, Calls Try.prog 28 #[.pointer (some ⟨db, 0, none⟩)] (w6.drewN m) fun e w' => e = .returned (.int .i64 (cc : Int)) ∧ ∃ m', w' = w6.drewN m') := fun m => (closed_is hcc (HFIN.out.d.below (drewN_below _ m)) h0 h1 h2 HNW.out).mono (fun _ _ h => ⟨h.1, by obtain ⟨q, hq⟩ := h.2; exact ⟨m + q, by rw [hq, World.drewN_drewN]⟩⟩)
          have HRC : Hid (∀ m, Calls Try.prog 29 #[.pointer (some ⟨w2.heap.size, 0, none⟩)] (w6.drewN m) fun e w' => e = .returned (.int .i64 (cc : Int)) ∧ ∃ m', w' = w6.drewN m') := fun m => (rclosed_is hcc (HFIN.out.r.below (drewN_below _ m)) h0 h1 h2 HNW.out).mono (fun _ _ h => ⟨h.1, by obtain ⟨q, hq⟩ := h.2; exact ⟨m + q, by rw [hq, World.drewN_drewN]⟩⟩)
          clear hcc
          go_wp2
          go_big_quiet (first | with_reducible exact HNOW.out _ | with_reducible exact HCL.out _ | with_reducible exact HRC.out _)
          go_wp2
          go_roundw
          case rel => exact ⟨k + 1, M, all, _, _, by omega, by go_num, HNW.out, by omega, HEP.out, HFIN.out.below (drewN_below _ _), HBEF.out.trans ((drewN_below _ _).mono HBEF.out.size)⟩
          case measure => simp [intOf]; omega
        case neg =>
          refine (tick_bad an HBO3.out.d (by omega) hok).mono ?_
          rintro e w3 ⟨rfl, hw3⟩
          subst hw3
          have n1 : w3.cell? ⟨wr.heap.size, 1, none⟩ = some (.int .i64 an) := by simp [World.cell?, HAB.out]
          go_wp2_with fail
          refine (rtick_bad an HBO3.out.r (by omega) hok).mono ?_
          rintro e w4 ⟨rfl, hw4⟩
          subst hw4
          go_wp2_with fail
          refine (same_err 1 _ (by omega)).mono ?_
          rintro e w5 ⟨rfl, hw5⟩
          subst hw5
          go_wp2_with fail
          refine (sameEpochs_any [] none none 0 0 _ (by simp) ⟨fun h => absurd rfl h⟩ ⟨fun h => absurd rfl h⟩ (by simp)).mono ?_
          rintro e w6 ⟨rfl, hb6⟩
          have HNW : Hid (now ≤ 1000) := hnow
          have HFIN : Hid (Both w.heap.size w6 db w2.heap.size size late now all Fd Fr) := HBO3.out.below hb6
          have HBEF : Hid (Below w.heap.size w w6) := HBE3.out.trans (hb6.mono HBE3.out.size)
          clear hb6 n1
          have c5 : w6.cell? ⟨w2.heap.size, 2, none⟩ = some (.int .i64 (now : Int)) := by obtain ⟨vv, dd⟩ := HFIN.out.r.out; exact dd.c2
          obtain ⟨cc, hcc⟩ : ∃ cc, cc = closedN size late now := ⟨_, rfl⟩
          have HNOW : Hid (∀ m, Calls Try.prog 27 #[.pointer (some ⟨db, 0, none⟩)] (w6.drewN m) fun e w' => e = .returned (.int .i64 (now : Int)) ∧ ∃ m', w' = w6.drewN m') := fun m => (now_any (HFIN.out.d.below (drewN_below _ m))).mono (fun _ _ h => ⟨h.1, m, h.2⟩)
          have HCL : Hid (∀ m, Calls Try.prog 28 #[.pointer (some ⟨db, 0, none⟩)] (w6.drewN m) fun e w' => e = .returned (.int .i64 (cc : Int)) ∧ ∃ m', w' = w6.drewN m') := fun m => (closed_is hcc (HFIN.out.d.below (drewN_below _ m)) h0 h1 h2 HNW.out).mono (fun _ _ h => ⟨h.1, by obtain ⟨q, hq⟩ := h.2; exact ⟨m + q, by rw [hq, World.drewN_drewN]⟩⟩)
          have HRC : Hid (∀ m, Calls Try.prog 29 #[.pointer (some ⟨w2.heap.size, 0, none⟩)] (w6.drewN m) fun e w' => e = .returned (.int .i64 (cc : Int)) ∧ ∃ m', w' = w6.drewN m') := fun m => (rclosed_is hcc (HFIN.out.r.below (drewN_below _ m)) h0 h1 h2 HNW.out).mono (fun _ _ h => ⟨h.1, by obtain ⟨q, hq⟩ := h.2; exact ⟨m + q, by rw [hq, World.drewN_drewN]⟩⟩)
          clear hcc
          go_wp2
          go_big_quiet (first | with_reducible exact HNOW.out _ | with_reducible exact HCL.out _ | with_reducible exact HRC.out _)
          go_wp2
          go_roundw
          case rel => exact ⟨k + 1, now, all, _, _, by omega, by go_num, HNW.out, by omega, HEP.out, HFIN.out.below (drewN_below _ _), HBEF.out.trans ((drewN_below _ _).mono HBEF.out.size)⟩
          case measure => simp [intOf]; omega
      · clear a0 a1 a2 a3 a4 a5 a6
        generalize wr.alloc (.cells #[.string kd, .int .i64 an, .string ast, .int .i64 xp, .int .i64 xs, .int .i64 xt, .string xg] 63) = V at *
        have hA0 := HAB.out
        have s3 : V.cell? ⟨wr.heap.size, 3, none⟩ = some (.int .i64 xp) := by simp [World.cell?, hA0]
        have s4 : V.cell? ⟨wr.heap.size, 4, none⟩ = some (.int .i64 xs) := by simp [World.cell?, hA0]
        have s5 : V.cell? ⟨wr.heap.size, 5, none⟩ = some (.int .i64 xt) := by simp [World.cell?, hA0]
        have s6 : V.cell? ⟨wr.heap.size, 6, none⟩ = some (.string xg) := by simp [World.cell?, hA0]
        clear hA0
        obtain ⟨A, hAe⟩ : ∃ A, A = addF size late now (⟨xp, xs, xt, xg⟩ : Sg) := ⟨_, rfl⟩
        obtain ⟨all', hall'⟩ : ∃ all', all' = (if A = 0 then all ++ [(⟨xp, xs, xt, xg⟩ : Sg)] else all) := ⟨_, rfl⟩
        have HNW : Hid (now ≤ 1000) := hnow
        have HAL : Hid (all'.length ≤ k + 1) := by
          show _ ≤ _
          rw [hall']
          split
          · simp; omega
          · omega
        have HEP' : Hid (∀ x ∈ all', epo size x ≤ 1000) := by
          intro x hx
          rw [hall'] at hx
          split at hx
          · rename_i hA0
            rcases List.mem_append.1 hx with hx | hx
            · exact HEP.out x hx
            · simp at hx
              subst hx
              rw [hAe] at hA0
              unfold addF at hA0
              split at hA0
              · rename_i hok
                have ok := okS_iff.1 hok
                have e1 := ok.t0
                have e2 := ok.t1
                unfold epo
                have : (xt.toNat) / size ≤ xt.toNat := Nat.div_le_self _ _
                show xt.toNat / size ≤ 1000
                simp only at e1 e2
                omega
              · omega
          · exact HEP.out x hx
        have HADD : Hid (Calls Try.prog 25 #[.pointer (some ⟨db, 0, none⟩), .agg #[.int .i64 xp, .int .i64 xs, .int .i64 xt, .string xg]] V.drew fun e w' => e = .returned (errV A) ∧ DeskAt w' db (more Fd V w') size late now all' (closedN size late now) ∧ Kp Fd V w') := by
          rw [hall', hAe]
          exact (add_any (w := V.drew) (⟨xp, xs, xt, xg⟩ : Sg) (HBO3.out.below (drewN_below V 1)).d h0 h1 h2 hnow (by omega) (fun b h => (HBO3.out.ld b h).2) htag).mono (fun _ _ h => ⟨h.1, h.2.1, (below_kp (drewN_below V 1) Fd).trans h.2.2⟩)
        have HRADD : Hid (∀ w3, Kp Fd V w3 → Calls Try.prog 26 #[.pointer (some ⟨w2.heap.size, 0, none⟩), .agg #[.int .i64 xp, .int .i64 xs, .int .i64 xt, .string xg]] w3 fun e w' => e = .returned (.int .i64 (A : Int)) ∧ RefAt w' w2.heap.size (more Fr w3 w') size late now all' ∧ Kp Fr w3 w') := by
          intro w3 hk
          rw [hall', hAe]
          exact radd_any (⟨xp, xs, xt, xg⟩ : Sg) (HBO3.out.rleft hk) h0 h1 h2 hnow (by omega) (fun b h => Nat.lt_of_lt_of_le (HBO3.out.lr b h).2 hk.size) htag
        clear hAe hall'
        go_region_held3 (fun W => W.cell? ⟨wr.heap.size, 3, none⟩ = some (.int .i64 xp) ∧ W.cell? ⟨wr.heap.size, 4, none⟩ = some (.int .i64 xs) ∧ W.cell? ⟨wr.heap.size, 5, none⟩ = some (.int .i64 xt) ∧ W.cell? ⟨wr.heap.size, 6, none⟩ = some (.string xg)) (go_keep)
          (first | (go_at_call 25; refine HADD.out.mono ?_; rintro e w3 ⟨rfl, hd3, hk3⟩; have hA : w3.heap[wr.heap.size]? = some (.cells #[.string kd, .int .i64 an, .string ast, .int .i64 xp, .int .i64 xs, .int .i64 xt, .string xg] 63) := (hk3.block _ (Array.getElem?_eq_some_iff.1 HAB.out).1 HFA.out.1).trans HAB.out; have t3 : w3.cell? ⟨wr.heap.size, 3, none⟩ = some (.int .i64 xp) := (by simp [World.cell?, hA]); have t4 : w3.cell? ⟨wr.heap.size, 4, none⟩ = some (.int .i64 xs) := (by simp [World.cell?, hA]); have t5 : w3.cell? ⟨wr.heap.size, 5, none⟩ = some (.int .i64 xt) := (by simp [World.cell?, hA]); have t6 : w3.cell? ⟨wr.heap.size, 6, none⟩ = some (.string xg) := (by simp [World.cell?, hA]); have HD3 : Hid (DeskAt w3 db (more Fd V w3) size late now all' (closedN size late now)) := hd3; have HK3 : Hid (Kp Fd V w3) := hk3; have HA3 : Hid (w3.heap[wr.heap.size]? = some (.cells #[.string kd, .int .i64 an, .string ast, .int .i64 xp, .int .i64 xs, .int .i64 xt, .string xg] 63)) := hA; clear hd3 hk3 hA) | (go_at_call 26; refine (HRADD.out _ HK3.out).mono ?_; rintro e w4 ⟨rfl, hr4, hk4⟩; have hA : w4.heap[wr.heap.size]? = some (.cells #[.string kd, .int .i64 an, .string ast, .int .i64 xp, .int .i64 xs, .int .i64 xt, .string xg] 63) := (hk4.block _ (Array.getElem?_eq_some_iff.1 HA3.out).1 HFA.out.2).trans HA3.out; have t3 : w4.cell? ⟨wr.heap.size, 3, none⟩ = some (.int .i64 xp) := (by simp [World.cell?, hA]); have t4 : w4.cell? ⟨wr.heap.size, 4, none⟩ = some (.int .i64 xs) := (by simp [World.cell?, hA]); have t5 : w4.cell? ⟨wr.heap.size, 5, none⟩ = some (.int .i64 xt) := (by simp [World.cell?, hA]); have t6 : w4.cell? ⟨wr.heap.size, 6, none⟩ = some (.string xg) := (by simp [World.cell?, hA]); have HR4 : Hid (RefAt w4 w2.heap.size (more Fr w3 w4) size late now all') := hr4; have HK4 : Hid (Kp Fr w3 w4) := hk4; clear hr4 hk4 hA) | (go_at_call 11; refine (same_any A _).mono ?_; rintro e w5 ⟨rfl, rfl⟩))
        have HFIN : Hid (Both w.heap.size w5 db w2.heap.size size late now all' (more Fd V w3) (more Fr w3 w5)) := HBO3.out.turn (Nat.le_trans hsz (by have := HBE3.out.size; have := (Array.getElem?_eq_some_iff.1 HAB.out).1; omega)) HD3.out HK3.out HR4.out HK4.out
        have HBEF : Hid (Below w.heap.size w w5) := (HBE3.out.trans (HK3.out.below HBE3.out.size (fun q hq hF => by have := (HBO3.out.ld q hF).1; omega))).trans (HK4.out.below (Nat.le_trans HBE3.out.size HK3.out.size) (fun q hq hF => by have := (HBO3.out.lr q hF).1; omega))
        clear t3 t4 t5 t6 s3 s4 s5 s6 HADD HRADD HD3 HK3 HR4 HK4 HA3 HAB
        have c5 : w5.cell? ⟨w2.heap.size, 2, none⟩ = some (.int .i64 (now : Int)) := by obtain ⟨vv, dd⟩ := HFIN.out.r.out; exact dd.c2
        obtain ⟨cc, hcc⟩ : ∃ cc, cc = closedN size late now := ⟨_, rfl⟩
        have HNOW : Hid (∀ m, Calls Try.prog 27 #[.pointer (some ⟨db, 0, none⟩)] (w5.drewN m) fun e w' => e = .returned (.int .i64 (now : Int)) ∧ ∃ m', w' = w5.drewN m') := fun m => (now_any (HFIN.out.d.below (drewN_below _ m))).mono (fun _ _ h => ⟨h.1, m, h.2⟩)
        have HCL : Hid (∀ m, Calls Try.prog 28 #[.pointer (some ⟨db, 0, none⟩)] (w5.drewN m) fun e w' => e = .returned (.int .i64 (cc : Int)) ∧ ∃ m', w' = w5.drewN m') := fun m => (closed_is hcc (HFIN.out.d.below (drewN_below _ m)) h0 h1 h2 HNW.out).mono (fun _ _ h => ⟨h.1, by obtain ⟨q, hq⟩ := h.2; exact ⟨m + q, by rw [hq, World.drewN_drewN]⟩⟩)
        have HRC : Hid (∀ m, Calls Try.prog 29 #[.pointer (some ⟨w2.heap.size, 0, none⟩)] (w5.drewN m) fun e w' => e = .returned (.int .i64 (cc : Int)) ∧ ∃ m', w' = w5.drewN m') := fun m => (rclosed_is hcc (HFIN.out.r.below (drewN_below _ m)) h0 h1 h2 HNW.out).mono (fun _ _ h => ⟨h.1, by obtain ⟨q, hq⟩ := h.2; exact ⟨m + q, by rw [hq, World.drewN_drewN]⟩⟩)
        clear hcc
        go_wp2
        go_big_quiet (first | with_reducible exact HNOW.out _ | with_reducible exact HCL.out _ | with_reducible exact HRC.out _)
        go_wp2
        go_roundw
        case rel => exact ⟨k + 1, now, all', _, _, by omega, by go_num, HNW.out, HAL.out, HEP'.out, HFIN.out.below (drewN_below _ _), HBEF.out.trans ((drewN_below _ _).mono HBEF.out.size)⟩
        case measure => simp [intOf]; omega
end Go.Proofs.Ytllhfbnafemoeaa.EpA
