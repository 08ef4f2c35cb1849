/-
  Which rules are light; a watch is made. · What Tick does to the world.
-/
import Derived.Test.YtmolafjalaeoaaaGreatDoorPay
import Derived.Test.YtmolafjalaeoaaaGreatDoorPaw
namespace Go.Proofs.YtmolafjalaeoaaaGreatDoor.WbA
open Go.RowKit TkW WaM WaW WaB Go.Maps
open RuM (Rl)
set_option maxRecDepth 100000
def lightR (rs : List Rl) : Prop := rs.length ≤ 9 ∧ ∀ r, r ∈ rs → r.nm.size ≤ 50
set_option maxHeartbeats 1000000 in
theorem lightRules_is (rs : List Rl) (p : Option Addr) (cap : Nat) {b : Bool} (hb : b = true ↔ lightR rs) (w : World) (h : RsOn w p rs) (hl : rs.length ≤ 9223372036854775807) (hs : ∀ r, r ∈ rs → r.nm.size ≤ 9223372036854775807) :
    Calls Tryz.prog 9 #[.slice p rs.length cap] w fun e w' => e = .returned (.bool b) ∧ w' = w := by
  have HR : Hid (b = true ↔ lightR rs) := hb
  have HA : Hid (RsOn w p rs) := h
  have HS : Hid (∀ r, r ∈ rs → r.nm.size ≤ 9223372036854775807) := hs
  obtain ⟨N, hNN⟩ : ∃ N, N = rs.length := ⟨_, rfl⟩
  have HNN : Hid (N = rs.length) := hNN
  rw [← hNN] at hl ⊢
  by_cases h6 : 9 < N
  case pos =>
    have e2 : b = false := by
      cases b with
      | false => rfl
      | true => have := (hb.1 rfl).1; omega
    subst e2
    have hI : (9 : Int) < N := by omega
    clear hb h hNN hs
    go_enter Tryz.func9, Tryz.ntmps9
    go_wp2
    go_ret
    exact ⟨rfl, rfl⟩
  case neg =>
    have hI : ¬ (9 : Int) < N := by omega
    clear hb h hNN hs
    go_enter Tryz.func9, Tryz.ntmps9
    go_wp2
    go_loopw [3] (fun i V => ∃ j : Nat, j ≤ N ∧ i = .int .i64 (j : Int) ∧ (∀ a, a ∈ rs.take j → a.nm.size ≤ 50) ∧ V = w) (fun i _ => N - (intOf i).toNat)
    case atStart => exact ⟨0, by omega, rfl, fun a ha => by simp at ha, rfl⟩
    case round =>
      obtain ⟨j, hj, rfl, hok, rfl⟩ := hrel
      have HOK : Hid (∀ a, a ∈ rs.take j → a.nm.size ≤ 50) := hok
      clear hok
      by_cases hlt : j < N
      case neg =>
        have hII : ¬ (j : Int) < N := by omega
        have hd : b = true := HR.out.2 ⟨by have := HNN.out; omega, fun a ha => HOK.out a (by rw [List.take_of_length_le (by have := HNN.out; omega)]; exact ha)⟩
        subst hd
        go_wp2
        go_ret
        exact ⟨rfl, rfl⟩
      case pos =>
        have hII : (j : Int) < N := by omega
        have hj' : j < rs.length := by rw [← HNN.out]; exact hlt
        have hne : rs ≠ [] := fun e => by rw [e] at hj'; simp at hj'
        obtain ⟨g, o, rfl, hg, hc'⟩ := HA.out.at_ hne
        have hrj := List.getElem?_eq_getElem hj'
        have hsz := HS.out _ (List.getElem_mem hj')
        have k0 := (hc' j _ hrj).1
        have HRJ : Hid (rs[j]? = some rs[j]) := hrj
        have HIN : Hid (rs[j] ∈ rs) := List.getElem_mem hj'
        generalize rs[j] = a at *
        clear hrj hc' hne
        by_cases hbad : 50 < a.nm.size
        case pos =>
          have e2 : b = false := by
            cases b with
            | false => rfl
            | true => have := (HR.out.1 rfl).2 a HIN.out; omega
          subst e2
          have h5I : (50 : Int) < a.nm.size := by omega
          go_wp2
          go_ret
          exact ⟨rfl, rfl⟩
        case neg =>
          have HNX : Hid (∀ x, x ∈ rs.take (j + 1) → x.nm.size ≤ 50) := fun x hx => by
            rw [List.take_add_one, HRJ.out] at hx
            rcases List.mem_append.1 hx with h1 | h1
            · exact HOK.out x h1
            · simp at h1; subst h1; omega
          have h5I : ¬ (50 : Int) < a.nm.size := by omega
          go_wp2
          go_roundw
          case rel => exact ⟨j + 1, by omega, by go_num, HNX.out, trivial⟩
          case measure => simp [intOf]; omega
/-- A watch may be made of it. -/
def Good (x : Ci) (rs : List Rl) : Prop := lightR rs ∧ Fl x rs 0
set_option maxHeartbeats 1000000 in
theorem made_heavy (x : Ci) (rs : List Rl) (q : Option Addr) (cap : Nat) (w : World) (hr : RsOn w q rs) (hl : rs.length ≤ 9223372036854775807) (hs : ∀ r, r ∈ rs → r.nm.size ≤ 9223372036854775807) (h : ¬ lightR rs) :
    Calls Tryz.prog 19 #[.agg (cfw x), .slice q rs.length cap] w fun e w' => e = .returned (.tuple #[.pointer none, .bool false]) ∧ Below w.heap.size w w' := by
  have HL : Hid (∀ V : World, Below w.heap.size w V → Calls Tryz.prog 9 #[.slice q rs.length cap] V fun e w' => e = .returned (.bool false) ∧ w' = V) := fun V hb => lightRules_is rs q cap (b := false) (by constructor <;> intro k; cases k; exact absurd k h) V (hr.below hb) hl hs
  have HB0 : Hid (∀ o, Below w.heap.size w (w.alloc o)) := fun o => (Below.refl _ _).alloc (Nat.le_refl _) o
  generalize rs.length = m at *
  generalize cfw x = C at *
  clear hr hs h
  go_enter Tryz.func19, Tryz.ntmps19
  go_wp2_with fail
  refine (HL.out _ (HB0.out _)).mono ?_
  rintro e w1 ⟨rfl, rfl⟩
  go_wp2
  go_ret2
  exact ⟨rfl, HB0.out _⟩
theorem range_new {w' : World} {C : Array Value} {t : TypeId} {b : Nat} (h : w'.heap[b]? = some (.cells C t)) : w'.rangeAt b 0 C.toList := fun i v hv => by
  simp only [World.cell?, h, Option.isSome_none, Bool.false_eq_true, if_false, Nat.zero_add]
  rw [← hv, Array.getElem?_toList]
set_option maxHeartbeats 1000000 in
theorem made_bad (x : Ci) (rs : List Rl) (q : Option Addr) (cap : Nat) (w : World) {n : Nat} (hr : RsOn w q rs) (hc : rs.length ≤ cap) (h : lightR rs) (hn : Fl x rs n) (hn0 : n ≠ 0) :
    Calls Tryz.prog 19 #[.agg (cfw x), .slice q rs.length cap] w fun e w' => e = .returned (.tuple #[.pointer none, .bool false]) ∧ Below w.heap.size w w' := by
  have hsz : ∀ r, r ∈ rs → r.nm.size ≤ 9223372036854775807 := fun r hr => Nat.le_trans (h.2 r hr) (by decide)
  have hl : rs.length ≤ 9223372036854775807 := Nat.le_trans h.1 (by decide)
  have HL : Hid (∀ V : World, Below w.heap.size w V → Calls Tryz.prog 9 #[.slice q rs.length cap] V fun e w' => e = .returned (.bool true) ∧ w' = V) := fun V hb => lightRules_is rs q cap (b := true) (by simp [h]) V (hr.below hb) hl hsz
  have HN : Hid (∀ V : World, Below w.heap.size w V → Calls Tryz.prog 10 #[.agg (cfw x), .slice q rs.length cap] V fun e w' => e = .returned (.tuple #[.pointer none, .iface 105 (.int .i64 (n : Int))]) ∧ Below V.heap.size V w') := fun V hb => by
    rcases hn with ⟨h1, rfl⟩ | ⟨⟨h1, h2, h3, h4⟩, h5⟩
    · by_cases k1 : x.dk
      · by_cases k2 : x.tk
        · by_cases k3 : x.ik
          · exact new_bad4 x _ V k1 k2 k3 (fun k4 => h1 ⟨k1, k2, k3, k4⟩)
          · exact new_bad3 x _ V k1 k2 k3
        · exact new_bad2 x _ V k1 k2
      · exact new_bad1 x _ V k1
    · exact new_bad5 x rs q cap V h1 h2 h3 h4 h5 hn0 (hr.below hb) hsz hc hl
  have HB0 : Hid (∀ o, Below w.heap.size w (w.alloc o)) := fun o => (Below.refl _ _).alloc (Nat.le_refl _) o
  have HCF : Hid (∀ w' : World, Below (w.alloc (.cells (cfw x) 25)).heap.size (w.alloc (.cells (cfw x) 25)) w' → w'.heap[w.heap.size]? = some (.cells (cfw x) 25)) := fun w' hb => (hb.block w.heap.size (by simp)).trans (Go.heap_alloc_new w _)
  have hra := range_new (HCF.out _ (Below.refl _ _))
  have hi' : (Tryz.prog.info? 25).map (·.size) = some (cfw x).toList.length := by kernel_rfl
  generalize rs.length = m at *
  generalize cfw x = C at *
  clear hr hsz h hn hl
  go_enter Tryz.func19, Tryz.ntmps19
  go_wp2_with fail
  refine (HL.out _ (HB0.out _)).mono ?_
  rintro e w1 ⟨rfl, rfl⟩
  go_wp2_with (refine wpList_load_mid rfl 25 (.tmp 2) rfl w.heap.size 0 rfl C.toList _ hra Tryz.underlying25 rfl hi' ?_)
  rw [Array.toArray_toList]
  refine (HN.out _ (HB0.out _)).mono ?_
  rintro e w2 ⟨rfl, hb2⟩
  have HB2 : Hid (Below w.heap.size w w2) := (HB0.out _).trans (hb2.mono (HB0.out _).size)
  clear hb2 hra
  go_wp2
  go_ret2
  exact ⟨rfl, HB2.out⟩
set_option maxHeartbeats 1000000 in
theorem made_ok (c : Cf) (rs : List Rl) (q : Option Addr) (cap : Nat) (w : World) (hr : RsOn w q rs) (hq : q = none → rs = [] ∧ cap = 0) (hc : rs.length ≤ cap) (h : lightR rs) (hok : c.Ok) (hn : Ck rs 0) :
    Calls Tryz.prog 19 #[.agg (cfw (Cf.ci c)), .slice q rs.length cap] w fun e w' => ∃ wb ow, e = .returned (.tuple #[.pointer (some ⟨wb, 0, none⟩), .bool true]) ∧ WaK w' wb ow c rs St.zero 0 ∧ (∀ b, ow b ≠ 0 → w.heap.size ≤ b) ∧ Below w.heap.size w w' := by
  have hsz : ∀ r, r ∈ rs → r.nm.size ≤ 9223372036854775807 := fun r hr => Nat.le_trans (h.2 r hr) (by decide)
  have hl : rs.length ≤ 9223372036854775807 := Nat.le_trans h.1 (by decide)
  have HL : Hid (∀ V : World, Below w.heap.size w V → Calls Tryz.prog 9 #[.slice q rs.length cap] V fun e w' => e = .returned (.bool true) ∧ w' = V) := fun V hb => lightRules_is rs q cap (b := true) (by simp [h]) V (hr.below hb) hl hsz
  have HN : Hid (∀ V : World, Below w.heap.size w V → Calls Tryz.prog 10 #[.agg (cfw (Cf.ci c)), .slice q rs.length cap] V fun e w' => ∃ wb ow, e = .returned (.tuple #[.pointer (some ⟨wb, 0, none⟩), .nilIface]) ∧ WaK w' wb ow c rs St.zero 0 ∧ (∀ b, ow b ≠ 0 → V.heap.size ≤ b) ∧ Below V.heap.size V w') := fun V hb => new_ok c rs q cap V hok hn (hr.below hb) hq hc (fun r hr => Nat.le_trans (h.2 r hr) (by decide))
  have HB0 : Hid (∀ o, Below w.heap.size w (w.alloc o)) := fun o => (Below.refl _ _).alloc (Nat.le_refl _) o
  have HCF : Hid (∀ w' : World, Below (w.alloc (.cells (cfw (Cf.ci c)) 25)).heap.size (w.alloc (.cells (cfw (Cf.ci c)) 25)) w' → w'.heap[w.heap.size]? = some (.cells (cfw (Cf.ci c)) 25)) := fun w' hb => (hb.block w.heap.size (by simp)).trans (Go.heap_alloc_new w _)
  have hra := range_new (HCF.out _ (Below.refl _ _))
  have hi' : (Tryz.prog.info? 25).map (·.size) = some (cfw (Cf.ci c)).toList.length := by kernel_rfl
  obtain ⟨m, hm⟩ : ∃ m, m = rs.length := ⟨_, rfl⟩
  rw [← hm] at HL HN ⊢
  generalize cfw (Cf.ci c) = C at *
  clear hr hsz h hl hn hok hm hc hq
  go_enter Tryz.func19, Tryz.ntmps19
  go_wp2_with fail
  refine (HL.out _ (HB0.out _)).mono ?_
  rintro e w1 ⟨rfl, rfl⟩
  go_wp2_with (refine wpList_load_mid rfl 25 (.tmp 2) rfl w.heap.size 0 rfl C.toList _ hra Tryz.underlying25 rfl hi' ?_)
  rw [Array.toArray_toList]
  refine (HN.out _ (HB0.out _)).mono ?_
  rintro e w2 ⟨wb, ow, rfl, hk, hlo, hb2⟩
  have HB2 : Hid (Below w.heap.size w w2) := (HB0.out _).trans (hb2.mono (HB0.out _).size)
  have HK : Hid (WaK w2 wb ow c rs St.zero 0) := hk
  have HLO : Hid (∀ b, ow b ≠ 0 → w.heap.size ≤ b) := fun b hb => by
    have := hlo b hb
    rw [World.size_alloc] at this
    omega
  clear hb2 hra hk hlo
  go_wp2
  go_ret2
  exact ⟨wb, ow, rfl, HK.out, HLO.out, HB2.out⟩
end Go.Proofs.YtmolafjalaeoaaaGreatDoor.WbA
namespace Go.Proofs.YtmolafjalaeoaaaGreatDoor.EpA
open TkM (Sg)
open Go.RowKit EpM EpW TkW Go.Maps
set_option maxRecDepth 100000
theorem info75 : (Tryz.prog.info? 125).map (fun i => (i.zero, i.size, i.bytes)) = some (some (.agg #[.int .i64 0, .slice none 0 0]), 2, 32) := by kernel_rfl
section
variable {w : World} {db : Nat} {F : Nat → Prop} {size late now : Nat} {all : List Sg} {lo : Nat}
set_option maxHeartbeats 400000 in
theorem tick_bad (n : Int) (d : DeskAt w db F size late now all lo) (h3 : now ≤ 1000) (hn : ¬ (0 ≤ n ∧ n ≤ 1000 - now)) :
    Calls Tryz.prog 40 #[.pointer (some ⟨db, 0, none⟩), .int .i64 n] w fun e w' => e = .returned (.tuple #[.slice none 0 0, .iface 105 (.int .i64 1)]) ∧ w' = w := by
  obtain ⟨mb, m, D, h, d⟩ := d.out
  have c2 := d.c2
  clear d
  have b1 : btw n 0 (1000 - (now : Int)) = false := by simp [btw]; omega
  go_enter Tryz.func40, Tryz.ntmps40
  go_wp2_with fail
  refine (between_is b1 _).mono ?_
  rintro e w' ⟨rfl, rfl⟩
  go_wp2
  go_ret2
  exact ⟨rfl, rfl⟩
set_option maxHeartbeats 1000000 in
theorem tick_any (n : Nat) (d : DeskAt w db F size late now all (closedN size late now)) (hF : ∀ b, F b → b < w.heap.size) (h0 : 0 < size) (h1 : size ≤ 50) (h2 : late ≤ 50) (h3 : now + n ≤ 1000) (hal : all.length ≤ 100000) :
    Calls Tryz.prog 40 #[.pointer (some ⟨db, 0, none⟩), .int .i64 (n : Int)] w fun e w' => ∃ v, e = .returned (.tuple #[v, .nilIface]) ∧ EpsOwn w' w.heap.size F v (tells size all (closedN size late now) (closedN size late (now + n))) ∧ DeskAt w' db F size late (now + n) all (closedN size late (now + n)) ∧ Kp F w w' := by
  have hdb := d.lt
  obtain ⟨i0, hi, hz0, hz1, hz2⟩ := info_parts info75
  obtain ⟨c0, hc0⟩ : ∃ c, c = closedN size late now := ⟨_, rfl⟩
  obtain ⟨c1, hc1⟩ : ∃ c, c = closedN size late (now + n) := ⟨_, rfl⟩
  have hcc : c0 ≤ c1 := by rw [hc0, hc1]; exact closedN_mono (by omega)
  have hc9 : c1 ≤ 1000 := by rw [hc1]; exact Nat.le_trans closedN_le h3
  have HC1 : Hid (c1 = closedN size late (now + n)) := hc1
  rw [← hc0] at d
  rw [← hc0, ← hc1]
  have HC0 : Hid (c0 = closedN size late now) := hc0
  clear hc0 hc1
  have HD : Hid (DeskAt w db F size late now all c0) := d
  have c2 : w.cell? ⟨db, 2, none⟩ = some (.int .i64 (now : Int)) := by obtain ⟨mb, m, D, h, d⟩ := d.out; exact d.c2
  have z2 : w.frozen? ⟨db, 2, none⟩ = false := by obtain ⟨mb, m, D, h, d⟩ := d.out; exact d.fz 2
  clear d
  have b1 : btw (n : Int) 0 (1000 - (now : Int)) = true := by simp [btw]; omega
  go_enter Tryz.func40, Tryz.ntmps40
  go_wp2_with fail
  refine (between_is b1 _).mono ?_
  rintro e w1 ⟨rfl, hw1⟩
  subst hw1
  go_wp2_with fail
  refine (closed_is HC0.out HD.out h0 h1 h2 (by omega)).mono ?_
  rintro e w2 ⟨rfl, q, rfl⟩
  have HSt : Hid (DeskAt ((w1.drewN q).setCell ⟨db, 2, none⟩ (.int .i64 ((now : Int) + n))) db F size late (now + n) all c0) := by
    obtain ⟨mb, m, D, h, d⟩ := (HD.out.below (drewN_below _ q)).out
    exact ⟨mb, m, D, h, d.tick (now + n) (by omega)⟩
  have HKp : Hid (Kp F w1 ((w1.drewN q).setCell ⟨db, 2, none⟩ (.int .i64 ((now : Int) + n)))) := (below_kp (drewN_below _ q) F).trans (set_kp _ _ _ (by obtain ⟨mb, m, D, h, d⟩ := HD.out.out; exact d.fd))
  clear HD
  have HF : Hid (∀ b, F b → b < w1.heap.size) := hF
  clear hF
  go_wp2_with fail
  go_loopw [7, 8] (fun l i V => ∃ (k : Nat) (G : Nat → Prop), c0 ≤ k ∧ k ≤ c1 ∧ i = .int .i64 (k : Int) ∧ (∀ b, G b → F b) ∧ EpsOwn V w1.heap.size (fun b => F b ∧ ¬ G b) l (tells size all c0 k) ∧ DeskAt V db G size late (now + n) all k ∧ Kp F w1 V) (fun _ i _ => c1 - (intOf i).toNat)
  case atStart =>
    refine ⟨c0, F, Nat.le_refl _, hcc, rfl, fun _ h => h, ?_, HSt.out, HKp.out⟩
    rw [tells_nil all (Nat.le_refl _)]
    exact EpsOwn.nil _ _ _
  case round =>
    obtain ⟨k, G, hk0, hk1, rfl, hG, heo, hda, hkp⟩ := hrel
    have HG : Hid (∀ b, G b → F b) := hG
    have HEO : Hid (EpsOwn wr w1.heap.size (fun b => F b ∧ ¬ G b) u7 (tells size all c0 k)) := heo
    have HDA : Hid (DeskAt wr db G size late (now + n) all k) := hda
    have HK : Hid (Kp F w1 wr) := hkp
    have hsz : w1.heap.size ≤ wr.heap.size := hkp.size
    clear hG heo hda hkp HSt HKp
    go_wp2_with fail
    refine (closed_is HC1.out HDA.out h0 h1 h2 h3).mono ?_
    rintro e w2 ⟨rfl, q2, rfl⟩
    have HDA2 : Hid (DeskAt (wr.drewN q2) db G size late (now + n) all k) := HDA.out.below (drewN_below _ _)
    have HEO2 : Hid (EpsOwn (wr.drewN q2) w1.heap.size (fun b => F b ∧ ¬ G b) u7 (tells size all c0 k)) := HEO.out.below (drewN_below _ _)
    have HK2 : Hid (Kp F w1 (wr.drewN q2)) := HK.out.trans (below_kp (drewN_below _ _) F)
    have hsz2 : w1.heap.size ≤ (wr.drewN q2).heap.size := hsz
    clear HDA HEO HK hsz
    generalize wr.drewN q2 = V at *
    by_cases hlt : k < c1
    case neg =>
      have hkk : k = c1 := by omega
      subst hkk
      have hI : ¬ (k : Int) < k := by omega
      clear hlt
      go_wp2
      go_ret2
      refine ⟨_, rfl, HEO2.out.mono (fun b h => h.1), HDA2.out.mono (fun b _ h => HG.out b h), HK2.out⟩
    case pos =>
      have hI : (k : Int) < c1 := by omega
      go_wp2_with fail
      refine (take_any HDA2.out (by omega) hal).mono ?_
      rintro e w3 ⟨v, rfl, hrow, hvb, hda3, hkp3⟩
      obtain ⟨p, cap, rfl, hsg⟩ := EpW.own_sgs (by rw [← sorted_length (grp size all k)] at hrow; exact hrow)
      obtain ⟨L, hL⟩ : ∃ L, L = sorted (grp size all k) := ⟨_, rfl⟩
      rw [← hL] at hsg hvb hda3 ⊢
      have HLL : Hid (L = sorted (grp size all k)) := hL
      have HSG : Hid (SgsOn w3 p L) := hsg
      have HVB : Hid (∀ b, (Value.slice p L.length cap).ownBlock = some b → G b ∧ b < V.heap.size) := hvb
      have HDA3 : Hid (DeskAt w3 db (less G (Value.slice p L.length cap)) size late (now + n) all (k + 1)) := hda3
      have HK3 : Hid (Kp G V w3) := hkp3
      have hsz3 : V.heap.size ≤ w3.heap.size := hkp3.size
      have heo3 : EpsOwn w3 w1.heap.size (fun b => F b ∧ ¬ G b) u7 (tells size all c0 k) := HEO2.out.move hkp3.size (fun b hb h => hkp3.block b hb (fun hg => by
        rcases h with h | h
        · have := HF.out b (HG.out b hg); omega
        · exact h.2 hg))
      have HNEW : Hid (∀ b, u7.ownBlock = some b → w1.heap.size ≤ b) := fun b hb => by
        obtain ⟨ps, _, ho, _⟩ := heo3.out
        exact (ho.lt b hb).1
      obtain ⟨ps, hpl, hpo, hpr⟩ := ((heo3.mono (G' := fun b => F b ∧ ¬ less G (Value.slice p L.length cap) b) (fun b h => ⟨h.1, fun g => h.2 g.1⟩)).alloc (.cells #[.int .i64 (k : Int), .slice p L.length cap] 125)).out
      have HPR : Hid (∀ (j : Nat) (e : Nat × List Sg) (pc : Option Addr × Nat), (tells size all c0 k)[j]? = some e → ps[j]? = some pc → SgsOn (w3.alloc (.cells #[.int .i64 (k : Int), .slice p L.length cap] 125)) pc.1 e.2 ∧ (e.2 ≠ [] → ∃ b o, pc.1 = some ⟨b, o, none⟩ ∧ (F b ∧ ¬ less G (Value.slice p L.length cap) b) ∧ u7.ownBlock ≠ some b)) := hpr
      have HPL : Hid (ps.length = (tells size all c0 k).length) := hpl
      have hTl : (tells size all c0 k).length ≤ 1000 := by unfold tells; simp; omega
      clear hrow hL hsg hvb hda3 hkp3 heo3 hpl hpr HDA2 HEO2
      go_wp2_with (at_builtin; refine wpList_append_lies _ rfl _ _ 120 rfl w1.heap.size 125 i0 (.agg #[.int .i64 0, .slice none 0 0]) 2 32 Tryz.underlying120 hi hz0 hz1 hz2 rfl (by decide) _ _ _ rfl hpo ⟨w3.heap.size, 0, none⟩ 1 1 [.int .i64 (k : Int), .slice p L.length cap] rfl rfl ?q1 ?q2 (by omega) ?q3 ?q4 ?q5 (w3.heap.size + 1) ?q6 ?_)
      case q1 =>
        intro j u hj
        match j, hj with
        | 0, hj => simp at hj; subst hj; simp [Addr.add]
        | 1, hj => simp at hj; subst hj; simp [Addr.add]
      case q2 => intro u hu; simp at hu; rcases hu with rfl | rfl <;> rfl
      case q3 => unfold maxLen; omega
      case q4 => omega
      case q5 => simp; omega
      case q6 => simp
      intro g cap' w4 hown4 hgrow4 hat hlt4
      have hk4 : Kp (fun b => w1.heap.size ≤ b) w3 w4 := (alloc_kp _ w3 _).trans (grown_kp hgrow4 (fun b hb => HNEW.out b hb))
      have HEO4 : Hid (EpsOwn w4 w1.heap.size (fun b => F b ∧ ¬ less G (Value.slice p L.length cap) b) (.slice (some ⟨g, 0, none⟩) ((tells size all c0 k).length + 1) cap') (tells size all c0 (k + 1))) := by
        show EpsOwn _ _ _ _ _
        rw [tells_snoc all hk0, ← HLL.out]
        refine EpsOwn.snoc (p := p) (c := cap) (f := (k, L)) HPL.out HPR.out hown4 hgrow4 (by rcases hat with h | h; exact Or.inl h; exact Or.inr (by rw [h]; simp)) (HSG.out.move (by simp) (fun b o _ hb => Below.heap_alloc _ _ _ hb)) ?_
        intro hne
        obtain ⟨b, o, hp, _⟩ := HSG.out.at_ hne
        have hb := HVB.out b (by rw [hp]; rfl)
        refine ⟨b, o, hp, ⟨HG.out b hb.1, fun h => h.2 (by rw [hp]; rfl)⟩, fun e => ?_⟩
        have h1 := HNEW.out b e
        have h2 := HF.out b (HG.out b hb.1)
        omega
      have HDA4 : Hid (DeskAt w4 db (less G (Value.slice p L.length cap)) size late (now + n) all (k + 1)) := HDA3.out.move (fun b hb h => hk4.block b hb (fun h' => by
        have h2 := HF.out b (HG.out b h.1)
        omega))
      have HK4 : Hid (Kp F w1 w4) := (HK2.out.then HK3.out (fun b _ h => HG.out b h)).then hk4 (fun b hb h => by omega)
      clear hown4 hgrow4 hat hlt4 hk4 hpo
      go_wp2
      go_roundw
      case rel => exact ⟨k + 1, _, by omega, by omega, by go_num, fun b h => HG.out b h.1, HEO4.out, HDA4.out, HK4.out⟩
      case measure => simp [intOf]; omega
end
end Go.Proofs.YtmolafjalaeoaaaGreatDoor.EpA
