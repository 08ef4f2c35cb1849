/-
  What a watch's arePlaces, hasName and checkRules do to the world. · What a watch's Now, Epochs, Where, Parent and Warm do to the world. · What a watch's Alerts and Drops do to the world.
-/
import Derived.Test.YtmolafjalaeoaaaGreatDoorPas
import Derived.Test.YtmolafjalaeoaaaGreatDoorPap
namespace Go.Proofs.YtmolafjalaeoaaaGreatDoor.WaB
open Go.RowKit TkW WaM WaW Go.Maps
open RuM (Rl)
set_option maxRecDepth 100000
/-- Places of readers' antennas, as they lie. -/
def plr (pl : Nat → Nat → Int) (r : Nat) : Array Value := #[.int .i64 (pl r 0), .int .i64 (pl r 1), .int .i64 (pl r 2), .int .i64 (pl r 3)]
def plw (pl : Nat → Nat → Int) : Array Value := #[.int .i64 (pl 0 0), .int .i64 (pl 0 1), .int .i64 (pl 0 2), .int .i64 (pl 0 3), .int .i64 (pl 1 0), .int .i64 (pl 1 1), .int .i64 (pl 1 2), .int .i64 (pl 1 3), .int .i64 (pl 2 0), .int .i64 (pl 2 1), .int .i64 (pl 2 2), .int .i64 (pl 2 3), .int .i64 (pl 3 0), .int .i64 (pl 3 1), .int .i64 (pl 3 2), .int .i64 (pl 3 3)]
theorem idxP0 (pl : Nat → Nat → Int) (V : World) : (Instr.index 23 (.agg (plw pl)) (.int .i64 0)).run Tryz.prog V = .ok (.agg (plr pl 0)) V := by kernel_rfl
theorem idxP1 (pl : Nat → Nat → Int) (V : World) : (Instr.index 23 (.agg (plw pl)) (.int .i64 1)).run Tryz.prog V = .ok (.agg (plr pl 1)) V := by kernel_rfl
theorem idxP2 (pl : Nat → Nat → Int) (V : World) : (Instr.index 23 (.agg (plw pl)) (.int .i64 2)).run Tryz.prog V = .ok (.agg (plr pl 2)) V := by kernel_rfl
theorem idxP3 (pl : Nat → Nat → Int) (V : World) : (Instr.index 23 (.agg (plw pl)) (.int .i64 3)).run Tryz.prog V = .ok (.agg (plr pl 3)) V := by kernel_rfl
theorem idxP (pl : Nat → Nat → Int) (V : World) (r : Nat) (hr : r < 4) : (Instr.index 23 (.agg (plw pl)) (.int .i64 (r : Int))).run Tryz.prog V = .ok (.agg (plr pl r)) V := by
  match r, hr with
  | 0, _ => exact idxP0 pl V
  | 1, _ => exact idxP1 pl V
  | 2, _ => exact idxP2 pl V
  | 3, _ => exact idxP3 pl V
theorem idxA0 (pl : Nat → Nat → Int) (r : Nat) (V : World) : (Instr.index 22 (.agg (plr pl r)) (.int .i64 0)).run Tryz.prog V = .ok (.int .i64 (pl r 0)) V := by kernel_rfl
theorem idxA1 (pl : Nat → Nat → Int) (r : Nat) (V : World) : (Instr.index 22 (.agg (plr pl r)) (.int .i64 1)).run Tryz.prog V = .ok (.int .i64 (pl r 1)) V := by kernel_rfl
theorem idxA2 (pl : Nat → Nat → Int) (r : Nat) (V : World) : (Instr.index 22 (.agg (plr pl r)) (.int .i64 2)).run Tryz.prog V = .ok (.int .i64 (pl r 2)) V := by kernel_rfl
theorem idxA3 (pl : Nat → Nat → Int) (r : Nat) (V : World) : (Instr.index 22 (.agg (plr pl r)) (.int .i64 3)).run Tryz.prog V = .ok (.int .i64 (pl r 3)) V := by kernel_rfl
theorem idxA (pl : Nat → Nat → Int) (r : Nat) (V : World) (a : Nat) (ha : a < 4) : (Instr.index 22 (.agg (plr pl r)) (.int .i64 (a : Int))).run Tryz.prog V = .ok (.int .i64 (pl r a)) V := by
  match a, ha with
  | 0, _ => exact idxA0 pl r V
  | 1, _ => exact idxA1 pl r V
  | 2, _ => exact idxA2 pl r V
  | 3, _ => exact idxA3 pl r V
def plOk (pl : Nat → Nat → Int) : Prop := ∀ r a, r < 4 → a < 4 → -1 ≤ pl r a ∧ pl r a ≤ 7
set_option maxHeartbeats 1000000 in
theorem arePlaces_is (pl : Nat → Nat → Int) {b : Bool} (hb : b = true ↔ plOk pl) (w : World) :
    Calls Tryz.prog 34 #[.agg (plw pl)] w fun e w' => e = .returned (.bool b) ∧ Below w.heap.size w w' := by
  have HB : Hid (b = true ↔ plOk pl) := hb
  have HB0 : Hid (∀ o, Below w.heap.size w (w.alloc o)) := fun o => (Below.refl _ _).alloc (Nat.le_refl _) o
  clear hb
  go_enter Tryz.func34, Tryz.ntmps34
  unfold plw
  go_upto_region 2 with fail
  go_loopw [4, 6, 8] (fun _ _ i V => ∃ j : Nat, j ≤ 4 ∧ i = .int .i64 (j : Int) ∧ (∀ r a, r < j → a < 4 → -1 ≤ pl r a ∧ pl r a ≤ 7) ∧ Below w.heap.size w V) (fun _ _ i _ => 4 - (intOf i).toNat)
  case atStart => exact ⟨0, by omega, rfl, fun r a hr => by omega, HB0.out _⟩
  case round =>
    obtain ⟨j, hj, rfl, hok, hbl⟩ := hrel
    have HOK : Hid (∀ r a, r < j → a < 4 → -1 ≤ pl r a ∧ pl r a ≤ 7) := hok
    have HBL : Hid (Below w.heap.size w wr) := hbl
    clear hok hbl
    by_cases hlt : j < 4
    case neg =>
      have hI : ¬ (j : Int) < 4 := by omega
      have hbt : b = true := HB.out.2 (fun r a hr ha => HOK.out r a (by omega) ha)
      subst hbt
      go_wp2
      go_ret
      exact ⟨rfl, HBL.out⟩
    case pos =>
      have hI : (j : Int) < 4 := by omega
      have hi := idxP pl wr j hlt
      unfold plw plr at hi
      have HBA : Hid (∀ o, Below w.heap.size w (wr.alloc o)) := fun o => HBL.out.alloc HBL.out.size o
      go_wp2
      clear hi
      go_loopw [6, 12] (fun _ i V => ∃ m : Nat, m ≤ 4 ∧ i = .int .i64 (m : Int) ∧ (∀ a, a < m → -1 ≤ pl j a ∧ pl j a ≤ 7) ∧ Below w.heap.size w V) (fun _ i _ => 4 - (intOf i).toNat)
      case atStart => exact ⟨0, by omega, rfl, fun a ha => by omega, HBA.out _⟩
      case round =>
        obtain ⟨m, hm, rfl, hok2, hbl2⟩ := hrel
        have HOK2 : Hid (∀ a, a < m → -1 ≤ pl j a ∧ pl j a ≤ 7) := hok2
        have HBL2 : Hid (Below w.heap.size w wr) := hbl2
        clear hok2 hbl2
        by_cases hlt2 : m < 4
        case neg =>
          have hI2 : ¬ (m : Int) < 4 := by omega
          have HN : Hid (∀ r a, r < j + 1 → a < 4 → -1 ≤ pl r a ∧ pl r a ≤ 7) := fun r a hr ha => by
            by_cases hrj : r = j
            · rw [hrj]; exact HOK2.out a (by omega)
            · exact HOK.out r a (by omega) ha
          go_wp2
          go_roundw
          case rel => exact ⟨j + 1, by omega, by go_num, HN.out, HBL2.out⟩
          case measure => simp [intOf]; omega
        case pos =>
          have hI2 : (m : Int) < 4 := by omega
          have hi2 := idxA pl j wr m hlt2
          unfold plr at hi2
          cases hbt : btw (pl j m) (-1) 7 with
          | true =>
            have HN : Hid (∀ a, a < m + 1 → -1 ≤ pl j a ∧ pl j a ≤ 7) := fun a ha => by
              by_cases ham : a = m
              · rw [ham]; simpa [btw] using hbt
              · exact HOK2.out a (by omega)
            go_wp2_with fail
            refine (between_is hbt _).mono ?_
            rintro e w2 ⟨rfl, rfl⟩
            clear hi2 hbt
            go_wp2
            go_roundw
            case rel => exact ⟨m + 1, by omega, by go_num, HN.out, HBL2.out⟩
            case measure => simp [intOf]; omega
          | false =>
            have hbf : b = false := by
              cases b with
              | false => rfl
              | true =>
                have := HB.out.1 rfl j m hlt hlt2
                simp [btw] at hbt
                omega
            subst hbf
            go_wp2_with fail
            refine (between_is hbt _).mono ?_
            rintro e w2 ⟨rfl, rfl⟩
            clear hi2 hbt
            go_wp2
            go_ret
            exact ⟨rfl, HBL2.out⟩
/-- Rules wherever they lie. -/
structure RsOn (w : World) (q : Option Addr) (rs : List Rl) : Prop where
  at_ : rs ≠ [] → ∃ b o, q = some ⟨b, o, none⟩ ∧ b < w.heap.size ∧ ∀ k r, rs[k]? = some r → w.cell? ⟨b, o + k * 6, none⟩ = some (.string r.nm) ∧ w.cell? ⟨b, o + k * 6 + 1, none⟩ = some (.int .i64 r.k) ∧ w.cell? ⟨b, o + k * 6 + 1 + 1, none⟩ = some (.int .i64 r.f) ∧ w.cell? ⟨b, o + k * 6 + 1 + 1 + 1, none⟩ = some (.int .i64 r.t) ∧ w.cell? ⟨b, o + k * 6 + 1 + 1 + 1 + 1, none⟩ = some (.int .i64 r.wo) ∧ w.cell? ⟨b, o + k * 6 + 1 + 1 + 1 + 1 + 1, none⟩ = some (.int .i64 r.wi)
theorem RsOn.move {w w' : World} {q : Option Addr} {rs : List Rl} (h : RsOn w q rs) (hs : w.heap.size ≤ w'.heap.size) (hk : ∀ b o, q = some ⟨b, o, none⟩ → b < w.heap.size → w'.heap[b]? = w.heap[b]?) : RsOn w' q rs where
  at_ := fun hne => by
    obtain ⟨b, o, rfl, hlt, hc⟩ := h.at_ hne
    have e := hk b o rfl hlt
    refine ⟨b, o, rfl, Nat.lt_of_lt_of_le hlt hs, fun k r hr => ?_⟩
    have hx : ∀ i, w'.cell? ⟨b, i, none⟩ = w.cell? ⟨b, i, none⟩ := fun i => World.cell?_of_block e
    rw [hx, hx, hx, hx, hx, hx]
    exact hc k r hr
theorem RsOn.below {w w' : World} {q : Option Addr} {rs : List Rl} (h : RsOn w q rs) (hb : Below w.heap.size w w') : RsOn w' q rs := h.move hb.size (fun b _ _ hlt => hb.block b hlt)
theorem RsOn.take {w : World} {q : Option Addr} {rs : List Rl} (h : RsOn w q rs) (n : Nat) : RsOn w q (rs.take n) where
  at_ := fun hne => by
    obtain ⟨b, o, hq, hlt, hc⟩ := h.at_ (fun e => hne (by rw [e]; simp))
    exact ⟨b, o, hq, hlt, fun k r hr => hc k r (by rw [List.getElem?_take] at hr; split at hr; exact hr; cases hr)⟩
set_option maxHeartbeats 1000000 in
theorem hasName_is (rs : List Rl) (nm : ByteArray) (q : Option Addr) (cap : Nat) {b : Bool} (hb : b = true ↔ ∃ r, r ∈ rs ∧ r.nm = nm) (w : World) (h : RsOn w q rs) (hl : rs.length ≤ 6) :
    Calls Tryz.prog 72 #[.slice q rs.length cap, .string nm] w fun e w' => e = .returned (.bool b) ∧ Below w.heap.size w w' := by
  have HB : Hid (b = true ↔ ∃ r, r ∈ rs ∧ r.nm = nm) := hb
  have HR : Hid (RsOn w q rs) := h
  obtain ⟨n, hn⟩ : ∃ n, n = rs.length := ⟨_, rfl⟩
  have HN : Hid (n = rs.length) := hn
  rw [← hn] at hl ⊢
  clear hb h hn
  go_enter Tryz.func72, Tryz.ntmps72
  go_wp2
  go_loopw [6, 9] (fun _ i V => ∃ j : Nat, j ≤ n ∧ i = .int .i64 (j : Int) ∧ (∀ r, r ∈ rs.take j → r.nm ≠ nm) ∧ Below w.heap.size w V) (fun _ i _ => n - (intOf i).toNat)
  case atStart => exact ⟨0, by omega, rfl, fun r hr => by simp at hr, Below.refl _ _⟩
  case round =>
    obtain ⟨j, hj, rfl, hno, hbl⟩ := hrel
    have HNO : Hid (∀ r, r ∈ rs.take j → r.nm ≠ nm) := hno
    have HBL : Hid (Below w.heap.size w wr) := hbl
    by_cases hlt : j < n
    case neg =>
      have hI : ¬ (j : Int) < n := by omega
      have hbf : b = false := by
        cases b with
        | false => rfl
        | true =>
          obtain ⟨r, h1, h2⟩ := HB.out.1 rfl
          refine absurd h2 (HNO.out r ?_)
          rw [List.take_of_length_le (by rw [← HN.out]; omega)]
          exact h1
      subst hbf
      clear hno hbl
      go_wp2
      go_ret
      exact ⟨rfl, HBL.out⟩
    case pos =>
      have hI : (j : Int) < n := by omega
      have hj' : j < rs.length := by rw [← HN.out]; exact hlt
      have hne : rs ≠ [] := fun e => by rw [e] at hj'; simp at hj'
      obtain ⟨g, o, rfl, hg, hc⟩ := (HR.out.below hbl).at_ hne
      obtain ⟨k0, k1, k2, k3, k4, k5⟩ := hc j _ (List.getElem?_eq_getElem hj')
      have HTK : Hid (rs.take (j + 1) = rs.take j ++ [rs[j]]) := List.take_succ_eq_append_getElem hj'
      have HMEM : Hid (rs[j] ∈ rs) := List.getElem_mem hj'
      have HBA : Hid (∀ o, Below w.heap.size w (wr.alloc o)) := fun o => HBL.out.alloc HBL.out.size o
      generalize rs[j] = r at *
      obtain ⟨rn, rk, rf, rt, rw_, ri⟩ := r
      simp only at k0 k1 k2 k3 k4 k5
      clear hno hbl hc
      by_cases hnm : rn = nm
      · have hbt : b = true := HB.out.2 ⟨_, HMEM.out, hnm⟩
        subst hbt
        have he : (rn.toList == nm.toList) = true := TkA.sbeq_true hnm
        go_wp2
        go_ret
        exact ⟨rfl, HBA.out _⟩
      · have he : (rn.toList == nm.toList) = false := TkA.sbeq_false hnm
        have HNO2 : Hid (∀ r, r ∈ rs.take (j + 1) → r.nm ≠ nm) := fun r hr => by
          rw [HTK.out] at hr
          rcases List.mem_append.1 hr with hr | hr
          · exact HNO.out r hr
          · simp at hr
            rw [hr]
            exact hnm
        clear hnm
        go_wp2
        go_roundw
        case rel => exact ⟨j + 1, by omega, by go_num, HNO2.out, HBA.out _⟩
        case measure => simp [intOf]; omega
end Go.Proofs.YtmolafjalaeoaaaGreatDoor.WaB
namespace Go.Proofs.YtmolafjalaeoaaaGreatDoor.WaB
open Go.RowKit TkW WaM WaW Go.Maps
open TkM (Sg epOf told whr)
open TkA (wv)
open RuM (Rl)
set_option maxRecDepth 100000
section
variable {w : World} {wb : Nat} {ow : Nat → Nat} {c : Cf} {rs : List Rl} {s : St} {k : Nat}
set_option maxHeartbeats 400000 in
theorem now_any (h : WaK w wb ow c rs s k) :
    Calls Tryz.prog 30 #[.pointer (some ⟨wb, 0, none⟩)] w fun e w' => e = .returned (.int .i64 (s.now : Int)) ∧ w' = w := by
  obtain ⟨p, h⟩ := h.out
  have c29 := h.c29
  have HD : Hid (EpW.DeskAt w p.db (fun b => ow b = 3) c.len c.late s.now s.all (EpM.closedN c.len c.late s.now)) := h.desk
  clear h
  go_enter Tryz.func30, Tryz.ntmps30
  go_wp2_with fail
  refine (EpA.now_any HD.out).mono ?_
  rintro e w' ⟨rfl, rfl⟩
  go_wp2
  go_ret
  exact ⟨rfl, rfl⟩
set_option maxHeartbeats 400000 in
theorem epochs_any (h : WaK w wb ow c rs s k) :
    Calls Tryz.prog 25 #[.pointer (some ⟨wb, 0, none⟩)] w fun e w' => e = .returned (.int .i64 (s.cl c : Int)) ∧ ∃ q, w' = w.drewN q := by
  obtain ⟨p, h⟩ := h.out
  have c29 := h.c29
  have HD : Hid (EpW.DeskAt w p.db (fun b => ow b = 3) c.len c.late s.now s.all (EpM.closedN c.len c.late s.now)) := h.desk
  have h0 := h.cok.l0
  have h1 := h.cok.l1
  have h2 := h.cok.t1
  have h3 := h.tim
  clear h
  go_enter Tryz.func25, Tryz.ntmps25
  go_wp2_with fail
  refine (EpA.closed_any HD.out (by omega) h1 h2 h3).mono ?_
  rintro e w' ⟨rfl, q, rfl⟩
  go_wp2
  go_ret
  exact ⟨rfl, q, rfl⟩
theorem told_seen {E : List (List Sg)} {g : ByteArray} : told g E = true ↔ ∃ e, TkM.seenG g (epOf E e) = true := TkM.told_iff
set_option maxHeartbeats 400000 in
theorem where_any (g : ByteArray) (e : Int) (h : WaK w wb ow c rs s k) (hg : g.size ≤ 100000) :
    Calls Tryz.prog 29 #[.pointer (some ⟨wb, 0, none⟩), .string g, .int .i64 e] w fun x w' => x = .returned (.tuple #[.int .i64 (wv k (told g (Ep c s k)) e (whr g (epOf (Ep c s k)) c.W c.need e.toNat)).1, TkA.errV (wv k (told g (Ep c s k)) e (whr g (epOf (Ep c s k)) c.W c.need e.toNat)).2]) ∧ Below w.heap.size w w' := by
  obtain ⟨p, h⟩ := h.out
  have c30 := h.c30
  obtain ⟨who, ht, _⟩ := h.trk
  have hk : k ≤ 1000 := Nat.le_trans h.cls (Nat.le_trans EpM.closedN_le h.tim)
  have HC : Hid (Calls Tryz.prog 65 #[.pointer (some ⟨p.tb, 0, none⟩), .string g, .int .i64 e] w fun x w' => x = .returned (.tuple #[.int .i64 (wv k (told g (Ep c s k)) e (whr g (epOf (Ep c s k)) c.W c.need e.toNat)).1, TkA.errV (wv k (told g (Ep c s k)) e (whr g (epOf (Ep c s k)) c.W c.need e.toNat)).2]) ∧ Below w.heap.size w w') := TkA.where_any g e ht h.cok.w1 hk hg told_seen
  generalize (wv k (told g (Ep c s k)) e (whr g (epOf (Ep c s k)) c.W c.need e.toNat)) = v at *
  clear h ht
  go_enter Tryz.func29, Tryz.ntmps29
  go_wp2_with fail
  refine Calls.mono HC.out ?_
  rintro e w' ⟨rfl, hb⟩
  have HB : Hid (Below w.heap.size w w') := hb
  clear hb
  go_wp2
  go_ret2
  exact ⟨rfl, HB.out⟩
/-- Whom a tag is in. -/
def IsPar (c : Cf) (s : St) (k : Nat) (g : ByteArray) (e : Nat) (q : ByteArray) : Prop := ∃ f, InM.Prs InA.knd (epOf (Ep c s k)) c.W c.need c.span c.score f k ∧ q = f e g
/-- What Parent answers. -/
def PaV (c : Cf) (s : St) (k : Nat) (g : ByteArray) (e : Int) (q : ByteArray) : Prop :=
  if (wv k (told g (Ep c s k)) e (whr g (epOf (Ep c s k)) c.W c.need e.toNat)).2 = 0 then IsPar c s k g e.toNat q else q = ⟨#[]⟩
theorem parEx (h : WaK w wb ow c rs s k) (g : ByteArray) (e : Int) : ∃ q, PaV c s k g e q := by
  obtain ⟨p, h⟩ := h.out
  obtain ⟨F, f, _, hP, _⟩ := h.ins
  unfold PaV
  by_cases h0 : (wv k (told g (Ep c s k)) e (whr g (epOf (Ep c s k)) c.W c.need e.toNat)).2 = 0
  · exact ⟨f e.toNat g, by rw [if_pos h0]; exact ⟨f, hP, rfl⟩⟩
  · exact ⟨⟨#[]⟩, by rw [if_neg h0]⟩
theorem isPar_uniq {g : ByteArray} {e : Nat} {q q' : ByteArray} (he : e < k) (h : IsPar c s k g e q) (h' : IsPar c s k g e q') : q = q' := by
  obtain ⟨f, h1, rfl⟩ := h
  obtain ⟨f', h2, rfl⟩ := h'
  exact InM.Prs.unique h1 g (fun e he => h2 e g he) e he
set_option maxHeartbeats 1000000 in
theorem parent_any (g : ByteArray) (e : Int) {q : ByteArray} (h : WaK w wb ow c rs s k) (hg : g.size ≤ 100000) (hq : PaV c s k g e q) :
    Calls Tryz.prog 55 #[.pointer (some ⟨wb, 0, none⟩), .string g, .int .i64 e] w fun x w' => x = .returned (.tuple #[.string q, TkA.errV (wv k (told g (Ep c s k)) e (whr g (epOf (Ep c s k)) c.W c.need e.toNat)).2]) ∧ Below w.heap.size w w' := by
  have HW : Hid (Calls Tryz.prog 29 #[.pointer (some ⟨wb, 0, none⟩), .string g, .int .i64 e] w fun x w' => x = .returned (.tuple #[.int .i64 (wv k (told g (Ep c s k)) e (whr g (epOf (Ep c s k)) c.W c.need e.toNat)).1, TkA.errV (wv k (told g (Ep c s k)) e (whr g (epOf (Ep c s k)) c.W c.need e.toNat)).2]) ∧ Below w.heap.size w w') := where_any g e h hg
  have HH : Hid (WaK w wb ow c rs s k) := h
  by_cases h0 : (wv k (told g (Ep c s k)) e (whr g (epOf (Ep c s k)) c.W c.need e.toNat)).2 = 0
  · unfold PaV at hq
    rw [if_pos h0] at hq
    have he : 0 ≤ e ∧ e < (k : Int) := by
      unfold wv at h0
      split at h0
      · assumption
      · simp at h0
    obtain ⟨m, rfl⟩ : ∃ m : Nat, e = (m : Int) := ⟨e.toNat, by omega⟩
    rw [Int.toNat_natCast] at hq
    have HQ : Hid (IsPar c s k g m q) := hq
    rw [h0] at HW ⊢
    generalize (wv k (told g (Ep c s k)) (m : Int) (whr g (epOf (Ep c s k)) c.W c.need (m : Int).toNat)).1 = v at *
    have e0 : TkA.errV 0 = .nilIface := rfl
    rw [e0] at HW ⊢
    have hmk : m < k := by omega
    clear h0 he h hq e0
    go_enter Tryz.func55, Tryz.ntmps55
    go_wp2_with fail
    refine Calls.mono HW.out ?_
    rintro e w1 ⟨rfl, hb⟩
    obtain ⟨p, h1⟩ := (HH.out.below hb).out
    have c31 := h1.c31
    obtain ⟨F, f, hI, hP, _⟩ := h1.ins
    have hk : k ≤ 1000 := Nat.le_trans h1.cls (Nat.le_trans EpM.closedN_le h1.tim)
    have hfq : f m g = q := isPar_uniq hmk ⟨f, hP, rfl⟩ HQ.out
    have HC : Hid (Calls Tryz.prog 94 #[.pointer (some ⟨p.xb, 0, none⟩), .string g, .int .i64 (m : Int)] w1 fun x w' => x = .returned (.tuple #[.string q, .nilIface]) ∧ w' = w1) := hfq ▸ InA.parent_in g m hI hk hmk hg
    have HB : Hid (Below w.heap.size w w1) := hb
    clear h1 hI hP hb hfq
    go_wp2_with fail
    refine Calls.mono HC.out ?_
    rintro e w2 ⟨rfl, rfl⟩
    go_wp2
    go_ret2
    exact ⟨rfl, HB.out⟩
  · unfold PaV at hq
    rw [if_neg h0] at hq
    subst hq
    generalize (wv k (told g (Ep c s k)) e (whr g (epOf (Ep c s k)) c.W c.need e.toNat)) = v at *
    obtain ⟨v1, v2⟩ := v
    simp only at h0 HW ⊢
    have e0 : TkA.errV v2 = .iface 105 (.int .i64 (v2 : Int)) := by unfold TkA.errV; rw [if_neg h0]
    rw [e0] at HW ⊢
    clear h0 e0 h
    go_enter Tryz.func55, Tryz.ntmps55
    go_wp2_with fail
    refine Calls.mono HW.out ?_
    rintro e w1 ⟨rfl, hb⟩
    have HB : Hid (Below w.heap.size w w1) := hb
    clear hb
    go_wp2
    go_ret2
    exact ⟨rfl, HB.out⟩
end
end Go.Proofs.YtmolafjalaeoaaaGreatDoor.WaB
namespace Go.Proofs.YtmolafjalaeoaaaGreatDoor.WaB
open Go.RowKit TkW WaM WaW Go.Maps
open TkM (Sg epOf told whr)
open RuM (Rl)
set_option maxRecDepth 100000
theorem info86 : (Tryz.prog.info? 86).map (fun i => (i.zero, i.size, i.bytes)) = some (some (.agg #[.int .i64 0, .int .i64 0, .string ⟨#[]⟩]), 3, 32) := by kernel_rfl
theorem eqA_some (a : Addr) (n cap : Nat) (w : World) : (binOp BinOp.eql 77 (.slice (some a) n cap) (.slice none 0 0)).run Tryz.prog w = .ok (.bool false) w := by kernel_rfl
theorem eqA_none (w : World) : (binOp BinOp.eql 77 (.slice none 0 0) (.slice none 0 0)).run Tryz.prog w = .ok (.bool true) w := by kernel_rfl
set_option maxHeartbeats 1000000 in
theorem cloneA_any (A : List Al) (v : Value) (w : World) (h : w.ownsRow 0 86 3 v A.length (acs A)) (hn : A = [] → v = .slice none 0 0) (hA : A.length ≤ 100000) :
    Calls Tryz.prog 57 #[v] w fun e w' => ∃ u, e = .returned u ∧ w'.ownsRow w.heap.size 86 3 u A.length (acs A) ∧ Below w.heap.size w w' := by
  obtain ⟨i0, hi, hz0, hz1, hz2⟩ := info_parts info86
  have hown := h
  rcases h.2 with ⟨rfl, h0⟩ | ⟨g, cap, cur, rfl, h1⟩
  · have hx : A = [] := List.length_eq_zero_iff.1 h0
    subst hx
    clear hown h hn
    have he := eqA_none w
    go_enter Tryz.func57, Tryz.ntmps57
    go_wp2
    go_ret
    exact ⟨_, rfl, World.ownsRow_nil _ _ _ _, Below.refl _ _⟩
  · have hpos : 0 < A.length := by
      refine List.length_pos_iff.2 (fun e => ?_)
      have := hn e
      simp at this
    have he := eqA_some ⟨g, 0, none⟩ A.length cap w
    have HOW : Hid (w.ownsRow 0 86 3 (.slice (some ⟨g, 0, none⟩) A.length cap) A.length (acs A)) := hown
    have HM : Hid ((w.alloc (.cells #[] 86)).ownsRow w.heap.size 86 3 (.slice (some ⟨w.heap.size, 0, none⟩) 0 0) 0 []) := World.ownsRow_made w #[] 0 (Nat.le_refl _) (by decide) rfl
    have HL := acs_len A
    clear h1 h hown hn
    go_enter Tryz.func57, Tryz.ntmps57
    go_wp2_with (at_builtin; refine wpList_append_lies _ rfl _ _ 77 rfl w.heap.size 86 i0 (.agg #[.int .i64 0, .int .i64 0, .string ⟨#[]⟩]) 3 32 Tryz.underlying77 hi hz0 hz1 hz2 rfl (by decide) _ _ _ rfl HM.out ⟨g, 0, none⟩ A.length cap (acs A) rfl HL ?q1 (acs_one A) hpos ?q3 ?q4 ?q5 (w.heap.size + 1) ?q6 ?_)
    case q1 =>
      intro j u hj
      have hc := HOW.out.cells rfl j u hj
      rw [addr_add] at hc ⊢
      rw [((Below.refl w.heap.size w).alloc (Nat.le_refl _) _).cell (p := ⟨g, j, none⟩) (show g < _ from own_lt HOW.out rfl)]
      exact hc
    case q3 => unfold maxLen; omega
    case q4 => omega
    case q5 => simp
    case q6 => simp
    intro g2 cap2 w3 hown3 hgrow3 hat3 hlt3
    have hb : Below w.heap.size w w3 := ((Below.refl w.heap.size w).alloc (Nat.le_refl _) _).grown hgrow3 (by simp) (fun k hk => by simp [Value.ownBlock] at hk; omega)
    have HB : Hid (Below w.heap.size w w3) := hb
    have HO3 : Hid (w3.ownsRow w.heap.size 86 3 (.slice (some ⟨g2, 0, none⟩) A.length cap2) A.length (acs A)) := hown3
    clear hown3 hgrow3 hat3 hlt3 hb
    go_wp2
    go_ret
    exact ⟨_, rfl, HO3.out, HB.out⟩
section
variable {w : World} {wb : Nat} {ow : Nat → Nat} {c : Cf} {rs : List Rl} {s : St} {k : Nat}
theorem Wa.alen {p : Pt} (h : Wa w wb ow c rs s k p) : (alerts c rs s k).length ≤ 72000 := by
  refine Nat.le_trans (alerts_len c rs s k 12 h.few) ?_
  have h1 : k ≤ 1000 := Nat.le_trans h.cls (Nat.le_trans EpM.closedN_le h.tim)
  have h2 := h.rok.1
  calc k * (rs.length * 12) ≤ 1000 * (6 * 12) := Nat.mul_le_mul h1 (Nat.mul_le_mul h2 (Nat.le_refl _))
    _ = 72000 := rfl
set_option maxHeartbeats 400000 in
theorem alerts_any (h : WaK w wb ow c rs s k) :
    Calls Tryz.prog 23 #[.pointer (some ⟨wb, 0, none⟩)] w fun e w' => ∃ u, e = .returned u ∧ w'.ownsRow w.heap.size 86 3 u (alerts c rs s k).length (acs (alerts c rs s k)) ∧ Below w.heap.size w w' := by
  obtain ⟨p, h⟩ := h.out
  have c33 := h.c33
  have HC : Hid (Calls Tryz.prog 57 #[p.av] w fun e w' => ∃ u, e = .returned u ∧ w'.ownsRow w.heap.size 86 3 u (alerts c rs s k).length (acs (alerts c rs s k)) ∧ Below w.heap.size w w') := cloneA_any _ p.av w h.alr h.anil (by have := Wa.alen h; omega)
  clear h
  generalize alerts c rs s k = A at *
  go_enter Tryz.func23, Tryz.ntmps23
  go_wp2_with fail
  refine Calls.mono HC.out ?_
  rintro e w1 ⟨u, rfl, ho, hb⟩
  have HO : Hid (w1.ownsRow w.heap.size 86 3 u A.length (acs A)) := ho
  have HB : Hid (Below w.heap.size w w1) := hb
  clear ho hb
  go_wp2
  go_ret
  exact ⟨u, rfl, HO.out, HB.out⟩
end
end Go.Proofs.YtmolafjalaeoaaaGreatDoor.WaB
