/-
  A new watch, when nothing is wrong. · Acts in memory; which are light.
-/
import Derived.Test.YtmolafjalaeoaaaGreatDoorPax
namespace Go.Proofs.YtmolafjalaeoaaaGreatDoor.WaB
open Go.RowKit TkW WaM WaW Go.Maps
open RuM (Rl)
set_option maxRecDepth 100000
/-- Who owns what of a new watch. -/
def ow0 (wb kb a0 a1 a2 : Nat) (rv : Value) (b : Nat) : Nat :=
  if b = wb then 1 else if b = kb then 2 else if a0 ≤ b ∧ b < a0 + 2 then 3 else if a1 ≤ b ∧ b < a1 + 2 then 4 else if b = a2 then 5 else if rv.ownBlock = some b then 6 else 0
theorem closedN0 (len late : Nat) : EpM.closedN len late 0 = 0 := by
  unfold EpM.closedN
  rw [Nat.zero_sub, Nat.zero_div]
theorem made_wa {c : Cf} {rs : List Rl} {U : World} {a0 a1 a2 kb : Nat} {rv : Value}
    (hd : EpW.DeskAt U (a0 + 1) (fun b => a0 ≤ b ∧ b < a0 + 2) c.len c.late 0 [] 0)
    (ht : TrAt U (a1 + 1) (TkA.who0 a1 (a1 + 1)) c.W c.need 0 0 (TkM.epOf []))
    (hi : InA.InAt U a2 (a1 + 1) (fun b => b = a2) c.span c.score 0 (fun _ _ => ⟨#[]⟩))
    (hm : U.ownsMap (H := Value) Tryz.prog 9 unitElem kb 0 (.map []))
    (hr : U.ownsRow (kb + 1) 32 6 rv rs.length (rcs rs))
    (l1 : a0 + 2 ≤ a1) (l2 : a1 + 2 ≤ a2) (l3 : a2 < kb) (hok : c.Ok) (hn : Ck rs 0) :
    Wa (U.alloc (.cells (wcs c St.zero ⟨kb, a0 + 1, a1 + 1, a2, rv, .slice none 0 0⟩) 116)) U.heap.size (ow0 U.heap.size kb a0 a1 a2 rv) c rs St.zero 0 ⟨kb, a0 + 1, a1 + 1, a2, rv, .slice none 0 0⟩ := by
  have lk : kb < U.heap.size := hm.lt
  have hrl : ∀ b, rv.ownBlock = some b → kb + 1 ≤ b ∧ b < U.heap.size := fun b h => hr.lt b h
  have o1 : ow0 U.heap.size kb a0 a1 a2 rv U.heap.size = 1 := by unfold ow0; rw [if_pos rfl]
  have o2 : ow0 U.heap.size kb a0 a1 a2 rv kb = 2 := by unfold ow0; rw [if_neg (by omega), if_pos rfl]
  have o3 : ∀ b, ow0 U.heap.size kb a0 a1 a2 rv b = 3 ↔ a0 ≤ b ∧ b < a0 + 2 := fun b => by
    unfold ow0
    constructor
    · intro h
      by_cases h1 : b = U.heap.size
      · simp [h1] at h
      · by_cases h2 : b = kb
        · rw [if_neg h1, if_pos h2] at h; omega
        · by_cases h3 : a0 ≤ b ∧ b < a0 + 2
          · exact h3
          · rw [if_neg h1, if_neg h2, if_neg h3] at h
            split at h
            · omega
            · split at h
              · omega
              · split at h <;> omega
    · intro h
      rw [if_neg (by omega), if_neg (by omega), if_pos h]
  have o4 : ∀ b, a1 ≤ b ∧ b < a1 + 2 → ow0 U.heap.size kb a0 a1 a2 rv b = 4 := fun b h => by
    unfold ow0
    rw [if_neg (by omega), if_neg (by omega), if_neg (by omega), if_pos h]
  have o5 : ow0 U.heap.size kb a0 a1 a2 rv a2 = 5 := by
    unfold ow0
    rw [if_neg (by omega), if_neg (by omega), if_neg (by omega), if_neg (by omega), if_pos rfl]
  have o6 : ∀ b, rv.ownBlock = some b → ow0 U.heap.size kb a0 a1 a2 rv b = 6 := fun b h => by
    have := hrl b h
    unfold ow0
    rw [if_neg (by omega), if_neg (by omega), if_neg (by omega), if_neg (by omega), if_neg (by omega), if_pos h]
  have hkeep : ∀ b, b < U.heap.size → ∀ o, (U.alloc o).heap[b]? = U.heap[b]? := fun b hb o => Below.heap_alloc _ _ _ hb
  have hEp : Ep c St.zero 0 = [] := rfl
  have hal : alerts c rs St.zero 0 = [] := alerts_zero c rs St.zero
  refine ⟨Go.heap_alloc_new U _, o1, ?_, ⟨0, .map [], map_keep hm (hkeep kb lk _), rfl, fun g => rfl, rfl⟩, o2, ?_, ⟨TkA.who0 a1 (a1 + 1), ?_, ?_⟩, ⟨fun b => b = a2, fun _ _ => ⟨#[]⟩, ?_, InM.Prs.zero, fun b h => by rw [h]; exact o5⟩, ?_, o6, ?_, fun b h => by simp [Value.ownBlock] at h, fun _ => rfl, hok, Ck.zero hn, by decide, Nat.zero_le _, by decide, fun x hx => absurd hx List.not_mem_nil, by decide⟩
  · intro b hb
    rw [World.size_alloc]
    unfold ow0 at hb
    by_cases h1 : b = U.heap.size
    · omega
    · rw [if_neg h1] at hb
      by_cases h2 : b = kb
      · omega
      · rw [if_neg h2] at hb
        by_cases h3 : a0 ≤ b ∧ b < a0 + 2
        · omega
        · rw [if_neg h3] at hb
          by_cases h4 : a1 ≤ b ∧ b < a1 + 2
          · omega
          · rw [if_neg h4] at hb
            by_cases h5 : b = a2
            · omega
            · rw [if_neg h5] at hb
              by_cases h6 : rv.ownBlock = some b
              · have := hrl b h6; omega
              · rw [if_neg h6] at hb
                exact absurd rfl hb
  · have e : (fun b => ow0 U.heap.size kb a0 a1 a2 rv b = 3) = (fun b => a0 ≤ b ∧ b < a0 + 2) := funext fun b => propext (o3 b)
    show EpW.DeskAt _ (a0 + 1) (fun b => ow0 U.heap.size kb a0 a1 a2 rv b = 3) c.len c.late 0 [] (EpM.closedN c.len c.late 0)
    rw [e, closedN0 c.len c.late]
    exact hd.move (fun b hb _ => hkeep b hb _)
  · rw [hEp]
    exact ht.move (by simp) (fun b hb _ => hkeep b hb _)
  · intro b hb
    refine o4 b ?_
    rcases TkA.of_who0 hb with h | h <;> omega
  · exact hi.move (by simp) (fun b hb _ => hkeep b hb _)
  · exact own_base (own_keep hr (fun b h => hkeep b (hrl b h).2 _)) (Nat.zero_le _)
  · rw [hal]
    exact World.ownsRow_nil _ _ _ _
theorem wcs0 (c : Cf) (p : Pt) : wcs c St.zero p = #[.string ⟨#[]⟩, .int .i64 0, .int .i64 (c.pl 0 0), .int .i64 (c.pl 0 1), .int .i64 (c.pl 0 2), .int .i64 (c.pl 0 3), .int .i64 (-1), .string ⟨#[]⟩, .int .i64 0, .int .i64 (c.pl 1 0), .int .i64 (c.pl 1 1), .int .i64 (c.pl 1 2), .int .i64 (c.pl 1 3), .int .i64 (-1), .string ⟨#[]⟩, .int .i64 0, .int .i64 (c.pl 2 0), .int .i64 (c.pl 2 1), .int .i64 (c.pl 2 2), .int .i64 (c.pl 2 3), .int .i64 (-1), .string ⟨#[]⟩, .int .i64 0, .int .i64 (c.pl 3 0), .int .i64 (c.pl 3 1), .int .i64 (c.pl 3 2), .int .i64 (c.pl 3 3), .int .i64 (-1), .map (some p.kb), .pointer (some ⟨p.db, 0, none⟩), .pointer (some ⟨p.tb, 0, none⟩), .pointer (some ⟨p.xb, 0, none⟩), p.rv, p.av, .int .i64 0, .int .i64 0, .int .i64 0, .int .i64 0, .int .i64 0] := by
  rfl
set_option maxHeartbeats 1000000 in
theorem new_ok (c : Cf) (rs : List Rl) (q : Option Addr) (cap : Nat) (w : World) (hok : c.Ok) (hn : Ck rs 0) (hr : RsOn w q rs) (hq : q = none → rs = [] ∧ cap = 0) (hc : rs.length ≤ cap) (hsz : ∀ r, r ∈ rs → r.nm.size ≤ 100000) :
    Calls Tryz.prog 10 #[.agg (cfw (Cf.ci c)), .slice q rs.length cap] w fun e w' => ∃ wb ow, e = .returned (.tuple #[.pointer (some ⟨wb, 0, none⟩), .nilIface]) ∧ WaK w' wb ow c rs St.zero 0 ∧ (∀ b, ow b ≠ 0 → w.heap.size ≤ b) ∧ Below w.heap.size w w' := by
  have HD : Hid (∀ V : World, Calls Tryz.prog 31 #[.int .i64 (c.len : Int), .int .i64 (c.late : Int)] V fun e w' => e = .returned (.tuple #[.pointer (some ⟨V.heap.size + 1, 0, none⟩), .nilIface]) ∧ w'.heap.size = V.heap.size + 2 ∧ EpW.DeskAt w' (V.heap.size + 1) (fun b => V.heap.size ≤ b ∧ b < V.heap.size + 2) c.len c.late 0 [] 0 ∧ Below V.heap.size V w') := fun V => EpA.new_ok c.len c.late V hok.l0 hok.l1 hok.t1
  have HT : Hid (∀ V : World, Calls Tryz.prog 32 #[.int .i64 (c.W : Int), .int .i64 (c.need : Int)] V fun e w' => e = .returned (.tuple #[.pointer (some ⟨V.heap.size + 1, 0, none⟩), .nilIface]) ∧ w'.heap.size = V.heap.size + 2 ∧ TrAt w' (V.heap.size + 1) (TkA.who0 V.heap.size (V.heap.size + 1)) c.W c.need 0 0 (TkM.epOf []) ∧ Below V.heap.size V w') := fun V => TkA.new_ok c.W c.need V hok.w0 hok.w1 hok.n0 hok.n1
  have HI : Hid (∀ (tb : Nat) (V : World), Calls Tryz.prog 33 #[.pointer (some ⟨tb, 0, none⟩), .int .i64 (c.span : Int), .int .i64 (c.score : Int)] V fun e w' => e = .returned (.tuple #[.pointer (some ⟨V.heap.size, 0, none⟩), .nilIface]) ∧ w'.heap.size = V.heap.size + 1 ∧ InA.InAt w' V.heap.size tb (fun b => b = V.heap.size) c.span c.score 0 (fun _ _ => ⟨#[]⟩) ∧ Below V.heap.size V w') := fun tb V => InA.inNew_ok tb c.span c.score V hok.s0 hok.s1 hok.c0 hok.c1
  have HP : Hid (∀ V : World, Calls Tryz.prog 34 #[.agg (plw c.pl)] V fun e w' => e = .returned (.bool true) ∧ Below V.heap.size V w') := fun V => arePlaces_is c.pl (b := true) (by simp [plOk]; exact hok.pl) V
  have HQ : Hid (∀ V : World, Calls Tryz.prog 36 #[.agg (plw c.pl)] V fun e w' => e = .returned (.agg #[.string ⟨#[]⟩, .int .i64 0, .int .i64 (c.pl 0 0), .int .i64 (c.pl 0 1), .int .i64 (c.pl 0 2), .int .i64 (c.pl 0 3), .int .i64 (-1), .string ⟨#[]⟩, .int .i64 0, .int .i64 (c.pl 1 0), .int .i64 (c.pl 1 1), .int .i64 (c.pl 1 2), .int .i64 (c.pl 1 3), .int .i64 (-1), .string ⟨#[]⟩, .int .i64 0, .int .i64 (c.pl 2 0), .int .i64 (c.pl 2 1), .int .i64 (c.pl 2 2), .int .i64 (c.pl 2 3), .int .i64 (-1), .string ⟨#[]⟩, .int .i64 0, .int .i64 (c.pl 3 0), .int .i64 (c.pl 3 1), .int .i64 (c.pl 3 2), .int .i64 (c.pl 3 3), .int .i64 (-1)]) ∧ Below V.heap.size V w') := fun V => readersAt_any c.pl V
  have HR : Hid (∀ V : World, Below w.heap.size w V → Calls Tryz.prog 35 #[.slice q rs.length cap] V fun e w' => e = .returned .nilIface ∧ Below V.heap.size V w') := fun V hb => checkRules_is rs q cap hn V (hr.below hb) (fun r h => Nat.le_trans (hsz r h) (by decide)) hc (by have := (Ck.zero hn).1; omega)
  have HU : Hid (∀ V : World, Below w.heap.size w V → Calls Tryz.prog 37 #[.slice q rs.length cap] V fun e w' => ∃ u, e = .returned u ∧ w'.ownsRow V.heap.size 32 6 u rs.length (rcs rs) ∧ Below V.heap.size V w') := fun V hb => apart_any rs q cap V (hr.below hb) hq (Ck.zero hn).1 hsz
  have HB0 : Hid (∀ o, Below w.heap.size w (w.alloc o)) := fun o => (Below.refl _ _).alloc (Nat.le_refl _) o
  have HCF : Hid (∀ w' : World, Below (w.alloc (.cells (cfw (Cf.ci c)) 25)).heap.size (w.alloc (.cells (cfw (Cf.ci c)) 25)) w' → w'.heap[w.heap.size]? = some (.cells (cfw (Cf.ci c)) 25)) := fun w' hb => (hb.block w.heap.size (by simp)).trans (Go.heap_alloc_new w _)
  unfold cfw Cf.ci
  unfold plw at HP HQ
  simp only
  have HOK : Hid c.Ok := hok
  have HCK : Hid (Ck rs 0) := hn
  obtain ⟨m, hm⟩ : ∃ m, m = rs.length := ⟨_, rfl⟩
  have HM : Hid (m = rs.length) := hm
  rw [← hm] at HR HU ⊢
  clear hm hok hn hr hq hc hsz
  go_enter Tryz.func10, Tryz.ntmps10
  go_wp2_with fail
  refine (HD.out _).mono ?_
  rintro e w1 ⟨rfl, hs1, hd1, hb1⟩
  have HA1 : Hid (Below _ _ w1) := hb1
  have hcf := HCF.out w1 HA1.out
  have c2 : w1.cell? ⟨w.heap.size, 2, none⟩ = some (.int .i64 (c.W : Int)) := cf_cell hcf 2 _ rfl
  have c3 : w1.cell? ⟨w.heap.size, 3, none⟩ = some (.int .i64 (c.need : Int)) := cf_cell hcf 3 _ rfl
  have HD1 : Hid _ := hd1
  have HS1 : Hid _ := hs1
  clear hcf hb1 hd1 hs1
  go_wp2_with fail
  refine (HT.out _).mono ?_
  rintro e w2 ⟨rfl, hs2, hd2, hb2⟩
  have HA2 : Hid (Below _ _ w2) := HA1.out.trans (hb2.mono HA1.out.size)
  have hcf := HCF.out w2 HA2.out
  have c4 : w2.cell? ⟨w.heap.size, 4, none⟩ = some (.int .i64 (c.span : Int)) := cf_cell hcf 4 _ rfl
  have c5 : w2.cell? ⟨w.heap.size, 5, none⟩ = some (.int .i64 (c.score : Int)) := cf_cell hcf 5 _ rfl
  have HD2 : Hid _ := hd2
  have HS2 : Hid _ := hs2
  have HB2 : Hid _ := hb2
  clear hcf hb2 c2 c3 hd2 hs2
  go_wp2_with fail
  refine (HI.out _ _).mono ?_
  rintro e w3 ⟨rfl, hs3, hd3, hb3⟩
  have HA3 : Hid (Below _ _ w3) := HA2.out.trans (hb3.mono HA2.out.size)
  have hcf := HCF.out w3 HA3.out
  have c6 : w3.cell? ⟨w.heap.size, 6, none⟩ = some (.int .i64 (c.pl 0 0)) := cf_cell hcf 6 _ rfl
  have c7 : w3.cell? ⟨w.heap.size, 7, none⟩ = some (.int .i64 (c.pl 0 1)) := cf_cell hcf 7 _ rfl
  have c8 : w3.cell? ⟨w.heap.size, 8, none⟩ = some (.int .i64 (c.pl 0 2)) := cf_cell hcf 8 _ rfl
  have c9 : w3.cell? ⟨w.heap.size, 9, none⟩ = some (.int .i64 (c.pl 0 3)) := cf_cell hcf 9 _ rfl
  have c10 : w3.cell? ⟨w.heap.size, 10, none⟩ = some (.int .i64 (c.pl 1 0)) := cf_cell hcf 10 _ rfl
  have c11 : w3.cell? ⟨w.heap.size, 11, none⟩ = some (.int .i64 (c.pl 1 1)) := cf_cell hcf 11 _ rfl
  have c12 : w3.cell? ⟨w.heap.size, 12, none⟩ = some (.int .i64 (c.pl 1 2)) := cf_cell hcf 12 _ rfl
  have c13 : w3.cell? ⟨w.heap.size, 13, none⟩ = some (.int .i64 (c.pl 1 3)) := cf_cell hcf 13 _ rfl
  have c14 : w3.cell? ⟨w.heap.size, 14, none⟩ = some (.int .i64 (c.pl 2 0)) := cf_cell hcf 14 _ rfl
  have c15 : w3.cell? ⟨w.heap.size, 15, none⟩ = some (.int .i64 (c.pl 2 1)) := cf_cell hcf 15 _ rfl
  have c16 : w3.cell? ⟨w.heap.size, 16, none⟩ = some (.int .i64 (c.pl 2 2)) := cf_cell hcf 16 _ rfl
  have c17 : w3.cell? ⟨w.heap.size, 17, none⟩ = some (.int .i64 (c.pl 2 3)) := cf_cell hcf 17 _ rfl
  have c18 : w3.cell? ⟨w.heap.size, 18, none⟩ = some (.int .i64 (c.pl 3 0)) := cf_cell hcf 18 _ rfl
  have c19 : w3.cell? ⟨w.heap.size, 19, none⟩ = some (.int .i64 (c.pl 3 1)) := cf_cell hcf 19 _ rfl
  have c20 : w3.cell? ⟨w.heap.size, 20, none⟩ = some (.int .i64 (c.pl 3 2)) := cf_cell hcf 20 _ rfl
  have c21 : w3.cell? ⟨w.heap.size, 21, none⟩ = some (.int .i64 (c.pl 3 3)) := cf_cell hcf 21 _ rfl
  have HD3 : Hid _ := hd3
  have HS3 : Hid _ := hs3
  have HB3 : Hid _ := hb3
  clear hcf hb3 c4 c5 hd3 hs3
  go_wp2_with fail
  refine (HP.out _).mono ?_
  rintro e w4 ⟨rfl, hb4⟩
  have HA4 : Hid (Below _ _ w4) := HA3.out.trans (hb4.mono HA3.out.size)
  have HB4 : Hid _ := hb4
  clear hb4 c6 c7 c8 c9 c10 c11 c12 c13 c14 c15 c16 c17 c18 c19 c20 c21
  go_wp2_with fail
  refine (HR.out _ ((HB0.out _).trans (HA4.out.mono (HB0.out _).size))).mono ?_
  rintro e w5 ⟨rfl, hb5⟩
  have HB5 : Hid _ := hb5
  have HA5 : Hid (Below _ _ w5) := HA4.out.trans (hb5.mono HA4.out.size)
  have hcf := HCF.out w5 HA5.out
  have c6 : w5.cell? ⟨w.heap.size, 6, none⟩ = some (.int .i64 (c.pl 0 0)) := cf_cell hcf 6 _ rfl
  have c7 : w5.cell? ⟨w.heap.size, 7, none⟩ = some (.int .i64 (c.pl 0 1)) := cf_cell hcf 7 _ rfl
  have c8 : w5.cell? ⟨w.heap.size, 8, none⟩ = some (.int .i64 (c.pl 0 2)) := cf_cell hcf 8 _ rfl
  have c9 : w5.cell? ⟨w.heap.size, 9, none⟩ = some (.int .i64 (c.pl 0 3)) := cf_cell hcf 9 _ rfl
  have c10 : w5.cell? ⟨w.heap.size, 10, none⟩ = some (.int .i64 (c.pl 1 0)) := cf_cell hcf 10 _ rfl
  have c11 : w5.cell? ⟨w.heap.size, 11, none⟩ = some (.int .i64 (c.pl 1 1)) := cf_cell hcf 11 _ rfl
  have c12 : w5.cell? ⟨w.heap.size, 12, none⟩ = some (.int .i64 (c.pl 1 2)) := cf_cell hcf 12 _ rfl
  have c13 : w5.cell? ⟨w.heap.size, 13, none⟩ = some (.int .i64 (c.pl 1 3)) := cf_cell hcf 13 _ rfl
  have c14 : w5.cell? ⟨w.heap.size, 14, none⟩ = some (.int .i64 (c.pl 2 0)) := cf_cell hcf 14 _ rfl
  have c15 : w5.cell? ⟨w.heap.size, 15, none⟩ = some (.int .i64 (c.pl 2 1)) := cf_cell hcf 15 _ rfl
  have c16 : w5.cell? ⟨w.heap.size, 16, none⟩ = some (.int .i64 (c.pl 2 2)) := cf_cell hcf 16 _ rfl
  have c17 : w5.cell? ⟨w.heap.size, 17, none⟩ = some (.int .i64 (c.pl 2 3)) := cf_cell hcf 17 _ rfl
  have c18 : w5.cell? ⟨w.heap.size, 18, none⟩ = some (.int .i64 (c.pl 3 0)) := cf_cell hcf 18 _ rfl
  have c19 : w5.cell? ⟨w.heap.size, 19, none⟩ = some (.int .i64 (c.pl 3 1)) := cf_cell hcf 19 _ rfl
  have c20 : w5.cell? ⟨w.heap.size, 20, none⟩ = some (.int .i64 (c.pl 3 2)) := cf_cell hcf 20 _ rfl
  have c21 : w5.cell? ⟨w.heap.size, 21, none⟩ = some (.int .i64 (c.pl 3 3)) := cf_cell hcf 21 _ rfl
  clear hcf hb5
  go_wp2_with fail
  refine (HQ.out _).mono ?_
  rintro e w6 ⟨rfl, hb6⟩
  have HA6 : Hid (Below _ _ w6) := HA5.out.trans (hb6.mono HA5.out.size)
  have HB6 : Hid _ := hb6
  clear hb6 c6 c7 c8 c9 c10 c11 c12 c13 c14 c15 c16 c17 c18 c19 c20 c21
  have hmm := @run_makeMap Tryz.prog
  go_wp2_with fail
  refine (HU.out _ (((HB0.out _).trans (HA6.out.mono (HB0.out _).size)).alloc ((HB0.out _).trans (HA6.out.mono (HB0.out _).size)).size _)).mono ?_
  rintro e w7 ⟨u, rfl, hu, hb7⟩
  obtain ⟨uq, uc, rfl⟩ : ∃ uq uc, u = .slice uq m uc := by
    rcases hu.2 with ⟨rfl, h0⟩ | ⟨g, cap, cur, hv, _⟩
    · exact ⟨none, 0, by rw [h0]⟩
    · exact ⟨_, _, hv⟩
  have HU7 : Hid _ := hu
  have HB7 : Hid _ := hb7
  clear hu hb7
  have HFIN : Hid (WaK (w7.alloc (.cells (wcs c St.zero ⟨w6.heap.size, w.heap.size + 1 + 1, w1.heap.size + 1, w2.heap.size, .slice uq m uc, .slice none 0 0⟩) 116)) w7.heap.size (ow0 w7.heap.size w6.heap.size (w.heap.size + 1) w1.heap.size w2.heap.size (.slice uq m uc)) c rs St.zero 0 ∧ (∀ b, ow0 w7.heap.size w6.heap.size (w.heap.size + 1) w1.heap.size w2.heap.size (.slice uq m uc) b ≠ 0 → w.heap.size ≤ b) ∧ Below w.heap.size w (w7.alloc (.cells (wcs c St.zero ⟨w6.heap.size, w.heap.size + 1 + 1, w1.heap.size + 1, w2.heap.size, .slice uq m uc, .slice none 0 0⟩) 116))) := by
    have s1 := HS1.out
    have s2 := HS2.out
    have s3 := HS3.out
    rw [World.size_alloc] at s1
    have b2 := HB2.out
    have b3 := HB3.out
    have b4 := HB4.out
    have b5 := HB5.out
    have b6 := HB6.out
    have b67 : Below w6.heap.size w6 w7 := ((Below.refl _ w6).alloc (Nat.le_refl _) _).trans (HB7.out.mono (by simp))
    have b57 : Below w5.heap.size w5 w7 := b6.trans (b67.mono b6.size)
    have b47 : Below w4.heap.size w4 w7 := b5.trans (b57.mono b5.size)
    have b37 : Below w3.heap.size w3 w7 := b4.trans (b47.mono b4.size)
    have b27 : Below w2.heap.size w2 w7 := b3.trans (b37.mono b3.size)
    have b17 : Below w1.heap.size w1 w7 := b2.trans (b27.mono b2.size)
    have bw : Below w.heap.size w w7 := by
      have h1 := HA1.out
      have h0 : Below w.heap.size w (w.alloc (.cells (cfw (Cf.ci c)) 25)) := (Below.refl _ _).alloc (Nat.le_refl _) _
      have h2 : Below w.heap.size w w1 := h0.trans (h1.mono (by simp))
      exact h2.trans (b17.mono h2.size)
    have d1 := HD1.out
    rw [World.size_alloc] at d1
    have hu := HU7.out
    rw [World.size_alloc] at hu
    have hmn := HM.out
    subst hmn
    have hkb : w7.ownsMap (H := Value) Tryz.prog 9 unitElem w6.heap.size 0 (.map []) := map_keep (World.ownsMap_made w6 Tryz.prog 9 unitElem) (HB7.out.block w6.heap.size (by simp))
    have h63 : w3.heap.size ≤ w6.heap.size := Nat.le_trans b4.size (Nat.le_trans b5.size b6.size)
    have hw := made_wa (U := w7) (a0 := w.heap.size + 1) (a1 := w1.heap.size) (a2 := w2.heap.size) (kb := w6.heap.size) (rv := .slice uq rs.length uc) (c := c) (rs := rs)
      (d1.move (fun b hb _ => b17.block b hb)) (HD2.out.move b27.size (fun b hb _ => b27.block b hb)) (HD3.out.move b37.size (fun b hb _ => b37.block b hb)) hkb hu (by omega) (by omega) (by omega) HOK.out HCK.out
    refine ⟨⟨_, hw⟩, fun b hb => ?_, bw.alloc bw.size _⟩
    have hlt := bw.size
    have h71 := b17.size
    unfold ow0 at hb
    by_cases h1 : b = w7.heap.size
    · omega
    · rw [if_neg h1] at hb
      by_cases h2 : b = w6.heap.size
      · omega
      · rw [if_neg h2] at hb
        by_cases h3 : w.heap.size + 1 ≤ b ∧ b < w.heap.size + 1 + 2
        · omega
        · rw [if_neg h3] at hb
          by_cases h4 : w1.heap.size ≤ b ∧ b < w1.heap.size + 2
          · omega
          · rw [if_neg h4] at hb
            by_cases h5 : b = w2.heap.size
            · omega
            · rw [if_neg h5] at hb
              by_cases h6 : (Value.slice uq rs.length uc).ownBlock = some b
              · have := (World.ownsRow.lt hu b h6).1; omega
              · rw [if_neg h6] at hb
                exact absurd rfl hb
  clear HD1 HD2 HD3 HS1 HS2 HS3 HB2 HB3 HB4 HB5 HB6 HB7 HU7
  rw [wcs0] at HFIN
  go_wp2
  go_ret2
  exact ⟨_, _, rfl, HFIN.out⟩
end Go.Proofs.YtmolafjalaeoaaaGreatDoor.WaB
namespace Go.Proofs.YtmolafjalaeoaaaGreatDoor.WbA
open Go.RowKit TkW WaM WaW WaB Go.Maps
open RuM (Rl)
open TkM (Sg)
set_option maxRecDepth 100000
structure Ac where
  kd : ByteArray
  n : Int
  st : ByteArray
  x : Sg
structure AcAt (w : World) (b o : Nat) (a : Ac) : Prop where
  c0 : w.cell? ⟨b, o, none⟩ = some (.string a.kd)
  c1 : w.cell? ⟨b, o + 1, none⟩ = some (.int .i64 a.n)
  c2 : w.cell? ⟨b, o + 1 + 1, none⟩ = some (.string a.st)
  c3 : w.cell? ⟨b, o + 1 + 1 + 1, none⟩ = some (.int .i64 a.x.p)
  c4 : w.cell? ⟨b, o + 1 + 1 + 1 + 1, none⟩ = some (.int .i64 a.x.s)
  c5 : w.cell? ⟨b, o + 1 + 1 + 1 + 1 + 1, none⟩ = some (.int .i64 a.x.t)
  c6 : w.cell? ⟨b, o + 1 + 1 + 1 + 1 + 1 + 1, none⟩ = some (.string a.x.g)
theorem AcAt.keep {w w' : World} {b o : Nat} {a : Ac} (h : AcAt w b o a) (e : w'.heap[b]? = w.heap[b]?) : AcAt w' b o a where
  c0 := by rw [World.cell?_of_block (w := w) e]; exact h.c0
  c1 := by rw [World.cell?_of_block (w := w) e]; exact h.c1
  c2 := by rw [World.cell?_of_block (w := w) e]; exact h.c2
  c3 := by rw [World.cell?_of_block (w := w) e]; exact h.c3
  c4 := by rw [World.cell?_of_block (w := w) e]; exact h.c4
  c5 := by rw [World.cell?_of_block (w := w) e]; exact h.c5
  c6 := by rw [World.cell?_of_block (w := w) e]; exact h.c6
/-- A list of acts, below a base, wherever it lies. -/
structure AcsOn (B : Nat) (w : World) (p : Option Addr) (ac : List Ac) : Prop where
  sizes : ∀ a ∈ ac, a.st.size ≤ 9223372036854775807
  at_ : ac ≠ [] → ∃ b o, p = some ⟨b, o, none⟩ ∧ b < B ∧ ∀ k a, ac[k]? = some a → AcAt w b (o + k * 7) a
theorem AcsOn.below {B : Nat} {w w' : World} {p : Option Addr} {ac : List Ac} (h : AcsOn B w p ac) (hb : Below B w w') : AcsOn B w' p ac where
  sizes := h.sizes
  at_ := fun hne => by
    obtain ⟨b, o, h1, h2, h3⟩ := h.at_ hne
    exact ⟨b, o, h1, h2, fun k a hk => (h3 k a hk).keep (hb.block b h2)⟩
/-- How much an act counts. -/
def aw (a : Ac) : Nat := min a.st.size 500
def awS (ac : List Ac) (j : Nat) : Nat := ((ac.take j).map aw).sum
def aok (a : Ac) : Prop := ¬ (400 < a.st.size ∧ a.st.size ≤ 2000) ∧ ¬ 3000 < a.st.size
def light (ac : List Ac) (m : Nat) : Prop := ac.length ≤ m ∧ (∀ a, a ∈ ac → aok a) ∧ awS ac ac.length < 6000
theorem awS_succ {ac : List Ac} {j : Nat} {a : Ac} (h : ac[j]? = some a) : awS ac (j + 1) = awS ac j + aw a := by
  unfold awS
  rw [List.take_add_one, h]
  simp
theorem awS_le (ac : List Ac) (j : Nat) : awS ac j ≤ j * 500 := by
  induction j with
  | zero => simp [awS]
  | succ j ih =>
    cases h : ac[j]? with
    | none =>
      have : awS ac (j + 1) = awS ac j := by
        unfold awS
        rw [List.take_add_one, h]
        simp
      omega
    | some a =>
      rw [awS_succ h]
      unfold aw
      omega
set_option maxHeartbeats 1000000 in
theorem lightActs_is (ac : List Ac) (p : Option Addr) (cap m B : Nat) {r : Bool} (hr : r = true ↔ light ac m) (w : World) (h : AcsOn B w p ac) (hm : m ≤ 1000) (hl : ac.length ≤ 9223372036854775807) :
    Calls Tryz.prog 8 #[.slice p ac.length cap, .int .i64 (m : Int)] w fun e w' => e = .returned (.bool r) ∧ ∃ q, w' = w.drewN q := by
  have HR : Hid (r = true ↔ light ac m) := hr
  have HA : Hid (AcsOn B w p ac) := h
  obtain ⟨N, hNN⟩ : ∃ N, N = ac.length := ⟨_, rfl⟩
  have HNN : Hid (N = ac.length) := hNN
  rw [← hNN] at hl ⊢
  by_cases h6 : m < N
  case pos =>
    have e2 : r = false := by
      cases r with
      | false => rfl
      | true => have := (hr.1 rfl).1; omega
    subst e2
    have hI : (m : Int) < N := by omega
    clear hr h hNN
    go_enter Tryz.func8, Tryz.ntmps8
    go_wp2
    go_ret
    exact ⟨rfl, 0, rfl⟩
  case neg =>
    have hI : ¬ (m : Int) < N := by omega
    clear hr h hNN
    go_enter Tryz.func8, Tryz.ntmps8
    go_wp2
    go_loopw [5, 6] (fun n i V => ∃ j : Nat, j ≤ N ∧ i = .int .i64 (j : Int) ∧ n = .int .i64 (awS ac j : Int) ∧ (∀ a, a ∈ ac.take j → aok a) ∧ V = w) (fun _ i _ => N - (intOf i).toNat)
    case atStart => exact ⟨0, by omega, rfl, rfl, fun a ha => by simp at ha, rfl⟩
    case round =>
      obtain ⟨j, hj, rfl, rfl, hok, rfl⟩ := hrel
      have HOK : Hid (∀ a, a ∈ ac.take j → aok a) := hok
      clear hok
      by_cases hlt : j < N
      case neg =>
        have hII : ¬ (j : Int) < N := by omega
        have hjN : j = ac.length := by have := HNN.out; omega
        have hd : decide ((awS ac j : Int) < 6000) = r := by
          have hlight : light ac m ↔ awS ac j < 6000 := by
            constructor
            · intro h; rw [hjN]; exact h.2.2
            · intro h
              refine ⟨by omega, fun a ha => HOK.out a (by rw [hjN, List.take_length]; exact ha), by rw [← hjN]; exact h⟩
          have h1 := HR.out
          rw [hlight] at h1
          by_cases h2 : awS ac j < 6000
          · rw [h1.2 h2]
            exact decide_eq_true (by omega)
          · have : r = false := by
              cases r with
              | false => rfl
              | true => exact absurd (h1.1 rfl) h2
            rw [this]
            exact decide_eq_false (by omega)
        have HD : Hid _ := hd
        clear hd hjN
        go_wp2
        go_ret
        exact ⟨congrArg (fun b => Ending.returned (.bool b)) HD.out, 0, rfl⟩
      case pos =>
        have hII : (j : Int) < N := by omega
        have hj' : j < ac.length := by rw [← HNN.out]; exact hlt
        have hne : ac ≠ [] := fun e => by rw [e] at hj'; simp at hj'
        obtain ⟨g, o, rfl, hg, hc'⟩ := HA.out.at_ hne
        have hrj := List.getElem?_eq_getElem hj'
        have hsz := HA.out.sizes _ (List.getElem_mem hj')
        have k2 := (hc' j _ hrj).c2
        have HRJ : Hid (ac[j]? = some ac[j]) := hrj
        have HIN : Hid (ac[j] ∈ ac) := List.getElem_mem hj'
        have hSS := awS_succ hrj
        have hle := awS_le ac j
        generalize ac[j] = a at *
        clear hrj hc' hne
        by_cases hbad : aok a
        case neg =>
          have e2 : r = false := by
            cases r with
            | false => rfl
            | true => exact absurd ((HR.out.1 rfl).2.1 a HIN.out) hbad
          subst e2
          clear hSS hle
          by_cases h4 : 400 < a.st.size
          · have h4I : (400 : Int) < a.st.size := by omega
            by_cases h2 : a.st.size ≤ 2000
            · have h2I : (a.st.size : Int) ≤ 2000 := by omega
              clear hbad
              go_wp2
              go_ret
              exact ⟨rfl, 0, rfl⟩
            · have h2I : ¬ (a.st.size : Int) ≤ 2000 := by omega
              have h3I : (3000 : Int) < a.st.size := by unfold aok at hbad; omega
              clear hbad
              go_wp2
              go_ret
              exact ⟨rfl, 0, rfl⟩
          · unfold aok at hbad; omega
        case pos =>
          have HNX : Hid (∀ x, x ∈ ac.take (j + 1) → aok x) := fun x hx => by
            rw [List.take_add_one, HRJ.out] at hx
            rcases List.mem_append.1 hx with h1 | h1
            · exact HOK.out x h1
            · simp at h1; subst h1; exact hbad
          have h3I : ¬ (3000 : Int) < a.st.size := by unfold aok at hbad; omega
          have HSS : Hid ((awS ac j : Int) + min (a.st.size : Int) 500 = (awS ac (j + 1) : Int)) := by
            show _ = _
            rw [hSS]
            unfold aw
            omega
          have hsum : awS ac j ≤ 600000 := by omega
          by_cases h4 : 400 < a.st.size
          · have h4I : (400 : Int) < a.st.size := by omega
            have h2I : ¬ (a.st.size : Int) ≤ 2000 := by unfold aok at hbad; omega
            have h5I : ¬ (a.st.size : Int) ≤ 500 := by omega
            clear hbad hSS hle
            go_wp2
            go_roundw
            case rel => exact ⟨j + 1, by omega, by go_num, congrArg (Value.int .i64) HSS.out, HNX.out, trivial⟩
            case measure => simp [intOf]; omega
          · have h4I : ¬ (400 : Int) < a.st.size := by omega
            have h5I : (a.st.size : Int) ≤ 500 := by omega
            clear hbad hSS hle
            go_wp2
            go_roundw
            case rel => exact ⟨j + 1, by omega, by go_num, congrArg (Value.int .i64) HSS.out, HNX.out, trivial⟩
            case measure => simp [intOf]; omega
end Go.Proofs.YtmolafjalaeoaaaGreatDoor.WbA
