/-
  What tracked does to the world.
-/
import Derived.Test.YtnahkonklkcbeabGreatDoorTkU
namespace Go.Proofs.YtnahkonklkcbeabGreatDoor.TkA
open Go.RowKit TkM TkW Go.Maps
set_option maxRecDepth 100000

/-- The epochs that may be told. -/
def oks (E : List (List Sg)) : List (List Sg) := E.filter (fun l => l.all okS)
theorem oks_take {E : List (List Sg)} {k : Nat} (hk : k < E.length) : oks (E.take (k + 1)) = if E[k].all okS = true then oks (E.take k) ++ [E[k]] else oks (E.take k) := by
  unfold oks
  rw [List.take_add_one, List.getElem?_eq_getElem hk, List.filter_append]
  by_cases h : E[k].all okS = true
  · rw [if_pos h]; simp [h]
  · rw [if_neg h]; simp [h]
theorem oks_len (E : List (List Sg)) (k : Nat) : (oks (E.take k)).length ≤ k := by
  unfold oks
  have h1 := List.length_filter_le (fun l => l.all okS) (E.take k)
  have h2 : (E.take k).length ≤ k := by rw [List.length_take]; omega
  omega
theorem epc_snoc (E : List (List Sg)) (l : List Sg) : epc (epOf E) E.length l = epOf (E ++ [l]) := by
  funext e
  rw [epOf_snoc]
  rfl
theorem tracked_bad (W need : Int) (a : Option Addr) (N cap : Nat) (w : World) (h : ¬ (1 ≤ W ∧ W ≤ 8 ∧ 1 ≤ need ∧ need ≤ W)) :
    Calls Tryz.prog 13 #[.int .i64 W, .int .i64 need, .slice a N cap] w fun e w' => e = .returned (.tuple #[.pointer none, .pointer none, .bool true, .bool true]) ∧ w' = w := by
  have hcs : decide (W < 1) = true ∨ (decide (W < 1) = false ∧ decide (8 < W) = true) ∨ (decide (W < 1) = false ∧ decide (8 < W) = false ∧ decide (need < 1) = true) ∨ (decide (W < 1) = false ∧ decide (8 < W) = false ∧ decide (need < 1) = false ∧ decide (W < need) = true) := by
    simp
    omega
  have HN : Hid (¬ (1 ≤ W ∧ W ≤ 8 ∧ 1 ≤ need ∧ need ≤ W)) := h
  clear h
  rcases hcs with h1 | ⟨h1, h2⟩ | ⟨h1, h2, h3⟩ | ⟨h1, h2, h3, h4⟩
  all_goals
    go_enter Tryz.func13, Tryz.ntmps13
    go_wp2_with fail
    refine (new_bad W need w HN.out).mono ?_
    rintro e w2 ⟨rfl, hw2⟩
    subst hw2
    go_wp2_with fail
    refine (same_err 1 _ (by omega)).mono ?_
    rintro e w3 ⟨rfl, hw3⟩
    subst hw3
    go_wp2
    exact bodyPost_ret (v := .tuple #[.pointer none, .pointer none, .bool true, .bool true]) (by simp [results, Tryz.results13, go_sem]) rfl ⟨rfl, rfl⟩
theorem own_read {V : World} {base g n cap : Nat} {l : List Sg} {z : Sg} (h : V.ownsRow base 53 4 (.slice (some ⟨g, 0, none⟩) n cap) n (sgcs (l ++ [z]))) : SgsOn V (some ⟨g, 0, none⟩) l := by
  refine ⟨fun _ => ⟨g, 0, rfl, own_lt h rfl, fun k x hx => ?_⟩⟩
  have hk : k < l.length := by
    rcases Nat.lt_or_ge k l.length with h | h
    · exact h
    · rw [List.getElem?_eq_none h] at hx; cases hx
  have hx' : (l ++ [z])[k]? = some x := by rw [List.getElem?_append_left hk]; exact hx
  have hc : ∀ j u, j < 4 → (sgc x)[j]? = some u → V.cell? ⟨g, 0 + k * 4 + j, none⟩ = some u := by
    intro j u hj hu
    have := h.cells (g := g) rfl (k * 4 + j) u (by rw [sgcs_at (l ++ [z]) k j x hx' hj]; exact hu)
    rw [addr_add] at this
    rw [Nat.zero_add]
    exact this
  exact ⟨hc 0 _ (by omega) rfl, hc 1 _ (by omega) rfl, hc 2 _ (by omega) rfl, hc 3 _ (by omega) rfl⟩
/-- A new track and a new one of the document. -/
theorem bth_new {w w1 w2 : World} {W need : Nat} (hs1 : w1.heap.size = w.heap.size + 2) (hd1 : TrAt w1 (w.heap.size + 1) (who0 w.heap.size (w.heap.size + 1)) W need 0 0 (epOf [])) (hd2 : RfAt w2 (w1.heap.size + 1) (fun b => w1.heap.size ≤ b ∧ b < w1.heap.size + 2) W need 0 []) (hb2 : Below w1.heap.size w1 w2) :
    Bth w.heap.size w2 (w.heap.size + 1) (w1.heap.size + 1) (who0 w.heap.size (w.heap.size + 1)) (fun b => w1.heap.size ≤ b ∧ b < w1.heap.size + 2) W need 0 0 [] where
  t := hd1.below hb2
  m := hd2
  lt_ := fun b hb => by rcases of_who0 hb with h | h <;> omega
  lf := fun b hb => by omega
  ap := fun b hb hF => by rcases of_who0 hb with h | h <;> omega
/-- Both were told the same. -/
theorem bth_told {B : Nat} {V V4 V5 : World} {tb rb : Nat} {who who' : Nat → Nat × ByteArray × Nat} {F : Nat → Prop} {W need r q r' : Nat} {E : List (List Sg)} {l : List Sg} (h : Bth B V tb rb who F W need r q E) (hB : B ≤ V.heap.size)
    (hm : RfAt V4 rb (more F V V4) W need q (if l.all okS = true then E ++ [l] else E)) (hk4 : Kp F V V4) (ht : TrAt V5 tb who' W need (if l.all okS = true then E.length + 1 else E.length) r' (if l.all okS = true then epc (epOf E) E.length l else epOf E)) (hk5 : Kp (of who) V4 V5) (hsub : ∀ b, of who' b → of who b ∨ V4.heap.size ≤ b) :
    Bth B V5 tb rb who' (more F V V4) W need r' q (if l.all okS = true then E ++ [l] else E) := by
  have hs4 := hk4.size
  have hF : ∀ b, more F V V4 b → ¬ of who b := fun b hb hw => by
    rcases hb with hb | hb
    · exact h.ap b hw hb
    · have := h.t.lim hw; omega
  refine ⟨?_, hm.move hk5.size (fun k _ hF' => hk5.block k ‹_› (hF k hF')), fun b hb => ?_, fun b hb => ?_, fun b hb hF' => ?_⟩
  · by_cases hl : l.all okS = true
    · simp only [if_pos hl] at ht ⊢
      rw [List.length_append]
      rw [epc_snoc] at ht
      exact ht
    · simp only [if_neg hl] at ht ⊢
      exact ht
  · rcases hsub b hb with h' | h'
    · exact h.lt_ b h'
    · omega
  · rcases hb with hb | hb
    · exact h.lf b hb
    · omega
  · rcases hsub b hb with h' | h'
    · exact hF b hF' h'
    · have := hm.lim hF'; omega
theorem news77 {V : World} {g : Nat} (h : V.heap[g]? = some (.cells #[.int .i64 77, .int .i64 0, .int .i64 0, .string ⟨#[]⟩] 53)) : ∀ (j : Nat) (u : Value), ([.int .i64 77, .int .i64 0, .int .i64 0, .string ⟨#[]⟩] : List Value)[j]? = some u → V.cell? ((⟨g, 0, none⟩ : Addr).add j) = some u := by
  intro j u hj
  rw [addr_add]
  match j, hj with
  | 0, hj => simp at hj; subst hj; simp [World.cell?, h]
  | 1, hj => simp at hj; subst hj; simp [World.cell?, h]
  | 2, hj => simp at hj; subst hj; simp [World.cell?, h]
  | 3, hj => simp at hj; subst hj; simp [World.cell?, h]
section
set_option maxHeartbeats 16000000 in
theorem tracked_ok (W need : Nat) (E : List (List Sg)) (a : Option Addr) (cap : Nat) (w : World) (h0 : 1 ≤ W) (h1 : W ≤ 8) (h2 : 1 ≤ need) (h3 : need ≤ W) (hE : EsOn w a E) (hl : light E = true) :
    Calls Tryz.prog 13 #[.int .i64 (W : Int), .int .i64 (need : Int), .slice a E.length cap] w fun e w' => ∃ tb rb, e = .returned (.tuple #[.pointer (some ⟨tb, 0, none⟩), .pointer (some ⟨rb, 0, none⟩), .bool false, .bool true]) ∧ ∃ who F r, Bth w.heap.size w' tb rb who F W need r 0 (oks E) ∧ r ≤ 90000 ∧ Below w.heap.size w w' := by
  have mixed : Tryz.prog.follows .mixedOrders = true := by kernel_rfl
  obtain ⟨i61, hi61, hz61, hs61, hb61⟩ := info_parts info61
  obtain ⟨hl25, hgl⟩ := light_iff.1 hl
  obtain ⟨N, hN⟩ : ∃ N, N = E.length := ⟨_, rfl⟩
  have HN : Hid (N = E.length) := hN
  have HE : Hid (EsOn w a E) := hE
  have HGL : Hid (∀ l, l ∈ E → goodL l = true) := hgl
  rw [← hN] at hl25 ⊢
  have i1 : decide ((W : Int) < 1) = false := by simp; omega
  have i2 : decide ((8 : Int) < W) = false := by simp; omega
  have i3 : decide ((need : Int) < 1) = false := by simp; omega
  have i4 : decide ((W : Int) < need) = false := by simp; omega
  clear hN hE hl hgl
  go_enter Tryz.func13, Tryz.ntmps13
  go_wp2_with fail
  refine (new_ok W need w h0 h1 h2 h3).mono ?_
  rintro e w1 ⟨rfl, hs1, hd1, hb1⟩
  have HD1 : Hid (TrAt w1 (w.heap.size + 1) (who0 w.heap.size (w.heap.size + 1)) W need 0 0 (epOf [])) := hd1
  have HB1 : Hid (Below w.heap.size w w1) := hb1
  have HS1 : Hid (w1.heap.size = w.heap.size + 2) := hs1
  clear hd1 hb1 hs1
  go_wp2_with fail
  refine (newTrack_any W need w1).mono ?_
  rintro e w2 ⟨rfl, hs2, hd2, hb2⟩
  have HBT : Hid (Bth w.heap.size w2 (w.heap.size + 1) (w1.heap.size + 1) (who0 w.heap.size (w.heap.size + 1)) (fun b => w1.heap.size ≤ b ∧ b < w1.heap.size + 2) W need 0 0 []) := bth_new HS1.out HD1.out hd2 hb2
  have HBW : Hid (Below w.heap.size w w2) := HB1.out.trans (hb2.mono HB1.out.size)
  clear hd2 hb2 hs2
  obtain ⟨tb, htb⟩ : ∃ tb, tb = w.heap.size + 1 := ⟨_, rfl⟩
  obtain ⟨rb, hrb⟩ : ∃ rb, rb = w1.heap.size + 1 := ⟨_, rfl⟩
  rw [← htb, ← hrb] at HBT ⊢
  clear htb hrb
  go_wp2
  go_loopw [6, 7, 11, 12, 13, 14] (fun t m i _ _ _ V => t = .pointer (some ⟨tb, 0, none⟩) ∧ m = .pointer (some ⟨rb, 0, none⟩) ∧ ∃ (k : Nat) (who : Nat → Nat × ByteArray × Nat) (F : Nat → Prop) (r : Nat), k ≤ N ∧ i = .int .i64 (k : Int) ∧ Bth w.heap.size V tb rb who F W need r 0 (oks (E.take k)) ∧ r ≤ k * 25 ∧ Below w.heap.size w V) (fun _ _ i _ _ _ _ => N - (intOf i).toNat)
  case atStart => exact ⟨rfl, rfl, 0, _, _, 0, Nat.zero_le _, rfl, HBT.out, Nat.le_refl _, HBW.out⟩
  case round =>
    clear HBT HBW HB1 HD1 HS1
    obtain ⟨rfl, rfl, k, who, F, r, hk, rfl, hbt, hrk, hbl⟩ := hrel
    have HBT : Hid (Bth w.heap.size wr tb rb who F W need r 0 (oks (E.take k))) := hbt
    have HBW : Hid (Below w.heap.size w wr) := hbl
    clear hbt
    by_cases hlt : k < N
    case neg =>
      have hkk : k = N := by omega
      subst hkk
      have hII : ¬ (k : Int) < k := by omega
      clear hbl hlt
      go_wp2
      refine bodyPost_ret (v := .tuple #[.pointer (some ⟨tb, 0, none⟩), .pointer (some ⟨rb, 0, none⟩), .bool false, .bool true]) (by simp [results, Tryz.results13, go_sem]) rfl ⟨tb, rb, rfl, who, F, r, ?_, by omega, HBW.out⟩
      have := HBT.out
      rw [HN.out, List.take_length] at this
      exact this
    case pos =>
      have hkI : (k : Int) < N := by omega
      have hk' : k < E.length := by rw [← HN.out]; exact hlt
      obtain ⟨b, o, hpe, hb, hc⟩ := HE.out.at_ (by intro e; rw [e] at hk'; simp at hk')
      subst hpe
      obtain ⟨q, cp, k0, hs⟩ := hc k _ (List.getElem?_eq_getElem hk')
      have hgl := HGL.out _ (List.getElem_mem hk')
      have HOK : Hid (oks (E.take (k + 1)) = if E[k].all okS = true then oks (E.take k) ++ [E[k]] else oks (E.take k)) := oks_take hk'
      generalize E[k] = l at *
      obtain ⟨hm25, hg20⟩ := goodL_iff.1 hgl
      obtain ⟨m, hm⟩ : ∃ m, m = l.length := ⟨_, rfl⟩
      have HM : Hid (m = l.length) := hm
      rw [← hm] at k0 hm25
      have HS : Hid (SgsOn w q l) := hs
      have HG : Hid (goodL l = true) := hgl
      have HG20 : Hid (∀ x, x ∈ l → x.g.size ≤ 20) := hg20
      have hszw := hbl.size
      have HK0 : Hid (∀ V, Below w.heap.size w V → V.cell? ⟨b, o + k, none⟩ = some (.slice q m cp)) := fun V hV => by rw [hV.cell hb]; exact k0
      have hlo := oks_len E k
      have kk0 := HK0.out wr hbl
      clear hc hm hs hgl hg20 k0 hbl
      go_wp2
      clear kk0
      obtain ⟨V0, hV0⟩ : ∃ V0, V0 = wr := ⟨_, rfl⟩
      rw [← hV0] at HBT HBW hszw ⊢
      clear hV0
      by_cases hne : l = []
      · have HML2 : Hid (m + 1 ≤ maxLen) := by show _ ≤ _; unfold maxLen; omega
        have HBY2 : Hid ((m + 1) * 40 ≤ 140737488355328) := by show _ ≤ _; omega
        have hm0 : m = 0 := by rw [HM.out, hne]; rfl
        subst hm0
        have HNE : Hid (l = []) := hne
        clear hne
        have hS0 : V0.drew.cell? ⟨b, o + k, none⟩ = some (.slice q 0 cp) := HK0.out V0.drew (HBW.out.trans ((drewN_below V0 1).mono hszw))
        refine wp_region_held_drew (S := fun U => U.cell? ⟨b, o + k, none⟩ = some (.slice q 0 cp)) (by kernel_rfl) hS0 (fun _ => ?_)
        refine wpAnyH_take (i := 0) (v := .slice (some ⟨b, o, none⟩) N cap) rfl (by kernel_rfl) (by kernel_rfl) (by kernel_rfl) (fun _ _ _ h => h) (Or.inl ⟨by rfl, fun wx _ => by go_simp⟩) hS0 ?_
        change wpAnyH _ _ _ _ _ _ _ (Act.put _ (some 57) _) _
        simp only [Act.put, List.setIfInBounds_toArray, List.set_cons_zero, List.set_cons_succ]
        refine wpAnyH_take (i := 1) (v := .int .i64 (k : Int)) rfl (by kernel_rfl) (by kernel_rfl) (by kernel_rfl) (fun _ _ _ h => h) (Or.inl ⟨by rfl, fun wx _ => by go_simp⟩) hS0 ?_
        change wpAnyH _ _ _ _ _ _ _ (Act.put _ (some 58) _) _
        simp only [Act.put, List.setIfInBounds_toArray, List.set_cons_zero, List.set_cons_succ]
        refine wpAnyH_take (i := 2) (v := .pointer (some ⟨b, o + k, none⟩)) rfl (by kernel_rfl) (by kernel_rfl) (by kernel_rfl) (fun _ _ _ h => h) (Or.inl ⟨by rfl, fun wx _ => by go_simp⟩) hS0 ?_
        change wpAnyH _ _ _ _ _ _ _ (Act.put _ (some 59) _) _
        simp only [Act.put, List.setIfInBounds_toArray, List.set_cons_zero, List.set_cons_succ]
        refine wpAnyH_take (i := 3) (v := .slice q 0 cp) rfl (by kernel_rfl) (by kernel_rfl) (by kernel_rfl) (fun _ _ _ h => h) (Or.inl ⟨by rfl, fun wx hS => by (try dsimp only at hS); have s1 := hS; go_simp⟩) hS0 ?_
        change wpAnyH _ _ _ _ _ _ _ (Act.put _ (some 60) _) _
        simp only [Act.put, List.setIfInBounds_toArray, List.set_cons_zero, List.set_cons_succ]
        refine wpAnyH_take (i := 5) (v := .agg #[.int .i64 77, .int .i64 0, .int .i64 0, .string ⟨#[]⟩]) rfl (by kernel_rfl) (by kernel_rfl) (by kernel_rfl) (fun _ _ _ h => h) (Or.inl ⟨by rfl, fun wx _ => by go_simp⟩) hS0 ?_
        change wpAnyH _ _ _ _ _ _ _ (Act.put _ (some 62) _) _
        simp only [Act.put, List.setIfInBounds_toArray, List.set_cons_zero, List.set_cons_succ]
        refine wpAnyH_take (i := 8) (v := .slice (some ⟨b, o, none⟩) N cap) rfl (by kernel_rfl) (by kernel_rfl) (by kernel_rfl) (fun _ _ _ h => h) (Or.inl ⟨by rfl, fun wx _ => by go_simp⟩) hS0 ?_
        change wpAnyH _ _ _ _ _ _ _ (Act.put _ (some 65) _) _
        simp only [Act.put, List.setIfInBounds_toArray, List.set_cons_zero, List.set_cons_succ]
        refine wpAnyH_take (i := 9) (v := .int .i64 (k : Int)) rfl (by kernel_rfl) (by kernel_rfl) (by kernel_rfl) (fun _ _ _ h => h) (Or.inl ⟨by rfl, fun wx _ => by go_simp⟩) hS0 ?_
        change wpAnyH _ _ _ _ _ _ _ (Act.put _ (some 66) _) _
        simp only [Act.put, List.setIfInBounds_toArray, List.set_cons_zero, List.set_cons_succ]
        refine wpAnyH_take (i := 10) (v := .pointer (some ⟨b, o + k, none⟩)) rfl (by kernel_rfl) (by kernel_rfl) (by kernel_rfl) (fun _ _ _ h => h) (Or.inl ⟨by rfl, fun wx _ => by go_simp⟩) hS0 ?_
        change wpAnyH _ _ _ _ _ _ _ (Act.put _ (some 67) _) _
        simp only [Act.put, List.setIfInBounds_toArray, List.set_cons_zero, List.set_cons_succ]
        refine wpAnyH_take (i := 11) (v := .slice q 0 cp) rfl (by kernel_rfl) (by kernel_rfl) (by kernel_rfl) (fun _ _ _ h => h) (Or.inl ⟨by rfl, fun wx hS => by (try dsimp only at hS); have s1 := hS; go_simp⟩) hS0 ?_
        change wpAnyH _ _ _ _ _ _ _ (Act.put _ (some 68) _) _
        simp only [Act.put, List.setIfInBounds_toArray, List.set_cons_zero, List.set_cons_succ]
        refine wpAnyH_take (i := 12) (v := .int .i64 (0 : Int)) rfl (by kernel_rfl) (by kernel_rfl) (by kernel_rfl) (fun _ _ _ h => h) (Or.inl ⟨by rfl, fun wx _ => by go_simp⟩) hS0 ?_
        change wpAnyH _ _ _ _ _ _ _ (Act.put _ (some 69) _) _
        simp only [Act.put, List.setIfInBounds_toArray, List.set_cons_zero, List.set_cons_succ]
        refine wpAnyH_take (i := 4) (v := .slice none 0 0) rfl (by kernel_rfl) (by kernel_rfl) (by kernel_rfl) (fun _ _ _ h => h) (Or.inl ⟨by rfl, fun wx _ => by cases q <;> go_simp⟩) hS0 ?_
        change wpAnyH _ _ _ _ _ _ _ (Act.put _ (some 61) _) _
        simp only [Act.put, List.setIfInBounds_toArray, List.set_cons_zero, List.set_cons_succ]
        refine wpAnyH_ready (rs := [6]) (by kernel_rfl) (by simp) ?_
        refine AllReadyH.cons rfl (fun K hK => ?_) AllReadyH.nil
        go_simp
        refine hK.out _ _ (HK0.out _ (HBW.out.trans ((((Below.refl _ V0).alloc (Nat.le_refl _) (.cells #[.int .i64 77, .int .i64 0, .int .i64 0, .string ⟨#[]⟩] 53)).drew).mono hszw))) (fun _ => ?_)
        clear hK K
        refine wpAnyH_ready (rs := [7]) (by kernel_rfl) (by simp) ?_
        refine AllReadyH.cons rfl (fun K hK => ?_) AllReadyH.nil
        refine step_append_lies _ (by rfl) (.tmp 61) (.tmp 63) 51 (by rfl) V0.heap.size 53 i61 (.agg #[.int .i64 0, .int .i64 0, .int .i64 0, .string ⟨#[]⟩]) 4 40 Tryz.underlying51 hi61 hz61 hs61 hb61 rfl (by omega) (.slice none 0 0) 0 ([]) (by rfl) (World.ownsRow_nil _ _ _ _) ⟨V0.heap.size, 0, none⟩ 1 1 [.int .i64 77, .int .i64 0, .int .i64 0, .string ⟨#[]⟩] (by rfl) rfl (news77 (Go.heap_alloc_new V0 _)) (fun u hu => by simp at hu; rcases hu with rfl | rfl | rfl | rfl <;> rfl) (by omega) HML2.out HBY2.out (((Below.refl _ V0).alloc (Nat.le_refl _) (.cells #[.int .i64 77, .int .i64 0, .int .i64 0, .string ⟨#[]⟩] 53)).drew).size _ rfl ?_
        intro g3 c3 V3 hown3 hgrow3 hat3 hlt3
        have HB3 : Hid (Below V0.heap.size V0 V3) := Below.trans (((Below.refl _ V0).alloc (Nat.le_refl _) (.cells #[.int .i64 77, .int .i64 0, .int .i64 0, .string ⟨#[]⟩] 53)).drew) ⟨hgrow3.os, hgrow3.tape, hgrow3.output, hgrow3.size, fun j hj => hgrow3.block j (Nat.lt_of_lt_of_le hj (((Below.refl _ V0).alloc (Nat.le_refl _) (.cells #[.int .i64 77, .int .i64 0, .int .i64 0, .string ⟨#[]⟩] 53)).drew).size) (by simp [Value.ownBlock])⟩
        have HOW : Hid (V3.ownsRow V0.heap.size 53 4 (.slice (some ⟨g3, 0, none⟩) (0 + 1) c3) (0 + 1) (sgcs (l ++ [⟨77, 0, 0, ⟨#[]⟩⟩]))) := by
          show World.ownsRow _ _ _ _ _ _ _
          rw [sgcs_snoc]
          rw [HNE.out]; exact hown3
        clear hown3 hgrow3 hat3 hlt3
        refine hK.out _ _ (HK0.out V3 (HBW.out.trans (HB3.out.mono hszw))) (fun hS0 => ?_)
        clear hK K
        change wpAnyH _ _ _ _ _ _ _ (Act.put _ (some 64) _) _
        simp only [Act.put, List.setIfInBounds_toArray, List.set_cons_zero, List.set_cons_succ]
        have hcap3 : 0 + 1 ≤ c3 := own_cap HOW.out
        have hcI3 : (0 : Int) ≤ c3 := by omega
        refine wpAnyH_take (i := 13) (v := .slice (some ⟨g3, 0, none⟩) 0 c3) rfl (by kernel_rfl) (by kernel_rfl) (by kernel_rfl) (fun _ _ _ h => h) (Or.inl ⟨by rfl, fun wx _ => by go_simp⟩) hS0 ?_
        change wpAnyH _ _ _ _ _ _ _ (Act.put _ (some 70) _) _
        simp only [Act.put, List.setIfInBounds_toArray, List.set_cons_zero, List.set_cons_succ]
        refine wpAnyH_take (i := 14) (v := .slice (some ⟨g3, 0, none⟩) 0 c3) rfl (by kernel_rfl) (by kernel_rfl) (by kernel_rfl) (fun _ _ _ h => h) (Or.inl ⟨by rfl, fun wx _ => by go_simp⟩) hS0 ?_
        change wpAnyH _ _ _ _ _ _ _ (Act.put _ (some 12) _) _
        simp only [Act.put, List.setIfInBounds_toArray, List.set_cons_zero, List.set_cons_succ]
        refine wpAnyH_done (by kernel_rfl) ?_ _
        clear hS0
        obtain ⟨f, hf⟩ : ∃ f : Nat, f = (if l.all okS = true then 0 else 1) := ⟨_, rfl⟩
        obtain ⟨En, hEn⟩ : ∃ En, En = (if l.all okS = true then oks (E.take k) ++ [l] else oks (E.take k)) := ⟨_, rfl⟩
        have HEN : Hid (oks (E.take (k + 1)) = En) := by rw [hEn]; exact HOK.out
        have HB3w : Hid (Below w.heap.size w V3) := HBW.out.trans (HB3.out.mono hszw)
        have HBT3 : Hid (Bth w.heap.size V3 tb rb who F W need r 0 (oks (E.take k))) := by
          have h := HBT.out
          exact ⟨h.t.move HB3.out.size (fun b hb _ => HB3.out.block b hb), h.m.move HB3.out.size (fun b hb _ => HB3.out.block b hb), h.lt_, h.lf, h.ap⟩
        have hg3 : V0.heap.size ≤ g3 := (HOW.out.lt g3 rfl).1
        have hg3' : g3 < V3.heap.size := (HOW.out.lt g3 rfl).2
        have HGF : Hid (¬ F g3 ∧ ¬ of who g3) := ⟨fun h => by have := HBT.out.m.lim h; omega, fun h => by have := HBT.out.t.lim h; omega⟩
        have hsz3 := HB3.out.size
        have HRT : Hid (Calls Tryz.prog 29 #[.pointer (some ⟨rb, 0, none⟩), .slice q 0 cp] V3 fun e w' => e = .returned (.int .i64 (f : Int)) ∧ RfAt w' rb (more F V3 w') W need 0 En ∧ Kp F V3 w') := by
          have h := rtell_any l q cp HBT3.out.m HG.out (HS.out.below HB3w.out) (by omega)
          rw [← HM.out, ← hf, ← hEn] at h
          exact h
        have HTL : Hid (∀ V4, RfAt V4 rb (more F V3 V4) W need 0 En → Kp F V3 V4 → Calls Tryz.prog 30 #[.pointer (some ⟨tb, 0, none⟩), .slice (some ⟨g3, 0, none⟩) 0 c3] V4.drew fun e w' => e = .returned (errV f) ∧ ∃ who' r', Bth w.heap.size w' tb rb who' (more F V3 V4) W need r' 0 En ∧ r' ≤ (k + 1) * 25 ∧ Kp (of who) V4 w' ∧ (∀ b, of who' b → of who b ∨ V4.heap.size ≤ b)) := fun V4 hm4 hk4 => by
          have hon : SgsOn V4.drew (some ⟨g3, 0, none⟩) l := (own_read HOW.out).move hk4.size (fun b' o' hp hlt => by simp at hp; rw [← hp.1]; exact hk4.block g3 hg3' HGF.out.1)
          have htr : TrAt V4.drew tb who W need (oks (E.take k)).length r (epOf (oks (E.take k))) := (HBT3.out.t.kp hk4 HBT3.out.ap).below (drewN_below V4 1)
          have h := tell_any l (some ⟨g3, 0, none⟩) c3 htr (by rw [← HM.out]; exact hm25) hon (fun b' o' hp => by simp at hp; rw [← hp.1]; exact HGF.out.2) (fun x hx => by have := HG20.out x hx; omega) (by omega) (by omega) (epOf_past _ (Nat.le_refl _))
          rw [← HM.out, ← hf] at h
          refine h.mono ?_
          rintro e w' ⟨rfl, who', t1, t2, t3⟩
          have hm4' := hm4
          rw [hEn] at hm4'
          have hb := bth_told (V5 := w') HBT3.out (Nat.le_trans hszw hsz3) hm4' hk4 t1 ((below_kp (drewN_below V4 1) _).trans t2) t3
          rw [← hEn] at hb
          refine ⟨rfl, who', _, hb, ?_, (below_kp (drewN_below V4 1) _).trans t2, t3⟩
          split <;> omega
        have kk3 := HK0.out V3 HB3w.out
        clear hf hEn
        go_wp2_with fail
        refine HRT.out.mono ?_
        rintro e V4 ⟨rfl, hm4, hk4⟩
        obtain ⟨p4, c4, hv4⟩ := hm4.view
        have hS0 : V4.drew.cell? ⟨rb, 2, none⟩ = some (.slice p4 En.length c4) := hv4.c2
        have HK4 : Hid (Kp F V3 V4) := hk4
        have HM4 : Hid (RfAt V4 rb (more F V3 V4) W need 0 En) := hm4
        have HRB4 : Hid (∀ V5, Kp (of who) V4 V5 → V5.cell? ⟨rb, 2, none⟩ = some (.slice p4 En.length c4)) := fun V5 hk5 => by
          have hnw : ¬ of who rb := fun hw => by
            obtain ⟨fb, mm, v, Df, ps, dd⟩ := HBT3.out.m.out
            exact HBT3.out.ap rb hw dd.fd
          rw [World.cell?_of_block (hk5.block rb hm4.lt hnw)]
          exact hv4.c2
        have HCL := HTL.out V4 hm4 hk4
        have HCT : Hid (Calls Tryz.prog 30 #[.pointer (some ⟨tb, 0, none⟩), .slice (some ⟨g3, 0, none⟩) 0 c3] V4.drew fun e w' => e = .returned (errV f) ∧ ∃ who' r', Bth w.heap.size w' tb rb who' (more F V3 V4) W need r' 0 En ∧ r' ≤ (k + 1) * 25 ∧ Kp (of who) V4 w' ∧ (∀ b, of who' b → of who b ∨ V4.heap.size ≤ b)) := HCL
        have hneE : ((En.length : Int) != En.length) = false := by simp
        clear hm4 hk4 hv4 HCL HRT HTL kk3
        go_wp2
        refine wp_region_held_drew (S := fun U => U.cell? ⟨rb, 2, none⟩ = some (.slice p4 En.length c4)) (by kernel_rfl) hS0 (fun _ => ?_)
        refine wpAnyH_take (i := 0) (v := .pointer (some ⟨tb, 0, none⟩)) rfl (by kernel_rfl) (by kernel_rfl) (by kernel_rfl) (fun _ _ _ h => h) (Or.inl ⟨by rfl, fun wx _ => by go_simp⟩) hS0 ?_
        change wpAnyH _ _ _ _ _ _ _ (Act.put _ (some 77) _) _
        simp only [Act.put, List.setIfInBounds_toArray, List.set_cons_zero, List.set_cons_succ]
        refine wpAnyH_take (i := 1) (v := .slice (some ⟨g3, 0, none⟩) 0 c3) rfl (by kernel_rfl) (by kernel_rfl) (by kernel_rfl) (fun _ _ _ h => h) (Or.inl ⟨by rfl, fun wx _ => by go_simp⟩) hS0 ?_
        change wpAnyH _ _ _ _ _ _ _ (Act.put _ (some 78) _) _
        simp only [Act.put, List.setIfInBounds_toArray, List.set_cons_zero, List.set_cons_succ]
        refine wpAnyH_take (i := 3) (v := .int .i64 (f : Int)) rfl (by kernel_rfl) (by kernel_rfl) (by kernel_rfl) (fun _ _ _ h => h) (Or.inl ⟨by rfl, fun wx _ => by go_simp⟩) hS0 ?_
        change wpAnyH _ _ _ _ _ _ _ (Act.put _ (some 80) _) _
        simp only [Act.put, List.setIfInBounds_toArray, List.set_cons_zero, List.set_cons_succ]
        refine wpAnyH_ready (rs := [2]) (by kernel_rfl) (by simp) ?_
        refine AllReadyH.cons rfl (fun K hK => ?_) AllReadyH.nil
        go_simp
        refine HCT.out.mono ?_
        rintro e V5 ⟨rfl, who', r', hb5, hr5, hk5, hsub5⟩
        have HB5 : Hid (Bth w.heap.size V5 tb rb who' (more F V3 V4) W need r' 0 En) := hb5
        have HK5 : Hid (Kp (of who) V4 V5 ∧ (∀ b, of who' b → of who b ∨ V4.heap.size ≤ b)) := ⟨hk5, hsub5⟩
        have hS5 := HRB4.out V5 hk5
        clear hb5 hk5 hsub5
        refine hK.out _ _ hS5 (fun _ => ?_)
        clear hK K hS0
        have hS0 := hS5
        refine wpAnyH_ready (rs := [4]) (by kernel_rfl) (by simp) ?_
        refine AllReadyH.cons rfl (fun K hK => ?_) AllReadyH.nil
        go_simp
        refine (same_any f _).mono ?_
        rintro e V6 ⟨rfl, hV6⟩
        subst hV6
        refine hK.out _ _ hS5 (fun _ => ?_)
        clear hK K
        refine wpAnyH_take (i := 5) (v := .bool false) rfl (by kernel_rfl) (by kernel_rfl) (by kernel_rfl) (fun _ _ _ h => h) (Or.inl ⟨by rfl, fun wx _ => by go_simp⟩) hS0 ?_
        change wpAnyH _ _ _ _ _ _ _ (Act.put _ (some 82) _) _
        simp only [Act.put, List.setIfInBounds_toArray, List.set_cons_zero, List.set_cons_succ]
        refine wpAnyH_take (i := 6) (v := .bool false) rfl (by kernel_rfl) (by kernel_rfl) (by kernel_rfl) (fun _ _ _ h => h) (Or.inl ⟨by rfl, fun wx _ => by go_simp⟩) hS0 ?_
        change wpAnyH _ _ _ _ _ _ _ (Act.put _ (some 83) _) _
        simp only [Act.put, List.setIfInBounds_toArray, List.set_cons_zero, List.set_cons_succ]
        refine wpAnyH_take (i := 7) (v := .pointer (some ⟨tb, 0, none⟩)) rfl (by kernel_rfl) (by kernel_rfl) (by kernel_rfl) (fun _ _ _ h => h) (Or.inl ⟨by rfl, fun wx _ => by go_simp⟩) hS0 ?_
        change wpAnyH _ _ _ _ _ _ _ (Act.put _ (some 84) _) _
        simp only [Act.put, List.setIfInBounds_toArray, List.set_cons_zero, List.set_cons_succ]
        refine wpAnyH_take (i := 9) (v := .pointer (some ⟨rb, 0, none⟩)) rfl (by kernel_rfl) (by kernel_rfl) (by kernel_rfl) (fun _ _ _ h => h) (Or.inl ⟨by rfl, fun wx _ => by go_simp⟩) hS0 ?_
        change wpAnyH _ _ _ _ _ _ _ (Act.put _ (some 86) _) _
        simp only [Act.put, List.setIfInBounds_toArray, List.set_cons_zero, List.set_cons_succ]
        refine wpAnyH_take (i := 10) (v := .pointer (some ⟨rb, 0, none⟩)) rfl (by kernel_rfl) (by kernel_rfl) (by kernel_rfl) (fun _ _ _ h => h) (Or.inl ⟨by rfl, fun wx _ => by go_simp⟩) hS0 ?_
        change wpAnyH _ _ _ _ _ _ _ (Act.put _ (some 87) _) _
        simp only [Act.put, List.setIfInBounds_toArray, List.set_cons_zero, List.set_cons_succ]
        refine wpAnyH_take (i := 11) (v := .pointer (some ⟨rb, 2, none⟩)) rfl (by kernel_rfl) (by kernel_rfl) (by kernel_rfl) (fun _ _ _ h => h) (Or.inl ⟨by rfl, fun wx _ => by go_simp⟩) hS0 ?_
        change wpAnyH _ _ _ _ _ _ _ (Act.put _ (some 88) _) _
        simp only [Act.put, List.setIfInBounds_toArray, List.set_cons_zero, List.set_cons_succ]
        refine wpAnyH_take (i := 12) (v := .slice p4 En.length c4) rfl (by kernel_rfl) (by kernel_rfl) (by kernel_rfl) (fun _ _ _ h => h) (Or.inl ⟨by rfl, fun wx hS => by (try dsimp only at hS); have s1 := hS; go_simp⟩) hS0 ?_
        change wpAnyH _ _ _ _ _ _ _ (Act.put _ (some 89) _) _
        simp only [Act.put, List.setIfInBounds_toArray, List.set_cons_zero, List.set_cons_succ]
        refine wpAnyH_take (i := 13) (v := .int .i64 (En.length : Int)) rfl (by kernel_rfl) (by kernel_rfl) (by kernel_rfl) (fun _ _ _ h => h) (Or.inl ⟨by rfl, fun wx _ => by go_simp⟩) hS0 ?_
        change wpAnyH _ _ _ _ _ _ _ (Act.put _ (some 90) _) _
        simp only [Act.put, List.setIfInBounds_toArray, List.set_cons_zero, List.set_cons_succ]
        refine wpAnyH_ready (rs := [8]) (by kernel_rfl) (by simp) ?_
        refine AllReadyH.cons rfl (fun K hK => ?_) AllReadyH.nil
        go_simp
        refine (epochs_any HB5.out.t).mono ?_
        rintro e V7 ⟨rfl, hV7⟩
        subst hV7
        refine hK.out _ _ hS5 (fun _ => ?_)
        clear hK K
        refine wpAnyH_take (i := 14) (v := .bool false) rfl (by kernel_rfl) (by kernel_rfl) (by kernel_rfl) (fun _ _ _ h => h) (Or.inl ⟨by rfl, fun wx _ => by go_simp⟩) hS0 ?_
        change wpAnyH _ _ _ _ _ _ _ (Act.put _ (some 91) _) _
        simp only [Act.put, List.setIfInBounds_toArray, List.set_cons_zero, List.set_cons_succ]
        refine wpAnyH_take (i := 15) (v := .bool false) rfl (by kernel_rfl) (by kernel_rfl) (by kernel_rfl) (fun _ _ _ h => h) (Or.inl ⟨by rfl, fun wx _ => by go_simp⟩) hS0 ?_
        change wpAnyH _ _ _ _ _ _ _ (Act.put _ (some 92) _) _
        simp only [Act.put, List.setIfInBounds_toArray, List.set_cons_zero, List.set_cons_succ]
        refine wpAnyH_done (by kernel_rfl) ?_ _
        clear hS0 hS5 HRB4
        have HOW5 : Hid (V7.ownsRow V0.heap.size 53 4 (.slice (some ⟨g3, 0, none⟩) (0 + 1) c3) (0 + 1) (sgcs (l ++ [⟨77, 0, 0, ⟨#[]⟩⟩]))) := own_keep HOW.out (fun b hb => by
          simp [Value.ownBlock] at hb
          subst hb
          rw [HK5.out.1.block g3 (Nat.lt_of_lt_of_le hg3' HK4.out.size) HGF.out.2, HK4.out.block g3 hg3' HGF.out.1])
        have HBF : Hid (Below w.heap.size w V7) := HB3w.out.trans ((HK4.out.below (Nat.le_trans hszw hsz3) (fun b hb hF => by have := HBT.out.lf b hF; omega)).trans (HK5.out.1.below (by have := HK4.out.size; omega) (fun b hb hF => by have := HBT.out.lt_ b hF; omega)))
        have hmI : (0 : Int) ≤ 25 := by omega
        go_wp2
        go_loopw [14] (fun i U => ∃ (j : Nat) (xs : List Value), j ≤ 0 ∧ i = .int .i64 (j : Int) ∧ U.ownsRow V0.heap.size 53 4 (.slice (some ⟨g3, 0, none⟩) (0 + 1) c3) (0 + 1) xs ∧ Kp (fun b => b = g3) V7 U) (fun i _ => 0 - (intOf i).toNat)
        case atStart => exact ⟨0, _, Nat.zero_le _, rfl, HOW5.out, Kp.refl _ _⟩
        case round =>
          obtain ⟨j, xs, hj, rfl, ho, hkp⟩ := hrel
          have HO : Hid (wr.ownsRow V0.heap.size 53 4 (.slice (some ⟨g3, 0, none⟩) (0 + 1) c3) (0 + 1) xs) := ho
          have HKP : Hid (Kp (fun b => b = g3) V7 wr) := hkp
          clear hkp
          by_cases hjm : j < 0
          case neg =>
            have hII : ¬ (j : Int) < 0 := by omega
            clear ho hjm
            go_wp2
            have hne : ∀ b, of who' b ∨ more F V3 V4 b → b ≠ g3 := fun b hb e => by
              subst e
              rcases hb with hb | hb
              · rcases HK5.out.2 b hb with h | h
                · exact HGF.out.2 h
                · have := HK4.out.size; omega
              · rcases hb with hb | hb
                · exact HGF.out.1 hb
                · omega
            refine ⟨⟨rfl, rfl, k + 1, who', more F V3 V4, r', by omega, by go_num, ?_, hr5, HBF.out.trans (HKP.out.below HBF.out.size (fun b hb e => by have e : b = g3 := e; omega))⟩, by simp [intOf]; omega⟩
            rw [HEN.out]
            have h := HB5.out
            exact ⟨h.t.move HKP.out.size (fun b hb hw => HKP.out.block b hb (hne b (Or.inl hw))), h.m.move HKP.out.size (fun b hb hw => HKP.out.block b hb (hne b (Or.inr hw))), h.lt_, h.lf, h.ap⟩
          case pos => exact absurd hjm (by omega)
      · have HML2 : Hid (m + 1 ≤ maxLen) := by show _ ≤ _; unfold maxLen; omega
        have HBY2 : Hid ((m + 1) * 40 ≤ 140737488355328) := by show _ ≤ _; omega
        obtain ⟨b1, o1, hpe1, hb1, hc1⟩ := HS.out.at_ hne
        subst hpe1
        have hmpos : 0 < m := by rw [HM.out]; exact List.length_pos_iff.2 hne
        have HNEW : Hid (∀ V, Below V0.heap.size V0 V → ∀ j u, (sgcs l)[j]? = some u → V.cell? ((⟨b1, o1, none⟩ : Addr).add j) = some u) := fun V hV => sgs_cells (fun i x hx => (hc1 i x hx).keep ((hV.block b1 (by omega)).trans (HBW.out.block b1 hb1)))
        have HLEN : Hid ((sgcs l).length = m * 4) := by show _ = _; rw [sgcs_len, HM.out]
        have HML : Hid (0 + m ≤ maxLen) := by show _ ≤ _; unfold maxLen; omega
        have HBY : Hid ((0 + m) * 40 ≤ 140737488355328) := by show _ ≤ _; omega
        clear hc1
        have hS0 : V0.drew.cell? ⟨b, o + k, none⟩ = some (.slice (some ⟨b1, o1, none⟩) m cp) := HK0.out V0.drew (HBW.out.trans ((drewN_below V0 1).mono hszw))
        refine wp_region_held_drew (S := fun U => U.cell? ⟨b, o + k, none⟩ = some (.slice (some ⟨b1, o1, none⟩) m cp)) (by kernel_rfl) hS0 (fun _ => ?_)
        refine wpAnyH_take (i := 0) (v := .slice (some ⟨b, o, none⟩) N cap) rfl (by kernel_rfl) (by kernel_rfl) (by kernel_rfl) (fun _ _ _ h => h) (Or.inl ⟨by rfl, fun wx _ => by go_simp⟩) hS0 ?_
        change wpAnyH _ _ _ _ _ _ _ (Act.put _ (some 57) _) _
        simp only [Act.put, List.setIfInBounds_toArray, List.set_cons_zero, List.set_cons_succ]
        refine wpAnyH_take (i := 1) (v := .int .i64 (k : Int)) rfl (by kernel_rfl) (by kernel_rfl) (by kernel_rfl) (fun _ _ _ h => h) (Or.inl ⟨by rfl, fun wx _ => by go_simp⟩) hS0 ?_
        change wpAnyH _ _ _ _ _ _ _ (Act.put _ (some 58) _) _
        simp only [Act.put, List.setIfInBounds_toArray, List.set_cons_zero, List.set_cons_succ]
        refine wpAnyH_take (i := 2) (v := .pointer (some ⟨b, o + k, none⟩)) rfl (by kernel_rfl) (by kernel_rfl) (by kernel_rfl) (fun _ _ _ h => h) (Or.inl ⟨by rfl, fun wx _ => by go_simp⟩) hS0 ?_
        change wpAnyH _ _ _ _ _ _ _ (Act.put _ (some 59) _) _
        simp only [Act.put, List.setIfInBounds_toArray, List.set_cons_zero, List.set_cons_succ]
        refine wpAnyH_take (i := 3) (v := .slice (some ⟨b1, o1, none⟩) m cp) rfl (by kernel_rfl) (by kernel_rfl) (by kernel_rfl) (fun _ _ _ h => h) (Or.inl ⟨by rfl, fun wx hS => by (try dsimp only at hS); have s1 := hS; go_simp⟩) hS0 ?_
        change wpAnyH _ _ _ _ _ _ _ (Act.put _ (some 60) _) _
        simp only [Act.put, List.setIfInBounds_toArray, List.set_cons_zero, List.set_cons_succ]
        refine wpAnyH_take (i := 5) (v := .agg #[.int .i64 77, .int .i64 0, .int .i64 0, .string ⟨#[]⟩]) rfl (by kernel_rfl) (by kernel_rfl) (by kernel_rfl) (fun _ _ _ h => h) (Or.inl ⟨by rfl, fun wx _ => by go_simp⟩) hS0 ?_
        change wpAnyH _ _ _ _ _ _ _ (Act.put _ (some 62) _) _
        simp only [Act.put, List.setIfInBounds_toArray, List.set_cons_zero, List.set_cons_succ]
        refine wpAnyH_take (i := 8) (v := .slice (some ⟨b, o, none⟩) N cap) rfl (by kernel_rfl) (by kernel_rfl) (by kernel_rfl) (fun _ _ _ h => h) (Or.inl ⟨by rfl, fun wx _ => by go_simp⟩) hS0 ?_
        change wpAnyH _ _ _ _ _ _ _ (Act.put _ (some 65) _) _
        simp only [Act.put, List.setIfInBounds_toArray, List.set_cons_zero, List.set_cons_succ]
        refine wpAnyH_take (i := 9) (v := .int .i64 (k : Int)) rfl (by kernel_rfl) (by kernel_rfl) (by kernel_rfl) (fun _ _ _ h => h) (Or.inl ⟨by rfl, fun wx _ => by go_simp⟩) hS0 ?_
        change wpAnyH _ _ _ _ _ _ _ (Act.put _ (some 66) _) _
        simp only [Act.put, List.setIfInBounds_toArray, List.set_cons_zero, List.set_cons_succ]
        refine wpAnyH_take (i := 10) (v := .pointer (some ⟨b, o + k, none⟩)) rfl (by kernel_rfl) (by kernel_rfl) (by kernel_rfl) (fun _ _ _ h => h) (Or.inl ⟨by rfl, fun wx _ => by go_simp⟩) hS0 ?_
        change wpAnyH _ _ _ _ _ _ _ (Act.put _ (some 67) _) _
        simp only [Act.put, List.setIfInBounds_toArray, List.set_cons_zero, List.set_cons_succ]
        refine wpAnyH_take (i := 11) (v := .slice (some ⟨b1, o1, none⟩) m cp) rfl (by kernel_rfl) (by kernel_rfl) (by kernel_rfl) (fun _ _ _ h => h) (Or.inl ⟨by rfl, fun wx hS => by (try dsimp only at hS); have s1 := hS; go_simp⟩) hS0 ?_
        change wpAnyH _ _ _ _ _ _ _ (Act.put _ (some 68) _) _
        simp only [Act.put, List.setIfInBounds_toArray, List.set_cons_zero, List.set_cons_succ]
        refine wpAnyH_take (i := 12) (v := .int .i64 (m : Int)) rfl (by kernel_rfl) (by kernel_rfl) (by kernel_rfl) (fun _ _ _ h => h) (Or.inl ⟨by rfl, fun wx _ => by go_simp⟩) hS0 ?_
        change wpAnyH _ _ _ _ _ _ _ (Act.put _ (some 69) _) _
        simp only [Act.put, List.setIfInBounds_toArray, List.set_cons_zero, List.set_cons_succ]
        refine wpAnyH_ready (rs := [4, 6]) (by kernel_rfl) (by simp) ?_
        refine AllReadyH.cons rfl (fun K hK => ?_) (AllReadyH.cons rfl (fun K hK => ?_) AllReadyH.nil)
        · refine step_append_lies _ (by rfl) (.const (.slice none 0 0)) (.tmp 60) 51 (by rfl) V0.heap.size 53 i61 (.agg #[.int .i64 0, .int .i64 0, .int .i64 0, .string ⟨#[]⟩]) 4 40 Tryz.underlying51 hi61 hz61 hs61 hb61 rfl (by omega) (.slice none 0 0) 0 [] (by rfl) (World.ownsRow_nil _ _ _ _) ⟨b1, o1, none⟩ m cp (sgcs l) (by rfl) HLEN.out (HNEW.out _ (drewN_below V0 1)) (fun u hu => sgcs_one hu) (by omega) HML.out HBY.out (drewN_below V0 1).size _ rfl ?_
          intro g1 c1 V1 hown1 hgrow1 hat1 hlt1
          have HBV1 : Hid (Below V0.heap.size V0 V1) := Below.trans (drewN_below V0 1) ⟨hgrow1.os, hgrow1.tape, hgrow1.output, hgrow1.size, fun k hk => hgrow1.block k (Nat.lt_of_lt_of_le hk (drewN_below V0 1).size) (by simp [Value.ownBlock])⟩
          have HOV1 : Hid (V1.ownsRow V0.heap.size 53 4 (.slice (some ⟨g1, 0, none⟩) m c1) m (sgcs l)) := by
            rw [Nat.zero_add, List.nil_append] at hown1; exact hown1
          have HGR : Hid (∀ j, j < (V0.drew).heap.size → V1.heap[j]? = (V0.drew).heap[j]?) := fun j hj => hgrow1.block j hj (by simp [Value.ownBlock])
          clear hown1 hgrow1 hat1 hlt1
          refine hK.out _ _ (HK0.out V1 (HBW.out.trans (HBV1.out.mono hszw))) (fun _ => ?_)
          clear hK K
          change wpAnyH _ _ _ _ _ _ _ (Act.put _ (some 61) _) _
          simp only [Act.put, List.setIfInBounds_toArray, List.set_cons_zero, List.set_cons_succ, Nat.zero_add]
          refine wpAnyH_ready (rs := [6]) (by kernel_rfl) (by simp) ?_
          refine AllReadyH.cons rfl (fun K hK => ?_) AllReadyH.nil
          go_simp
          refine hK.out _ _ (HK0.out _ (HBW.out.trans ((HBV1.out.alloc HBV1.out.size (.cells #[.int .i64 77, .int .i64 0, .int .i64 0, .string ⟨#[]⟩] 53)).mono hszw))) (fun _ => ?_)
          clear hK K
          refine wpAnyH_ready (rs := [7]) (by kernel_rfl) (by simp) ?_
          refine AllReadyH.cons rfl (fun K hK => ?_) AllReadyH.nil
          refine step_append_lies _ (by rfl) (.tmp 61) (.tmp 63) 51 (by rfl) V0.heap.size 53 i61 (.agg #[.int .i64 0, .int .i64 0, .int .i64 0, .string ⟨#[]⟩]) 4 40 Tryz.underlying51 hi61 hz61 hs61 hb61 rfl (by omega) (.slice (some ⟨g1, 0, none⟩) m c1) m (sgcs l) (by rfl) (HOV1.out.alloc (.cells #[.int .i64 77, .int .i64 0, .int .i64 0, .string ⟨#[]⟩] 53)) ⟨V1.heap.size, 0, none⟩ 1 1 [.int .i64 77, .int .i64 0, .int .i64 0, .string ⟨#[]⟩] (by rfl) rfl (news77 (Go.heap_alloc_new V1 _)) (fun u hu => by simp at hu; rcases hu with rfl | rfl | rfl | rfl <;> rfl) (by omega) HML2.out HBY2.out (HBV1.out.alloc HBV1.out.size (.cells #[.int .i64 77, .int .i64 0, .int .i64 0, .string ⟨#[]⟩] 53)).size _ rfl ?_
          intro g3 c3 V3 hown3 hgrow3 hat3 hlt3
          have HB3 : Hid (Below V0.heap.size V0 V3) := Below.trans (HBV1.out.alloc HBV1.out.size (.cells #[.int .i64 77, .int .i64 0, .int .i64 0, .string ⟨#[]⟩] 53)) ⟨hgrow3.os, hgrow3.tape, hgrow3.output, hgrow3.size, fun j hj => hgrow3.block j (Nat.lt_of_lt_of_le hj (HBV1.out.alloc HBV1.out.size (.cells #[.int .i64 77, .int .i64 0, .int .i64 0, .string ⟨#[]⟩] 53)).size) (fun e => by have := (World.ownsRow.lt (HOV1.out.alloc (.cells #[.int .i64 77, .int .i64 0, .int .i64 0, .string ⟨#[]⟩] 53)) j e.symm).1; omega)⟩
          have HOW : Hid (V3.ownsRow V0.heap.size 53 4 (.slice (some ⟨g3, 0, none⟩) (m + 1) c3) (m + 1) (sgcs (l ++ [⟨77, 0, 0, ⟨#[]⟩⟩]))) := by
            show World.ownsRow _ _ _ _ _ _ _
            rw [sgcs_snoc]
            exact hown3
          clear hown3 hgrow3 hat3 hlt3
          refine hK.out _ _ (HK0.out V3 (HBW.out.trans (HB3.out.mono hszw))) (fun hS0 => ?_)
          clear hK K
          change wpAnyH _ _ _ _ _ _ _ (Act.put _ (some 64) _) _
          simp only [Act.put, List.setIfInBounds_toArray, List.set_cons_zero, List.set_cons_succ]
          have hcap3 : m + 1 ≤ c3 := own_cap HOW.out
          have hcI3 : (m : Int) ≤ c3 := by omega
          refine wpAnyH_take (i := 13) (v := .slice (some ⟨g3, 0, none⟩) m c3) rfl (by kernel_rfl) (by kernel_rfl) (by kernel_rfl) (fun _ _ _ h => h) (Or.inl ⟨by rfl, fun wx _ => by go_simp⟩) hS0 ?_
          change wpAnyH _ _ _ _ _ _ _ (Act.put _ (some 70) _) _
          simp only [Act.put, List.setIfInBounds_toArray, List.set_cons_zero, List.set_cons_succ]
          refine wpAnyH_take (i := 14) (v := .slice (some ⟨g3, 0, none⟩) m c3) rfl (by kernel_rfl) (by kernel_rfl) (by kernel_rfl) (fun _ _ _ h => h) (Or.inl ⟨by rfl, fun wx _ => by go_simp⟩) hS0 ?_
          change wpAnyH _ _ _ _ _ _ _ (Act.put _ (some 12) _) _
          simp only [Act.put, List.setIfInBounds_toArray, List.set_cons_zero, List.set_cons_succ]
          refine wpAnyH_done (by kernel_rfl) ?_ _
          clear hS0
          obtain ⟨f, hf⟩ : ∃ f : Nat, f = (if l.all okS = true then 0 else 1) := ⟨_, rfl⟩
          obtain ⟨En, hEn⟩ : ∃ En, En = (if l.all okS = true then oks (E.take k) ++ [l] else oks (E.take k)) := ⟨_, rfl⟩
          have HEN : Hid (oks (E.take (k + 1)) = En) := by rw [hEn]; exact HOK.out
          have HB3w : Hid (Below w.heap.size w V3) := HBW.out.trans (HB3.out.mono hszw)
          have HBT3 : Hid (Bth w.heap.size V3 tb rb who F W need r 0 (oks (E.take k))) := by
            have h := HBT.out
            exact ⟨h.t.move HB3.out.size (fun b hb _ => HB3.out.block b hb), h.m.move HB3.out.size (fun b hb _ => HB3.out.block b hb), h.lt_, h.lf, h.ap⟩
          have hg3 : V0.heap.size ≤ g3 := (HOW.out.lt g3 rfl).1
          have hg3' : g3 < V3.heap.size := (HOW.out.lt g3 rfl).2
          have HGF : Hid (¬ F g3 ∧ ¬ of who g3) := ⟨fun h => by have := HBT.out.m.lim h; omega, fun h => by have := HBT.out.t.lim h; omega⟩
          have hsz3 := HB3.out.size
          have HRT : Hid (Calls Tryz.prog 29 #[.pointer (some ⟨rb, 0, none⟩), .slice (some ⟨b1, o1, none⟩) m cp] V3 fun e w' => e = .returned (.int .i64 (f : Int)) ∧ RfAt w' rb (more F V3 w') W need 0 En ∧ Kp F V3 w') := by
            have h := rtell_any l (some ⟨b1, o1, none⟩) cp HBT3.out.m HG.out (HS.out.below HB3w.out) (by omega)
            rw [← HM.out, ← hf, ← hEn] at h
            exact h
          have HTL : Hid (∀ V4, RfAt V4 rb (more F V3 V4) W need 0 En → Kp F V3 V4 → Calls Tryz.prog 30 #[.pointer (some ⟨tb, 0, none⟩), .slice (some ⟨g3, 0, none⟩) m c3] V4.drew fun e w' => e = .returned (errV f) ∧ ∃ who' r', Bth w.heap.size w' tb rb who' (more F V3 V4) W need r' 0 En ∧ r' ≤ (k + 1) * 25 ∧ Kp (of who) V4 w' ∧ (∀ b, of who' b → of who b ∨ V4.heap.size ≤ b)) := fun V4 hm4 hk4 => by
            have hon : SgsOn V4.drew (some ⟨g3, 0, none⟩) l := (own_read HOW.out).move hk4.size (fun b' o' hp hlt => by simp at hp; rw [← hp.1]; exact hk4.block g3 hg3' HGF.out.1)
            have htr : TrAt V4.drew tb who W need (oks (E.take k)).length r (epOf (oks (E.take k))) := (HBT3.out.t.kp hk4 HBT3.out.ap).below (drewN_below V4 1)
            have h := tell_any l (some ⟨g3, 0, none⟩) c3 htr (by rw [← HM.out]; exact hm25) hon (fun b' o' hp => by simp at hp; rw [← hp.1]; exact HGF.out.2) (fun x hx => by have := HG20.out x hx; omega) (by omega) (by omega) (epOf_past _ (Nat.le_refl _))
            rw [← HM.out, ← hf] at h
            refine h.mono ?_
            rintro e w' ⟨rfl, who', t1, t2, t3⟩
            have hm4' := hm4
            rw [hEn] at hm4'
            have hb := bth_told (V5 := w') HBT3.out (Nat.le_trans hszw hsz3) hm4' hk4 t1 ((below_kp (drewN_below V4 1) _).trans t2) t3
            rw [← hEn] at hb
            refine ⟨rfl, who', _, hb, ?_, (below_kp (drewN_below V4 1) _).trans t2, t3⟩
            split <;> omega
          have kk3 := HK0.out V3 HB3w.out
          clear hf hEn
          go_wp2_with fail
          refine HRT.out.mono ?_
          rintro e V4 ⟨rfl, hm4, hk4⟩
          obtain ⟨p4, c4, hv4⟩ := hm4.view
          have hS0 : V4.drew.cell? ⟨rb, 2, none⟩ = some (.slice p4 En.length c4) := hv4.c2
          have HK4 : Hid (Kp F V3 V4) := hk4
          have HM4 : Hid (RfAt V4 rb (more F V3 V4) W need 0 En) := hm4
          have HRB4 : Hid (∀ V5, Kp (of who) V4 V5 → V5.cell? ⟨rb, 2, none⟩ = some (.slice p4 En.length c4)) := fun V5 hk5 => by
            have hnw : ¬ of who rb := fun hw => by
              obtain ⟨fb, mm, v, Df, ps, dd⟩ := HBT3.out.m.out
              exact HBT3.out.ap rb hw dd.fd
            rw [World.cell?_of_block (hk5.block rb hm4.lt hnw)]
            exact hv4.c2
          have HCL := HTL.out V4 hm4 hk4
          have HCT : Hid (Calls Tryz.prog 30 #[.pointer (some ⟨tb, 0, none⟩), .slice (some ⟨g3, 0, none⟩) m c3] V4.drew fun e w' => e = .returned (errV f) ∧ ∃ who' r', Bth w.heap.size w' tb rb who' (more F V3 V4) W need r' 0 En ∧ r' ≤ (k + 1) * 25 ∧ Kp (of who) V4 w' ∧ (∀ b, of who' b → of who b ∨ V4.heap.size ≤ b)) := HCL
          have hneE : ((En.length : Int) != En.length) = false := by simp
          clear hm4 hk4 hv4 HCL HRT HTL kk3
          go_wp2
          refine wp_region_held_drew (S := fun U => U.cell? ⟨rb, 2, none⟩ = some (.slice p4 En.length c4)) (by kernel_rfl) hS0 (fun _ => ?_)
          refine wpAnyH_take (i := 0) (v := .pointer (some ⟨tb, 0, none⟩)) rfl (by kernel_rfl) (by kernel_rfl) (by kernel_rfl) (fun _ _ _ h => h) (Or.inl ⟨by rfl, fun wx _ => by go_simp⟩) hS0 ?_
          change wpAnyH _ _ _ _ _ _ _ (Act.put _ (some 77) _) _
          simp only [Act.put, List.setIfInBounds_toArray, List.set_cons_zero, List.set_cons_succ]
          refine wpAnyH_take (i := 1) (v := .slice (some ⟨g3, 0, none⟩) m c3) rfl (by kernel_rfl) (by kernel_rfl) (by kernel_rfl) (fun _ _ _ h => h) (Or.inl ⟨by rfl, fun wx _ => by go_simp⟩) hS0 ?_
          change wpAnyH _ _ _ _ _ _ _ (Act.put _ (some 78) _) _
          simp only [Act.put, List.setIfInBounds_toArray, List.set_cons_zero, List.set_cons_succ]
          refine wpAnyH_take (i := 3) (v := .int .i64 (f : Int)) rfl (by kernel_rfl) (by kernel_rfl) (by kernel_rfl) (fun _ _ _ h => h) (Or.inl ⟨by rfl, fun wx _ => by go_simp⟩) hS0 ?_
          change wpAnyH _ _ _ _ _ _ _ (Act.put _ (some 80) _) _
          simp only [Act.put, List.setIfInBounds_toArray, List.set_cons_zero, List.set_cons_succ]
          refine wpAnyH_ready (rs := [2]) (by kernel_rfl) (by simp) ?_
          refine AllReadyH.cons rfl (fun K hK => ?_) AllReadyH.nil
          go_simp
          refine HCT.out.mono ?_
          rintro e V5 ⟨rfl, who', r', hb5, hr5, hk5, hsub5⟩
          have HB5 : Hid (Bth w.heap.size V5 tb rb who' (more F V3 V4) W need r' 0 En) := hb5
          have HK5 : Hid (Kp (of who) V4 V5 ∧ (∀ b, of who' b → of who b ∨ V4.heap.size ≤ b)) := ⟨hk5, hsub5⟩
          have hS5 := HRB4.out V5 hk5
          clear hb5 hk5 hsub5
          refine hK.out _ _ hS5 (fun _ => ?_)
          clear hK K hS0
          have hS0 := hS5
          refine wpAnyH_ready (rs := [4]) (by kernel_rfl) (by simp) ?_
          refine AllReadyH.cons rfl (fun K hK => ?_) AllReadyH.nil
          go_simp
          refine (same_any f _).mono ?_
          rintro e V6 ⟨rfl, hV6⟩
          subst hV6
          refine hK.out _ _ hS5 (fun _ => ?_)
          clear hK K
          refine wpAnyH_take (i := 5) (v := .bool false) rfl (by kernel_rfl) (by kernel_rfl) (by kernel_rfl) (fun _ _ _ h => h) (Or.inl ⟨by rfl, fun wx _ => by go_simp⟩) hS0 ?_
          change wpAnyH _ _ _ _ _ _ _ (Act.put _ (some 82) _) _
          simp only [Act.put, List.setIfInBounds_toArray, List.set_cons_zero, List.set_cons_succ]
          refine wpAnyH_take (i := 6) (v := .bool false) rfl (by kernel_rfl) (by kernel_rfl) (by kernel_rfl) (fun _ _ _ h => h) (Or.inl ⟨by rfl, fun wx _ => by go_simp⟩) hS0 ?_
          change wpAnyH _ _ _ _ _ _ _ (Act.put _ (some 83) _) _
          simp only [Act.put, List.setIfInBounds_toArray, List.set_cons_zero, List.set_cons_succ]
          refine wpAnyH_take (i := 7) (v := .pointer (some ⟨tb, 0, none⟩)) rfl (by kernel_rfl) (by kernel_rfl) (by kernel_rfl) (fun _ _ _ h => h) (Or.inl ⟨by rfl, fun wx _ => by go_simp⟩) hS0 ?_
          change wpAnyH _ _ _ _ _ _ _ (Act.put _ (some 84) _) _
          simp only [Act.put, List.setIfInBounds_toArray, List.set_cons_zero, List.set_cons_succ]
          refine wpAnyH_take (i := 9) (v := .pointer (some ⟨rb, 0, none⟩)) rfl (by kernel_rfl) (by kernel_rfl) (by kernel_rfl) (fun _ _ _ h => h) (Or.inl ⟨by rfl, fun wx _ => by go_simp⟩) hS0 ?_
          change wpAnyH _ _ _ _ _ _ _ (Act.put _ (some 86) _) _
          simp only [Act.put, List.setIfInBounds_toArray, List.set_cons_zero, List.set_cons_succ]
          refine wpAnyH_take (i := 10) (v := .pointer (some ⟨rb, 0, none⟩)) rfl (by kernel_rfl) (by kernel_rfl) (by kernel_rfl) (fun _ _ _ h => h) (Or.inl ⟨by rfl, fun wx _ => by go_simp⟩) hS0 ?_
          change wpAnyH _ _ _ _ _ _ _ (Act.put _ (some 87) _) _
          simp only [Act.put, List.setIfInBounds_toArray, List.set_cons_zero, List.set_cons_succ]
          refine wpAnyH_take (i := 11) (v := .pointer (some ⟨rb, 2, none⟩)) rfl (by kernel_rfl) (by kernel_rfl) (by kernel_rfl) (fun _ _ _ h => h) (Or.inl ⟨by rfl, fun wx _ => by go_simp⟩) hS0 ?_
          change wpAnyH _ _ _ _ _ _ _ (Act.put _ (some 88) _) _
          simp only [Act.put, List.setIfInBounds_toArray, List.set_cons_zero, List.set_cons_succ]
          refine wpAnyH_take (i := 12) (v := .slice p4 En.length c4) rfl (by kernel_rfl) (by kernel_rfl) (by kernel_rfl) (fun _ _ _ h => h) (Or.inl ⟨by rfl, fun wx hS => by (try dsimp only at hS); have s1 := hS; go_simp⟩) hS0 ?_
          change wpAnyH _ _ _ _ _ _ _ (Act.put _ (some 89) _) _
          simp only [Act.put, List.setIfInBounds_toArray, List.set_cons_zero, List.set_cons_succ]
          refine wpAnyH_take (i := 13) (v := .int .i64 (En.length : Int)) rfl (by kernel_rfl) (by kernel_rfl) (by kernel_rfl) (fun _ _ _ h => h) (Or.inl ⟨by rfl, fun wx _ => by go_simp⟩) hS0 ?_
          change wpAnyH _ _ _ _ _ _ _ (Act.put _ (some 90) _) _
          simp only [Act.put, List.setIfInBounds_toArray, List.set_cons_zero, List.set_cons_succ]
          refine wpAnyH_ready (rs := [8]) (by kernel_rfl) (by simp) ?_
          refine AllReadyH.cons rfl (fun K hK => ?_) AllReadyH.nil
          go_simp
          refine (epochs_any HB5.out.t).mono ?_
          rintro e V7 ⟨rfl, hV7⟩
          subst hV7
          refine hK.out _ _ hS5 (fun _ => ?_)
          clear hK K
          refine wpAnyH_take (i := 14) (v := .bool false) rfl (by kernel_rfl) (by kernel_rfl) (by kernel_rfl) (fun _ _ _ h => h) (Or.inl ⟨by rfl, fun wx _ => by go_simp⟩) hS0 ?_
          change wpAnyH _ _ _ _ _ _ _ (Act.put _ (some 91) _) _
          simp only [Act.put, List.setIfInBounds_toArray, List.set_cons_zero, List.set_cons_succ]
          refine wpAnyH_take (i := 15) (v := .bool false) rfl (by kernel_rfl) (by kernel_rfl) (by kernel_rfl) (fun _ _ _ h => h) (Or.inl ⟨by rfl, fun wx _ => by go_simp⟩) hS0 ?_
          change wpAnyH _ _ _ _ _ _ _ (Act.put _ (some 92) _) _
          simp only [Act.put, List.setIfInBounds_toArray, List.set_cons_zero, List.set_cons_succ]
          refine wpAnyH_done (by kernel_rfl) ?_ _
          clear hS0 hS5 HRB4
          have HOW5 : Hid (V7.ownsRow V0.heap.size 53 4 (.slice (some ⟨g3, 0, none⟩) (m + 1) c3) (m + 1) (sgcs (l ++ [⟨77, 0, 0, ⟨#[]⟩⟩]))) := own_keep HOW.out (fun b hb => by
            simp [Value.ownBlock] at hb
            subst hb
            rw [HK5.out.1.block g3 (Nat.lt_of_lt_of_le hg3' HK4.out.size) HGF.out.2, HK4.out.block g3 hg3' HGF.out.1])
          have HBF : Hid (Below w.heap.size w V7) := HB3w.out.trans ((HK4.out.below (Nat.le_trans hszw hsz3) (fun b hb hF => by have := HBT.out.lf b hF; omega)).trans (HK5.out.1.below (by have := HK4.out.size; omega) (fun b hb hF => by have := HBT.out.lt_ b hF; omega)))
          have hmI : (m : Int) ≤ 25 := by omega
          go_wp2
          go_loopw [14] (fun i U => ∃ (j : Nat) (xs : List Value), j ≤ m ∧ i = .int .i64 (j : Int) ∧ U.ownsRow V0.heap.size 53 4 (.slice (some ⟨g3, 0, none⟩) (m + 1) c3) (m + 1) xs ∧ Kp (fun b => b = g3) V7 U) (fun i _ => m - (intOf i).toNat)
          case atStart => exact ⟨0, _, Nat.zero_le _, rfl, HOW5.out, Kp.refl _ _⟩
          case round =>
            obtain ⟨j, xs, hj, rfl, ho, hkp⟩ := hrel
            have HO : Hid (wr.ownsRow V0.heap.size 53 4 (.slice (some ⟨g3, 0, none⟩) (m + 1) c3) (m + 1) xs) := ho
            have HKP : Hid (Kp (fun b => b = g3) V7 wr) := hkp
            clear hkp
            by_cases hjm : j < m
            case neg =>
              have hII : ¬ (j : Int) < m := by omega
              clear ho hjm
              go_wp2
              have hne : ∀ b, of who' b ∨ more F V3 V4 b → b ≠ g3 := fun b hb e => by
                subst e
                rcases hb with hb | hb
                · rcases HK5.out.2 b hb with h | h
                  · exact HGF.out.2 h
                  · have := HK4.out.size; omega
                · rcases hb with hb | hb
                  · exact HGF.out.1 hb
                  · omega
              refine ⟨⟨rfl, rfl, k + 1, who', more F V3 V4, r', by omega, by go_num, ?_, hr5, HBF.out.trans (HKP.out.below HBF.out.size (fun b hb e => by have e : b = g3 := e; omega))⟩, by simp [intOf]; omega⟩
              rw [HEN.out]
              have h := HB5.out
              exact ⟨h.t.move HKP.out.size (fun b hb hw => HKP.out.block b hb (hne b (Or.inl hw))), h.m.move HKP.out.size (fun b hb hw => HKP.out.block b hb (hne b (Or.inr hw))), h.lt_, h.lf, h.ap⟩
            case pos =>
              have hjI : (j : Int) < m := by omega
              have hxl := ho.1
              have cell : ∀ i, i < (m + 1) * 4 → ∃ u, wr.cell? ⟨g3, i, none⟩ = some u := fun i hi => by
                have h1 := ho.cellAt i (by omega)
                rw [List.getElem?_eq_getElem (by omega)] at h1
                exact ⟨_, h1⟩
              obtain ⟨u0, z0⟩ := cell (j * 4) (by omega)
              obtain ⟨u1, z1⟩ := cell (j * 4 + 1) (by omega)
              obtain ⟨u2, z2⟩ := cell (j * 4 + 1 + 1) (by omega)
              obtain ⟨u3, z3⟩ := cell (j * 4 + 1 + 1 + 1) (by omega)
              have y0 := ho.frozenAt (j * 4)
              have y1 := ho.frozenAt (j * 4 + 1)
              have y2 := ho.frozenAt (j * 4 + 1 + 1)
              have y3 := ho.frozenAt (j * 4 + 1 + 1 + 1)
              clear ho hxl cell hjm
              go_wp2
              obtain ⟨s1, s1'⟩ := HO.out.stored (j * 4) (.int .i64 7)
              obtain ⟨s2, s2'⟩ := s1.stored (j * 4 + 1) (.int .i64 0)
              obtain ⟨s3, s3'⟩ := s2.stored (j * 4 + 1 + 1) (.int .i64 0)
              obtain ⟨s4, s4'⟩ := s3.stored (j * 4 + 1 + 1 + 1) (.string ⟨#[111, 116, 104, 101, 114]⟩)
              have gk : ∀ {A B : World}, A.grownBy B (some g3) → Kp (fun b => b = g3) A B := fun h => grown_kp h (fun k hk => by simpa using hk.symm)
              go_roundw
              case rel => exact ⟨j + 1, _, by omega, by go_num, s4, HKP.out.trans ((gk s1').trans ((gk s2').trans ((gk s3').trans (gk s4'))))⟩
              case measure => simp [intOf]; omega
        · go_simp
          refine hK.out _ _ (HK0.out _ (HBW.out.trans ((((Below.refl _ V0).alloc (Nat.le_refl _) (.cells #[.int .i64 77, .int .i64 0, .int .i64 0, .string ⟨#[]⟩] 53)).drew).mono hszw))) (fun _ => ?_)
          clear hK K
          refine wpAnyH_ready (rs := [4]) (by kernel_rfl) (by simp) ?_
          refine AllReadyH.cons rfl (fun K hK => ?_) AllReadyH.nil
          refine step_append_lies _ (by rfl) (.const (.slice none 0 0)) (.tmp 60) 51 (by rfl) V0.heap.size 53 i61 (.agg #[.int .i64 0, .int .i64 0, .int .i64 0, .string ⟨#[]⟩]) 4 40 Tryz.underlying51 hi61 hz61 hs61 hb61 rfl (by omega) (.slice none 0 0) 0 [] (by rfl) (World.ownsRow_nil _ _ _ _) ⟨b1, o1, none⟩ m cp (sgcs l) (by rfl) HLEN.out (HNEW.out _ (((Below.refl _ V0).alloc (Nat.le_refl _) (.cells #[.int .i64 77, .int .i64 0, .int .i64 0, .string ⟨#[]⟩] 53)).drew)) (fun u hu => sgcs_one hu) (by omega) HML.out HBY.out (((Below.refl _ V0).alloc (Nat.le_refl _) (.cells #[.int .i64 77, .int .i64 0, .int .i64 0, .string ⟨#[]⟩] 53)).drew).size _ rfl ?_
          intro g1 c1 V2 hown1 hgrow1 hat1 hlt1
          have HBV2 : Hid (Below V0.heap.size V0 V2) := Below.trans (((Below.refl _ V0).alloc (Nat.le_refl _) (.cells #[.int .i64 77, .int .i64 0, .int .i64 0, .string ⟨#[]⟩] 53)).drew) ⟨hgrow1.os, hgrow1.tape, hgrow1.output, hgrow1.size, fun k hk => hgrow1.block k (Nat.lt_of_lt_of_le hk (((Below.refl _ V0).alloc (Nat.le_refl _) (.cells #[.int .i64 77, .int .i64 0, .int .i64 0, .string ⟨#[]⟩] 53)).drew).size) (by simp [Value.ownBlock])⟩
          have HOV2 : Hid (V2.ownsRow V0.heap.size 53 4 (.slice (some ⟨g1, 0, none⟩) m c1) m (sgcs l)) := by
            rw [Nat.zero_add, List.nil_append] at hown1; exact hown1
          have HGR : Hid (∀ j, j < (V0.alloc (.cells #[.int .i64 77, .int .i64 0, .int .i64 0, .string ⟨#[]⟩] 53)).heap.size → V2.heap[j]? = (V0.alloc (.cells #[.int .i64 77, .int .i64 0, .int .i64 0, .string ⟨#[]⟩] 53)).heap[j]?) := fun j hj => hgrow1.block j hj (by simp [Value.ownBlock])
          clear hown1 hgrow1 hat1 hlt1
          refine hK.out _ _ (HK0.out V2 (HBW.out.trans (HBV2.out.mono hszw))) (fun _ => ?_)
          clear hK K
          change wpAnyH _ _ _ _ _ _ _ (Act.put _ (some 61) _) _
          simp only [Act.put, List.setIfInBounds_toArray, List.set_cons_zero, List.set_cons_succ, Nat.zero_add]
          refine wpAnyH_ready (rs := [7]) (by kernel_rfl) (by simp) ?_
          refine AllReadyH.cons rfl (fun K hK => ?_) AllReadyH.nil
          refine step_append_lies _ (by rfl) (.tmp 61) (.tmp 63) 51 (by rfl) V0.heap.size 53 i61 (.agg #[.int .i64 0, .int .i64 0, .int .i64 0, .string ⟨#[]⟩]) 4 40 Tryz.underlying51 hi61 hz61 hs61 hb61 rfl (by omega) (.slice (some ⟨g1, 0, none⟩) m c1) m (sgcs l) (by rfl) HOV2.out ⟨V0.heap.size, 0, none⟩ 1 1 [.int .i64 77, .int .i64 0, .int .i64 0, .string ⟨#[]⟩] (by rfl) rfl (news77 ((HGR.out V0.heap.size (by simp)).trans (Go.heap_alloc_new V0 _))) (fun u hu => by simp at hu; rcases hu with rfl | rfl | rfl | rfl <;> rfl) (by omega) HML2.out HBY2.out HBV2.out.size _ rfl ?_
          intro g3 c3 V3 hown3 hgrow3 hat3 hlt3
          have HB3 : Hid (Below V0.heap.size V0 V3) := Below.trans HBV2.out ⟨hgrow3.os, hgrow3.tape, hgrow3.output, hgrow3.size, fun j hj => hgrow3.block j (Nat.lt_of_lt_of_le hj HBV2.out.size) (fun e => by have := (World.ownsRow.lt HOV2.out j e.symm).1; omega)⟩
          have HOW : Hid (V3.ownsRow V0.heap.size 53 4 (.slice (some ⟨g3, 0, none⟩) (m + 1) c3) (m + 1) (sgcs (l ++ [⟨77, 0, 0, ⟨#[]⟩⟩]))) := by
            show World.ownsRow _ _ _ _ _ _ _
            rw [sgcs_snoc]
            exact hown3
          clear hown3 hgrow3 hat3 hlt3
          refine hK.out _ _ (HK0.out V3 (HBW.out.trans (HB3.out.mono hszw))) (fun hS0 => ?_)
          clear hK K
          change wpAnyH _ _ _ _ _ _ _ (Act.put _ (some 64) _) _
          simp only [Act.put, List.setIfInBounds_toArray, List.set_cons_zero, List.set_cons_succ]
          have hcap3 : m + 1 ≤ c3 := own_cap HOW.out
          have hcI3 : (m : Int) ≤ c3 := by omega
          refine wpAnyH_take (i := 13) (v := .slice (some ⟨g3, 0, none⟩) m c3) rfl (by kernel_rfl) (by kernel_rfl) (by kernel_rfl) (fun _ _ _ h => h) (Or.inl ⟨by rfl, fun wx _ => by go_simp⟩) hS0 ?_
          change wpAnyH _ _ _ _ _ _ _ (Act.put _ (some 70) _) _
          simp only [Act.put, List.setIfInBounds_toArray, List.set_cons_zero, List.set_cons_succ]
          refine wpAnyH_take (i := 14) (v := .slice (some ⟨g3, 0, none⟩) m c3) rfl (by kernel_rfl) (by kernel_rfl) (by kernel_rfl) (fun _ _ _ h => h) (Or.inl ⟨by rfl, fun wx _ => by go_simp⟩) hS0 ?_
          change wpAnyH _ _ _ _ _ _ _ (Act.put _ (some 12) _) _
          simp only [Act.put, List.setIfInBounds_toArray, List.set_cons_zero, List.set_cons_succ]
          refine wpAnyH_done (by kernel_rfl) ?_ _
          clear hS0
          obtain ⟨f, hf⟩ : ∃ f : Nat, f = (if l.all okS = true then 0 else 1) := ⟨_, rfl⟩
          obtain ⟨En, hEn⟩ : ∃ En, En = (if l.all okS = true then oks (E.take k) ++ [l] else oks (E.take k)) := ⟨_, rfl⟩
          have HEN : Hid (oks (E.take (k + 1)) = En) := by rw [hEn]; exact HOK.out
          have HB3w : Hid (Below w.heap.size w V3) := HBW.out.trans (HB3.out.mono hszw)
          have HBT3 : Hid (Bth w.heap.size V3 tb rb who F W need r 0 (oks (E.take k))) := by
            have h := HBT.out
            exact ⟨h.t.move HB3.out.size (fun b hb _ => HB3.out.block b hb), h.m.move HB3.out.size (fun b hb _ => HB3.out.block b hb), h.lt_, h.lf, h.ap⟩
          have hg3 : V0.heap.size ≤ g3 := (HOW.out.lt g3 rfl).1
          have hg3' : g3 < V3.heap.size := (HOW.out.lt g3 rfl).2
          have HGF : Hid (¬ F g3 ∧ ¬ of who g3) := ⟨fun h => by have := HBT.out.m.lim h; omega, fun h => by have := HBT.out.t.lim h; omega⟩
          have hsz3 := HB3.out.size
          have HRT : Hid (Calls Tryz.prog 29 #[.pointer (some ⟨rb, 0, none⟩), .slice (some ⟨b1, o1, none⟩) m cp] V3 fun e w' => e = .returned (.int .i64 (f : Int)) ∧ RfAt w' rb (more F V3 w') W need 0 En ∧ Kp F V3 w') := by
            have h := rtell_any l (some ⟨b1, o1, none⟩) cp HBT3.out.m HG.out (HS.out.below HB3w.out) (by omega)
            rw [← HM.out, ← hf, ← hEn] at h
            exact h
          have HTL : Hid (∀ V4, RfAt V4 rb (more F V3 V4) W need 0 En → Kp F V3 V4 → Calls Tryz.prog 30 #[.pointer (some ⟨tb, 0, none⟩), .slice (some ⟨g3, 0, none⟩) m c3] V4.drew fun e w' => e = .returned (errV f) ∧ ∃ who' r', Bth w.heap.size w' tb rb who' (more F V3 V4) W need r' 0 En ∧ r' ≤ (k + 1) * 25 ∧ Kp (of who) V4 w' ∧ (∀ b, of who' b → of who b ∨ V4.heap.size ≤ b)) := fun V4 hm4 hk4 => by
            have hon : SgsOn V4.drew (some ⟨g3, 0, none⟩) l := (own_read HOW.out).move hk4.size (fun b' o' hp hlt => by simp at hp; rw [← hp.1]; exact hk4.block g3 hg3' HGF.out.1)
            have htr : TrAt V4.drew tb who W need (oks (E.take k)).length r (epOf (oks (E.take k))) := (HBT3.out.t.kp hk4 HBT3.out.ap).below (drewN_below V4 1)
            have h := tell_any l (some ⟨g3, 0, none⟩) c3 htr (by rw [← HM.out]; exact hm25) hon (fun b' o' hp => by simp at hp; rw [← hp.1]; exact HGF.out.2) (fun x hx => by have := HG20.out x hx; omega) (by omega) (by omega) (epOf_past _ (Nat.le_refl _))
            rw [← HM.out, ← hf] at h
            refine h.mono ?_
            rintro e w' ⟨rfl, who', t1, t2, t3⟩
            have hm4' := hm4
            rw [hEn] at hm4'
            have hb := bth_told (V5 := w') HBT3.out (Nat.le_trans hszw hsz3) hm4' hk4 t1 ((below_kp (drewN_below V4 1) _).trans t2) t3
            rw [← hEn] at hb
            refine ⟨rfl, who', _, hb, ?_, (below_kp (drewN_below V4 1) _).trans t2, t3⟩
            split <;> omega
          have kk3 := HK0.out V3 HB3w.out
          clear hf hEn
          go_wp2_with fail
          refine HRT.out.mono ?_
          rintro e V4 ⟨rfl, hm4, hk4⟩
          obtain ⟨p4, c4, hv4⟩ := hm4.view
          have hS0 : V4.drew.cell? ⟨rb, 2, none⟩ = some (.slice p4 En.length c4) := hv4.c2
          have HK4 : Hid (Kp F V3 V4) := hk4
          have HM4 : Hid (RfAt V4 rb (more F V3 V4) W need 0 En) := hm4
          have HRB4 : Hid (∀ V5, Kp (of who) V4 V5 → V5.cell? ⟨rb, 2, none⟩ = some (.slice p4 En.length c4)) := fun V5 hk5 => by
            have hnw : ¬ of who rb := fun hw => by
              obtain ⟨fb, mm, v, Df, ps, dd⟩ := HBT3.out.m.out
              exact HBT3.out.ap rb hw dd.fd
            rw [World.cell?_of_block (hk5.block rb hm4.lt hnw)]
            exact hv4.c2
          have HCL := HTL.out V4 hm4 hk4
          have HCT : Hid (Calls Tryz.prog 30 #[.pointer (some ⟨tb, 0, none⟩), .slice (some ⟨g3, 0, none⟩) m c3] V4.drew fun e w' => e = .returned (errV f) ∧ ∃ who' r', Bth w.heap.size w' tb rb who' (more F V3 V4) W need r' 0 En ∧ r' ≤ (k + 1) * 25 ∧ Kp (of who) V4 w' ∧ (∀ b, of who' b → of who b ∨ V4.heap.size ≤ b)) := HCL
          have hneE : ((En.length : Int) != En.length) = false := by simp
          clear hm4 hk4 hv4 HCL HRT HTL kk3
          go_wp2
          refine wp_region_held_drew (S := fun U => U.cell? ⟨rb, 2, none⟩ = some (.slice p4 En.length c4)) (by kernel_rfl) hS0 (fun _ => ?_)
          refine wpAnyH_take (i := 0) (v := .pointer (some ⟨tb, 0, none⟩)) rfl (by kernel_rfl) (by kernel_rfl) (by kernel_rfl) (fun _ _ _ h => h) (Or.inl ⟨by rfl, fun wx _ => by go_simp⟩) hS0 ?_
          change wpAnyH _ _ _ _ _ _ _ (Act.put _ (some 77) _) _
          simp only [Act.put, List.setIfInBounds_toArray, List.set_cons_zero, List.set_cons_succ]
          refine wpAnyH_take (i := 1) (v := .slice (some ⟨g3, 0, none⟩) m c3) rfl (by kernel_rfl) (by kernel_rfl) (by kernel_rfl) (fun _ _ _ h => h) (Or.inl ⟨by rfl, fun wx _ => by go_simp⟩) hS0 ?_
          change wpAnyH _ _ _ _ _ _ _ (Act.put _ (some 78) _) _
          simp only [Act.put, List.setIfInBounds_toArray, List.set_cons_zero, List.set_cons_succ]
          refine wpAnyH_take (i := 3) (v := .int .i64 (f : Int)) rfl (by kernel_rfl) (by kernel_rfl) (by kernel_rfl) (fun _ _ _ h => h) (Or.inl ⟨by rfl, fun wx _ => by go_simp⟩) hS0 ?_
          change wpAnyH _ _ _ _ _ _ _ (Act.put _ (some 80) _) _
          simp only [Act.put, List.setIfInBounds_toArray, List.set_cons_zero, List.set_cons_succ]
          refine wpAnyH_ready (rs := [2]) (by kernel_rfl) (by simp) ?_
          refine AllReadyH.cons rfl (fun K hK => ?_) AllReadyH.nil
          go_simp
          refine HCT.out.mono ?_
          rintro e V5 ⟨rfl, who', r', hb5, hr5, hk5, hsub5⟩
          have HB5 : Hid (Bth w.heap.size V5 tb rb who' (more F V3 V4) W need r' 0 En) := hb5
          have HK5 : Hid (Kp (of who) V4 V5 ∧ (∀ b, of who' b → of who b ∨ V4.heap.size ≤ b)) := ⟨hk5, hsub5⟩
          have hS5 := HRB4.out V5 hk5
          clear hb5 hk5 hsub5
          refine hK.out _ _ hS5 (fun _ => ?_)
          clear hK K hS0
          have hS0 := hS5
          refine wpAnyH_ready (rs := [4]) (by kernel_rfl) (by simp) ?_
          refine AllReadyH.cons rfl (fun K hK => ?_) AllReadyH.nil
          go_simp
          refine (same_any f _).mono ?_
          rintro e V6 ⟨rfl, hV6⟩
          subst hV6
          refine hK.out _ _ hS5 (fun _ => ?_)
          clear hK K
          refine wpAnyH_take (i := 5) (v := .bool false) rfl (by kernel_rfl) (by kernel_rfl) (by kernel_rfl) (fun _ _ _ h => h) (Or.inl ⟨by rfl, fun wx _ => by go_simp⟩) hS0 ?_
          change wpAnyH _ _ _ _ _ _ _ (Act.put _ (some 82) _) _
          simp only [Act.put, List.setIfInBounds_toArray, List.set_cons_zero, List.set_cons_succ]
          refine wpAnyH_take (i := 6) (v := .bool false) rfl (by kernel_rfl) (by kernel_rfl) (by kernel_rfl) (fun _ _ _ h => h) (Or.inl ⟨by rfl, fun wx _ => by go_simp⟩) hS0 ?_
          change wpAnyH _ _ _ _ _ _ _ (Act.put _ (some 83) _) _
          simp only [Act.put, List.setIfInBounds_toArray, List.set_cons_zero, List.set_cons_succ]
          refine wpAnyH_take (i := 7) (v := .pointer (some ⟨tb, 0, none⟩)) rfl (by kernel_rfl) (by kernel_rfl) (by kernel_rfl) (fun _ _ _ h => h) (Or.inl ⟨by rfl, fun wx _ => by go_simp⟩) hS0 ?_
          change wpAnyH _ _ _ _ _ _ _ (Act.put _ (some 84) _) _
          simp only [Act.put, List.setIfInBounds_toArray, List.set_cons_zero, List.set_cons_succ]
          refine wpAnyH_take (i := 9) (v := .pointer (some ⟨rb, 0, none⟩)) rfl (by kernel_rfl) (by kernel_rfl) (by kernel_rfl) (fun _ _ _ h => h) (Or.inl ⟨by rfl, fun wx _ => by go_simp⟩) hS0 ?_
          change wpAnyH _ _ _ _ _ _ _ (Act.put _ (some 86) _) _
          simp only [Act.put, List.setIfInBounds_toArray, List.set_cons_zero, List.set_cons_succ]
          refine wpAnyH_take (i := 10) (v := .pointer (some ⟨rb, 0, none⟩)) rfl (by kernel_rfl) (by kernel_rfl) (by kernel_rfl) (fun _ _ _ h => h) (Or.inl ⟨by rfl, fun wx _ => by go_simp⟩) hS0 ?_
          change wpAnyH _ _ _ _ _ _ _ (Act.put _ (some 87) _) _
          simp only [Act.put, List.setIfInBounds_toArray, List.set_cons_zero, List.set_cons_succ]
          refine wpAnyH_take (i := 11) (v := .pointer (some ⟨rb, 2, none⟩)) rfl (by kernel_rfl) (by kernel_rfl) (by kernel_rfl) (fun _ _ _ h => h) (Or.inl ⟨by rfl, fun wx _ => by go_simp⟩) hS0 ?_
          change wpAnyH _ _ _ _ _ _ _ (Act.put _ (some 88) _) _
          simp only [Act.put, List.setIfInBounds_toArray, List.set_cons_zero, List.set_cons_succ]
          refine wpAnyH_take (i := 12) (v := .slice p4 En.length c4) rfl (by kernel_rfl) (by kernel_rfl) (by kernel_rfl) (fun _ _ _ h => h) (Or.inl ⟨by rfl, fun wx hS => by (try dsimp only at hS); have s1 := hS; go_simp⟩) hS0 ?_
          change wpAnyH _ _ _ _ _ _ _ (Act.put _ (some 89) _) _
          simp only [Act.put, List.setIfInBounds_toArray, List.set_cons_zero, List.set_cons_succ]
          refine wpAnyH_take (i := 13) (v := .int .i64 (En.length : Int)) rfl (by kernel_rfl) (by kernel_rfl) (by kernel_rfl) (fun _ _ _ h => h) (Or.inl ⟨by rfl, fun wx _ => by go_simp⟩) hS0 ?_
          change wpAnyH _ _ _ _ _ _ _ (Act.put _ (some 90) _) _
          simp only [Act.put, List.setIfInBounds_toArray, List.set_cons_zero, List.set_cons_succ]
          refine wpAnyH_ready (rs := [8]) (by kernel_rfl) (by simp) ?_
          refine AllReadyH.cons rfl (fun K hK => ?_) AllReadyH.nil
          go_simp
          refine (epochs_any HB5.out.t).mono ?_
          rintro e V7 ⟨rfl, hV7⟩
          subst hV7
          refine hK.out _ _ hS5 (fun _ => ?_)
          clear hK K
          refine wpAnyH_take (i := 14) (v := .bool false) rfl (by kernel_rfl) (by kernel_rfl) (by kernel_rfl) (fun _ _ _ h => h) (Or.inl ⟨by rfl, fun wx _ => by go_simp⟩) hS0 ?_
          change wpAnyH _ _ _ _ _ _ _ (Act.put _ (some 91) _) _
          simp only [Act.put, List.setIfInBounds_toArray, List.set_cons_zero, List.set_cons_succ]
          refine wpAnyH_take (i := 15) (v := .bool false) rfl (by kernel_rfl) (by kernel_rfl) (by kernel_rfl) (fun _ _ _ h => h) (Or.inl ⟨by rfl, fun wx _ => by go_simp⟩) hS0 ?_
          change wpAnyH _ _ _ _ _ _ _ (Act.put _ (some 92) _) _
          simp only [Act.put, List.setIfInBounds_toArray, List.set_cons_zero, List.set_cons_succ]
          refine wpAnyH_done (by kernel_rfl) ?_ _
          clear hS0 hS5 HRB4
          have HOW5 : Hid (V7.ownsRow V0.heap.size 53 4 (.slice (some ⟨g3, 0, none⟩) (m + 1) c3) (m + 1) (sgcs (l ++ [⟨77, 0, 0, ⟨#[]⟩⟩]))) := own_keep HOW.out (fun b hb => by
            simp [Value.ownBlock] at hb
            subst hb
            rw [HK5.out.1.block g3 (Nat.lt_of_lt_of_le hg3' HK4.out.size) HGF.out.2, HK4.out.block g3 hg3' HGF.out.1])
          have HBF : Hid (Below w.heap.size w V7) := HB3w.out.trans ((HK4.out.below (Nat.le_trans hszw hsz3) (fun b hb hF => by have := HBT.out.lf b hF; omega)).trans (HK5.out.1.below (by have := HK4.out.size; omega) (fun b hb hF => by have := HBT.out.lt_ b hF; omega)))
          have hmI : (m : Int) ≤ 25 := by omega
          go_wp2
          go_loopw [14] (fun i U => ∃ (j : Nat) (xs : List Value), j ≤ m ∧ i = .int .i64 (j : Int) ∧ U.ownsRow V0.heap.size 53 4 (.slice (some ⟨g3, 0, none⟩) (m + 1) c3) (m + 1) xs ∧ Kp (fun b => b = g3) V7 U) (fun i _ => m - (intOf i).toNat)
          case atStart => exact ⟨0, _, Nat.zero_le _, rfl, HOW5.out, Kp.refl _ _⟩
          case round =>
            obtain ⟨j, xs, hj, rfl, ho, hkp⟩ := hrel
            have HO : Hid (wr.ownsRow V0.heap.size 53 4 (.slice (some ⟨g3, 0, none⟩) (m + 1) c3) (m + 1) xs) := ho
            have HKP : Hid (Kp (fun b => b = g3) V7 wr) := hkp
            clear hkp
            by_cases hjm : j < m
            case neg =>
              have hII : ¬ (j : Int) < m := by omega
              clear ho hjm
              go_wp2
              have hne : ∀ b, of who' b ∨ more F V3 V4 b → b ≠ g3 := fun b hb e => by
                subst e
                rcases hb with hb | hb
                · rcases HK5.out.2 b hb with h | h
                  · exact HGF.out.2 h
                  · have := HK4.out.size; omega
                · rcases hb with hb | hb
                  · exact HGF.out.1 hb
                  · omega
              refine ⟨⟨rfl, rfl, k + 1, who', more F V3 V4, r', by omega, by go_num, ?_, hr5, HBF.out.trans (HKP.out.below HBF.out.size (fun b hb e => by have e : b = g3 := e; omega))⟩, by simp [intOf]; omega⟩
              rw [HEN.out]
              have h := HB5.out
              exact ⟨h.t.move HKP.out.size (fun b hb hw => HKP.out.block b hb (hne b (Or.inl hw))), h.m.move HKP.out.size (fun b hb hw => HKP.out.block b hb (hne b (Or.inr hw))), h.lt_, h.lf, h.ap⟩
            case pos =>
              have hjI : (j : Int) < m := by omega
              have hxl := ho.1
              have cell : ∀ i, i < (m + 1) * 4 → ∃ u, wr.cell? ⟨g3, i, none⟩ = some u := fun i hi => by
                have h1 := ho.cellAt i (by omega)
                rw [List.getElem?_eq_getElem (by omega)] at h1
                exact ⟨_, h1⟩
              obtain ⟨u0, z0⟩ := cell (j * 4) (by omega)
              obtain ⟨u1, z1⟩ := cell (j * 4 + 1) (by omega)
              obtain ⟨u2, z2⟩ := cell (j * 4 + 1 + 1) (by omega)
              obtain ⟨u3, z3⟩ := cell (j * 4 + 1 + 1 + 1) (by omega)
              have y0 := ho.frozenAt (j * 4)
              have y1 := ho.frozenAt (j * 4 + 1)
              have y2 := ho.frozenAt (j * 4 + 1 + 1)
              have y3 := ho.frozenAt (j * 4 + 1 + 1 + 1)
              clear ho hxl cell hjm
              go_wp2
              obtain ⟨s1, s1'⟩ := HO.out.stored (j * 4) (.int .i64 7)
              obtain ⟨s2, s2'⟩ := s1.stored (j * 4 + 1) (.int .i64 0)
              obtain ⟨s3, s3'⟩ := s2.stored (j * 4 + 1 + 1) (.int .i64 0)
              obtain ⟨s4, s4'⟩ := s3.stored (j * 4 + 1 + 1 + 1) (.string ⟨#[111, 116, 104, 101, 114]⟩)
              have gk : ∀ {A B : World}, A.grownBy B (some g3) → Kp (fun b => b = g3) A B := fun h => grown_kp h (fun k hk => by simpa using hk.symm)
              go_roundw
              case rel => exact ⟨j + 1, _, by omega, by go_num, s4, HKP.out.trans ((gk s1').trans ((gk s2').trans ((gk s3').trans (gk s4'))))⟩
              case measure => simp [intOf]; omega
end
end Go.Proofs.YtnahkonklkcbeabGreatDoor.TkA
