/-
  A track and the document's track beside one another; what asTrack does to the world.
-/
import Derived.Test.YtbmaioklmcgkbaaTkT
namespace Go.Proofs.Ytbmaioklmcgkbaa.TkA
open Go.RowKit TkM TkW Go.Maps Go.Shelf
set_option maxRecDepth 100000

/-- Both, beside one another, above B. -/
structure Bth (B : Nat) (V : World) (tb rb : Nat) (who : Nat → Nat × ByteArray × Nat) (F : Nat → Prop) (W need r q : Nat) (E : List (List Sg)) : Prop where
  t : TrAt V tb who W need E.length r (epOf E)
  m : RfAt V rb F W need q E
  lt_ : ∀ b, of who b → B ≤ b
  lf : ∀ b, F b → B ≤ b
  ap : ∀ b, of who b → ¬ F b
section
variable {B : Nat} {V : World} {tb rb : Nat} {who : Nat → Nat × ByteArray × Nat} {F : Nat → Prop} {W need r q : Nat} {E : List (List Sg)}
theorem Bth.below {V' : World} (h : Bth B V tb rb who F W need r q E) (hb : Below V.heap.size V V') : Bth B V' tb rb who F W need r q E :=
  ⟨h.t.below hb, h.m.below hb, h.lt_, h.lf, h.ap⟩
theorem Bth.ref {V' : World} {q' : Nat} (h : Bth B V tb rb who F W need r q E) (hm : RfAt V' rb F W need q' E) (hk : Kp F V V') : Bth B V' tb rb who F W need r q' E :=
  ⟨h.t.kp hk h.ap, hm, h.lt_, h.lf, h.ap⟩
theorem Bth.more {q' : Nat} (h : Bth B V tb rb who F W need r q E) (hq : q ≤ q') : Bth B V tb rb who F W need r q' E := ⟨h.t, h.m.more hq, h.lt_, h.lf, h.ap⟩
/-- Tags that are asked for. -/
structure TsOn (V : World) (F : Nat → Prop) (p : Option Addr) (L : List ByteArray) : Prop where
  at_ : ∀ i s, L[i]? = some s → ∃ g o, p = some ⟨g, o, none⟩ ∧ V.cell? ⟨g, o + i, none⟩ = some (.string s) ∧ ¬ F g ∧ g < V.heap.size
theorem TsOn.kp {V' : World} {p : Option Addr} {L : List ByteArray} (h : TsOn V F p L) (hk : Kp F V V') : TsOn V' F p L where
  at_ := fun i s hs => by
    obtain ⟨g, o, hp, hc, hF, hlt⟩ := h.at_ i s hs
    exact ⟨g, o, hp, by rw [World.cell?_of_block (hk.block g hlt hF)]; exact hc, hF, Nat.lt_of_lt_of_le hlt hk.size⟩
/-- Between the rounds. -/
structure Asks (w V : World) (B tb rb : Nat) (who : Nat → Nat × ByteArray × Nat) (F : Nat → Prop) (W need r q : Nat) (E : List (List Sg)) : Prop where
  b : Bth B V tb rb who F W need r q E
  kp : Kp F w V
  mbox : V.heap[w.heap.size]? = some (.cells #[.pointer (some ⟨rb, 0, none⟩)] 79)
  rbox : V.heap[w.heap.size + 1]? = some (.cells #[.bool false] 4)
theorem Asks.ref {w V' : World} {q' : Nat} (h : Asks w V B tb rb who F W need r q E) (hw : ∀ b, F b → b < w.heap.size) (hm : RfAt V' rb F W need q' E) (hk : Kp F V V') : Asks w V' B tb rb who F W need r q' E where
  b := h.b.ref hm hk
  kp := h.kp.trans hk
  mbox := (hk.block _ (Array.getElem?_eq_some_iff.1 h.mbox).1 (fun hF => by have := hw _ hF; omega)).trans h.mbox
  rbox := (hk.block _ (Array.getElem?_eq_some_iff.1 h.rbox).1 (fun hF => by have := hw _ hF; omega)).trans h.rbox
theorem Asks.below {w V' : World} (h : Asks w V B tb rb who F W need r q E) (hb : Below V.heap.size V V') : Asks w V' B tb rb who F W need r q E where
  b := h.b.below hb
  kp := h.kp.trans (below_kp hb F)
  mbox := (hb.block _ (Array.getElem?_eq_some_iff.1 h.mbox).1).trans h.mbox
  rbox := (hb.block _ (Array.getElem?_eq_some_iff.1 h.rbox).1).trans h.rbox
theorem Asks.more {w : World} {q' : Nat} (h : Asks w V B tb rb who F W need r q E) (hq : q ≤ q') : Asks w V B tb rb who F W need r q' E := ⟨h.b.more hq, h.kp, h.mbox, h.rbox⟩
end
theorem mkxs {A : ByteArray → Prop} : ∀ (ss : List (List UInt8)), (∀ l, l ∈ ss → A ⟨l.toArray⟩) → ∃ xs : List { x : ByteArray // A x }, xs.map (fun x => x.1.data.toList) = ss
  | [], _ => ⟨[], rfl⟩
  | l :: ss, h => by
    obtain ⟨xs, hx⟩ := mkxs ss (fun l hl => h l (List.mem_cons_of_mem _ hl))
    exact ⟨⟨⟨l.toArray⟩, h l List.mem_cons_self⟩ :: xs, by simp [hx]⟩
theorem own_strs {V : World} {base : Nat} {v : Value} {ss : List (List UInt8)} (h : V.ownsRow base 9 1 v ss.length (ss.map encStr)) : ∃ p cap, v = .slice p ss.length cap ∧ ∀ j x, ss[j]? = some x → ∃ g, p = some ⟨g, 0, none⟩ ∧ V.cell? ⟨g, j, none⟩ = some (.string ⟨x.toArray⟩) := by
  rcases Nat.eq_zero_or_pos ss.length with h0 | h0
  · have : ss = [] := List.length_eq_zero_iff.1 h0
    subst this
    rcases h.2 with ⟨rfl, _⟩ | ⟨g, cap, cur, hv, _⟩
    · exact ⟨none, 0, rfl, fun i y h => by simp at h⟩
    · exact ⟨_, cap, hv, fun i y h => by simp at h⟩
  · obtain ⟨g, cap, rfl, _, _⟩ := h.form h0
    refine ⟨some ⟨g, 0, none⟩, cap, rfl, fun j x hx => ⟨g, rfl, ?_⟩⟩
    have := h.cells (g := g) rfl j (encStr x) (by simp [hx])
    rw [addr_add] at this
    exact this
theorem own_zero {V : World} {base : Nat} {e : TypeId} {size n n' cap b o : Nat} {xs : List Value} (h : V.ownsRow base e size (.slice (some ⟨b, o, none⟩) n cap) n' xs) : (Value.slice (some ⟨b, o, none⟩) n cap).ownBlock = some b := by
  rcases h.2 with ⟨h', _⟩ | ⟨g, cap', cur, hv, _⟩
  · simp at h'
  · simp at hv
    rw [hv.1.1, hv.1.2]
    rfl
theorem own_nb {β : Type} {NB : Nat} {w1 : World} {f : β → Value} (h : NB < w1.heap.size) : OwnFrom w1.heap.size (fun (s : β) W => W.heap[NB]? = some (.cells #[f s] 3) ∧ Kp (fun b => b = NB) w1 W) := fun s W W' row hs hg hr => by
  have hz := hs.2.size
  refine ⟨(hg.block NB (by omega) (fun e => ?_)).trans hs.1, hs.2.then (G := fun b => row = some b) ⟨hg.os, hg.tape, hg.output, hg.size, fun k hk hn => hg.block k hk (fun e => hn e.symm)⟩ (fun i hi e => ?_)⟩
  · have := (hr NB e.symm).1; omega
  · have := (hr i e).1; omega
section
variable {B : Nat} {w : World} {tb rb : Nat} {who : Nat → Nat × ByteArray × Nat} {F : Nat → Prop} {W need r q : Nat} {E : List (List Sg)}
attribute [local go_sem] Oper.semAt_some
set_option maxHeartbeats 4000000 in
theorem asTrack_any (p : Option Addr) (cap : Nat) (L : List ByteArray) (d : Bth B w tb rb who F W need r 0 E) (hW : W ≤ 8) (hr : r ≤ 90000) (hE : E.length ≤ 25) (hL : L.length ≤ 700) (hts : TsOn w F p L) (hg : ∀ s, s ∈ L → s.size ≤ 100000) :
    Calls Try.prog 36 #[.pointer (some ⟨tb, 0, none⟩), .pointer (some ⟨rb, 0, none⟩), .slice p L.length cap] w fun e w' => e = .returned (.bool true) ∧ Kp F w w' := by
  have mixed : Try.prog.follows .mixedOrders = true := by kernel_rfl
  have HD : Hid (Bth B w tb rb who F W need r 0 E) := d
  have HTS : Hid (TsOn w F p L) := hts
  have HG : Hid (∀ s, s ∈ L → s.size ≤ 100000) := hg
  have HWF : Hid (∀ b, F b → b < w.heap.size) := fun b hb => d.m.lim hb
  have HTT : Hid (∀ g, told g E = true ↔ ∃ e, seenG g (epOf E e) = true) := fun g => told_iff
  obtain ⟨N, hN⟩ : ∃ N, N = E.length := ⟨_, rfl⟩
  have HN : Hid (N = E.length) := hN
  obtain ⟨T, hT⟩ : ∃ T, T = L.length := ⟨_, rfl⟩
  have HT : Hid (T = L.length) := hT
  rw [← hN] at hE
  rw [← hT] at hL ⊢
  have HA0 : Hid (Asks w ((w.alloc (.cells #[.pointer (some ⟨rb, 0, none⟩)] 79)).alloc (.cells #[.bool false] 4)) B tb rb who F W need r 0 E) := by
    have hb : Below w.heap.size w ((w.alloc (.cells #[.pointer (some ⟨rb, 0, none⟩)] 79)).alloc (.cells #[.bool false] 4)) := ((Below.refl _ w).alloc (Nat.le_refl _) _).alloc (by simp) _
    refine ⟨d.below hb, below_kp hb F, ?_, ?_⟩
    · rw [Below.heap_alloc _ _ _ (by simp)]; exact Go.heap_alloc_new w _
    · have := Go.heap_alloc_new (w.alloc (.cells #[.pointer (some ⟨rb, 0, none⟩)] 79)) (.cells #[.bool false] 4)
      rw [World.size_alloc] at this
      exact this
  clear d hts hg hN hT
  refine (callsIn_wide (n := 3)).1 ?_
  refine callsIn_of_wp_marks Try.func36 rfl trivial ?_ rfl
  refine wpIn_wide.2 ?_
  simp only [Try.ntmps36, List.size_toArray, List.length_cons, List.length_nil, Nat.reduceAdd, Nat.reduceSub, Array.replicate_succ, Array.replicate_zero, List.push_toArray, List.append_toArray, List.nil_append, List.cons_append]
  go_wp2
  go_loopw [7, 8, 9, 10, 11, 12, 13] (fun i _ _ _ _ _ _ V => ∃ k : Nat, k ≤ T ∧ i = .int .i64 (k : Int) ∧ Asks w V B tb rb who F W need r (k * 2000) E) (fun i _ _ _ _ _ _ _ => T - (intOf i).toNat)
  case atStart => exact ⟨0, Nat.zero_le _, rfl, by rw [Nat.zero_mul]; exact HA0.out⟩
  case round =>
    clear HA0
    obtain ⟨k, hk, rfl, hA⟩ := hrel
    have HA : Hid (Asks w wr B tb rb who F W need r (k * 2000) E) := hA
    clear hA
    by_cases hlt : k < T
    case neg =>
      have hkk : k = T := by omega
      subst hkk
      have hII : ¬ (k : Int) < k := by omega
      go_wp2_with fail
      have hA1 : Asks w (wr.alloc (.cells #[.int .i64 0] 3)) B tb rb who F W need r (k * 2000) E := HA.out.below ((Below.refl _ wr).alloc (Nat.le_refl _) _)
      have hNB : (wr.alloc (.cells #[.int .i64 0] 3)).heap[wr.heap.size]? = some (.cells #[.int .i64 0] 3) := Go.heap_alloc_new wr _
      refine (tags_any hA1.b.t hr).mono ?_
      rintro x w1 ⟨rfl, v, ss, hcv, hown, hl9, hnd, hmem, hb1, hsz1⟩
      have HA1 : Hid (Asks w w1 B tb rb who F W need r (k * 2000) E) := hA1.below hb1
      rw [World.size_alloc] at hcv hown hb1 hsz1 ⊢
      have HNB1 : Hid (w1.heap[wr.heap.size]? = some (.cells #[.int .i64 0] 3)) := (hb1.block _ (by omega)).trans hNB
      obtain ⟨NB, hNBe⟩ : ∃ NB, NB = wr.heap.size := ⟨_, rfl⟩
      rw [← hNBe] at hcv hown hb1 hsz1 HNB1 ⊢
      clear hA1 hNB
      have hwNB : w.heap.size + 1 < NB := by rw [hNBe]; exact (Array.getElem?_eq_some_iff.1 HA.out.rbox).1
      have HW1F : Hid (∀ b, F b → b < NB) := fun b hb => by have := HWF.out b hb; omega
      obtain ⟨xs, hxs⟩ := mkxs (A := fun x => told x E = true) ss (fun l hl => (HTT.out _).2 ((hmem ⟨l.toArray⟩).1 (by simpa using hl)))
      have hxl : xs.length = ss.length := by rw [← hxs]; simp
      obtain ⟨pv, cv, hve, hcells⟩ := own_strs hown
      subst hve
      have HTG : Hid (TgOn w1 (NB + 1) pv xs cv) := by
        refine ⟨by rw [hxl]; exact hcv, fun j x hx => ?_⟩
        obtain ⟨g, hp, hc⟩ := hcells j x.1.data.toList (by rw [← hxs, List.getElem?_map, hx]; rfl)
        exact ⟨g, hp, hc⟩
      have HOB : Hid (∀ b, (b = NB + 1 ∨ (∃ o, pv = some ⟨b, o, none⟩)) → NB < b ∧ b < w1.heap.size) := fun b hb => by
        rcases hb with rfl | ⟨o, hp⟩
        · exact ⟨by omega, hsz1⟩
        · have hown' := hown
          rw [hp] at hown'
          have h1 := hown'.lt b (own_zero hown')
          omega
      have HXN : Hid (xs.length = ss.length ∧ ss.Nodup ∧ ∀ g : ByteArray, g.data.toList ∈ ss ↔ told g E = true) := ⟨hxl, hnd, fun g => (hmem g).trans (HTT.out g).symm⟩
      have HKW : Hid (Kp F w w1) := HA1.out.kp
      clear hown hcells hnd hmem hb1 hxs hcv HA hNBe
      go_wp2
      refine (wpIn_wide (n := 3)).1 ?_
      refine wpIn_rangeFunc_ownF rfl (by omega) (gf := 77) (lb := #[.pointer (some ⟨NB + 1, 0, none⟩)]) rfl trivial (enters_of Try.func77 (by kernel_rfl) rfl)
        (tseq_stops (A := fun x => told x E = true) 2 (by omega) w1 (NB + 1) pv cv xs (fun b => b = NB + 1 ∨ (∃ o, pv = some ⟨b, o, none⟩)) (Or.inl rfl) (fun b o h => Or.inr ⟨o, h⟩) (by omega) (fun b hb => (HOB.out b hb).2) HTG.out) kpB_t (kpB_b (fun b hb => (HOB.out b hb).2)) (Below.refl _ _) (fun _ => rfl)
        (fun pre U => U.heap[NB]? = some (.cells #[.int .i64 (pre.length : Int)] 3) ∧ Kp (fun b => b = NB) w1 U) (fun _ _ _ => False) ?hI (fun _ _ _ _ _ hs _ _ => hs) ⟨HNB1.out, Kp.refl _ _⟩ ?a1 ?assign ?body ?done ?stop
      case hI => exact own_nb (by omega)
      case assign =>
        intro l x U K hK
        gi_wp2
        exact hK
      case body =>
        rintro l pre ⟨x, hx⟩ U ⟨hn, hk⟩ hlen
        have hpl : (pre.length : Int) ≤ 90000 := by omega
        have hsU := hk.size
        have hRF : RfAt U rb F W need (k * 2000) E := HA1.out.b.m.move hk.size (fun b hb hF => hk.block b hb (fun e => by have := HW1F.out b hF; omega))
        obtain ⟨pe, ce, hv⟩ := hRF.view
        have c2 := hv.c2
        rw [← HN.out] at c2
        have k0 : U.cell? ⟨w.heap.size, 0, none⟩ = some (.pointer (some ⟨rb, 0, none⟩)) := by
          have h1 := (hk.block w.heap.size (Array.getElem?_eq_some_iff.1 HA1.out.mbox).1 (by omega)).trans HA1.out.mbox
          simp [World.cell?, h1]
        have kn : U.cell? ⟨NB, 0, none⟩ = some (.int .i64 (pre.length : Int)) := by simp [World.cell?, hn]
        have fnn : U.frozen? ⟨NB, 0, none⟩ = false := by simp [World.frozen?, hn]
        have HTD : Hid (∀ V, Below U.heap.size U V → Calls Try.prog 60 #[.pointer (some ⟨rb, 0, none⟩), .string x, .int .i64 (N : Int)] V fun e w' => e = .returned (.bool true) ∧ w' = V) := fun V hV => by
          have h := told_any x (hv.below hV)
          rw [← HN.out, hx] at h
          exact h
        have HKU : Hid (Kp (fun b => b = NB) w1 U) := hk
        have HNU : Hid (U.heap[NB]? = some (.cells #[.int .i64 (pre.length : Int)] 3)) := hn
        have hd : 1 ≤ 3 - 1 - 1 := by omega
        have HPO : Hid (KeepsOthers U ((U.drewN 1).setCell ⟨NB, 0, none⟩ (.int .i64 ((pre.length : Int) + 1))) ∧ KpB (fun b => b = NB + 1 ∨ (∃ o, pv = some ⟨b, o, none⟩)) U ((U.drewN 1).setCell ⟨NB, 0, none⟩ (.int .i64 ((pre.length : Int) + 1))) ∧ ((U.drewN 1).setCell ⟨NB, 0, none⟩ (.int .i64 ((pre.length : Int) + 1))).heap[NB]? = some (.cells #[.int .i64 (((pre ++ [(⟨x, hx⟩ : { x : ByteArray // told x E = true })]).length : Nat) : Int)] 3) ∧ Kp (fun b => b = NB) w1 ((U.drewN 1).setCell ⟨NB, 0, none⟩ (.int .i64 ((pre.length : Int) + 1)))) := by
          have h1 : KeepsOthers U (U.drewN 1) := ⟨Nat.le_refl _, fun _ _ h _ => h⟩
          refine ⟨h1.trans (KeepsOthers.setCell _ _ _), fun b hb => ?_, ?_, ?_⟩
          · exact Below.heap_setCell (U.drewN 1) _ _ _ (by have := (HOB.out b hb).1; show b ≠ NB; omega)
          · have h2 : (U.drewN 1).heap[NB]? = some (.cells #[.int .i64 (pre.length : Int)] 3) := hn
            generalize U.drewN 1 = Y at h2
            simp [World.setCell, Array.getElem?_modify, h2]
          · exact (hk.trans (below_kp (drewN_below U 1) _)).trans (set_kp _ _ _ rfl)
        clear hRF hv hn hk
        gi_wp2
        gi_region_with_o (refine ⟨trivial, ?_⟩; gi_at_call 60; refine (CallsIn.inRound l (callsIn_wide.2 (HTD.out _ (drewN_below U 1)))).mono ?_; rintro e w' ⟨rfl, rfl⟩)
        all_goals gi_wp2
        all_goals exact HPO.out
      case done =>
        rintro D ys U hD rfl ⟨hn, hk⟩ hK
        have hsU := hk.size
        have hDU : D < U.heap.size := (Array.getElem?_eq_some_iff.1 hK).1
        have hRF : RfAt U rb F W need (k * 2000) E := HA1.out.b.m.move hk.size (fun b hb hF => hk.block b hb (fun e => by have := HW1F.out b hF; omega))
        obtain ⟨pe, ce, hv⟩ := hRF.view
        have c2 : U.drew.cell? ⟨rb, 2, none⟩ = some (.slice pe N ce) := by have := hv.c2; rw [← HN.out] at this; exact this
        have hmb : U.heap[w.heap.size]? = some (.cells #[.pointer (some ⟨rb, 0, none⟩)] 79) := (hk.block w.heap.size (Array.getElem?_eq_some_iff.1 HA1.out.mbox).1 (by omega)).trans HA1.out.mbox
        have hrbx : U.heap[w.heap.size + 1]? = some (.cells #[.bool false] 4) := (hk.block (w.heap.size + 1) (Array.getElem?_eq_some_iff.1 HA1.out.rbox).1 (by omega)).trans HA1.out.rbox
        have k0 : U.drew.cell? ⟨w.heap.size, 0, none⟩ = some (.pointer (some ⟨rb, 0, none⟩)) := by show U.cell? _ = _; simp [World.cell?, hmb]
        obtain ⟨M, hM⟩ : ∃ M, M = ys.length := ⟨_, rfl⟩
        rw [← hM] at hn
        have kn : U.drew.cell? ⟨NB, 0, none⟩ = some (.int .i64 (M : Int)) := by show U.cell? _ = _; simp [World.cell?, hn]
        have hrbU : rb < U.heap.size := hv.lt
        have HCL : Hid (Calls Try.prog 35 #[.pointer (some ⟨rb, 0, none⟩), .int .i64 (N : Int)] U.drew fun e w' => ∃ p3 c3, e = .returned (.slice p3 M c3) ∧ Below U.heap.size U w') := by
          have h := rtags_any (hv.below (drewN_below U 1))
          rw [← HN.out] at h
          refine h.mono ?_
          rintro e w3 ⟨v3, rfl, L3, hT3, hl3, hm3, hb3⟩
          have hlen : L3.length = M := by
            rw [hM, HXN.out.1]
            have hnd3 : (L3.map (fun x => x.data.toList)).Nodup := by
              refine List.pairwise_map.2 (hT3.srt.imp ?_)
              intro a b hab e
              have h1 : a.toList = b.toList := by rw [ByteArray.toList_eq, ByteArray.toList_eq]; exact e
              rw [h1] at hab
              exact List.lt_irrefl _ hab
            have hp : (L3.map (fun x => x.data.toList)).Perm ss := by
              refine (List.perm_ext_iff_of_nodup hnd3 HXN.out.2.1).2 (fun l => ?_)
              have e1 : (⟨l.toArray⟩ : ByteArray).data.toList = l := by simp
              rw [← e1, HXN.out.2.2 ⟨l.toArray⟩, ← hm3]
              constructor
              · intro hh
                obtain ⟨y, hy, hye⟩ := List.mem_map.1 hh
                have : y = ⟨l.toArray⟩ := bytes_ext hye
                rw [← this]; exact hy
              · intro hh
                exact List.mem_map.2 ⟨_, hh, rfl⟩
            have := hp.length_eq
            simpa using this
          have hvs : ∃ p3 c3, v3 = .slice p3 L3.length c3 := by
            rcases hT3.own.2 with ⟨rfl, h0⟩ | ⟨g, cap, cur, hv, _⟩
            · exact ⟨none, 0, by rw [← h0]⟩
            · exact ⟨_, cap, hv⟩
          obtain ⟨p3, c3, rfl⟩ := hvs
          exact ⟨p3, c3, by rw [hlen], (drewN_below U 1).trans hb3⟩
        have hDne : D ≠ w.heap.size + 1 := by have := (Array.getElem?_eq_some_iff.1 HA1.out.rbox).1; omega
        have HFF : Hid (∀ w3, Below U.heap.size U w3 → (w3.setCell ⟨w.heap.size + 1, 0, none⟩ (.bool true)).heap[D]? = some (.deferred (some [])) ∧ Kp F w ((w3.setCell ⟨w.heap.size + 1, 0, none⟩ (.bool true)).putObj D (.deferred none)) ∧ ((w3.setCell ⟨w.heap.size + 1, 0, none⟩ (.bool true)).putObj D (.deferred none)).cell? ⟨w.heap.size + 1, 0, none⟩ = some (.bool true)) := fun w3 hb3 => by
          have h1 : (w3.setCell ⟨w.heap.size + 1, 0, none⟩ (.bool true)).heap[D]? = some (.deferred (some [])) := by
            rw [Below.heap_setCell _ _ _ _ hDne, hb3.block D hDU]; exact hK
          have h2 : w3.heap[w.heap.size + 1]? = some (.cells #[.bool false] 4) := (hb3.block _ (Array.getElem?_eq_some_iff.1 hrbx).1).trans hrbx
          have h3 : (w3.setCell ⟨w.heap.size + 1, 0, none⟩ (.bool true)).heap[w.heap.size + 1]? = some (.cells #[.bool true] 4) := by simp [World.setCell, Array.getElem?_modify, h2]
          have g1 : Kp (fun b => b = D) (w3.setCell ⟨w.heap.size + 1, 0, none⟩ (.bool true)) ((w3.setCell ⟨w.heap.size + 1, 0, none⟩ (.bool true)).putObj D (.deferred none)) := grown_kp (grownBy_putObj' _ D _) (fun k hk => by simpa using hk.symm)
          refine ⟨h1, ?_, ?_⟩
          · refine Kp.then (Kp.then (Kp.then (HKW.out.then hk (fun i hi e => ?_)) (below_kp hb3 F) (fun _ _ h => h)) (set_kp (F := fun b => b = w.heap.size + 1) _ _ _ rfl) (fun i hi e => ?_)) g1 (fun i hi e => ?_)
            · have e : i = NB := e; omega
            · have e : i = w.heap.size + 1 := e; omega
            · have e : i = D := e
              have := HKW.out.size
              omega
          · have h4 : ((w3.setCell ⟨w.heap.size + 1, 0, none⟩ (.bool true)).putObj D (.deferred none)).heap[w.heap.size + 1]? = some (.cells #[.bool true] 4) := (g1.block _ (Array.getElem?_eq_some_iff.1 h3).1 (fun e => hDne e.symm)).trans h3
            simp [World.cell?, h4]
        have HRX : Hid (∀ w3, Below U.heap.size U w3 → w3.cell? ⟨w.heap.size + 1, 0, none⟩ = some (.bool false) ∧ w3.frozen? ⟨w.heap.size + 1, 0, none⟩ = false ∧ w3.cell? ⟨rb, 2, none⟩ = some (.slice pe N ce) ∧ w3.cell? ⟨w.heap.size, 0, none⟩ = some (.pointer (some ⟨rb, 0, none⟩)) ∧ w3.cell? ⟨NB, 0, none⟩ = some (.int .i64 (M : Int))) := fun w3 hb3 => by
          have h2 : w3.heap[w.heap.size + 1]? = some (.cells #[.bool false] 4) := (hb3.block _ (Array.getElem?_eq_some_iff.1 hrbx).1).trans hrbx
          have h3 : w3.heap[w.heap.size]? = some (.cells #[.pointer (some ⟨rb, 0, none⟩)] 79) := (hb3.block _ (Array.getElem?_eq_some_iff.1 hmb).1).trans hmb
          have h4 : w3.heap[NB]? = some (.cells #[.int .i64 (M : Int)] 3) := (hb3.block _ (Array.getElem?_eq_some_iff.1 hn).1).trans hn
          exact ⟨by simp [World.cell?, h2], by simp [World.frozen?, h2], by rw [hb3.cell hrbU]; exact c2, by simp [World.cell?, h3], by simp [World.cell?, h4]⟩
        have hMb : ((M : Int) == M) = true := by simp
        have n1 : ¬ NB = w.heap.size + 1 := by omega
        have n1' : ¬ w.heap.size + 1 = NB := by omega
        have n2 : ¬ rb = w.heap.size + 1 := by have := HWF.out rb (by obtain ⟨fb, m, v, Df, ps, dd⟩ := HA1.out.b.m.out; exact dd.fd); omega
        have n2' : ¬ w.heap.size + 1 = rb := fun e => n2 e.symm
        clear hRF hv hn hk hK hmb hrbx
        go_wp2
        go_region_held3 (fun X => X.cell? ⟨NB, 0, none⟩ = some (.int .i64 (M : Int)) ∧ X.cell? ⟨w.heap.size, 0, none⟩ = some (.pointer (some ⟨rb, 0, none⟩)) ∧ X.cell? ⟨rb, 2, none⟩ = some (.slice pe N ce)) (go_keep) (first | (go_at_call 35; refine HCL.out.mono ?_; rintro e w3 ⟨p3, c3, rfl, hb3⟩; obtain ⟨r1, r2, r3, r4, r5⟩ := HRX.out w3 hb3; have HB3 : Hid (Below U.heap.size U w3) := hb3; clear hb3))
        go_wp2
        obtain ⟨f1, f2, f3⟩ := HFF.out w3 HB3.out
        refine ⟨by simp, .inl ⟨_, _, rfl, run_takeDeferred f1, ?_⟩⟩
        refine ⟨.bool true, ?_, rfl, f2⟩
        simp [results, Try.f36, go_sem, f3]
      case stop =>
        rintro D c pre U _ _ h _
        exact h.elim
    case pos =>
      have hkI : (k : Int) < T := by omega
      have hk' : k < L.length := by rw [← HT.out]; exact hlt
      obtain ⟨g0, o0, hpe, hcw, hFg, hlg⟩ := HTS.out.at_ k _ (List.getElem?_eq_getElem hk')
      have hgs := HG.out _ (List.getElem_mem hk')
      generalize L[k] = s at *
      subst hpe
      have HCW : Hid (∀ V : World, Kp F w V → V.cell? ⟨g0, o0 + k, none⟩ = some (.string s)) := fun V hV => by rw [World.cell?_of_block (hV.block g0 hlg hFg)]; exact hcw
      clear hcw
      go_wp2
      go_loopw [8, 9, 10, 11, 12, 13] (fun i _ _ _ _ _ V => ∃ j : Nat, j ≤ N + 2 ∧ i = .int .i64 ((j : Int) - 1) ∧ Asks w V B tb rb who F W need r (k * 2000 + j * 60) E) (fun i _ _ _ _ _ _ => N + 2 - (intOf i + 1).toNat)
      case atStart => exact ⟨0, Nat.zero_le _, rfl, HA.out⟩
      case round =>
        clear HA
        obtain ⟨j, hj, rfl, hA⟩ := hrel
        have HA : Hid (Asks w wr B tb rb who F W need r (k * 2000 + j * 60) E) := hA
        have k0 : wr.cell? ⟨w.heap.size, 0, none⟩ = some (.pointer (some ⟨rb, 0, none⟩)) := by simp [World.cell?, hA.mbox]
        obtain ⟨pe, ce, hv⟩ := hA.b.m.view
        have c2 := hv.c2
        rw [← HN.out] at c2
        clear hv hA
        by_cases hjn : j < N + 2
        case neg =>
          have hjj : j = N + 2 := by omega
          subst hjj
          have hII : ¬ ((N : Int) + 2 - 1) ≤ N := by omega
          have hII' : ¬ (((N + 2 : Nat) : Int) - 1) ≤ N := by omega
          clear hjn
          go_wp2
          refine ⟨⟨k + 1, by omega, by go_num, HA.out.more (by omega)⟩, by simp [intOf]; omega⟩
        case pos =>
          obtain ⟨e, he⟩ : ∃ e : Int, e = (j : Int) - 1 := ⟨_, rfl⟩
          have HEJ : Hid (e = (j : Int) - 1) := he
          rw [← he]
          have heN : e ≤ N := by omega
          have he0 : -1 ≤ e := by omega
          have he25 : e ≤ 25 := by omega
          clear he
          obtain ⟨rv, hrv⟩ : ∃ rv, rv = wv N (told s E) e (whr s (epOf E) W need e.toNat) := ⟨_, rfl⟩
          have HRV : Hid (rv = wv N (told s E) e (whr s (epOf E) W need e.toNat)) := hrv
          have HW1 : Hid (Calls Try.prog 39 #[.pointer (some ⟨tb, 0, none⟩), .string s, .int .i64 e] wr fun x w' => x = .returned (.tuple #[.int .i64 rv.1, errV rv.2]) ∧ Below wr.heap.size wr w') := by
            have h := where_any s e HA.out.b.t hW (by rw [← HN.out]; omega) hgs (HTT.out s)
            rw [← HN.out, ← hrv] at h
            exact h
          have HW2 : Hid (∀ V, Asks w V B tb rb who F W need r (k * 2000 + j * 60) E → Calls Try.prog 57 #[.pointer (some ⟨rb, 0, none⟩), .string s, .int .i64 e] V fun x w' => x = .returned (.tuple #[.int .i64 rv.1, .int .i64 (rv.2 : Int)]) ∧ Asks w w' B tb rb who F W need r (k * 2000 + j * 60 + 1) E) := fun V hV => by
            have h := rwhere_any s e hV.b.m hW hgs (by omega)
            rw [← HN.out, ← hrv] at h
            exact h.mono (fun _ _ h => ⟨h.1, hV.ref HWF.out h.2.1 h.2.2⟩)
          have k1 := HCW.out wr HA.out.kp
          clear hrv hjn
          go_wp2_with fail
          refine HW1.out.mono ?_
          rintro x w1 ⟨rfl, hb1⟩
          have HA1 : Hid (Asks w w1 B tb rb who F W need r (k * 2000 + j * 60) E) := HA.out.below hb1
          clear hb1 HA HW1 k0 c2 k1
          have hS1 : w1.drew.cell? ⟨w.heap.size, 0, none⟩ = some (.pointer (some ⟨rb, 0, none⟩)) ∧ w1.drew.cell? ⟨g0, o0 + k, none⟩ = some (.string s) := ⟨by show w1.cell? _ = _; simp [World.cell?, HA1.out.mbox], HCW.out w1.drew (HA1.out.kp.trans (below_kp (drewN_below w1 1) F))⟩
          obtain ⟨m1, m2⟩ := hS1
          obtain ⟨rp, re⟩ := rv
          simp only at HW2 ⊢
          go_wp2
          go_region_held3 (fun U => U.cell? ⟨w.heap.size, 0, none⟩ = some (.pointer (some ⟨rb, 0, none⟩)) ∧ U.cell? ⟨g0, o0 + k, none⟩ = some (.string s)) (go_keep) (first | (go_at_call 57; refine (HW2.out _ (HA1.out.below (drewN_below w1 1))).mono ?_; rintro e w3 ⟨rfl, hA3⟩; have t3 : w3.cell? ⟨w.heap.size, 0, none⟩ = some (.pointer (some ⟨rb, 0, none⟩)) := (by simp [World.cell?, hA3.mbox]); have t4 : w3.cell? ⟨g0, o0 + k, none⟩ = some (.string s) := HCW.out _ hA3.kp; have HA3 : Hid (Asks w w3 B tb rb who F W need r (k * 2000 + j * 60 + 1) E) := hA3; clear hA3))
          clear HA1 HW2 m1 m2 t3 t4
          have hne : (rp != rp) = false := by simp
          go_wp2_with fail
          refine (same_any re _).mono ?_
          rintro x w4 ⟨rfl, hw4⟩
          subst hw4
          go_wp2
          go_loopw [13] (fun i V => ∃ y : Nat, y ≤ 9 ∧ i = .int .i64 ((y : Int) - 1) ∧ Asks w V B tb rb who F W need r (k * 2000 + j * 60 + 1 + y * 2) E) (fun i _ => 9 - (intOf i + 1).toNat)
          case atStart => exact ⟨0, Nat.zero_le _, rfl, HA3.out⟩
          case round =>
            clear HA3
            obtain ⟨y, hy, rfl, hA⟩ := hrel
            have HA : Hid (Asks w wr B tb rb who F W need r (k * 2000 + j * 60 + 1 + y * 2) E) := hA
            clear hA
            by_cases hy9 : y < 9
            case neg =>
              have hyy : y = 9 := by omega
              subst hyy
              clear hy9
              go_wp2
              refine ⟨⟨j + 1, by have := HEJ.out; omega, ?_, HA.out.more (by omega)⟩, ?_⟩
              · have := HEJ.out
                congr 1
                omega
              · have := HEJ.out
                simp [intOf]
                omega
            case pos =>
              obtain ⟨pl, hpl⟩ : ∃ pl : Int, pl = (y : Int) - 1 := ⟨_, rfl⟩
              have HPL : Hid (pl = (y : Int) - 1) := hpl
              rw [← hpl]
              have hpl8 : pl < 8 := by omega
              have hpl0 : -1 ≤ pl := by omega
              clear hpl
              obtain ⟨cb, hcb⟩ : ∃ cb, cb = comesB N (told s E) pl e (fun e => whr s (epOf E) W need e.toNat) := ⟨_, rfl⟩
              have HC1 : Hid (Calls Try.prog 54 #[.pointer (some ⟨tb, 0, none⟩), .string s, .int .i64 pl, .int .i64 e] wr.drew fun x w' => x = .returned (.bool cb) ∧ Below wr.drew.heap.size wr.drew w') := by
                have h := comes_any s pl e (HA.out.b.t.below (drewN_below wr 1)) hW (by rw [← HN.out]; omega) hgs (HTT.out s) (by omega) (by omega)
                rw [← HN.out, ← hcb] at h
                exact h
              have HC2 : Hid (∀ V, Asks w V B tb rb who F W need r (k * 2000 + j * 60 + 1 + y * 2) E → Calls Try.prog 58 #[.pointer (some ⟨rb, 0, none⟩), .string s, .int .i64 pl, .int .i64 e] V fun x w' => x = .returned (.bool cb) ∧ Asks w w' B tb rb who F W need r (k * 2000 + j * 60 + 1 + (y + 1) * 2) E) := fun V hV => by
                have h := rcomes_any s pl e hV.b.m hW hgs (by omega)
                rw [← HN.out, ← hcb] at h
                exact h.mono (fun _ _ h => ⟨h.1, (hV.ref HWF.out h.2.1 h.2.2).more (by omega)⟩)
              have m1 : wr.drew.cell? ⟨w.heap.size, 0, none⟩ = some (.pointer (some ⟨rb, 0, none⟩)) := by show wr.cell? _ = _; simp [World.cell?, HA.out.mbox]
              have m2 : wr.drew.cell? ⟨g0, o0 + k, none⟩ = some (.string s) := HCW.out wr.drew (HA.out.kp.trans (below_kp (drewN_below wr 1) F))
              have hcc : (cb != cb) = false := by simp
              clear hcb hy9
              go_wp2
              go_region_held3 (fun U => U.cell? ⟨w.heap.size, 0, none⟩ = some (.pointer (some ⟨rb, 0, none⟩)) ∧ U.cell? ⟨g0, o0 + k, none⟩ = some (.string s)) (go_keep) (first | (go_at_call 54; refine HC1.out.mono ?_; rintro x w3 ⟨rfl, hb3⟩; have HA3 : Hid (Asks w w3 B tb rb who F W need r (k * 2000 + j * 60 + 1 + y * 2) E) := (HA.out.below (drewN_below wr 1)).below hb3; have t3 : w3.cell? ⟨w.heap.size, 0, none⟩ = some (.pointer (some ⟨rb, 0, none⟩)) := (by simp [World.cell?, HA3.out.mbox]); have t4 : w3.cell? ⟨g0, o0 + k, none⟩ = some (.string s) := HCW.out _ HA3.out.kp; clear hb3) | (go_at_call 58; refine (HC2.out _ HA3.out).mono ?_; rintro x w4 ⟨rfl, hA4⟩; have t5 : w4.cell? ⟨w.heap.size, 0, none⟩ = some (.pointer (some ⟨rb, 0, none⟩)) := (by simp [World.cell?, hA4.mbox]); have t6 : w4.cell? ⟨g0, o0 + k, none⟩ = some (.string s) := HCW.out _ hA4.kp; have HA4 : Hid (Asks w w4 B tb rb who F W need r (k * 2000 + j * 60 + 1 + (y + 1) * 2) E) := hA4; clear hA4))
              clear t3 t4 t5 t6 m1 m2 HC1 HC2 HA HA3
              go_wp2
              go_roundw
              case rel => exact ⟨y + 1, by have := HPL.out; omega, by have := HPL.out; congr 1; omega, HA4.out⟩
              case measure => have := HPL.out; simp [intOf]; omega
end
end Go.Proofs.Ytbmaioklmcgkbaa.TkA
