/-
  What insides does to the world; the track, who is in whom and the document's track beside one another; InsideSays' walk.
-/
import Derived.Test.YtblkbogoelfjlaaDoorKnA
import Derived.Test.YtblkbogoelfjlaaDoorRefH
namespace Go.Proofs.YtblkbogoelfjlaaDoor.InA
open Go.RowKit TkM TkW TkA InM Go.Maps
set_option maxRecDepth 100000

def aB : ByteArray := ⟨#[48, 0, 0, 0, 0, 0, 0, 0]⟩
def bB : ByteArray := ⟨#[49, 0, 0, 0, 0, 0, 0, 0]⟩
theorem aB_is : TagA.be8 (TagA.num 1 0 0 0 0 0) = aB := by kernel_rfl
theorem bB_is : TagA.be8 (TagA.num 2 0 0 0 0 0) = bB := by kernel_rfl
theorem knd_a : knd aB = 1 := by kernel_rfl
theorem knd_b : knd bB = 2 := by kernel_rfl
def sA : Sg := ⟨0, 0, 0, aB⟩
def sB : Sg := ⟨0, 0, 0, bB⟩
def lAB : List Sg := [sA, sB]
theorem lAB_ok : lAB.all okS = true := by decide
theorem togAB : tog (epOf [lAB]) 1 1 1 0 aB bB = 1 := by kernel_rfl
theorem par1 : Par knd (tog (epOf [lAB]) 1 1 1 0 aB) 1 aB ⟨#[]⟩ bB := by
  refine Or.inr ⟨⟨by rw [knd_a]; omega, by rw [knd_a, knd_b]; omega⟩, by rw [togAB]; omega, fun h hk hs => ?_⟩
  by_cases hu : ∃ e, seenG h (epOf [lAB] e) = true
  · obtain ⟨e, he⟩ := hu
    obtain ⟨x, hx, rfl⟩ := seen_iff.1 he
    have hx' : x ∈ lAB := by
      by_cases h0 : e < 1
      · have : e = 0 := by omega
        subst this
        exact hx
      · rw [epOf_past _ (by simp; omega)] at hx
        exact absurd hx List.not_mem_nil
    unfold lAB at hx'
    rcases List.mem_cons.1 hx' with rfl | hx'
    · exact absurd hk (by show ¬ knd aB < knd aB; omega)
    · have : x = sB := by simpa using hx'
      subst this
      exact nb_refl
  · rw [tog_unseen2 (by omega) (unseen_of hu)] at hs
    omega
set_option maxHeartbeats 2000000 in
theorem insides_any (w : World) (hT : TagA.Tabs w) :
    Calls Tryd.prog 22 #[] w fun e w' => e = .returned (.bool true) ∧ Below w.heap.size w w' := by
  have HT : Hid (TagA.Tabs w) := hT
  have HBA : Hid (∀ V, Calls Tryd.prog 16 #[.agg #[.int .i64 1, .int .i64 0, .int .i64 0, .int .i64 0, .int .i64 0, .int .i64 0]] V fun e w' => e = .returned (.string aB) ∧ Below V.heap.size V w') := fun V => by
    have h := TagA.refbytes_any 1 0 0 0 0 0 V (by kernel_rfl)
    rw [aB_is] at h
    exact h
  have HBB : Hid (∀ V, Calls Tryd.prog 16 #[.agg #[.int .i64 2, .int .i64 0, .int .i64 0, .int .i64 0, .int .i64 0, .int .i64 0]] V fun e w' => e = .returned (.string bB) ∧ Below V.heap.size V w') := fun V => by
    have h := TagA.refbytes_any 2 0 0 0 0 0 V (by kernel_rfl)
    rw [bB_is] at h
    exact h
  clear hT
  go_enter Tryd.func22, Tryd.ntmps22
  go_wp2_with fail
  refine (new_ok 1 1 w (by omega) (by omega) (by omega) (by omega)).mono ?_
  rintro e w1 ⟨rfl, hs1, hd1, hb1⟩
  obtain ⟨tb, htb⟩ : ∃ tb, tb = w.heap.size + 1 := ⟨_, rfl⟩
  rw [← htb] at hd1 ⊢
  have HW1 : Hid (tb = w.heap.size + 1 ∧ w1.heap.size = w.heap.size + 2 ∧ TrAt w1 tb (who0 w.heap.size tb) 1 1 0 0 (epOf []) ∧ Below w.heap.size w w1) := ⟨htb, hs1, hd1, hb1⟩
  clear htb hs1 hd1 hb1
  go_wp2_with fail
  refine (HBA.out _).mono ?_
  rintro e w2 ⟨rfl, hb2⟩
  have HB2 : Hid (Below w1.heap.size w1 w2) := hb2
  clear hb2 HBA
  go_wp2_with fail
  refine (HBB.out _).mono ?_
  rintro e w3 ⟨rfl, hb3⟩
  have HB3 : Hid (Below w1.heap.size w1 w3) := HB2.out.trans (hb3.mono HB2.out.size)
  clear hb3 HBB
  go_wp2_with fail
  refine (inNew_ok tb 1 1 w3 (by omega) (by omega) (by omega) (by omega)).mono ?_
  rintro e w4 ⟨rfl, hs4, hx4, hb4⟩
  obtain ⟨xb, hxb⟩ : ∃ xb, xb = w3.heap.size := ⟨_, rfl⟩
  rw [← hxb] at hx4 ⊢
  have HX4 : Hid (TX w4 tb xb (who0 w.heap.size tb) (fun b => b = xb) (fun b => b < w.heap.size) 1 1 1 1 0 0 [] (fun _ _ => ⟨#[]⟩) ∧ Below w.heap.size w w4) := by
    obtain ⟨e1, e2, e3, e4⟩ := HW1.out
    have s3 := HB3.out.size
    refine ⟨⟨(e3.below HB3.out).below (by rw [hxb] at *; exact hb4), hx4, Prs.zero, fun b ho hf => ?_, fun b hg => ⟨by omega, fun ho => ?_⟩, fun b hg hf => ?_⟩, (e4.trans (HB3.out.mono e4.size)).trans (hb4.mono (by omega))⟩
    · have hf : b = xb := hf
      rcases of_who0 ho with h | h <;> omega
    · rcases of_who0 ho with h | h <;> omega
    · have hf : b = xb := hf
      omega
  clear hs4 hx4 hb4 hxb HW1 HB2 HB3
  obtain ⟨V5, hV5⟩ : ∃ V5, V5 = w4.alloc (.cells #[.int .i64 0, .int .i64 0, .int .i64 0, .string aB, .int .i64 0, .int .i64 0, .int .i64 0, .string bB] 98) := ⟨_, rfl⟩
  have hb5 : Below w4.heap.size w4 V5 := by rw [hV5]; exact (Below.refl _ w4).alloc (Nat.le_refl _) _
  have hs5 : SgsOn V5 (some ⟨w4.heap.size, 0, none⟩) lAB := by
    have hh : V5.heap[w4.heap.size]? = some (.cells #[.int .i64 0, .int .i64 0, .int .i64 0, .string aB, .int .i64 0, .int .i64 0, .int .i64 0, .string bB] 98) := by rw [hV5]; exact Go.heap_alloc_new w4 _
    refine ⟨fun _ => ⟨w4.heap.size, 0, rfl, (Array.getElem?_eq_some_iff.1 hh).1, fun k x hx => ?_⟩⟩
    unfold lAB at hx
    rcases k with _ | _ | k
    · simp at hx
      subst hx
      exact ⟨cell_of hh rfl, cell_of hh rfl, cell_of hh rfl, cell_of hh rfl⟩
    · simp at hx
      subst hx
      exact ⟨cell_of hh rfl, cell_of hh rfl, cell_of hh rfl, cell_of hh rfl⟩
    · simp at hx
  have HTL : Hid (Calls Tryd.prog 28 #[.pointer (some ⟨tb, 0, none⟩), .slice (some ⟨w4.heap.size, 0, none⟩) 2 2] V5 fun e w' => e = .returned .nilIface ∧ ∃ who r, TX w' tb xb who (fun b => b = xb) (fun b => b < w.heap.size) 1 1 1 1 r 0 [lAB] (fun _ _ => ⟨#[]⟩) ∧ r ≤ 2 ∧ Below w.heap.size w w') := by
    have hX5 := HX4.out.1.below hb5
    refine (tell_any0 lAB (some ⟨w4.heap.size, 0, none⟩) 2 hX5.t (by decide) hs5 (fun _ b o hb ho => ?_) (fun x hx => ?_) (by decide) (by omega) (epOf_past [] (Nat.zero_le _))).mono ?_
    · have h1 : w4.heap.size = b := by simp at hb; exact hb.1
      have h2 := HX4.out.1.t.lim ho
      omega
    · unfold lAB at hx
      rcases List.mem_cons.1 hx with rfl | hx
      · decide
      · have : x = sB := by simpa using hx
        subst this
        decide
    · rintro e w' ⟨rfl, who', t', k1, s1⟩
      rw [if_pos lAB_ok] at t' ⊢
      rw [if_pos lAB_ok, if_pos lAB_ok] at t'
      have hw5 : Below w.heap.size w V5 := HX4.out.2.trans (hb5.mono HX4.out.2.size)
      exact ⟨rfl, who', _, hX5.tell (Nat.le_refl _) t' k1 s1, by decide, hw5.trans (k1.below hw5.size (fun b hb => (hX5.nt b hb).2))⟩
  clear hb5 hs5
  go_wp2_with fail
  rw [← hV5]
  clear hV5
  refine HTL.out.mono ?_
  rintro e w6 ⟨rfl, who, r, hX6, hr6, hb6⟩
  have HX6 : Hid (TX w6 tb xb who (fun b => b = xb) (fun b => b < w.heap.size) 1 1 1 1 r 0 [lAB] (fun _ _ => ⟨#[]⟩) ∧ r ≤ 2 ∧ Below w.heap.size w w6) := ⟨hX6, hr6, hb6⟩
  clear hX6 hr6 hb6 HTL HX4
  go_wp2_with fail
  refine (next_yes HX6.out.1.t HX6.out.1.x (HT.out.below HX6.out.2.2 HT.out.size) HX6.out.1.p (by decide) (by omega) (by omega) (by decide) (by have := HX6.out.2.1; omega) (fun g hg => ?_) (by omega) (by omega) (by omega)).mono ?_
  · obtain ⟨e, he⟩ := hg
    obtain ⟨x, hx, rfl⟩ := seen_iff.1 he
    by_cases h0 : e < 1
    · have : e = 0 := by omega
      subst this
      have hx : x ∈ lAB := hx
      unfold lAB at hx
      rcases List.mem_cons.1 hx with rfl | hx
      · decide
      · have : x = sB := by simpa using hx
        subst this
        decide
    · rw [epOf_past _ (by simp; omega)] at hx
      exact absurd hx List.not_mem_nil
  rintro e w7 ⟨rfl, hnp⟩
  obtain ⟨F', f', hX7, k7, s7⟩ := HX6.out.1.next hnp
  have HX7 : Hid (TX w7 tb xb who F' (fun b => b < w.heap.size) 1 1 1 1 r 1 [lAB] f' ∧ Below w.heap.size w w7) := ⟨hX7, HX6.out.2.2.trans (k7.below HX6.out.2.2.size (fun b hb => HX6.out.1.nx b hb))⟩
  have HFA : Hid (f' 0 aB = bB) := (hX7.p 0 aB (by omega)).unique par1
  clear hnp hX7 k7 s7 HX6
  go_wp2_with fail
  refine (next_no HX7.out.1.t HX7.out.1.x (by decide) (by omega)).mono ?_
  rintro e w8 ⟨rfl, hw8⟩
  subst hw8
  have HPC : Hid (Calls Tryd.prog 33 #[.pointer (some ⟨xb, 0, none⟩), .string aB, .int .i64 0] w8 fun x' w' => x' = .returned (.tuple #[.string bB, .nilIface]) ∧ w' = w8) := by
    have h := parent_in aB 0 HX7.out.1.x (by omega) (by omega) (by decide)
    rw [HFA.out] at h
    exact h
  go_wp2_with fail
  refine Calls.mono HPC.out ?_
  rintro e w9 ⟨rfl, hw9⟩
  subst hw9
  go_wp2_with fail
  refine (same_nil _).mono ?_
  rintro e w10 ⟨rfl, hw10⟩
  subst hw10
  have hbb : (bB.toList == bB.toList) = true := by simp
  go_wp2_with fail
  refine (inEpochs_any HX7.out.1.x).mono ?_
  rintro e w11 ⟨rfl, hw11⟩
  subst hw11
  go_wp2
  go_ret
  exact ⟨rfl, HX7.out.2⟩
theorem TX.grow {V : World} {tb xb : Nat} {who : Nat → Nat × ByteArray × Nat} {F G G' : Nat → Prop} {W need span score r k : Nat} {K : List (List Sg)} {f : Nat → ByteArray → ByteArray} (h : TX V tb xb who F G W need span score r k K f) {V0 : World} (h0 : TX V0 tb xb who F G W need span score r k K f) (hg : ∀ b, G' b → G b ∨ (V0.heap.size ≤ b ∧ b < V.heap.size)) : TX V tb xb who F G' W need span score r k K f :=
  ⟨h.t, h.x, h.p, h.ap, fun b hb => by
    rcases hg b hb with h1 | h1
    · exact h.nt b h1
    · exact ⟨h1.2, fun ho => by have := h0.t.lim ho; omega⟩, fun b hb hf => by
    rcases hg b hb with h1 | h1
    · exact h.nx b h1 hf
    · have := h0.x.lim hf; omega⟩
/-- The three; K: the track's epochs, K2: the document's. -/
structure TZ (w V : World) (tb xb rb : Nat) (who : Nat → Nat × ByteArray × Nat) (F H : Nat → Prop) (W need span score r q k : Nat) (K K2 : List (List Sg)) (f : Nat → ByteArray → ByteArray) : Prop where
  x : TX V tb xb who F (fun b => b < w.heap.size ∨ H b) W need span score r k K f
  m : RfAt V rb H W need q K2
  lo : ∀ b, H b → w.heap.size ≤ b
  kp : Below w.heap.size w V
structure ZZ (w V : World) (tb xb rb : Nat) (W need span score k : Nat) (K K2 : List (List Sg)) : Prop where
  out : ∃ who F H r f, TZ w V tb xb rb who F H W need span score r 0 k K K2 f ∧ r ≤ 25 * K.length
section
variable {w V V' : World} {tb xb rb : Nat} {W need span score k : Nat} {K K2 : List (List Sg)} {l : List Sg}
theorem ZZ.kp (h : ZZ w V tb xb rb W need span score k K K2) : Below w.heap.size w V := by
  obtain ⟨who, F, H, r, f, h, _⟩ := h.out
  exact h.kp
theorem ZZ.below (h : ZZ w V tb xb rb W need span score k K K2) (hb : Below V.heap.size V V') : ZZ w V' tb xb rb W need span score k K K2 := by
  obtain ⟨who, F, H, r, f, h, h2⟩ := h.out
  exact ⟨who, F, H, r, f, ⟨h.x.below hb, h.m.below hb, h.lo, h.kp.trans (hb.mono h.kp.size)⟩, h2⟩
theorem ZZ.view (h : ZZ w V tb xb rb W need span score k K K2) : ∃ p cap, V.cell? ⟨rb, 2, none⟩ = some (.slice p K2.length cap) := by
  obtain ⟨who, F, H, r, f, h, _⟩ := h.out
  obtain ⟨p, cap, hv⟩ := h.m.view
  exact ⟨p, cap, hv.c2⟩
theorem ZZ.mtell (h : ZZ w V tb xb rb W need span score k K K) (p : Option Addr) (cp : Nat) (hg : goodL l = true) (hs : SgsOn V p l) (hK : K.length ≤ 13) :
    Calls Tryd.prog 27 #[.pointer (some ⟨rb, 0, none⟩), .slice p l.length cp] V fun e w' => e = .returned (.int .i64 (if l.all okS = true then 0 else 1 : Nat)) ∧ ZZ w w' tb xb rb W need span score k K (if l.all okS = true then K ++ [l] else K) := by
  obtain ⟨who, F, H, r, f, hZ, hr⟩ := h.out
  refine (rtell_any l p cp hZ.m hg hs (by omega)).mono ?_
  rintro e w' ⟨rfl, m', k1⟩
  refine ⟨rfl, who, F, more H V w', r, f, ⟨?_, m', fun b hb => ?_, hZ.kp.trans (k1.below hZ.kp.size (fun b hb hh => by have := hZ.lo b hh; omega))⟩, hr⟩
  · have hX' : TX w' tb xb who F (fun b => b < w.heap.size ∨ H b) W need span score r k K f :=
      ⟨hZ.x.t.kp k1 (fun b ho hh => (hZ.x.nt b (Or.inr hh)).2 ho), hZ.x.x.kp k1 (fun b hf hh => hZ.x.nx b (Or.inr hh) hf), hZ.x.p, hZ.x.ap, fun b hb => ⟨Nat.lt_of_lt_of_le (hZ.x.nt b hb).1 k1.size, (hZ.x.nt b hb).2⟩, hZ.x.nx⟩
    refine hX'.grow hZ.x (fun b hb => ?_)
    rcases hb with hb | hb | hb
    · exact Or.inl (Or.inl hb)
    · exact Or.inl (Or.inr hb)
    · exact Or.inr hb
  · rcases hb with hb | hb
    · exact hZ.lo b hb
    · have := hZ.kp.size; omega
theorem ZZ.ttell (h : ZZ w V tb xb rb W need span score k K K2) (p : Option Addr) (cp : Nat) (hg : goodL l = true) (hs : SgsOn V p l) (hap : l ≠ [] → ∀ b o, p = some ⟨b, o, none⟩ → b < w.heap.size) (hk : k ≤ K.length) (hK : K.length ≤ 13) :
    Calls Tryd.prog 28 #[.pointer (some ⟨tb, 0, none⟩), .slice p l.length cp] V fun e w' => e = .returned (errV (if l.all okS = true then 0 else 1)) ∧ ZZ w w' tb xb rb W need span score k (if l.all okS = true then K ++ [l] else K) K2 := by
  obtain ⟨who, F, H, r, f, hZ, hr⟩ := h.out
  have hgl := goodL_iff.1 hg
  refine (tell_any0 l p cp hZ.x.t hgl.1 hs (fun hne b o hp => (hZ.x.nt b (Or.inl (hap hne b o hp))).2) (fun x hx => by have := hgl.2 x hx; omega) (by omega) (by omega) (epOf_past K (Nat.le_refl _))).mono ?_
  rintro e w' ⟨rfl, who', t', k1, s1⟩
  have hm' : RfAt w' rb H W need 0 K2 := hZ.m.move k1.size (fun b hb hh => k1.block b hb (hZ.x.nt b (Or.inr hh)).2)
  have hkp : Below w.heap.size w w' := hZ.kp.trans (k1.below hZ.kp.size (fun b hb => (hZ.x.nt b (Or.inl hb)).2))
  refine ⟨rfl, ?_⟩
  by_cases hok : l.all okS = true
  · simp only [if_pos hok] at t' ⊢
    exact ⟨who', F, H, _, f, ⟨hZ.x.tell hk t' k1 s1, hm', hZ.lo, hkp⟩, by simp; omega⟩
  · simp only [if_neg hok] at t' ⊢
    exact ⟨who', F, H, _, f, ⟨hZ.x.told t' k1 s1, hm', hZ.lo, hkp⟩, hr⟩
theorem ZZ.next (h : ZZ w V tb xb rb W need span score k K K2) (hk : k < K.length) (hT : TagA.Tabs w) (hW : W ≤ 8) (hne : 1 ≤ need) (hs : ∀ g, (∃ e, seenG g (epOf K e) = true) → g.size ≤ 100000) (h8 : span ≤ 8) (h1 : 1 ≤ score) (h2 : score ≤ 8) (hK : K.length ≤ 14) :
    Calls Tryd.prog 29 #[.pointer (some ⟨xb, 0, none⟩)] V fun e w' => e = .returned (.bool true) ∧ ZZ w w' tb xb rb W need span score (k + 1) K K2 := by
  obtain ⟨who, F, H, r, f, hZ, hr⟩ := h.out
  refine (next_yes hZ.x.t hZ.x.x (hT.below hZ.kp hT.size) hZ.x.p hk hW hne (by omega) (by omega) hs h8 h1 h2).mono ?_
  rintro e w' ⟨rfl, hnp⟩
  obtain ⟨F', f', hX', k1, s1⟩ := hZ.x.next hnp
  exact ⟨rfl, who, F', H, r, f', ⟨hX', hZ.m.move k1.size (fun b hb hh => k1.block b hb (hZ.x.nx b (Or.inr hh))), hZ.lo, hZ.kp.trans (k1.below hZ.kp.size (fun b hb => hZ.x.nx b (Or.inl hb)))⟩, hr⟩
theorem ZZ.nextno (h : ZZ w V tb xb rb W need span score k K K2) (hk : K.length ≤ k) (hK : k ≤ 1000) :
    Calls Tryd.prog 29 #[.pointer (some ⟨xb, 0, none⟩)] V fun e w' => e = .returned (.bool false) ∧ w' = V := by
  obtain ⟨who, F, H, r, f, hZ, hr⟩ := h.out
  exact next_no hZ.x.t hZ.x.x hk hK
theorem ZZ.new {w1 w2 : World} (h : T0 (.returned (.tuple #[.pointer (some ⟨tb, 0, none⟩), .pointer (some ⟨rb, 0, none⟩), .bool false, .bool true])) w w1 W need) (hx : InAt w2 w1.heap.size tb (fun b => b = w1.heap.size) span score 0 (fun _ _ => ⟨#[]⟩)) (hb : Below w1.heap.size w1 w2) (hs : w2.heap.size = w1.heap.size + 1) : ZZ w w2 tb w1.heap.size rb W need span score 0 [] [] := by
  obtain ⟨tb', rb', who, H, he, t, m, l1, l2, ap⟩ := h.out
  simp at he
  obtain ⟨rfl, rfl⟩ := he
  refine ⟨who, _, H, 0, _, ⟨⟨t.below hb, hx, Prs.zero, fun b ho hf => ?_, fun b hg => ?_, fun b hg hf => ?_⟩, m.below hb, l2, h.kp.trans (hb.mono h.kp.size)⟩, by simp⟩
  · have hf : b = w1.heap.size := hf
    have := t.lim ho
    omega
  · rcases hg with hg | hg
    · exact ⟨by have := h.kp.size; omega, fun ho => by have := l1 b ho; omega⟩
    · exact ⟨by have := m.lim hg; omega, fun ho => ap b ho hg⟩
  · have hf : b = w1.heap.size := hf
    rcases hg with hg | hg
    · have := h.kp.size; omega
    · have := m.lim hg; omega
end
/-- How many sights there are. -/
def sgN (E : List (List Sg)) : Nat := (E.map List.length).sum
theorem sgN_take {E : List (List Sg)} {k : Nat} (hk : k < E.length) : sgN (E.take (k + 1)) = sgN (E.take k) + E[k].length := by
  unfold sgN
  rw [List.take_add_one, List.getElem?_eq_getElem hk]
  show ((E.take k ++ [E[k]]).map List.length).sum = _
  rw [List.map_append, List.sum_append]
  show _ + (E[k].length + 0) = _
  rw [Nat.add_zero]
theorem sgN_le {E : List (List Sg)} (h : ∀ l, l ∈ E → l.length ≤ 25) : ∀ k, sgN (E.take k) ≤ 25 * k
  | 0 => by simp [sgN]
  | k + 1 => by
    have ih := sgN_le h k
    by_cases hk : k < E.length
    · rw [sgN_take hk]
      have := h _ (List.getElem_mem hk)
      omega
    · rw [List.take_of_length_le (by omega)]
      rw [List.take_of_length_le (by omega)] at ih
      omega
set_option maxHeartbeats 1000000 in
theorem sights_any (E : List (List Sg)) (a : Option Addr) (cap : Nat) (w : World) (hE : EsOn w a E) (hl : light E = true) (h12 : E.length ≤ 12) :
    Calls Tryd.prog 24 #[.slice a E.length cap] w fun e w' => e = .returned (.int .i64 ((sgN E : Nat) : Int)) ∧ w' = w := by
  have HE : Hid (EsOn w a E) := hE
  have HL : Hid (∀ l, l ∈ E → l.length ≤ 25) := fun l hlE => (goodL_iff.1 ((light_iff.1 hl).2 l hlE)).1
  obtain ⟨N, hN⟩ : ∃ N, N = E.length := ⟨_, rfl⟩
  have HN : Hid (N = E.length) := hN
  rw [← hN] at h12 ⊢
  have hNI : (N : Int) ≤ 12 := by omega
  clear hE hl hN
  go_enter Tryd.func24, Tryd.ntmps24
  go_wp2
  go_loopw [3, 4] (fun n i V => ∃ k : Nat, k ≤ N ∧ i = .int .i64 (k : Int) ∧ n = .int .i64 ((sgN (E.take k) : Nat) : Int) ∧ V = w) (fun _ i _ => N - (intOf i).toNat)
  case atStart => exact ⟨0, Nat.zero_le _, rfl, rfl, rfl⟩
  case round =>
    obtain ⟨k, hk, rfl, rfl, rfl⟩ := hrel
    by_cases hlt : k < N
    case neg =>
      have hkN : k = N := by omega
      subst hkN
      have hII : ¬ (k : Int) < k := by omega
      have HF : Hid (sgN (E.take k) = sgN E) := by rw [HN.out, List.take_length]; exact rfl
      go_wp2
      go_ret
      exact ⟨by show Ending.returned (.int .i64 ((sgN (E.take k) : Nat) : Int)) = _; rw [HF.out], rfl⟩
    case pos =>
      have hkI : (k : Int) < N := by omega
      have hk' : k < E.length := by rw [← HN.out]; exact hlt
      obtain ⟨bl, ol, rfl, hbl, hcl⟩ := HE.out.at_ (fun e => by rw [e] at hk'; simp at hk')
      obtain ⟨p, cp, hcp, _⟩ := hcl k _ (List.getElem?_eq_getElem hk')
      have HTK : Hid (sgN (E.take (k + 1)) = sgN (E.take k) + E[k].length) := sgN_take hk'
      have h25 : E[k].length ≤ 25 := HL.out _ (List.getElem_mem hk')
      have hS := sgN_le HL.out k
      obtain ⟨sk, hsk⟩ : ∃ sk, sk = sgN (E.take k) := ⟨_, rfl⟩
      rw [← hsk] at HTK hS ⊢
      generalize E[k].length = lk at *
      have hskI : (sk : Int) ≤ 300 := by omega
      have hlkI : (lk : Int) ≤ 25 := by omega
      clear hcl hsk
      go_wp2
      go_roundw
      case rel => exact ⟨k + 1, by omega, by go_num, by rw [HTK.out]; go_num, by first | rfl | trivial⟩
      case measure => simp [intOf]; omega
section
variable (E : List (List Sg)) (a : Option Addr) (cap : Nat) (other : ByteArray) (w : World)
set_option maxHeartbeats 1000000 in
theorem says_long (W need span score : Int) (hE : EsOn w a E) (hT : TagA.Tabs w) (hb : ∀ l, l ∈ E → l.length ≤ 9223372036854775807 ∧ ∀ x, x ∈ l → x.g.size ≤ 9223372036854775807) (ho : other.size ≤ 9223372036854775807) (h : light E = false ∨ (light E = true ∧ 12 < E.length) ∨ (light E = true ∧ E.length ≤ 12 ∧ 100 < sgN E) ∨ (light E = true ∧ E.length ≤ 12 ∧ sgN E ≤ 100 ∧ 20 < other.size)) :
    Calls Tryd.prog 6 #[.int .i64 W, .int .i64 need, .int .i64 span, .int .i64 score, .slice a E.length cap, .string other] w fun e w' => e = .returned (.bool true) ∧ Below w.heap.size w w' := by
  have HIN : Hid (Calls Tryd.prog 22 #[] w fun e w' => e = .returned (.bool true) ∧ Below w.heap.size w w') := insides_any w hT
  have HLT : Hid (∀ V, Below w.heap.size w V → Calls Tryd.prog 23 #[.slice a E.length cap] V fun e w' => e = .returned (.bool (light E)) ∧ w' = V) := fun V hV => light_any E a cap V (hE.below hV) hb
  have HSG : Hid (∀ V, light E = true → E.length ≤ 12 → Below w.heap.size w V → Calls Tryd.prog 24 #[.slice a E.length cap] V fun e w' => e = .returned (.int .i64 ((sgN E : Nat) : Int)) ∧ w' = V) := fun V h1 h2 hV => sights_any E a cap V (hE.below hV) h1 h2
  clear hE hT hb
  go_enter Tryd.func6, Tryd.ntmps6
  go_wp2_with fail
  refine HIN.out.mono ?_
  rintro e w1 ⟨rfl, hb1⟩
  have HB1 : Hid (Below w.heap.size w w1) := hb1
  clear hb1 HIN
  go_wp2_with fail
  refine (HLT.out w1 HB1.out).mono ?_
  rintro e w2 ⟨rfl, hw2⟩
  subst hw2
  rcases h with h | ⟨h, h12⟩ | ⟨h, h12, h100⟩ | ⟨h, h12, h100, h20⟩
  · rw [h]
    go_wp2
    go_ret
    exact ⟨rfl, HB1.out⟩
  · rw [h]
    have h12I : (12 : Int) < E.length := by omega
    have hd : decide ((12 : Int) < E.length) = true := by simpa using h12I
    go_wp2
    go_ret
    exact ⟨rfl, HB1.out⟩
  · rw [h]
    have h12I : ¬ (12 : Int) < E.length := by omega
    have hd : decide ((12 : Int) < E.length) = false := by simpa using h12I
    have HS2 := HSG.out w2 h h12 HB1.out
    have HS2 : Hid _ := HS2
    have h1I : (100 : Int) < sgN E := by omega
    have hd1 : decide ((100 : Int) < sgN E) = true := by simpa using h1I
    go_wp2_with fail
    refine Calls.mono HS2.out ?_
    rintro e w3 ⟨rfl, hw3⟩
    subst hw3
    go_wp2
    go_ret
    exact ⟨rfl, HB1.out⟩
  · rw [h]
    have h12I : ¬ (12 : Int) < E.length := by omega
    have hd : decide ((12 : Int) < E.length) = false := by simpa using h12I
    have HS2 := HSG.out w2 h h12 HB1.out
    have HS2 : Hid _ := HS2
    have h1I : ¬ (100 : Int) < sgN E := by omega
    have hd1 : decide ((100 : Int) < sgN E) = false := by simpa using h1I
    have h2I : (20 : Int) < other.size := by omega
    have hd2 : decide ((20 : Int) < other.size) = true := by simpa using h2I
    go_wp2_with fail
    refine Calls.mono HS2.out ?_
    rintro e w3 ⟨rfl, hw3⟩
    subst hw3
    go_wp2
    go_ret
    exact ⟨rfl, HB1.out⟩
set_option maxHeartbeats 1000000 in
theorem says_bad1 (W need span score : Int) (hE : EsOn w a E) (hT : TagA.Tabs w) (hl : light E = true) (h12 : E.length ≤ 12) (h100 : sgN E ≤ 100) (ho : other.size ≤ 20) (h : ¬ (1 ≤ W ∧ W ≤ 8 ∧ 1 ≤ need ∧ need ≤ W)) :
    Calls Tryd.prog 6 #[.int .i64 W, .int .i64 need, .int .i64 span, .int .i64 score, .slice a E.length cap, .string other] w fun e w' => e = .returned (.bool true) ∧ Below w.heap.size w w' := by
  have HIN : Hid (Calls Tryd.prog 22 #[] w fun e w' => e = .returned (.bool true) ∧ Below w.heap.size w w') := insides_any w hT
  have HLT : Hid (∀ V, Below w.heap.size w V → Calls Tryd.prog 23 #[.slice a E.length cap] V fun e w' => e = .returned (.bool (light E)) ∧ w' = V) := fun V hV => light_any E a cap V (hE.below hV) (light_b hl)
  have HSG : Hid (∀ V, Below w.heap.size w V → Calls Tryd.prog 24 #[.slice a E.length cap] V fun e w' => e = .returned (.int .i64 ((sgN E : Nat) : Int)) ∧ w' = V) := fun V hV => sights_any E a cap V (hE.below hV) hl h12
  have HN : Hid (¬ (1 ≤ W ∧ W ≤ 8 ∧ 1 ≤ need ∧ need ≤ W)) := h
  have h12I : ¬ (12 : Int) < E.length := by omega
  have hd : decide ((12 : Int) < E.length) = false := by simpa using h12I
  have h1I : ¬ (100 : Int) < sgN E := by omega
  have hd1 : decide ((100 : Int) < sgN E) = false := by simpa using h1I
  have h2I : ¬ (20 : Int) < other.size := by omega
  have hd2 : decide ((20 : Int) < other.size) = false := by simpa using h2I
  clear hE hT h
  go_enter Tryd.func6, Tryd.ntmps6
  go_wp2_with fail
  refine HIN.out.mono ?_
  rintro e w1 ⟨rfl, hb1⟩
  have HB1 : Hid (Below w.heap.size w w1) := hb1
  clear hb1 HIN
  go_wp2_with fail
  refine (HLT.out w1 HB1.out).mono ?_
  rintro e w2 ⟨rfl, hw2⟩
  subst hw2
  rw [hl]
  go_wp2_with fail
  refine (HSG.out w2 HB1.out).mono ?_
  rintro e w3 ⟨rfl, hw3⟩
  subst hw3
  go_wp2_with fail
  refine (tracked_bad W need none 0 0 _ HN.out).mono ?_
  rintro e w4 ⟨rfl, hw4⟩
  subst hw4
  go_wp2
  go_ret
  exact ⟨rfl, HB1.out⟩
set_option maxHeartbeats 2000000 in
theorem says_bad2 (W need : Nat) (span score : Int) (hE : EsOn w a E) (hT : TagA.Tabs w) (hl : light E = true) (h12 : E.length ≤ 12) (h100 : sgN E ≤ 100) (ho : other.size ≤ 20) (hW1 : 1 ≤ W) (hW8 : W ≤ 8) (hn1 : 1 ≤ need) (hn8 : need ≤ W) (h : ¬ (1 ≤ span ∧ span ≤ 8 ∧ 1 ≤ score ∧ score ≤ span)) :
    Calls Tryd.prog 6 #[.int .i64 (W : Int), .int .i64 (need : Int), .int .i64 span, .int .i64 score, .slice a E.length cap, .string other] w fun e w' => e = .returned (.bool true) ∧ Below w.heap.size w w' := by
  have HIN : Hid (Calls Tryd.prog 22 #[] w fun e w' => e = .returned (.bool true) ∧ Below w.heap.size w w') := insides_any w hT
  have HLT : Hid (∀ V, Below w.heap.size w V → Calls Tryd.prog 23 #[.slice a E.length cap] V fun e w' => e = .returned (.bool (light E)) ∧ w' = V) := fun V hV => light_any E a cap V (hE.below hV) (light_b hl)
  have HSG : Hid (∀ V, Below w.heap.size w V → Calls Tryd.prog 24 #[.slice a E.length cap] V fun e w' => e = .returned (.int .i64 ((sgN E : Nat) : Int)) ∧ w' = V) := fun V hV => sights_any E a cap V (hE.below hV) hl h12
  have HN : Hid (¬ (1 ≤ span ∧ span ≤ 8 ∧ 1 ≤ score ∧ score ≤ span)) := h
  have hcs : decide (span < 1) = true ∨ (decide (span < 1) = false ∧ decide (8 < span) = true) ∨ (decide (span < 1) = false ∧ decide (8 < span) = false ∧ decide (score < 1) = true) ∨ (decide (span < 1) = false ∧ decide (8 < span) = false ∧ decide (score < 1) = false ∧ decide (span < score) = true) := by
    simp
    omega
  have h12I : ¬ (12 : Int) < E.length := by omega
  have hd : decide ((12 : Int) < E.length) = false := by simpa using h12I
  have h1I : ¬ (100 : Int) < sgN E := by omega
  have hd1 : decide ((100 : Int) < sgN E) = false := by simpa using h1I
  have h2I : ¬ (20 : Int) < other.size := by omega
  have hd2 : decide ((20 : Int) < other.size) = false := by simpa using h2I
  clear hE hT h
  rcases hcs with h1 | ⟨h1, h2⟩ | ⟨h1, h2, h3⟩ | ⟨h1, h2, h3, h4⟩
  all_goals
    go_enter Tryd.func6, Tryd.ntmps6
    go_wp2_with fail
    refine HIN.out.mono ?_
    rintro e w1 ⟨rfl, hb1⟩
    have HB1 : Hid (Below w.heap.size w w1) := hb1
    clear hb1 HIN
    go_wp2_with fail
    refine (HLT.out w1 HB1.out).mono ?_
    rintro e w2 ⟨rfl, hw2⟩
    subst hw2
    rw [hl]
    go_wp2_with fail
    refine (HSG.out w2 HB1.out).mono ?_
    rintro e w3 ⟨rfl, hw3⟩
    subst hw3
    go_wp2_with fail
    refine (tracked_none W need _ hW1 hW8 hn1 hn8).mono ?_
    rintro e w4 hT0
    have HB4 : Hid (Below w.heap.size w w4) := HB1.out.trans (hT0.kp.mono HB1.out.size)
    obtain ⟨tb, rb, who, H, rfl, _, _, _, _, _⟩ := hT0.out
    clear hT0
    go_wp2_with fail
    refine (inNew_bad tb span score _ HN.out).mono ?_
    rintro e w5 ⟨rfl, hw5⟩
    subst hw5
    go_wp2_with fail
    refine (same_err 1 _ (by omega)).mono ?_
    rintro e w6 ⟨rfl, hw6⟩
    subst hw6
    go_wp2
    go_ret
    exact ⟨rfl, HB4.out⟩
end
/-- The epochs that may be told. -/
def oks (E : List (List Sg)) : List (List Sg) := E.filter (fun l => l.all okS)
theorem oks_take {E : List (List Sg)} {k : Nat} (hk : k < E.length) : oks (E.take (k + 1)) = if E[k].all okS = true then oks (E.take k) ++ [E[k]] else oks (E.take k) := by
  unfold oks
  rw [List.take_add_one, List.getElem?_eq_getElem hk, List.filter_append]
  simp only [Option.toList_some, List.filter_cons, List.filter_nil]
  split <;> simp_all
theorem oks_len (E : List (List Sg)) (k : Nat) : (oks (E.take k)).length ≤ k := by
  unfold oks
  have h1 := List.length_filter_le (fun l => l.all okS) (E.take k)
  rw [List.length_take] at h1
  omega
theorem oks_size {E : List (List Sg)} {k : Nat} (hl : light E = true) : ∀ g, (∃ e, seenG g (epOf (oks (E.take k)) e) = true) → g.size ≤ 20 := by
  rintro g ⟨e, h⟩
  obtain ⟨x, hx, rfl⟩ := seen_iff.1 h
  by_cases he : e < (oks (E.take k)).length
  · have h1 : epOf (oks (E.take k)) e ∈ E := by
      have := epOf_mem he
      unfold oks at this
      exact List.mem_of_mem_take (List.mem_filter.1 this).1
    exact (goodL_iff.1 ((light_iff.1 hl).2 _ h1)).2 x hx
  · rw [epOf_past _ (by omega)] at hx
    exact absurd hx List.not_mem_nil
/-- What stands in the last loops. -/
structure YY (w V0 V : World) (rb : Nat) (H : Nat → Prop) (W need q : Nat) (K : List (List Sg)) : Prop where
  r : RfAt V rb H W need q K
  k : Kp H V0 V
section
variable (E : List (List Sg)) (a : Option Addr) (cap : Nat) (other : ByteArray) (w : World)
set_option maxHeartbeats 8000000 in
theorem says_main (W need span score : Nat) (hE : EsOn w a E) (hT : TagA.Tabs w) (hl : light E = true) (h12 : E.length ≤ 12) (h100 : sgN E ≤ 100) (ho : other.size ≤ 20) (hW1 : 1 ≤ W) (hW8 : W ≤ 8) (hn1 : 1 ≤ need) (hn8 : need ≤ W) (hp1 : 1 ≤ span) (hp8 : span ≤ 8) (hc1 : 1 ≤ score) (hc8 : score ≤ span) :
    Calls Tryd.prog 6 #[.int .i64 (W : Int), .int .i64 (need : Int), .int .i64 (span : Int), .int .i64 (score : Int), .slice a E.length cap, .string other] w fun e w' => e = .returned (.bool true) ∧ Below w.heap.size w w' := by
  obtain ⟨i9, hi9, hz9, hs9, hb9⟩ := info_parts infoS
  have HE : Hid (EsOn w a E) := hE
  have HT : Hid (TagA.Tabs w) := hT
  have HIN : Hid (Calls Tryd.prog 22 #[] w fun e w' => e = .returned (.bool true) ∧ Below w.heap.size w w') := insides_any w hT
  have HLT : Hid (∀ V, Below w.heap.size w V → Calls Tryd.prog 23 #[.slice a E.length cap] V fun e w' => e = .returned (.bool (light E)) ∧ w' = V) := fun V hV => light_any E a cap V (hE.below hV) (light_b hl)
  have HSG : Hid (∀ V, Below w.heap.size w V → Calls Tryd.prog 24 #[.slice a E.length cap] V fun e w' => e = .returned (.int .i64 ((sgN E : Nat) : Int)) ∧ w' = V) := fun V hV => sights_any E a cap V (hE.below hV) hl h12
  have h12I : ¬ (12 : Int) < E.length := by omega
  have hd : decide ((12 : Int) < E.length) = false := by simpa using h12I
  have h1I : ¬ (100 : Int) < sgN E := by omega
  have hd1 : decide ((100 : Int) < sgN E) = false := by simpa using h1I
  have h2I : ¬ (20 : Int) < other.size := by omega
  have hd2 : decide ((20 : Int) < other.size) = false := by simpa using h2I
  have e1 : decide ((span : Int) < 1) = false := by simp; omega
  have e2 : decide ((8 : Int) < span) = false := by simp; omega
  have e3 : decide ((score : Int) < 1) = false := by simp; omega
  have e4 : decide ((span : Int) < score) = false := by simp; omega
  have e4' : decide (span < score) = false := by simp; omega
  clear hE hT
  go_enter Tryd.func6, Tryd.ntmps6
  go_wp2_with fail
  refine HIN.out.mono ?_
  rintro e w1 ⟨rfl, hb1⟩
  have HB1 : Hid (Below w.heap.size w w1) := hb1
  clear hb1 HIN
  go_wp2_with fail
  refine (HLT.out w1 HB1.out).mono ?_
  rintro e w2 ⟨rfl, hw2⟩
  subst hw2
  rw [hl]
  go_wp2_with fail
  refine (HSG.out w2 HB1.out).mono ?_
  rintro e w3 ⟨rfl, hw3⟩
  subst hw3
  go_wp2_with fail
  refine (tracked_none W need _ hW1 hW8 hn1 hn8).mono ?_
  rintro e w4 hT0
  obtain ⟨tb, rb, who0, H0, he0, r1, r2, r3, r4, r5⟩ := hT0.out
  subst he0
  have HT0 : Hid (T0 (.returned (.tuple #[.pointer (some ⟨tb, 0, none⟩), .pointer (some ⟨rb, 0, none⟩), .bool false, .bool true])) w3 w4 W need) := hT0
  clear hT0 r1 r2 r3 r4 r5 HLT HSG hd hd1 hd2 h12I h1I h2I
  go_wp2_with fail
  refine (inNew_ok tb span score _ hp1 hp8 hc1 hc8).mono ?_
  rintro e w5 ⟨rfl, hs5, hx5, hb5⟩
  obtain ⟨xb, hxb⟩ : ∃ xb, xb = w4.heap.size := ⟨_, rfl⟩
  have HZ5 : Hid (ZZ w3 w5 tb xb rb W need span score 0 [] []) := by rw [hxb]; exact ZZ.new HT0.out hx5 hb5 hs5
  rw [← hxb]
  obtain ⟨N, hN⟩ : ∃ N, N = E.length := ⟨_, rfl⟩
  have HN : Hid (N = E.length) := hN
  have HE3 : Hid (EsOn w3 a E) := HE.out.below HB1.out
  have HT3 : Hid (TagA.Tabs w3) := HT.out.below HB1.out HT.out.size
  rw [← hN] at h12 ⊢
  have hNI : (N : Int) ≤ 12 := by omega
  clear hs5 hx5 hb5 hxb HT0 hN HE HT
  go_wp2
  go_loopw [19, 20, 21, 22, 23] (fun lk i _ _ _ V => ∃ j l' : Nat, j ≤ N ∧ i = .int .i64 (j : Int) ∧ lk = .int .i64 (l' : Int) ∧ l' ≤ (oks (E.take j)).length ∧ ZZ w3 V tb xb rb W need span score l' (oks (E.take j)) (oks (E.take j))) (fun _ i _ _ _ _ => N - (intOf i).toNat)
  case atStart => exact ⟨0, 0, Nat.zero_le _, rfl, rfl, Nat.zero_le _, HZ5.out⟩
  case round =>
    clear HZ5
    obtain ⟨j, lk, hj, rfl, rfl, hlk, hZ⟩ := hrel
    have HZ : Hid (ZZ w3 wr tb xb rb W need span score lk (oks (E.take j)) (oks (E.take j))) := hZ
    have HLK : Hid (lk ≤ (oks (E.take j)).length) := hlk
    have hlk12 : lk ≤ 12 := by have := oks_len E j; omega
    have hlkI : (lk : Int) ≤ 12 := by omega
    clear hZ hlk
    by_cases hlt : j < N
    case pos =>
      have hjI : (j : Int) < N := by omega
      have hj' : j < E.length := by rw [← HN.out]; exact hlt
      obtain ⟨bl, ol, rfl, hbl, hcl⟩ := HE3.out.at_ (fun e => by rw [e] at hj'; simp at hj')
      obtain ⟨p, cp, hcp, hsg⟩ := hcl j _ (List.getElem?_eq_getElem hj')
      have HOK : Hid (oks (E.take (j + 1)) = if E[j].all okS = true then oks (E.take j) ++ [E[j]] else oks (E.take j)) := oks_take hj'
      have hgd : goodL E[j] = true := (light_iff.1 hl).2 _ (List.getElem_mem hj')
      have HKC : Hid (∀ V, Below w3.heap.size w3 V → V.cell? ⟨bl, ol + j, none⟩ = some (.slice p E[j].length cp)) := fun V hV => by rw [hV.cell hbl]; exact hcp
      have kc := HKC.out wr HZ.out.kp
      have HAP : Hid (E[j] ≠ [] → ∀ b o, p = some ⟨b, o, none⟩ → b < w3.heap.size) := fun hne b o hp => by
        obtain ⟨b', o', hp', hlt', _⟩ := hsg.at_ hne
        rw [hp] at hp'
        simp at hp'
        omega
      have HSG : Hid (SgsOn w3 p E[j]) := hsg
      have HK13 : Hid ((oks (E.take j)).length ≤ 13) := by have := oks_len E j; show _ ≤ _; omega
      have HOL : Hid ((oks (E.take (j + 1))).length ≤ 12) := by have := oks_len E (j + 1); show _ ≤ _; omega
      have HSZ : Hid (∀ g, (∃ e, seenG g (epOf (oks (E.take (j + 1))) e) = true) → g.size ≤ 100000) := fun g hg => by have := oks_size hl g hg; omega
      have HLE : Hid ((oks (E.take j)).length ≤ (oks (E.take (j + 1))).length) := by
        show _ ≤ _
        rw [HOK.out]
        by_cases h : E[j].all okS = true
        · rw [if_pos h]; simp
        · rw [if_neg h]; exact Nat.le_refl _
      generalize E[j] = l at *
      have HM : Hid (Calls Tryd.prog 27 #[.pointer (some ⟨rb, 0, none⟩), .slice p l.length cp] wr fun e w' => e = .returned (.int .i64 ((if l.all okS = true then 0 else 1 : Nat) : Int)) ∧ ZZ w3 w' tb xb rb W need span score lk (oks (E.take j)) (oks (E.take (j + 1)))) := by
        have h := HZ.out.mtell p cp hgd (HSG.out.below HZ.out.kp) HK13.out
        rw [← HOK.out] at h
        exact h
      obtain ⟨fl, hfl⟩ : ∃ fl : Nat, fl = if l.all okS = true then 0 else 1 := ⟨_, rfl⟩
      have hfl1 : (fl : Int) ≤ 1 := by rw [hfl]; split <;> omega
      rw [← hfl] at HM
      have HTE : Hid (∀ V, ZZ w3 V tb xb rb W need span score lk (oks (E.take j)) (oks (E.take (j + 1))) → Calls Tryd.prog 28 #[.pointer (some ⟨tb, 0, none⟩), .slice p l.length cp] V fun e w' => e = .returned (errV fl) ∧ ZZ w3 w' tb xb rb W need span score lk (oks (E.take (j + 1))) (oks (E.take (j + 1)))) := fun V hV => by
        have h := hV.ttell p cp hgd (HSG.out.below hV.kp) HAP.out HLK.out HK13.out
        rw [← HOK.out, ← hfl] at h
        exact h
      clear hcp hsg hcl hgd hfl
      go_wp2_with fail
      refine HM.out.mono ?_
      rintro e w6 ⟨rfl, hz6⟩
      have HZ6 : Hid (ZZ w3 w6 tb xb rb W need span score lk (oks (E.take j)) (oks (E.take (j + 1)))) := hz6
      have kc6 := HKC.out w6 hz6.kp
      clear hz6 HM kc
      go_wp2_with fail
      refine (HTE.out w6 HZ6.out).mono ?_
      rintro e w7 ⟨rfl, hz7⟩
      have HZ7 : Hid (ZZ w3 w7 tb xb rb W need span score lk (oks (E.take (j + 1))) (oks (E.take (j + 1)))) := hz7
      clear hz7 HTE HZ6 kc6
      go_wp2_with fail
      refine (same_any fl _).mono ?_
      rintro e w8 ⟨rfl, hw8⟩
      subst hw8
      obtain ⟨K, hK⟩ : ∃ K, K = oks (E.take (j + 1)) := ⟨_, rfl⟩
      rw [← hK] at HZ7 HOL HSZ HLE
      have HKE : Hid (K = oks (E.take (j + 1))) := hK
      have HLK2 : Hid (lk ≤ K.length) := by have h1 := HLK.out; have h2 := HLE.out; show _ ≤ _; omega
      have hj3 : (j : Int) ≤ 12 := by omega
      have hmod : (j : Int) % 3 = ((j % 3 : Nat) : Int) := by omega
      have hmod2 : Int.tmod (j : Int) 3 = ((j % 3 : Nat) : Int) := by rw [Int.tmod_eq_emod_of_nonneg (by omega)]; omega
      obtain ⟨R, hR⟩ : ∃ R, R = j % 3 := ⟨_, rfl⟩
      have hR2 : R ≤ 2 := by omega
      rw [← hR] at hmod hmod2
      have hRI : (R : Int) ≤ 2 := by omega
      clear hK hR HLK HLE HZ
      go_wp2
      go_loopw [19, 22, 23] (fun lk i _ V => ∃ i' l' : Nat, i' ≤ R ∧ i = .int .i64 (i' : Int) ∧ lk = .int .i64 (l' : Int) ∧ l' ≤ K.length ∧ ZZ w3 V tb xb rb W need span score l' K K) (fun _ i _ _ => R - (intOf i).toNat)
      case atStart => exact ⟨0, lk, Nat.zero_le _, rfl, rfl, HLK2.out, HZ7.out⟩
      case round =>
        clear HZ7 HLK2
        obtain ⟨i', lk', hi, rfl, rfl, hlk', hZ⟩ := hrel
        have HZ : Hid (ZZ w3 wr tb xb rb W need span score lk' K K) := hZ
        have HLK' : Hid (lk' ≤ K.length) := hlk'
        have hlk2 : lk' ≤ 12 := by have := HOL.out; omega
        have hlk2I : (lk' : Int) ≤ 12 := by omega
        clear hZ hlk'
        by_cases hil : i' < R
        case neg =>
          have hiR : i' = R := by omega
          subst hiR
          have hII : ¬ (i' : Int) < i' := by omega
          go_wp2
          refine ⟨⟨j + 1, lk', by omega, by go_num, rfl, by rw [← HKE.out]; exact HLK'.out, by rw [← HKE.out]; exact HZ.out⟩, by simp [intOf]; omega⟩
        case pos =>
          have hiI : (i' : Int) < R := by omega
          by_cases hnx : lk' < K.length
          case pos =>
            have hnxI : (lk' : Int) < K.length := by omega
            have hdn : decide ((lk' : Int) < K.length) = true := by simpa using hnxI
            have hdn' : decide (lk' < K.length) = true := by simpa using hnx
            have HKL : Hid (K.length ≤ 12) := HOL.out
            go_wp2_with fail
            refine (HZ.out.next hnx HT3.out hW8 hn1 HSZ.out hp8 hc1 (by omega) (by have := HKL.out; omega)).mono ?_
            rintro e w9 ⟨rfl, hz9⟩
            have HZ9 : Hid (ZZ w3 w9 tb xb rb W need span score (lk' + 1) K K) := hz9
            obtain ⟨pk, ck, kk⟩ := hz9.view
            clear hz9 HZ
            go_wp2
            go_roundw
            case rel => exact ⟨i' + 1, lk' + 1, by omega, by go_num, by go_num, by omega, HZ9.out⟩
            case measure => simp [intOf]; omega
          case neg =>
            have hnxI : ¬ (lk' : Int) < K.length := by omega
            have hdn : decide ((lk' : Int) < K.length) = false := by simpa using hnxI
            have hdn' : decide (lk' < K.length) = false := by simpa using hnx
            go_wp2_with fail
            refine (HZ.out.nextno (by omega) (by omega)).mono ?_
            rintro e w9 ⟨rfl, hw9⟩
            subst hw9
            obtain ⟨pk, ck, kk⟩ := HZ.out.view
            go_wp2
            go_roundw
            case rel => exact ⟨i' + 1, lk', by omega, by go_num, rfl, HLK'.out, HZ.out⟩
            case measure => simp [intOf]; omega
    case neg =>
      have hjN : j = N := by omega
      subst hjN
      have hII : ¬ (j : Int) < j := by omega
      have HKE : Hid (oks (E.take j) = oks E) := by rw [HN.out, List.take_length]; exact rfl
      have HKL : Hid ((oks E).length ≤ 12) := by have := oks_len E j; rw [HKE.out] at this; show _ ≤ _; omega
      obtain ⟨who, F, H, r, f, hZ, hr⟩ := HZ.out.out
      rw [HKE.out] at hZ
      have HLK2 : Hid (lk ≤ (oks E).length) := by have := HLK.out; rw [HKE.out] at this; exact this
      have HSZ : Hid (∀ g, (∃ e, seenG g (epOf (oks E) e) = true) → g.size ≤ 20) := by
        have := oks_size (k := j) hl
        rw [HKE.out] at this
        exact this
      obtain ⟨K, hK⟩ : ∃ K, K = oks E := ⟨_, rfl⟩
      rw [← hK] at hZ HLK2 HKL HSZ
      have HTZ : Hid (TZ w3 wr tb xb rb who F H W need span score r 0 lk K K f) := hZ
      have HPRS : Hid (Prs knd (epOf K) W need span score f lk) := hZ.x.p
      have HPAR : Hid (∀ V y e, Kp H wr V → y.size ≤ 100000 → e < lk → Calls Tryd.prog 33 #[.pointer (some ⟨xb, 0, none⟩), .string y, .int .i64 ((e : Nat) : Int)] V fun x' w' => x' = .returned (.tuple #[.string (f e y), .nilIface]) ∧ w' = V) := fun V y e hV hy he => parent_in y e (HTZ.out.x.x.kp hV (fun b hf hh => HTZ.out.x.nx b (Or.inr hh) hf)) (by omega) he hy
      have HPOUT : Hid (∀ V y (e : Int), Kp H wr V → ¬ (0 ≤ e ∧ e < (lk : Int)) → Calls Tryd.prog 33 #[.pointer (some ⟨xb, 0, none⟩), .string y, .int .i64 e] V fun x' w' => x' = .returned (.tuple #[.string ⟨#[]⟩, .iface 23 (.int .i64 1)]) ∧ w' = V) := fun V y e hV he => parent_out y e (HTZ.out.x.x.kp hV (fun b hf hh => HTZ.out.x.nx b (Or.inr hh) hf)) (by omega) he
      have HHL : Hid (∀ b, H b → b < wr.heap.size) := fun b hb => hZ.m.lim hb
      have HKPW : Hid (∀ V, Kp H wr V → Below w.heap.size w V) := fun V hV => by
        have h1 : Below w3.heap.size w3 V := HTZ.out.kp.trans (hV.below HTZ.out.kp.size (fun b hb hh => by have := HTZ.out.lo b hh; omega))
        exact HB1.out.trans (h1.mono HB1.out.size)
      clear hZ hr hK HZ HLK
      go_wp2_with fail
      refine (inEpochs_any HTZ.out.x.x).mono ?_
      rintro e w6 ⟨rfl, hw6⟩
      subst hw6
      obtain ⟨pe, ce, hv⟩ := HTZ.out.m.view
      have c2 := hv.c2
      have hlkk : ((lk : Int) == lk) = true := by simp
      have HTG : Hid (Calls Tryd.prog 31 #[.pointer (some ⟨rb, 0, none⟩), .int .i64 (K.length : Int)] w6 fun e w' => ∃ v, e = .returned v ∧ ∃ L, TgsAt w' w6.heap.size v L ∧ L.length ≤ 625 ∧ (∀ g, g ∈ L ↔ told g K = true) ∧ Below w6.heap.size w6 w') := rtags_any hv
      clear hv
      go_wp2_with fail
      refine HTG.out.mono ?_
      rintro e w7 ⟨v, rfl, L, hT7, hl7, hm7, hb7⟩
      have HROW7 : Hid (w7.ownsRow w6.heap.size 9 1 v L.length (L.map sv)) := hT7.own
      have HM7 : Hid (∀ g, g ∈ L ↔ told g K = true) := hm7
      have HB7 : Hid (Below w6.heap.size w6 w7) := hb7
      have hs7 : w6.heap.size ≤ w7.heap.size := hb7.size
      have hpo := hT7.own.alloc (.cells #[.string other] 9)
      clear hT7 hm7 hb7 HTG c2
      go_wp2_with (at_builtin; refine wpList_append_lies _ rfl _ _ 61 rfl w6.heap.size 9 i9 (.string ⟨#[]⟩) 1 16 Tryd.underlying61 hi9 hz9 hs9 hb9 rfl (by decide) _ _ _ rfl hpo ⟨w7.heap.size, 0, none⟩ 1 1 [.string other] rfl rfl ?q1 ?q2 (by omega) ?q3 ?q4 ?q5 (w7.heap.size + 1) ?q6 ?_)
      try case q1 =>
        intro i u hi
        match i, hi with
        | 0, hi => simp at hi; subst hi; simp [Addr.add]
      try case q2 => first | rfl | (intro u hu; simp at hu; subst hu; rfl)
      try case q3 => unfold maxLen; omega
      try case q4 => omega
      try case q5 => simp; omega
      try case q6 => simp
      intro g8 cv8 V8 hown8 hgrow8 hat8 hlt8
      have HTS8 : Hid (TsO V8 H (some ⟨g8, 0, none⟩) (L ++ [other])) := by
        have h : V8.ownsRow w6.heap.size 9 1 (.slice (some ⟨g8, 0, none⟩) (L.length + 1) cv8) (L ++ [other]).length ((L ++ [other]).map sv) := by
          rw [List.map_append, List.length_append]
          exact hown8
        obtain ⟨p', c', hpe, hts⟩ := tso_of h (fun b hb => HHL.out b hb)
        simp at hpe
        rw [← hpe.1] at hts
        exact hts
      have HK8 : Hid (Kp H w6 V8) := ((below_kp HB7.out H).trans (alloc_kp H w7 _)).then (G := fun b => v.ownBlock = some b) (grown_kp hgrow8 (fun b e => e)) (fun b hb e => by have := (HROW7.out.lt b e).1; omega)
      have HR8 : Hid (RfAt V8 rb H W need 0 K) := HTZ.out.m.move (HK8.out.size) (fun b hb hh => by
        have h2 := HHL.out b hh
        rw [hgrow8.block b (by rw [World.size_alloc]; omega) (fun e => by have := (HROW7.out.lt b e.symm).1; omega), Below.heap_alloc w7 _ _ (by omega), HB7.out.block b h2])
      have HSZL : Hid (∀ y, y ∈ L ++ [other] → y.size ≤ 100000) := fun y hy => by
        rcases List.mem_append.1 hy with hy | hy
        · have := HSZ.out y (told_iff.1 ((HM7.out y).1 hy)); omega
        · have : y = other := by simpa using hy
          rw [this]; omega
      obtain ⟨T, hTe⟩ : ∃ T, T = L.length + 1 := ⟨_, rfl⟩
      have HTL : Hid (T = (L ++ [other]).length) := by rw [List.length_append]; exact hTe
      have hT626 : T ≤ 626 := by omega
      have hTI : (T : Int) ≤ 626 := by omega
      rw [← hTe]
      clear hown8 hgrow8 hat8 hlt8 hpo HROW7 HB7 hTe
      go_wp2
      go_loopw [25, 26, 27, 28, 29] (fun i _ _ _ _ V => ∃ t : Nat, t ≤ T ∧ i = .int .i64 (t : Int) ∧ YY w V8 V rb H W need (240000 * t) K) (fun i _ _ _ _ _ => T - (intOf i).toNat)
      case atStart => exact ⟨0, Nat.zero_le _, rfl, HR8.out, Kp.refl _ _⟩
      case round =>
        clear HR8
        obtain ⟨t, ht, rfl, hY⟩ := hrel
        have HY : Hid (YY w V8 wr rb H W need (240000 * t) K) := hY
        clear hY
        by_cases htl : t < T
        case neg =>
          have htT : t = T := by omega
          subst htT
          have hII2 : ¬ (t : Int) < t := by omega
          have HFIN : Hid (Below w.heap.size w wr) := HKPW.out wr (HK8.out.trans HY.out.k)
          go_wp2
          go_ret
          exact ⟨rfl, HFIN.out⟩
        case pos =>
          have htI : (t : Int) < T := by omega
          have ht' : t < (L ++ [other]).length := by rw [← HTL.out]; exact htl
          obtain ⟨gL, hpL, hcL, hFg, hgl⟩ := (HTS8.out.kp HY.out.k).at_ t _ (List.getElem?_eq_getElem ht')
          have hyz : (L ++ [other])[t].size ≤ 100000 := HSZL.out _ (List.getElem_mem ht')
          generalize (L ++ [other])[t] = y at *
          have hg8 : g8 = gL := by simpa using hpL
          subst hg8
          have HCL : Hid (∀ V, Kp H wr V → V.cell? ⟨g8, t, none⟩ = some (.string y)) := fun V hV => by rw [World.cell?_of_block (hV.block g8 hgl hFg)]; exact hcL
          have HPS := rparents_any y lk span score HY.out.r HLK2.out hW8 hn1 hp1 hp8 hc1 (by omega) hyz (by omega)
          have HPS : Hid _ := HPS
          clear hpL
          go_wp2_with fail
          refine Calls.mono HPS.out ?_
          rintro e w9 hps
          obtain ⟨pw, cw, fs, hfl, rfl, hpall, hts9⟩ := hps.out
          have HW9 : Hid (TsO w9 H pw fs) := hts9
          have HEQ : Hid (∀ e, e < lk → f e y = lst fs e y) := fun e he => HPRS.out.unique y (fun e' he' => hpall e' (by rw [hfl]; exact he')) e he
          have HFL : Hid (fs.length = lk) := hfl
          have HY9 : Hid (YY w V8 w9 rb H W need (240000 * (t + 1)) K) := ⟨hps.r.more (by omega), HY.out.k.trans hps.k⟩
          have hc9 := HCL.out w9 hps.k
          have HK9 : Hid (Kp H w6 w9) := HK8.out.trans HY9.out.k
          clear hps hfl hpall hts9 HPS HY hcL HCL
          go_wp2
          go_loopw [27, 28, 29] (fun i _ _ V => ∃ m : Nat, m ≤ lk + 2 ∧ i = .int .i64 ((m : Int) - 1) ∧ V = w9) (fun i _ _ _ => lk + 2 - (intOf i + 1).toNat)
          case atStart => exact ⟨0, Nat.zero_le _, rfl, rfl⟩
          case round =>
            obtain ⟨m, hm, rfl, rfl⟩ := hrel
            by_cases hml : m < lk + 2
            case neg =>
              have hme : m = lk + 2 := by omega
              have hII3 : ¬ ((m : Int) - 1) ≤ lk := by omega
              subst hme
              have hII4 : ¬ ((lk : Int) + 2 - 1) ≤ lk := by omega
              have hII5 : ¬ (((lk + 2 : Nat) : Int) - 1) ≤ lk := by omega
              clear hml
              go_wp2
              refine ⟨⟨t + 1, by omega, by go_num, HY9.out⟩, by simp [intOf]; omega⟩
            case pos =>
              have hle : ((m : Int) - 1) ≤ lk := by omega
              obtain ⟨ee, hee⟩ : ∃ ee : Int, ee = (m : Int) - 1 := ⟨_, rfl⟩
              have HEE : Hid (ee = (m : Int) - 1) := hee
              rw [← hee] at hle ⊢
              have hee13 : ee ≤ 12 := by omega
              have hee0 : -1 ≤ ee := by omega
              by_cases hin : 0 ≤ ee ∧ ee < (lk : Int)
              case neg =>
                have HPO := HPOUT.out wr y ee HK9.out hin
                have HPO : Hid _ := HPO
                have hor : decide (ee < 0) = true ∨ (decide (ee < 0) = false ∧ (ee == (lk : Int)) = true) := by
                  by_cases h : ee < 0
                  · exact Or.inl (by simpa using h)
                  · exact Or.inr ⟨by simpa using h, by simp; omega⟩
                clear hin hee
                rcases hor with h1 | ⟨h1, h2⟩
                · go_wp2_with fail
                  refine Calls.mono HPO.out ?_
                  rintro e w10 ⟨rfl, hw10⟩
                  subst hw10
                  go_wp2_with fail
                  refine (same_err 1 _ (by omega)).mono ?_
                  rintro e w11 ⟨rfl, hw11⟩
                  subst hw11
                  go_wp2
                  go_roundw
                  case rel => exact ⟨m + 1, by omega, by rw [HEE.out]; go_num, by first | rfl | trivial⟩
                  case measure => have := HEE.out; simp [intOf]; omega
                · go_wp2_with fail
                  refine Calls.mono HPO.out ?_
                  rintro e w10 ⟨rfl, hw10⟩
                  subst hw10
                  go_wp2_with fail
                  refine (same_err 1 _ (by omega)).mono ?_
                  rintro e w11 ⟨rfl, hw11⟩
                  subst hw11
                  go_wp2
                  go_roundw
                  case rel => exact ⟨m + 1, by omega, by rw [HEE.out]; go_num, by first | rfl | trivial⟩
                  case measure => have := HEE.out; simp [intOf]; omega
              case pos =>
                obtain ⟨en, hen⟩ : ∃ en : Nat, ee = (en : Int) := ⟨ee.toNat, by omega⟩
                subst hen
                have henl : en < lk := by omega
                have HPC := HPAR.out wr y en HK9.out hyz henl
                have HPC : Hid _ := HPC
                have henf : en < fs.length := by rw [HFL.out]; exact henl
                obtain ⟨gw, hpw, hcw, _, _⟩ := HW9.out.at_ en _ (List.getElem?_eq_getElem henf)
                have heq : f en y = fs[en] := by
                  rw [HEQ.out en henl]
                  unfold lst
                  rw [List.getD_eq_getElem?_getD, List.getElem?_eq_getElem henf]
                  rfl
                rw [heq] at HPC
                generalize fs[en] = z at *
                subst hpw
                have hzz : (z.toList == z.toList) = true := by simp
                have hq0 : decide ((en : Int) < 0) = false := by simp
                have hq1 : ((en : Int) == (lk : Int)) = false := by simp; omega
                have hq2 : (en == lk) = false := by simp; omega
                have henI : (en : Int) < lk := by omega
                clear heq hin hee
                go_wp2_with fail
                refine Calls.mono HPC.out ?_
                rintro e w10 ⟨rfl, hw10⟩
                subst hw10
                go_wp2
                go_roundw
                case rel => exact ⟨m + 1, by omega, by rw [HEE.out]; go_num, by first | rfl | trivial⟩
                case measure => have := HEE.out; simp [intOf]; omega
end
end Go.Proofs.YtblkbogoelfjlaaDoor.InA
