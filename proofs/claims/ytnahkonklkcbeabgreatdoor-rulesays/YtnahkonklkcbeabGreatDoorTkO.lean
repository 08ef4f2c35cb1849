/-
  What the document's At, Where and Comes do to the world.
-/
import Derived.Test.YtnahkonklkcbeabGreatDoorTkN
namespace Go.Proofs.YtnahkonklkcbeabGreatDoor.TkA
open Go.RowKit TkM TkW Go.Maps
set_option maxRecDepth 100000

theorem zero3 (w : World) : (zeroValue 3).run Tryz.prog w = .ok (.int .i64 0) w := by kernel_rfl
section
variable {w : World} {rb : Nat} {F : Nat → Prop} {W need q : Nat} {E : List (List Sg)}
theorem look_hit {V : World} {fb m : Nat} {Df : DataW Value} (h : V.ownsMap Tryz.prog 9 (plainElem Tryz.prog 3) fb m Df) {k : ByteArray} (hk : k.size ≤ maxLen) {x : Int} (hx : ∀ zd : DataW Value, Df.atKey (.string k.data.toList) zd = .lit (.int .i64 x)) :
    (Instr.lookup 45 (.map (some fb)) (.string k) true).run Tryz.prog V = .ok (.tuple #[.int .i64 x, .bool true]) V := by
  obtain ⟨u, ps, hrun, hR⟩ := h.look_ok law9 Tryz.underlying45 (zero3 V) (plainElem_int Tryz.underlying3 (by decide)) (key9 hk)
  rw [hx] at hR
  obtain ⟨c, rfl, hc, _⟩ := plainElem_int_inv Tryz.underlying3 hR
  simp at hc
  rw [has_true_of_atKey hx] at hrun
  rw [hc.1]
  exact hrun
theorem look_miss {V : World} {fb m : Nat} {Df : DataW Value} (h : V.ownsMap Tryz.prog 9 (plainElem Tryz.prog 3) fb m Df) {k : ByteArray} (hk : k.size ≤ maxLen) (hx : ∀ zd : DataW Value, Df.atKey (.string k.data.toList) zd = zd) :
    (Instr.lookup 45 (.map (some fb)) (.string k) true).run Tryz.prog V = .ok (.tuple #[.int .i64 0, .bool false]) V := by
  obtain ⟨u, ps, hrun, hR⟩ := h.look_ok law9 Tryz.underlying45 (zero3 V) (plainElem_int Tryz.underlying3 (by decide)) (key9 hk)
  rw [hx] at hR
  obtain ⟨c, rfl, hc, _⟩ := plainElem_int_inv Tryz.underlying3 hR
  simp at hc
  rw [has_false_of_atKey hx] at hrun
  rw [hc.1]
  exact hrun
/-- A place is written down. -/
theorem RfIn.put {w1 : World} {fb m : Nat} {v : Value} {Df : DataW Value} {ps : List (Option Addr × Nat)} {g : ByteArray} {e : Nat} (d : RfIn w rb fb m v Df ps F W need q E) (he : e < E.length) (hg : w.grownBy w1 (some fb))
    (ho : w1.ownsMap Tryz.prog 9 (plainElem Tryz.prog 3) fb (m + 1) (Df.put (.string (keyL g e)) (.lit (.int .i64 (whr g (epOf E) W need e))))) : RfIn w1 rb fb (m + 1) v (Df.put (.string (keyL g e)) (.lit (.int .i64 (whr g (epOf E) W need e)))) ps F W need (q + 1) E where
  cells := by rw [hg.block rb d.lt (fun e => d.ne (by simpa using e.symm))]; exact d.cells
  plen := d.plen
  own := own_keep d.own (fun b hb => hg.block b (own_lt d.own hb) (fun e => (d.vne hb).2 (by simpa using e)))
  rows := fun k l pc h1 h2 => by
    obtain ⟨r1, r2⟩ := d.rows k l pc h1 h2
    refine ⟨?_, r2⟩
    by_cases hl : l = []
    · rw [hl]; exact SgsOn.empty
    · exact r1.move hg.size (fun b' o' hp' hlt => hg.block b' hlt (fun e => d.rne h1 h2 hl hp' (by simpa using e)))
  map := ho
  room := by have := d.room; omega
  memo := fun g' e' he' => by
    have h25 := (light_iff.1 d.good).1
    by_cases hk : keyL g' e' = keyL g e
    · obtain ⟨rfl, rfl⟩ := keyL_inj (by omega) (by omega) hk
      exact Or.inr (fun zd => by rw [Maps.atKey_put_same d.map.isMap (keyStr _)])
    · rcases d.memo g' e' he' with h | h
      · exact Or.inl (fun zd => by rw [Maps.atKey_put_other (fun e => hk (by simpa using e)), h])
      · exact Or.inr (fun zd => by rw [Maps.atKey_put_other (fun e => hk (by simpa using e)), h])
  fd := d.fd
  fm := d.fm
  fv := d.fv
  lim := fun b hb => Nat.lt_of_lt_of_le (d.lim b hb) hg.size
  good := d.good
  ok := d.ok
theorem RfAt.more {q' : Nat} (d : RfAt w rb F W need q E) (h : q ≤ q') : RfAt w rb F W need q' E := by
  obtain ⟨fb, m, v, Df, ps, d⟩ := d.out
  exact ⟨fb, m, v, Df, ps, d.cells, d.plen, d.own, d.rows, d.map, Nat.le_trans d.room h, d.memo, d.fd, d.fm, d.fv, d.lim, d.good, d.ok⟩
theorem whr_wf (g : ByteArray) (ep : Nat → List Sg) (W need e : Nat) : (Lit.int .i64 (whr g ep W need e)).wf = true := by
  have h := @bst_range need (cW g ep W e) (sW g ep W e) 8
  exact WalkArith.wf_i64 (n := whr g ep W need e) (by unfold whr; omega)
set_option maxHeartbeats 1000000 in
theorem rat_any (g : ByteArray) (e : Nat) (d : RfAt w rb F W need q E) (he : e < E.length) (hW : W ≤ 8) (hg : g.size ≤ 100000) (hq : q ≤ 10000000000) :
    Calls Tryz.prog 37 #[.pointer (some ⟨rb, 0, none⟩), .string g, .int .i64 (e : Int)] w fun x w' => x = .returned (.int .i64 (whr g (epOf E) W need e)) ∧ RfAt w' rb F W need (q + 1) E ∧ Kp F w w' := by
  have HD : Hid (RfAt w rb F W need q E) := d
  have h25 := (light_iff.1 d.good).1
  have HE : Hid (e < E.length) := he
  have he25 : e < 100 := by omega
  have HKB : Hid ((g ++ ⟨#[64]⟩ ++ ⟨(dec2 e).toArray⟩ : ByteArray).data.toList = keyL g e ∧ (g ++ ⟨#[64]⟩ ++ ⟨(dec2 e).toArray⟩ : ByteArray).size ≤ 100010) := by
    have h1 : (g ++ ⟨#[64]⟩ ++ ⟨(dec2 e).toArray⟩ : ByteArray).data.toList = keyL g e := by simp [keyL]
    refine ⟨h1, ?_⟩
    have h2 : (g ++ ⟨#[64]⟩ ++ ⟨(dec2 e).toArray⟩ : ByteArray).size = (keyL g e).length := by rw [← h1, Array.length_toList]; rfl
    rw [h2]
    unfold keyL dec2
    have h3 : g.data.toList.length = g.size := by simp
    split <;> simp [h3] <;> omega
  have hd2 : (dec2 e).length ≤ 2 := by unfold dec2; split <;> simp
  obtain ⟨r, hr⟩ : ∃ r, r = whr g (epOf E) W need e := ⟨_, rfl⟩
  have HR : Hid (r = whr g (epOf E) W need e) := hr
  rw [← hr]
  clear d he hr
  go_enter Tryz.func37, Tryz.ntmps37
  go_wp2_with fail
  refine (decimal_any e _ he25).mono ?_
  rintro x w1 ⟨rfl, hb1⟩
  have HB1 : Hid (Below w.heap.size w w1) := hb1
  clear hb1
  obtain ⟨fb, m, v, Df, ps, d1⟩ := (HD.out.below HB1.out).out
  have c3 := d1.c3
  have HD1 : Hid (RfIn w1 rb fb m v Df ps F W need q E) := d1
  have hmemo := d1.memo g e HE.out
  rw [← HKB.out.1] at hmemo
  have hks : (g ++ ⟨#[64]⟩ ++ ⟨(dec2 e).toArray⟩ : ByteArray).size ≤ maxLen := by have := HKB.out.2; unfold maxLen; omega
  rcases hmemo with hm | hm
  · have hrun := look_miss d1.map hks hm
    clear d1 hm hks
    go_wp2_with fail
    obtain ⟨p, cap, _, hv⟩ := HD1.out.view
    have hat := at_any g e hv HE.out hW
    rw [← HR.out] at hat
    refine hat.mono ?_
    clear hv hrun hat
    rintro x w2 ⟨rfl, hb2⟩
    have hd2 : RfIn w2 rb fb m v Df ps F W need q E := HD1.out.move hb2.size (fun k hk _ => hb2.block k hk)
    have HK2 : Hid (Kp F w w2) := (below_kp HB1.out F).trans (below_kp hb2 F)
    have c3' := hd2.c3
    obtain ⟨w3, hrun3, hm3, hg3⟩ := hd2.map.update (val := .int .i64 r) (d := .lit (.int .i64 r)) (ps := []) law9 Tryz.underlying45 (by have := hd2.room; unfold maxLen; omega) (key9 (g := g ++ ⟨#[64]⟩ ++ ⟨(dec2 e).toArray⟩) (by have := HKB.out.2; unfold maxLen; omega)) (plainElem_int Tryz.underlying3 (by rw [HR.out]; exact whr_wf _ _ _ _ _))
    rw [HKB.out.1, HR.out] at hm3
    have HF3 : Hid (RfAt w3 rb F W need (q + 1) E ∧ Kp F w w3) := ⟨⟨fb, m + 1, v, _, ps, hd2.put HE.out hg3 hm3⟩, HK2.out.trans (grown_kp hg3 (fun k hk => by simp at hk; rw [← hk]; exact hd2.fm))⟩
    clear hd2 hb2 hm3 hg3 HB1 HD1 c3
    go_wp2
    go_ret
    exact ⟨rfl, HF3.out⟩
  · rw [← HR.out] at hm
    have hrun := look_hit d1.map hks hm
    clear d1 hm hks
    have HF1 : Hid (RfAt w1 rb F W need (q + 1) E ∧ Kp F w w1) := ⟨(HD.out.below HB1.out).more (by omega), below_kp HB1.out F⟩
    clear HB1 HD1
    go_wp2
    go_ret
    exact ⟨rfl, HF1.out⟩
set_option maxHeartbeats 1000000 in
theorem rwhere_any (g : ByteArray) (e : Int) (d : RfAt w rb F W need q E) (hW : W ≤ 8) (hg : g.size ≤ 100000) (hq : q ≤ 10000000000) :
    Calls Tryz.prog 55 #[.pointer (some ⟨rb, 0, none⟩), .string g, .int .i64 e] w fun x w' => x = .returned (.tuple #[.int .i64 (wv E.length (told g E) e (whr g (epOf E) W need e.toNat)).1, .int .i64 ((wv E.length (told g E) e (whr g (epOf E) W need e.toNat)).2 : Int)]) ∧ RfAt w' rb F W need (q + 1) E ∧ Kp F w w' := by
  have HD : Hid (RfAt w rb F W need q E) := d
  obtain ⟨p, cap, hv⟩ := d.view
  have h25 := (light_iff.1 d.good).1
  have HT : Hid (Calls Tryz.prog 72 #[.pointer (some ⟨rb, 0, none⟩), .string g, .int .i64 (E.length : Int)] w fun e w' => e = .returned (.bool (told g E)) ∧ w' = w) := told_any g hv
  have HA : Hid (∀ k : Nat, k < E.length → Calls Tryz.prog 37 #[.pointer (some ⟨rb, 0, none⟩), .string g, .int .i64 (k : Int)] w fun x w' => x = .returned (.int .i64 (whr g (epOf E) W need k)) ∧ RfAt w' rb F W need (q + 1) E ∧ Kp F w w') := fun k hk => rat_any g k HD.out hk hW hg hq
  have c2 := hv.c2
  have HF0 : Hid (RfAt w rb F W need (q + 1) E ∧ Kp F w w) := ⟨HD.out.more (by omega), Kp.refl _ _⟩
  clear d hv
  obtain ⟨N, hN⟩ : ∃ N, N = E.length := ⟨_, rfl⟩
  rw [← hN] at c2 HT HA h25 ⊢
  clear hN
  unfold wv
  by_cases h0 : e < 0
  · have h0d : decide (e < 0) = true := by simpa using h0
    rw [if_neg (by omega)]
    go_enter Tryz.func55, Tryz.ntmps55
    go_wp2
    go_ret2
    exact ⟨rfl, HF0.out⟩
  · have h0d : decide (e < 0) = false := by simpa using h0
    by_cases h1 : (N : Int) ≤ e
    · have h1d : decide ((N : Int) ≤ e) = true := by simpa using h1
      rw [if_neg (by omega)]
      go_enter Tryz.func55, Tryz.ntmps55
      go_wp2
      go_ret2
      exact ⟨rfl, HF0.out⟩
    · have h1d : decide ((N : Int) ≤ e) = false := by simpa using h1
      obtain ⟨k, rfl⟩ : ∃ k : Nat, e = (k : Int) := ⟨e.toNat, by omega⟩
      rw [if_pos (by omega), Int.toNat_natCast]
      have HAk : Hid (Calls Tryz.prog 37 #[.pointer (some ⟨rb, 0, none⟩), .string g, .int .i64 (k : Int)] w fun x w' => x = .returned (.int .i64 (whr g (epOf E) W need k)) ∧ RfAt w' rb F W need (q + 1) E ∧ Kp F w w') := HA.out k (by omega)
      clear HA
      generalize whr g (epOf E) W need k = r at *
      generalize told g E = t at *
      cases t with
      | false =>
        rw [if_neg (by simp)]
        go_enter Tryz.func55, Tryz.ntmps55
        go_wp2_with fail
        refine HT.out.mono ?_
        rintro x w1 ⟨rfl, hw1⟩
        subst hw1
        go_wp2
        go_ret2
        exact ⟨rfl, HF0.out⟩
      | true =>
        rw [if_pos rfl]
        go_enter Tryz.func55, Tryz.ntmps55
        go_wp2_with fail
        refine HT.out.mono ?_
        rintro x w1 ⟨rfl, hw1⟩
        subst hw1
        go_wp2_with fail
        refine HAk.out.mono ?_
        rintro x w2 ⟨rfl, hf2⟩
        have HF2 : Hid (RfAt w2 rb F W need (q + 1) E ∧ Kp F w1 w2) := hf2
        clear hf2
        go_wp2
        go_ret2
        exact ⟨rfl, HF2.out⟩
end
end Go.Proofs.YtnahkonklkcbeabGreatDoor.TkA
