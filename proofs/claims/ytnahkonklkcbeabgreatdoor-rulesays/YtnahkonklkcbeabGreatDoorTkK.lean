/-
  What Counts does to the world.
-/
import Derived.Test.YtnahkonklkcbeabGreatDoorTkJ
namespace Go.Proofs.YtnahkonklkcbeabGreatDoor.TkA
open Go.RowKit TkM TkW Go.Maps
set_option maxRecDepth 100000

theorem epOf_at {E : List (List Sg)} {e : Nat} (h : e < E.length) : epOf E e = E[e] := by
  unfold epOf
  rw [List.getD_eq_getElem?_getD, List.getElem?_eq_getElem h]
  rfl
theorem seenAt_take {g : ByteArray} {p : Int} {l : List Sg} {k : Nat} (hk : k < l.length) : seenAt g p (l.take (k + 1)) = (seenAt g p (l.take k) || at1 g p l[k]) := by
  rw [List.take_add_one, List.getElem?_eq_getElem hk]
  exact seenAt_snoc g p _ _
theorem sumAt_take {g : ByteArray} {p : Int} {l : List Sg} {k : Nat} (hk : k < l.length) : sumAt g p (l.take (k + 1)) = sumAt g p (l.take k) + (if at1 g p l[k] = true then l[k].s else 0) := by
  rw [List.take_add_one, List.getElem?_eq_getElem hk]
  exact sumAt_snoc g p _ _
section
variable {w : World} {rb W need : Nat} {p : Option Addr} {cap : Nat} {E : List (List Sg)}
theorem RfV.sok (d : RfV w rb W need p cap E) : ∀ e x, x ∈ epOf E e → 0 ≤ x.s ∧ x.s ≤ 255 := fun e x hx => by
  by_cases h : e < E.length
  · exact (okS_iff.1 (List.all_eq_true.1 (d.ok _ (epOf_mem h)) x hx)).2
  · rw [epOf_past E (by omega)] at hx; simp at hx
theorem RfV.len (d : RfV w rb W need p cap E) : ∀ e, (epOf E e).length ≤ 25 := fun e => by
  by_cases h : e < E.length
  · exact (goodL_iff.1 ((light_iff.1 d.good).2 _ (epOf_mem h))).1
  · rw [epOf_past E (by omega)]; simp
set_option maxHeartbeats 1000000 in
theorem counts_any (g : ByteArray) (pl e : Nat) (d : RfV w rb W need p cap E) (he : e < E.length) (hW : W ≤ 8) :
    Calls Tryz.prog 73 #[.pointer (some ⟨rb, 0, none⟩), .string g, .int .i64 (pl : Int), .int .i64 (e : Int)] w fun x w' => x = .returned (.tuple #[.int .i64 (cW g (epOf E) W e pl : Int), .int .i64 (sW g (epOf E) W e pl)]) ∧ Below w.heap.size w w' := by
  have HSM : Hid (∀ L k, 0 ≤ sm g (pl : Int) (epOf E) L k ∧ sm g (pl : Int) (epOf E) L k ≤ 6375 * (k : Int)) := fun L k => sm_bound g (pl : Int) (epOf E) L d.len d.sok k
  have HSB : Hid (∀ e k, 0 ≤ sumAt g (pl : Int) ((epOf E e).take k) ∧ sumAt g (pl : Int) ((epOf E e).take k) ≤ 6375) := fun e k => by
    have h1 := sumAt_bound g (pl : Int) ((epOf E e).take k) (fun x hx => d.sok e x (List.mem_of_mem_take hx))
    have h2 := d.len e
    have h3 : ((epOf E e).take k).length ≤ 25 := by rw [List.length_take]; omega
    omega
  have HOK : Hid (∀ e x, x ∈ epOf E e → 0 ≤ x.s ∧ x.s ≤ 255) := d.sok
  have HD : Hid (RfV w rb W need p cap E) := d
  obtain ⟨hn25, _⟩ := light_iff.1 d.good
  obtain ⟨N, hN⟩ : ∃ N, N = E.length := ⟨_, rfl⟩
  have HN : Hid (N = E.length) := hN
  rw [← hN] at he hn25
  have c0 := d.c0
  have hWI : (W : Int) ≤ 8 := by omega
  have heI : (e : Int) ≤ 25 := by omega
  have hml := @max_lo W e
  obtain ⟨L, hL⟩ : ∃ L, L = lo W e := ⟨_, rfl⟩
  have hL1 : L ≤ e + 1 := by rw [hL]; unfold lo; omega
  have hL8 : e + 1 - L ≤ 8 := by rw [hL]; unfold lo; omega
  have HC : Hid (cW g (epOf E) W e pl = cnt g (pl : Int) (epOf E) L (e + 1 - L) ∧ sW g (epOf E) W e pl = sm g (pl : Int) (epOf E) L (e + 1 - L)) := by rw [hL]; exact ⟨rfl, rfl⟩
  rw [← hL] at hml
  clear hL d hN
  go_enter Tryz.func73, Tryz.ntmps73
  go_wp2
  clear c0 hml
  go_loopw [10, 11, 12, 13, 14, 15] (fun a b c _ _ _ V => ∃ j : Nat, j ≤ e + 1 - L ∧ c = .int .i64 ((L + j : Nat) : Int) ∧ a = .int .i64 (cnt g (pl : Int) (epOf E) L j : Int) ∧ b = .int .i64 (sm g (pl : Int) (epOf E) L j) ∧ Below w.heap.size w V) (fun _ _ c _ _ _ _ => e + 1 - (intOf c).toNat)
  case atStart => exact ⟨0, Nat.zero_le _, rfl, rfl, rfl, Below.refl _ _⟩
  case round =>
    obtain ⟨j, hj, rfl, rfl, rfl, hbl⟩ := hrel
    by_cases hlt : L + j ≤ e
    case neg =>
      have hjj : j = e + 1 - L := by omega
      have hI : ¬ ((L + j : Nat) : Int) ≤ e := by omega
      have HB : Hid (Below w.heap.size w wr) := hbl
      subst hjj
      obtain ⟨cc, hcc⟩ : ∃ cc, cc = cnt g (pl : Int) (epOf E) L (e + 1 - L) := ⟨_, rfl⟩
      obtain ⟨sc, hsc⟩ : ∃ sc, sc = sm g (pl : Int) (epOf E) L (e + 1 - L) := ⟨_, rfl⟩
      have HC2 : Hid (cc = cW g (epOf E) W e pl ∧ sc = sW g (epOf E) W e pl) := by
        show _ ∧ _
        rw [HC.out.1, HC.out.2]; exact ⟨hcc, hsc⟩
      rw [← hcc, ← hsc]
      clear hbl hcc hsc
      go_wp2
      go_ret2
      exact ⟨by rw [← HC2.out.1, ← HC2.out.2]; rfl, HB.out⟩
    case pos =>
      have hI : ((L + j : Nat) : Int) ≤ e := by omega
      obtain ⟨K, hK⟩ : ∃ K, K = L + j := ⟨_, rfl⟩
      rw [← hK] at hI ⊢
      have HK : Hid (K = L + j) := hK
      have hK9 : (K : Int) ≤ 25 := by omega
      have hKN : (K : Int) < N := by omega
      have hj' : j < e + 1 - L := by omega
      have hKE : K < E.length := by rw [← HN.out]; omega
      clear hK hlt hj
      have HB : Hid (Below w.heap.size w wr) := hbl
      have hd := HD.out.below hbl
      obtain ⟨b, o, rfl, hb, hc⟩ := hd.on.at_ (by intro e; rw [e] at hKE; simp at hKE)
      obtain ⟨q, cp, k0, hs⟩ := hc K _ (List.getElem?_eq_getElem hKE)
      rw [← epOf_at hKE] at k0 hs
      obtain ⟨l, hl⟩ : ∃ l, l = epOf E K := ⟨_, rfl⟩
      rw [← hl] at k0 hs
      obtain ⟨m, hm⟩ : ∃ m, m = l.length := ⟨_, rfl⟩
      rw [← hm] at k0
      have hm25 : m ≤ 25 := by rw [hm, hl]; exact hd.len K
      have HM : Hid (m = l.length) := hm
      have HL : Hid (l = epOf E K) := hl
      have HS : Hid (SgsOn wr q l) := hs
      obtain ⟨cc, hcc⟩ : ∃ cc, cc = cnt g (pl : Int) (epOf E) L j := ⟨_, rfl⟩
      obtain ⟨sc, hsc⟩ : ∃ sc, sc = sm g (pl : Int) (epOf E) L j := ⟨_, rfl⟩
      have hcc8 : (cc : Int) ≤ 8 := by have := cnt_le g (pl : Int) (epOf E) L j; omega
      have hsc0 : 0 ≤ sc := by rw [hsc]; exact (HSM.out L j).1
      have hsc1 : sc ≤ 51000 := by have := (HSM.out L j).2; omega
      have HCC : Hid (cc = cnt g (pl : Int) (epOf E) L j ∧ sc = sm g (pl : Int) (epOf E) L j) := ⟨hcc, hsc⟩
      rw [← hcc, ← hsc]
      have k2 := hd.c2
      rw [← HN.out] at k2
      have hrb := hd.lt
      have HK0 : Hid (∀ V, Below wr.heap.size wr V → V.cell? ⟨b, o + K, none⟩ = some (.slice q m cp) ∧ V.cell? ⟨rb, 2, none⟩ = some (.slice (some ⟨b, o, none⟩) N cap)) := fun V hV => ⟨by rw [hV.cell hb]; exact k0, by rw [hV.cell hrb]; exact k2⟩
      clear hc hd hbl hs hl hm hcc hsc k0 k2
      obtain ⟨V1, hV1⟩ : ∃ V1, V1 = wr := ⟨_, rfl⟩
      rw [← hV1] at HB HS HK0 hb hrb ⊢
      clear hV1
      go_wp2
      go_loopw [11, 13, 14, 15] (fun a s i _ V => ∃ (k : Nat) (sb : Bool) (sv : Int), k ≤ m ∧ i = .int .i64 (k : Int) ∧ s = .bool sb ∧ a = .int .i64 sv ∧ sb = seenAt g (pl : Int) (l.take k) ∧ sv = sc + sumAt g (pl : Int) (l.take k) ∧ Below V1.heap.size V1 V) (fun _ _ i _ _ => m - (intOf i).toNat)
      case atStart => exact ⟨0, false, sc, Nat.zero_le _, rfl, rfl, rfl, rfl, by simp [sumAt], Below.refl _ _⟩
      case round =>
        obtain ⟨k, sb, sv, hk, rfl, rfl, rfl, hsb, hsv, hbl⟩ := hrel
        obtain ⟨k0, k2⟩ := HK0.out wr hbl
        by_cases hlk : k < m
        case neg =>
          have hkk : k = m := by omega
          subst hkk
          have hII : ¬ (k : Int) < k := by omega
          rw [HM.out, List.take_length] at hsb hsv
          have HBW : Hid (Below w.heap.size w wr) := HB.out.trans (hbl.mono HB.out.size)
          cases sb with
          | false =>
            have HREL : Hid ((cc : Int) = (cnt g (pl : Int) (epOf E) L (j + 1) : Int) ∧ sv = sm g (pl : Int) (epOf E) L (j + 1)) := by
              show _ ∧ _
              rw [cntS, smS, ← HK.out, ← HL.out, ← hsb, hsv, HCC.out.1, HCC.out.2]
              simp
            clear hsb hsv hbl hlk
            go_wp2
            exact ⟨⟨j + 1, by omega, by rw [HK.out]; congr 1, by rw [HREL.out.1], by rw [HREL.out.2], HBW.out⟩, by simp [intOf]; omega⟩
          | true =>
            have HREL : Hid ((cc : Int) + 1 = (cnt g (pl : Int) (epOf E) L (j + 1) : Int) ∧ sv = sm g (pl : Int) (epOf E) L (j + 1)) := by
              show _ ∧ _
              rw [cntS, smS, ← HK.out, ← HL.out, ← hsb, hsv, HCC.out.1, HCC.out.2]
              simp
            clear hsb hsv hbl hlk
            go_wp2
            exact ⟨⟨j + 1, by omega, by rw [HK.out]; congr 1, by rw [HREL.out.1], by rw [HREL.out.2], HBW.out⟩, by simp [intOf]; omega⟩
        case pos =>
          have hkI : (k : Int) < m := by omega
          have hk' : k < l.length := by rw [← HM.out]; exact hlk
          obtain ⟨b', o', rfl, hb', hc'⟩ := HS.out.at_ (by intro e; rw [e] at hk'; simp at hk')
          obtain ⟨a0, a1, a2, a3⟩ := (hc' k _ (List.getElem?_eq_getElem hk')).keep (hbl.block b' hb')
          have hxs := HOK.out K l[k] (by rw [← HL.out]; exact List.getElem_mem hk')
          have hsvb : 0 ≤ sv ∧ sv ≤ 60000 := by
            have := HSB.out K k
            rw [← HL.out] at this
            omega
          have hS1 : ∀ b, at1 g (pl : Int) l[k] = b → seenAt g (pl : Int) (l.take (k + 1)) = (sb || b) := fun b h => by rw [seenAt_take hk', h, hsb]
          have hS2 : ∀ b, at1 g (pl : Int) l[k] = b → sc + sumAt g (pl : Int) (l.take (k + 1)) = sv + (if b = true then l[k].s else 0) := fun b h => by rw [sumAt_take hk', h, hsv]; omega
          have HS1 : Hid (∀ b, at1 g (pl : Int) l[k] = b → seenAt g (pl : Int) (l.take (k + 1)) = (sb || b)) := hS1
          have HS2 : Hid (∀ b, at1 g (pl : Int) l[k] = b → sc + sumAt g (pl : Int) (l.take (k + 1)) = sv + (if b = true then l[k].s else 0)) := hS2
          clear hS1 hS2 hc' hsb hsv
          generalize l[k] = x at *
          obtain ⟨xp, xs, xt, xg⟩ := x
          simp only at a0 a1 a2 a3 hxs HS2
          obtain ⟨hxs0, hxs1⟩ := hxs
          obtain ⟨hsv0, hsv1⟩ := hsvb
          have HBL : Hid (Below V1.heap.size V1 wr) := hbl
          clear hbl
          by_cases hq : xg = g
          · have hqb := sbeq_true hq
            by_cases hp : xp = (pl : Int)
            · have hpb : (xp == (pl : Int)) = true := by simpa using hp
              have ha : at1 g (pl : Int) ⟨xp, xs, xt, xg⟩ = true := at1_iff.2 ⟨hq, hp⟩
              have HR : Hid (seenAt g (pl : Int) (l.take (k + 1)) = true ∧ sc + sumAt g (pl : Int) (l.take (k + 1)) = sv + xs) := ⟨by rw [HS1.out _ ha]; simp, by rw [HS2.out _ ha]; simp⟩
              clear ha hp hq
              go_wp2
              go_roundw
              case rel => exact ⟨k + 1, true, sv + xs, by omega, by go_num, rfl, by go_num, HR.out.1.symm, HR.out.2.symm, HBL.out.alloc HBL.out.size _⟩
              case measure => simp [intOf]; omega
            · have hpb : (xp == (pl : Int)) = false := by simpa using hp
              have ha : at1 g (pl : Int) ⟨xp, xs, xt, xg⟩ = false := by simp [at1, hp]
              have HR : Hid (seenAt g (pl : Int) (l.take (k + 1)) = sb ∧ sc + sumAt g (pl : Int) (l.take (k + 1)) = sv) := ⟨by rw [HS1.out _ ha]; simp, by rw [HS2.out _ ha]; simp⟩
              clear ha hp hq
              go_wp2
              go_roundw
              case rel => exact ⟨k + 1, sb, sv, by omega, by go_num, rfl, rfl, HR.out.1.symm, HR.out.2.symm, HBL.out.alloc HBL.out.size _⟩
              case measure => simp [intOf]; omega
          · have hqb := sbeq_false hq
            have ha : at1 g (pl : Int) ⟨xp, xs, xt, xg⟩ = false := by simp [at1, hq]
            have HR : Hid (seenAt g (pl : Int) (l.take (k + 1)) = sb ∧ sc + sumAt g (pl : Int) (l.take (k + 1)) = sv) := ⟨by rw [HS1.out _ ha]; simp, by rw [HS2.out _ ha]; simp⟩
            clear ha hq
            go_wp2
            go_roundw
            case rel => exact ⟨k + 1, sb, sv, by omega, by go_num, rfl, rfl, HR.out.1.symm, HR.out.2.symm, HBL.out.alloc HBL.out.size _⟩
            case measure => simp [intOf]; omega
end
end Go.Proofs.YtnahkonklkcbeabGreatDoor.TkA
