/-
  The document's track in memory: what is read of it; what Told does to the world.
-/
import Derived.Test.YtnahkonklkcbeabGreatDoorTkI
namespace Go.Proofs.YtnahkonklkcbeabGreatDoor.TkA
open Go.RowKit TkM TkW Go.Maps
set_option maxRecDepth 100000

theorem sbeq_iff (a b : ByteArray) : (a.toList == b.toList) = true ↔ a = b := by
  rw [beq_iff_eq, ByteArray.toList_eq, ByteArray.toList_eq]
  exact ⟨fun h => bytes_ext h, fun h => by rw [h]⟩
theorem sbeq_true {a b : ByteArray} (h : a = b) : (a.toList == b.toList) = true := (sbeq_iff a b).2 h
theorem sbeq_false {a b : ByteArray} (h : ¬ a = b) : (a.toList == b.toList) = false := by
  cases h' : (a.toList == b.toList)
  · rfl
  · exact absurd ((sbeq_iff a b).1 h') h
/-- The document's track, as it is read. -/
structure RfV (w : World) (rb : Nat) (W need : Nat) (p : Option Addr) (cap : Nat) (E : List (List Sg)) : Prop where
  c0 : w.cell? ⟨rb, 0, none⟩ = some (.int .i64 (W : Int))
  c1 : w.cell? ⟨rb, 1, none⟩ = some (.int .i64 (need : Int))
  c2 : w.cell? ⟨rb, 2, none⟩ = some (.slice p E.length cap)
  on : EsOn w p E
  lt : rb < w.heap.size
  good : light E = true
  ok : ∀ l, l ∈ E → l.all okS = true
theorem RfV.below {w w' : World} {rb W need : Nat} {p : Option Addr} {cap : Nat} {E : List (List Sg)} (h : RfV w rb W need p cap E) (hb : Below w.heap.size w w') : RfV w' rb W need p cap E where
  c0 := by rw [hb.cell h.lt]; exact h.c0
  c1 := by rw [hb.cell h.lt]; exact h.c1
  c2 := by rw [hb.cell h.lt]; exact h.c2
  on := h.on.below hb
  lt := Nat.lt_of_lt_of_le h.lt hb.size
  good := h.good
  ok := h.ok
section
variable {w : World} {rb W need : Nat} {p : Option Addr} {cap : Nat} {E : List (List Sg)}
theorem told_take {g : ByteArray} {E : List (List Sg)} {k : Nat} (hk : k < E.length) : told g (E.take (k + 1)) = (told g (E.take k) || seenG g E[k]) := by
  unfold told
  rw [List.take_add_one, List.getElem?_eq_getElem hk, List.any_append]
  simp
theorem seen_take {g : ByteArray} {l : List Sg} {k : Nat} (hk : k < l.length) : seenG g (l.take (k + 1)) = (seenG g (l.take k) || decide (l[k].g = g)) := by
  rw [List.take_add_one, List.getElem?_eq_getElem hk]
  exact seen_snoc g _ _
set_option maxHeartbeats 1000000 in
theorem told_any (g : ByteArray) (d : RfV w rb W need p cap E) :
    Calls Tryz.prog 72 #[.pointer (some ⟨rb, 0, none⟩), .string g, .int .i64 (E.length : Int)] w fun e w' => e = .returned (.bool (told g E)) ∧ w' = w := by
  obtain ⟨N, hN⟩ : ∃ N, N = E.length := ⟨_, rfl⟩
  obtain ⟨r, hr⟩ : ∃ r, r = told g E := ⟨_, rfl⟩
  have HN : Hid (N = E.length) := hN
  have HR : Hid (r = told g E) := hr
  have HE : Hid (EsOn w p E) := d.on
  have c2 := d.c2
  obtain ⟨hn25, hgl⟩ := light_iff.1 d.good
  have HGL : Hid (∀ l, l ∈ E → goodL l = true) := hgl
  rw [← hN] at hn25 c2 ⊢
  rw [← hr]
  clear hN hr d hgl
  go_enter Tryz.func72, Tryz.ntmps72
  go_wp2
  go_loopw [7, 8] (fun i _ V => ∃ k : Nat, k ≤ N ∧ i = .int .i64 (k : Int) ∧ V = w ∧ told g (E.take k) = false) (fun i _ _ => N - (intOf i).toNat)
  case atStart => exact ⟨0, Nat.zero_le _, rfl, rfl, rfl⟩
  case round =>
    obtain ⟨k, hk, rfl, rfl, hall⟩ := hrel
    by_cases hlt : k < N
    case neg =>
      have hkk : k = N := by omega
      subst hkk
      have hrt : r = false := by rw [HR.out]; rw [HN.out, List.take_length] at hall; exact hall
      have hII : ¬ (k : Int) < k := by omega
      clear hall hlt
      go_wp2
      go_ret
      exact ⟨rfl, rfl⟩
    case pos =>
      have hkI : (k : Int) < N := by omega
      have hkI2 : (k : Int) ≤ N := by omega
      have hk' : k < E.length := by rw [← HN.out]; exact hlt
      obtain ⟨b, o, rfl, hbl, hc⟩ := HE.out.at_ (by intro e; rw [e] at hk'; simp at hk')
      obtain ⟨q, cp, c0, hs⟩ := hc k _ (List.getElem?_eq_getElem hk')
      have hmem := List.getElem_mem hk'
      obtain ⟨hl25, hl20⟩ := goodL_iff.1 (HGL.out _ hmem)
      have HA : Hid (seenG g E[k] = false → told g (E.take (k + 1)) = false) := fun h => by rw [told_take hk', hall, h]; rfl
      have HF : Hid (seenG g E[k] = true → r = true) := fun h => by
        rw [HR.out]
        exact List.any_eq_true.2 ⟨_, hmem, h⟩
      generalize E[k] = l at *
      obtain ⟨m, hm⟩ : ∃ m, m = l.length := ⟨_, rfl⟩
      have HM : Hid (m = l.length) := hm
      rw [← hm] at c0 hl25
      have HS : Hid (SgsOn wr q l) := hs
      have HB2 : Hid (∀ x, x ∈ l → x.g.size ≤ 20) := hl20
      clear hc hmem hall hm hs hl20
      go_wp2
      go_loopw [8] (fun i V => ∃ j : Nat, j ≤ m ∧ i = .int .i64 (j : Int) ∧ V = wr ∧ seenG g (l.take j) = false) (fun i _ => m - (intOf i).toNat)
      case atStart => exact ⟨0, Nat.zero_le _, rfl, rfl, rfl⟩
      case round =>
        obtain ⟨j, hj, rfl, rfl, hal⟩ := hrel
        by_cases hlj : j < m
        case neg =>
          have hjj : j = m := by omega
          subst hjj
          have hII : ¬ (j : Int) < j := by omega
          have HG : Hid (seenG g l = false) := by rw [HM.out, List.take_length] at hal; exact hal
          clear hal hlj
          go_wp2
          refine ⟨⟨k + 1, by omega, by go_num, trivial, HA.out HG.out⟩, by simp [intOf]; omega⟩
        case pos =>
          have hjI : (j : Int) < m := by omega
          have hj' : j < l.length := by rw [← HM.out]; exact hlj
          obtain ⟨b', o', rfl, hbl', hc'⟩ := HS.out.at_ (by intro e; rw [e] at hj'; simp at hj')
          have a3 := (hc' j _ (List.getElem?_eq_getElem hj')).c3
          have hm2 := List.getElem_mem hj'
          have hgb := HB2.out _ hm2
          have HA2 : Hid (¬ l[j].g = g → seenG g (l.take (j + 1)) = false) := fun h => by rw [seen_take hj', hal]; simp [h]
          have HF2 : Hid (l[j].g = g → r = true) := fun h => HF.out (seen_iff.2 ⟨_, hm2, h⟩)
          generalize l[j] = x at *
          obtain ⟨xp, xs, xt, xg⟩ := x
          simp only at a3 hgb
          clear hc' hm2 hal
          by_cases hq : xg = g
          · have hqb := sbeq_true hq
            have HRT : Hid (r = true) := HF2.out hq
            go_wp2
            go_ret
            exact ⟨congrArg (fun x => Ending.returned (.bool x)) HRT.out.symm, rfl⟩
          · have hqb := sbeq_false hq
            go_wp2
            go_roundw
            case rel => exact ⟨j + 1, by omega, by go_num, trivial, HA2.out hq⟩
            case measure => simp [intOf]; omega
end
end Go.Proofs.YtnahkonklkcbeabGreatDoor.TkA
