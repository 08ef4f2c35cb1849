/-
  What together and beats do to the world.
-/
import Derived.Test.YtblkbogoelfjlaaDoorInB
namespace Go.Proofs.YtblkbogoelfjlaaDoor.InA
open Go.RowKit TkM TkW TkA InM Go.Maps
set_option maxRecDepth 100000

/-- A list of places, those from L on. -/
structure PlOn (w : World) (p : Option Addr) (u : Nat → Int) (L n : Nat) : Prop where
  at_ : ∀ j, j < n → ∃ b, p = some ⟨b, 0, none⟩ ∧ b < w.heap.size ∧ w.cell? ⟨b, j, none⟩ = some (.int .i64 (u (L + j)))
theorem PlOn.below {w w' : World} {p : Option Addr} {u : Nat → Int} {L n : Nat} (h : PlOn w p u L n) (hb : Below w.heap.size w w') : PlOn w' p u L n where
  at_ := fun j hj => by
    obtain ⟨b, hp, hlt, hc⟩ := h.at_ j hj
    exact ⟨b, hp, Nat.lt_of_lt_of_le hlt hb.size, by rw [hb.cell hlt]; exact hc⟩
set_option maxHeartbeats 1000000 in
theorem together_any (g h : ByteArray) (kg kh : Int) (p q : Option Addr) (cp cq : Nat) (u v : Nat → Int) (L n : Nat) (w : World) (hp : PlOn w p u L n) (hq : PlOn w q v L n) (hn : n ≤ 8) :
    Calls Tryd.prog 77 #[.agg #[.string g, .int .i64 kg, .slice p n cp], .agg #[.string h, .int .i64 kh, .slice q n cq]] w fun e w' => e = .returned (.int .i64 (tg u v L n : Nat)) ∧ Below w.heap.size w w' := by
  have HP : Hid (PlOn w p u L n) := hp
  have HQ : Hid (PlOn w q v L n) := hq
  have hnI : (n : Int) ≤ 8 := by omega
  clear hp hq
  have HB0 : Hid (Below w.heap.size w ((w.alloc (.cells #[.string g, .int .i64 kg, .slice p n cp] 112)).alloc (.cells #[.string h, .int .i64 kh, .slice q n cq] 112))) := ((Below.refl _ w).alloc (Nat.le_refl _) _).alloc (by simp) _
  go_enter Tryd.func77, Tryd.ntmps77
  go_wp2
  go_loopw [5, 6, 7, 11] (fun c _ _ i V => ∃ k : Nat, k ≤ n ∧ i = .int .i64 (k : Int) ∧ c = .int .i64 (tg u v L k : Nat) ∧ Below w.heap.size w V ∧ V.cell? ⟨w.heap.size + 1, 2, none⟩ = some (.slice q n cq)) (fun _ _ _ i _ => n - (intOf i).toNat)
  case atStart => exact ⟨0, Nat.zero_le _, rfl, rfl, HB0.out, by go_simp⟩
  case round =>
    obtain ⟨k, hk, rfl, rfl, hb, hc⟩ := hrel
    have HB : Hid (Below w.heap.size w wr) := hb
    clear hb
    by_cases hlt : k < n
    case neg =>
      have hkk : k = n := by omega
      subst hkk
      have hII : ¬ (k : Int) < k := by omega
      go_wp2
      go_ret
      exact ⟨rfl, HB.out⟩
    case pos =>
      have hkI : (k : Int) < n := by omega
      obtain ⟨b1, rfl, hl1, c1⟩ := (HP.out.below HB.out).at_ k hlt
      obtain ⟨b2, rfl, hl2, c2⟩ := (HQ.out.below HB.out).at_ k hlt
      have htl := tg_le u v L k
      have htI : ((tg u v L k : Nat) : Int) ≤ 8 := by omega
      obtain ⟨x, hx⟩ : ∃ x, x = u (L + k) := ⟨_, rfl⟩
      obtain ⟨y, hy⟩ : ∃ y, y = v (L + k) := ⟨_, rfl⟩
      rw [← hx] at c1
      rw [← hy] at c2
      have HX : Hid (x = u (L + k) ∧ y = v (L + k)) := ⟨hx, hy⟩
      have HT : Hid (tg u v L (k + 1) = if 0 ≤ x ∧ x = y then tg u v L k + 1 else tg u v L k) := by
        show _ = _
        by_cases hxy : 0 ≤ x ∧ x = y
        · rw [if_pos hxy]; exact tg_yes (by rw [← hx, ← hy]; exact hxy)
        · rw [if_neg hxy]; exact tg_no (by rw [← hx, ← hy]; exact hxy)
      clear hx hy hl1 hl2
      by_cases h0 : 0 ≤ x
      · have h0d : decide (0 ≤ x) = true := by simpa using h0
        by_cases hxy : x = y
        · have hE : (x == y) = true := by simpa using hxy
          have HT' : Hid (tg u v L (k + 1) = tg u v L k + 1) := by have := HT.out; rw [if_pos ⟨h0, hxy⟩] at this; exact this
          clear hxy
          go_wp2
          go_roundw
          case rel => exact ⟨k + 1, by omega, by go_num, by rw [HT'.out]; go_num, HB.out, hc⟩
          case measure => simp [intOf]; omega
        · have hE : (x == y) = false := by simpa using hxy
          have HT' : Hid (tg u v L (k + 1) = tg u v L k) := by have := HT.out; rw [if_neg (fun h => hxy h.2)] at this; exact this
          clear hxy
          go_wp2
          go_roundw
          case rel => exact ⟨k + 1, by omega, by go_num, by rw [HT'.out], HB.out, hc⟩
          case measure => simp [intOf]; omega
      · have h0d : decide (0 ≤ x) = false := by simpa using h0
        have HT' : Hid (tg u v L (k + 1) = tg u v L k) := by have := HT.out; rw [if_neg (fun h => h0 h.1)] at this; exact this
        go_wp2
        go_roundw
        case rel => exact ⟨k + 1, by omega, by go_num, by rw [HT'.out], HB.out, hc⟩
        case measure => simp [intOf]; omega
set_option maxHeartbeats 1000000 in
theorem cbeats_any (c1 c2 : Nat) (w1 w2 : Bool) (x1 x2 : ByteArray) (w : World) :
    Calls Tryd.prog 78 #[.agg #[.string x1, .int .i64 (c1 : Int), .bool w1], .agg #[.string x2, .int .i64 (c2 : Int), .bool w2]] w fun e w' => e = .returned (.bool (bt c1 w1 x1 c2 w2 x2)) ∧ Below w.heap.size w w' := by
  have HB0 : Hid (Below w.heap.size w ((w.alloc (.cells #[.string x1, .int .i64 (c1 : Int), .bool w1] 114)).alloc (.cells #[.string x2, .int .i64 (c2 : Int), .bool w2] 114))) := ((Below.refl _ w).alloc (Nat.le_refl _) _).alloc (by simp) _
  by_cases hc : c1 = c2
  · have hE : ((c1 : Int) != c2) = false := by simp; omega
    by_cases hw : w1 = w2
    · have hW : (!w1 == w2) = false := by simpa using hw
      have e : bt c1 w1 x1 c2 w2 x2 = Op.bytesLess x1.toList x2.toList := by unfold bt; rw [if_pos hc, if_pos hw]
      rw [e]
      clear hc hw e
      go_enter Tryd.func78, Tryd.ntmps78
      go_wp2
      go_ret
      exact ⟨rfl, HB0.out⟩
    · have hW : (!w1 == w2) = true := by simpa using hw
      have e : bt c1 w1 x1 c2 w2 x2 = w1 := by unfold bt; rw [if_pos hc, if_neg hw]
      rw [e]
      clear hc hw e
      go_enter Tryd.func78, Tryd.ntmps78
      go_wp2
      go_ret
      exact ⟨rfl, HB0.out⟩
  · have hE : ((c1 : Int) != c2) = true := by simp; omega
    have e : bt c1 w1 x1 c2 w2 x2 = decide (c2 < c1) := by unfold bt; rw [if_neg hc]
    rw [e]
    clear hc e
    go_enter Tryd.func78, Tryd.ntmps78
    go_wp2
    go_ret
    exact ⟨rfl, HB0.out⟩
end Go.Proofs.YtblkbogoelfjlaaDoor.InA
