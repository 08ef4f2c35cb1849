/-
  What the document's own answer does to the world: TagBytes.
-/
import Derived.Test.YtblkbogoelfjlaaDoorRefG
namespace Go.Proofs.YtblkbogoelfjlaaDoor.TagA
open Go.RowKit TagM
set_option maxRecDepth 100000

/-- A list of the last L bits of a number X. -/
structure BitsAt (V : World) (base : Nat) (v : Value) (X L : Nat) : Prop where
  own : V.ownsRow base 4 1 v L ((bitsL X L).map Value.bool)
theorem bits_at (v : Value) (X L N m base : Nat) (NI mI : Int) (w : World) (hNI : Hid (NI = N)) (hmI : Hid (mI = m)) (hown : BitsAt w base v X L) (hb : base ≤ w.heap.size) (hL : L ≤ 64) (hm : m ≤ 24) (hN : N < 2 ^ m) :
    Calls Tryd.prog 46 #[v, .int .i64 NI, .int .i64 mI] w fun e w' => ∃ v', e = .returned v' ∧ BitsAt w' base v' (pk X m N) (L + m) ∧ Below base w w' := by
  rw [hNI.out, hmI.out]
  refine (bits_any v X L N m base w hown.own hb hL hm hN).mono ?_
  rintro e w' ⟨v', h1, h2, h3⟩
  exact ⟨v', h1, ⟨h2⟩, h3⟩

theorem rbW {w w1 : World} {K F P C R S : Int} {k : Nat} (hb1 : Below (w.alloc (.cells #[.int .i64 K, .int .i64 F, .int .i64 P, .int .i64 C, .int .i64 R, .int .i64 S] 32)).heap.size (w.alloc (.cells #[.int .i64 K, .int .i64 F, .int .i64 P, .int .i64 C, .int .i64 R, .int .i64 S] 32)) w1) {W : World}
    (hW : W = w1.alloc (.cells #[.int .i64 (cbits k), .int .i64 (cdig k), .int .i64 (rbits k), .int .i64 (rdig k)] 75)) :
    Below w.heap.size w W ∧ w.heap.size < W.heap.size ∧ w1.heap.size < W.heap.size ∧ W.cell? ⟨w.heap.size, 0, none⟩ = some (.int .i64 K) ∧ W.cell? ⟨w.heap.size, 1, none⟩ = some (.int .i64 F) ∧ W.cell? ⟨w.heap.size, 2, none⟩ = some (.int .i64 P) ∧ W.cell? ⟨w.heap.size, 3, none⟩ = some (.int .i64 C) ∧ W.cell? ⟨w.heap.size, 4, none⟩ = some (.int .i64 R) ∧ W.cell? ⟨w.heap.size, 5, none⟩ = some (.int .i64 S) ∧ W.cell? ⟨w1.heap.size, 0, none⟩ = some (.int .i64 (cbits k)) ∧ W.cell? ⟨w1.heap.size, 2, none⟩ = some (.int .i64 (rbits k)) := by
  subst hW
  obtain ⟨s1, hb2, d0, d1, d2, d3, d4, d5⟩ := boxed6 hb1
  have hB := (Below.refl w1.heap.size w1).alloc (Nat.le_refl _) (.cells #[.int .i64 (cbits k), .int .i64 (cdig k), .int .i64 (rbits k), .int .i64 (rdig k)] 75)
  exact ⟨hb2.trans (hB.mono (Nat.le_of_lt s1)), by simp; omega, by simp, keepCell hB d0, keepCell hB d1, keepCell hB d2, keepCell hB d3, keepCell hB d4, keepCell hB d5, by go_simp, by go_simp⟩
/-- A bit of the list. -/
theorem BitsAt.cells {V : World} {base : Nat} {v : Value} {X : Nat} (h : BitsAt V base v X 64) : ∃ g cap, v = .slice (some ⟨g, 0, none⟩) 64 cap ∧ base ≤ g ∧ g < V.heap.size ∧ ∀ j, j < 64 → V.cell? ⟨g, j, none⟩ = some (.bool (decide (X / 2 ^ (63 - j) % 2 = 1))) := by
  obtain ⟨g, cap, rfl, h1, h2⟩ := h.own.form (by omega)
  refine ⟨g, cap, rfl, h1, h2, fun j hj => ?_⟩
  have := h.own.cells (g := g) rfl j (.bool (decide (X / 2 ^ (63 - j) % 2 = 1))) (by rw [List.getElem?_map, bitsL_at 64 X j hj]; rfl)
  have e : (⟨g, 0, none⟩ : Addr).add j = ⟨g, j, none⟩ := by unfold Addr.add; split <;> simp_all
  rw [← e]; exact this
/-- A list of the first t bytes of a number X. -/
structure BytesAt (V : World) (base : Nat) (v : Value) (X t : Nat) : Prop where
  own : V.ownsRow base 5 1 v t ((List.range t).map fun i => .int .u8 ((byt X i : Nat) : Int))
theorem BytesAt.nil (V : World) (base X : Nat) : BytesAt V base (.slice none 0 0) X 0 := ⟨World.ownsRow_nil _ _ _ _⟩
theorem BytesAt.cell {V : World} {base g cap : Nat} {X : Nat} (h : BytesAt V base (.slice (some ⟨g, 0, none⟩) 8 cap) X 8) (j : Nat) (hj : j < 8) : V.cell? ⟨g, j, none⟩ = some (.int .u8 ((bytNums X).getD j 0)) := by
  have := h.own.cells (g := g) rfl j (.int .u8 ((byt X j : Nat) : Int)) (by rw [List.getElem?_map, List.getElem?_range hj]; rfl)
  have e : (⟨g, 0, none⟩ : Addr).add j = ⟨g, j, none⟩ := by unfold Addr.add; split <;> simp_all
  rw [← e, this]
  match j, hj with
  | 0, _ | 1, _ | 2, _ | 3, _ | 4, _ | 5, _ | 6, _ | 7, _ => rfl
theorem info5 : (Tryd.prog.info? 5).map (fun i => (i.zero, i.size, i.bytes)) = some (some (.int .u8 0), 1, 1) := by kernel_rfl
theorem byt_fld (X t : Nat) (h : t < 8) : fld X (64 - 8 * t - 8) 8 = byt X t := by
  unfold fld byt
  rw [show 64 - 8 * t - 8 = 56 - 8 * t by omega]
theorem fld_bit (X p k : Nat) (hp : k + 1 ≤ p) : fld X (p - (k + 1)) (k + 1) = 2 * fld X (p - k) k + X / 2 ^ (p - (k + 1)) % 2 := by
  rw [fld_succ, show p - (k + 1) + 1 = p - k by omega]

set_option maxHeartbeats 4000000 in
theorem refbytes_any (K F k C R S : Nat) (w : World) (hok : okB K F k C R S = true) :
    Calls Tryd.prog 16 #[.agg #[.int .i64 K, .int .i64 F, .int .i64 k, .int .i64 C, .int .i64 R, .int .i64 S]] w fun e w' => e = .returned (.string (be8 (num K F k C R S))) ∧ Below w.heap.size w w' := by
  obtain ⟨o1, o2, o3, o4, o5, o6, o7⟩ := okN hok
  have HC : Hid (C < 2 ^ cbits k) := Nat.lt_of_lt_of_le o6 (cpow o4)
  have HR : Hid (R < 2 ^ rbits k) := Nat.lt_of_lt_of_le o7 (rpow o4)
  have hcb := cbits_le k
  have hrb := rbits_le k
  have HS : Hid _ := bits_sum k
  have hKI : (K : Int) ≤ 3 := by omega
  have hk6 : k < 6 := by omega
  obtain ⟨X, hX⟩ : ∃ X, X = num K F k C R S := ⟨_, rfl⟩
  have HX : Hid (X = num K F k C R S) := hX
  rw [← hX]
  clear hok o6 o7 hX
  obtain ⟨i0, hi, hz0, hz1, hz2⟩ := info_parts info5
  go_enter Tryd.func16, Tryd.ntmps16
  go_wp2_with fail
  refine (parts_ok k _ hk6).mono ?_
  rintro e w1 ⟨rfl, hb1⟩
  have hF := rbW (k := k) hb1 rfl
  obtain ⟨s1, hb2, d0, d1, d2, d3, d4, d5⟩ := boxed6 hb1
  clear hb1 hb2
  go_upto_region 2 with fail
  clear d0 d1 d2 d3 d4 d5
  generalize w1.alloc (.cells #[.int .i64 (cbits k), .int .i64 (cdig k), .int .i64 (rbits k), .int .i64 (rdig k)] 75) = W at *
  obtain ⟨hBW, z1, z2, c0, c1, c2, c3, c4, c5, p0, p2⟩ := hF
  have HB : Hid (Below w.heap.size w W) := hBW
  clear hBW
  go_wp2_with fail
  refine (bits_at _ 0 0 (K + 47) 8 W.heap.size _ _ _ (by show _ = _; omega) rfl ⟨World.ownsRow_nil _ _ _ _⟩ (Nat.le_refl _) (by omega) (by omega) (by omega)).mono ?_
  rintro e V1 ⟨v1, rfl, hO, hV⟩
  have HO1 : Hid (BitsAt V1 W.heap.size v1 _ _) := hO
  have HV1 : Hid (Below W.heap.size W V1) := hV
  have c11 := keepCell HV1.out c1
  have c21 := keepCell HV1.out c2
  have c31 := keepCell HV1.out c3
  have c41 := keepCell HV1.out c4
  have c51 := keepCell HV1.out c5
  have p01 := keepCell HV1.out p0
  have p21 := keepCell HV1.out p2
  clear c0 hO hV
  go_wp2_with fail
  refine (bits_at _ (pk 0 8 (K + 47)) (0 + 8) F 3 W.heap.size _ _ _ rfl rfl HO1.out HV1.out.size (by omega) (by omega) (by omega)).mono ?_
  rintro e V2 ⟨v2, rfl, hO, hV⟩
  have HO2 : Hid (BitsAt V2 W.heap.size v2 _ _) := hO
  have HV2 : Hid (Below W.heap.size W V2) := HV1.out.trans hV
  have c12 := keepCell HV2.out c1
  have c22 := keepCell HV2.out c2
  have c32 := keepCell HV2.out c3
  have c42 := keepCell HV2.out c4
  have c52 := keepCell HV2.out c5
  have p02 := keepCell HV2.out p0
  have p22 := keepCell HV2.out p2
  clear c11 c21 c31 c41 c51 p01 p21 hO hV
  go_wp2_with fail
  refine (bits_at _ (pk (pk 0 8 (K + 47)) 3 F) (0 + 8 + 3) k 3 W.heap.size _ _ _ rfl rfl HO2.out HV2.out.size (by omega) (by omega) (by omega)).mono ?_
  rintro e V3 ⟨v3, rfl, hO, hV⟩
  have HO3 : Hid (BitsAt V3 W.heap.size v3 _ _) := hO
  have HV3 : Hid (Below W.heap.size W V3) := HV2.out.trans hV
  have c13 := keepCell HV3.out c1
  have c23 := keepCell HV3.out c2
  have c33 := keepCell HV3.out c3
  have c43 := keepCell HV3.out c4
  have c53 := keepCell HV3.out c5
  have p03 := keepCell HV3.out p0
  have p23 := keepCell HV3.out p2
  clear c12 c22 c32 c42 c52 p02 p22 hO hV
  go_wp2_with fail
  refine (bits_at _ (n3 K F k) (0 + 8 + 3 + 3) C (cbits k) W.heap.size _ _ _ rfl rfl HO3.out HV3.out.size (by omega) (by omega) HC.out).mono ?_
  rintro e V4 ⟨v4, rfl, hO, hV⟩
  have HO4 : Hid (BitsAt V4 W.heap.size v4 _ _) := hO
  have HV4 : Hid (Below W.heap.size W V4) := HV3.out.trans hV
  have c14 := keepCell HV4.out c1
  have c24 := keepCell HV4.out c2
  have c34 := keepCell HV4.out c3
  have c44 := keepCell HV4.out c4
  have c54 := keepCell HV4.out c5
  have p04 := keepCell HV4.out p0
  have p24 := keepCell HV4.out p2
  clear c13 c23 c33 c43 c53 p03 p23 hO hV
  go_wp2_with fail
  refine (bits_at _ (pk (n3 K F k) (cbits k) C) (0 + 8 + 3 + 3 + cbits k) R (rbits k) W.heap.size _ _ _ rfl rfl HO4.out HV4.out.size (by omega) (by omega) HR.out).mono ?_
  rintro e V5 ⟨v5, rfl, hO, hV⟩
  have HO5 : Hid (BitsAt V5 W.heap.size v5 _ _) := hO
  have HV5 : Hid (Below W.heap.size W V5) := HV4.out.trans hV
  have c15 := keepCell HV5.out c1
  have c25 := keepCell HV5.out c2
  have c35 := keepCell HV5.out c3
  have c45 := keepCell HV5.out c4
  have c55 := keepCell HV5.out c5
  have p05 := keepCell HV5.out p0
  have p25 := keepCell HV5.out p2
  clear c14 c24 c34 c44 c54 p04 p24 hO hV
  go_wp2_with fail
  refine (bits_at _ (pk (pk (n3 K F k) (cbits k) C) (rbits k) R) (0 + 8 + 3 + 3 + cbits k + rbits k) S 24 W.heap.size _ _ _ rfl rfl HO5.out HV5.out.size (by omega) (by omega) (by omega)).mono ?_
  rintro e V6 ⟨v6, rfl, hO, hV⟩
  have HO6 : Hid (BitsAt V6 W.heap.size v6 _ _) := hO
  have HV6 : Hid (Below W.heap.size W V6) := HV5.out.trans hV
  clear c15 c25 c35 c45 c55 p05 p25 hO hV
  have hBits : BitsAt V6 W.heap.size v6 X 64 := by
    have h := HO6.out
    rw [show 0 + 8 + 3 + 3 + cbits k + rbits k + 24 = 64 by have := HS.out; omega] at h
    rw [HX.out]
    exact h
  obtain ⟨g, cap, rfl, hg1, hg2, hg3⟩ := hBits.cells
  have HG : Hid (∀ j, j < 64 → V6.cell? ⟨g, j, none⟩ = some (.bool (decide (X / 2 ^ (63 - j) % 2 = 1)))) := hg3
  clear hg3 hBits HO1 HO2 HO3 HO4 HO5 HO6 HV1 HV2 HV3 HV4 HV5 HC HR HS
  have hsz6 := HV6.out.size
  go_wp2
  go_loopw [6, 7, 8, 9] (fun b i _ _ V => ∃ t : Nat, t ≤ 8 ∧ i = .int .i64 t ∧ BytesAt V V6.heap.size b X t ∧ Below V6.heap.size V6 V) (fun _ i _ _ _ => 8 - (intOf i).toNat)
  case atStart => exact ⟨0, Nat.zero_le _, rfl, BytesAt.nil _ _ _, Below.refl _ _⟩
  case round =>
    obtain ⟨t, ht, rfl, hbs, hbl⟩ := hrel
    by_cases hlt : t < 8
    · go_wp2
      go_loop [8, 9] (fun x i => ∃ s : Nat, s ≤ 8 ∧ i = .int .i64 s ∧ x = .int .i64 ((fld X (64 - 8 * t - s) s : Nat) : Int)) (fun _ i => 8 - (intOf i).toNat)
      case atStart => exact ⟨0, Nat.zero_le _, rfl, by rw [fld_zero]; rfl⟩
      case round =>
        obtain ⟨s, hs, rfl, rfl⟩ := hrel
        have HBS : Hid (BytesAt wr V6.heap.size u6 X t) := hbs
        have HBL : Hid (Below V6.heap.size V6 wr) := hbl
        clear hbs hbl
        by_cases hls : s < 8
        · have hfs := fld_bit X (64 - 8 * t) s (by omega)
          have hfl : fld X (64 - 8 * t - s) s < 256 := Nat.lt_of_lt_of_le (fld_lt _ _ _) (Nat.pow_le_pow_right (by omega) (show s ≤ 8 by omega))
          generalize hY : fld X (64 - 8 * t - s) s = Y at *
          have hcell : wr.cell? ⟨g, 8 * t + s, none⟩ = some (.bool (decide (X / 2 ^ (63 - (8 * t + s)) % 2 = 1))) := (HBL.out.cell (by exact hg2)).trans (HG.out (8 * t + s) (by omega))
          rw [show 64 - 8 * t - (s + 1) = 63 - (8 * t + s) by omega] at hfs
          have HFS : Hid _ := hfs
          have HY : Hid _ := hY
          clear hfs hY
          by_cases hbit : X / 2 ^ (63 - (8 * t + s)) % 2 = 1
          · rw [decide_eq_true hbit] at hcell
            have HBIT : Hid _ := hbit
            clear hbit
            go_wp2
            go_round
            case rel =>
              refine ⟨s + 1, by omega, by go_num, ?_⟩
              rw [show 64 - 8 * t - (s + 1) = 63 - (8 * t + s) by omega, HFS.out, HBIT.out]
              go_num
            case measure => simp [intOf]; omega
          · rw [decide_eq_false hbit] at hcell
            have HBIT : Hid (X / 2 ^ (63 - (8 * t + s)) % 2 = 0) := by show _ = _; omega
            clear hbit
            go_wp2
            go_round
            case rel =>
              refine ⟨s + 1, by omega, by go_num, ?_⟩
              rw [show 64 - 8 * t - (s + 1) = 63 - (8 * t + s) by omega, HFS.out, HBIT.out]
              go_num
            case measure => simp [intOf]; omega
        · obtain rfl : s = 8 := by omega
          rw [byt_fld X t hlt]
          have hbyt : byt X t < 256 := Nat.mod_lt _ (by omega)
          have ewr : IntKind.u8.wrap ((byt X t : Nat) : Int) = ((byt X t : Nat) : Int) := by
            rw [IntKind.wrap_u8']; omega
          generalize hZ : byt X t = Z at *
          have HZ : Hid _ := hZ
          clear hZ
          have hown := HBS.out.own
          go_wp2_with (at_builtin; refine wpList_append_own _ rfl _ _ 91 rfl V6.heap.size 5 i0 (.int .u8 0) 1 1 Tryd.underlying91 hi hz0 hz1 hz2 rfl (by decide) _ _ _ rfl (hown.alloc _) ⟨wr.heap.size, 0, none⟩ 1 1 [.int .u8 (Z : Int)] rfl rfl ?q1 ?q2 ?q3 ?q4 ?q5 ?_)
          case q2 => first | rfl | (intro u hu; simp at hu; subst hu; rfl)
          case q3 => unfold maxLen; omega
          case q4 => omega
          case q5 => have := HBL.out.size; simp; omega
          · intro v' w3 hown' hgrow _
            have hR : BytesAt w3 V6.heap.size v' X (t + 1) := by
              refine ⟨?_⟩
              rw [List.range_succ, List.map_append]
              rw [← HZ.out] at hown'
              exact hown'
            have hB' : Below V6.heap.size V6 w3 := (HBL.out.alloc HBL.out.size _).grown hgrow (by have := HBL.out.size; simp; omega) (fun k hk => (hown.lt k hk).1)
            have HR' : Hid (BytesAt w3 V6.heap.size v' X (t + 1)) := hR
            have HB' : Hid (Below V6.heap.size V6 w3) := hB'
            clear hown' hgrow hown hR hB'
            go_wp2
            go_roundw
            case rel => exact ⟨t + 1, by omega, by go_num, HR'.out, HB'.out⟩
            case measure => simp [intOf]; omega
    · obtain rfl : t = 8 := by omega
      obtain ⟨g8, cap8, rfl, -, -⟩ := hbs.own.form (by omega)
      have hcv := run_convert_bytes_arg (P := Tryd.prog) wr 91 5 Tryd.underlying91 Tryd.underlying5 g8 0 8 cap8 (bytNums X) rfl (fun i hi => by
        rw [Nat.zero_add]
        exact hbs.cell i hi) 9 Tryd.underlying9
      have HCV : strOfNums (bytNums X) = be8 X := rfl
      rw [HCV] at hcv
      clear HCV
      have HBL : Hid (Below V6.heap.size V6 wr) := hbl
      clear hbs hbl
      go_wp2
      go_ret
      exact ⟨rfl, (HB.out.trans (HV6.out.mono (Nat.le_of_lt z1))).trans (HBL.out.mono (by have := HV6.out.size; omega))⟩
end Go.Proofs.YtblkbogoelfjlaaDoor.TagA
