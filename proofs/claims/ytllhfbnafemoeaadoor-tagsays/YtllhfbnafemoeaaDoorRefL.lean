/-
  What the document's own answer does to the world: TagRead.
-/
import Derived.Test.YtllhfbnafemoeaaDoorRefK
import Derived.Deep.OwnRows
namespace Go.Proofs.YtllhfbnafemoeaaDoor.TagA
open Go.RowKit TagM
set_option maxRecDepth 100000

/-- An array of four numbers. -/
structure ArrAt (V : World) (r : Nat) (z : Nat → Nat) : Prop where
  row : V.rowIs r 46 4 (fun j => .int .i64 (z j : Nat))
  bd : ∀ j, z j < 1000000000
theorem ArrAt.new (w : World) : ArrAt (w.alloc (.cells #[.int .i64 0, .int .i64 0, .int .i64 0, .int .i64 0] 46)) w.heap.size (fun _ => 0) := by
  refine ⟨World.rowIs_alloc w #[.int .i64 0, .int .i64 0, .int .i64 0, .int .i64 0] 46 _ ?_, fun _ => by decide⟩
  intro i hi
  match i, hi with
  | 0, _ | 1, _ | 2, _ | 3, _ => rfl
theorem ArrAt.put {V : World} {r : Nat} {z : Nat → Nat} (h : ArrAt V r z) (k n : Nat) (hn : n < 1000000000) : ArrAt (V.setCell ⟨r, k, none⟩ (.int .i64 (n : Nat))) r (fun j => if j = k then n else z j) := by
  refine ⟨(h.row.set k (.int .i64 (n : Nat))).congr ?_, ?_⟩
  · intro i _
    by_cases e : i = k
    · rw [if_pos e]; show _ = Value.int .i64 ((if i = k then n else z i : Nat) : Int); rw [if_pos e]
    · rw [if_neg e]; show _ = Value.int .i64 ((if i = k then n else z i : Nat) : Int); rw [if_neg e]
  · intro j
    show (if j = k then n else z j) < _
    split
    · exact hn
    · exact h.bd j

theorem fault_yes (K F P C R S : Int) (w : World) (hC : C ≤ 9223372036854775807) (hR : R ≤ 9223372036854775807) (hok : okB K F P C R S = true) :
    Calls Tryd.prog 10 #[.agg #[.int .i64 K, .int .i64 F, .int .i64 P, .int .i64 C, .int .i64 R, .int .i64 S]] w fun e w' => e = .returned (.int .i64 0) ∧ Below w.heap.size w w' := by
  have := fault_any K F P C R S w hC hR
  unfold faultV at this
  rw [if_pos hok] at this
  exact this
theorem fault_no (K F P C R S : Int) (w : World) (hC : C ≤ 9223372036854775807) (hR : R ≤ 9223372036854775807) (hok : okB K F P C R S = false) :
    Calls Tryd.prog 10 #[.agg #[.int .i64 K, .int .i64 F, .int .i64 P, .int .i64 C, .int .i64 R, .int .i64 S]] w fun e w' => e = .returned (.int .i64 1) ∧ Below w.heap.size w w' := by
  have := fault_any K F P C R S w hC hR
  unfold faultV at this
  rw [if_neg (by simp [hok])] at this
  exact this
/-- Kind and part with which these numbers have that text. -/
def Hit (s : ByteArray) (z0 z1 z2 z3 k p : Nat) : Prop := okB k z0 p z1 z2 z3 = true ∧ textI k z0 p z1 z2 z3 = s
theorem six {W : World} {a b c d e f : Value} {t : TypeId} {X : World} (hX : X = W.alloc (.cells #[a, b, c, d, e, f] t)) : Below W.heap.size W X ∧ W.heap.size < X.heap.size ∧ X.cell? ⟨W.heap.size, 0, none⟩ = some a ∧ X.cell? ⟨W.heap.size, 1, none⟩ = some b ∧ X.cell? ⟨W.heap.size, 2, none⟩ = some c ∧ X.cell? ⟨W.heap.size, 3, none⟩ = some d ∧ X.cell? ⟨W.heap.size, 4, none⟩ = some e ∧ X.cell? ⟨W.heap.size, 5, none⟩ = some f := by
  subst hX
  exact ⟨(Below.refl _ _).alloc (Nat.le_refl _) _, by simp, by go_simp, by go_simp, by go_simp, by go_simp, by go_simp, by go_simp⟩

set_option maxHeartbeats 4000000 in
theorem tagread_any (s : ByteArray) (w : World) (hs : s.size ≤ 200) :
    Calls Tryd.prog 19 #[.string s] w fun e w' => RdPost s e ∧ Below w.heap.size w w' := by
  obtain ⟨L1, hL1⟩ : ∃ L, L = cutG 58 [] [] s.data.toList := ⟨_, rfl⟩
  have HL1 : Hid (L1 = cutG 58 [] [] s.data.toList) := hL1
  clear hL1
  go_enter Tryd.func19, Tryd.ntmps19
  go_wp2_with fail
  refine (refcut_any s 58 _ hs).mono ?_
  rintro e w1 ⟨v1, rfl, hT1, hb1⟩
  have hz := zero6 hb1
  have HB : Hid (Below w.heap.size w w1) := (boxed6 hb1).2.1
  have s1 := (boxed6 hb1).1
  rw [← HL1.out] at hT1
  obtain ⟨g1, cap1, rfl, -, hg1, hc1⟩ := hT1.cells (by rw [HL1.out]; exact cutG_pos _ _ _ _)
  have HZ : Hid (∀ j : Nat, j < 6 → w1.cell? ⟨w.heap.size, j, none⟩ = some (.int .i64 0) ∧ w1.frozen? ⟨w.heap.size, j, none⟩ = false) := hz
  clear hT1 hb1 hz
  by_cases hl : L1.length = 2
  case neg =>
    have hlI : ¬ (L1.length : Int) = 2 := by omega
    have hlB : ((L1.length : Int) == 2) = false := by simpa using hlI
    obtain ⟨a0, b0⟩ := HZ.out 0 (by omega)
    obtain ⟨a1, b1⟩ := HZ.out 1 (by omega)
    obtain ⟨a2, b2⟩ := HZ.out 2 (by omega)
    obtain ⟨a3, b3⟩ := HZ.out 3 (by omega)
    obtain ⟨a4, b4⟩ := HZ.out 4 (by omega)
    obtain ⟨a5, b5⟩ := HZ.out 5 (by omega)
    have HNT : Hid (NoText s) := noText_cut (by rw [← HL1.out]; exact hl)
    clear hc1
    go_wp2
    refine bodyPost_ret (v := .tuple #[noTag, .bool false]) (by simp [results, Tryd.results19, go_sem, noTag, a0, a1, a2, a3, a4, a5]) rfl ⟨Or.inr ⟨HNT.out, rfl⟩, ?_⟩
    exact (((((HB.out.setCell (Nat.le_refl _) _).setCell (Nat.le_refl _) _).setCell (Nat.le_refl _) _).setCell (Nat.le_refl _) _).setCell (Nat.le_refl _) _).setCell (Nat.le_refl _) _
  obtain ⟨x, y, rfl⟩ := cutG_two hl
  have hy1 := hc1 1 y rfl
  have hylen : y.length ≤ 200 := by
    rcases cutG_len s.data.toList 58 [] [] y (by rw [← HL1.out]; simp) with h | h
    · simp at h
    · have : s.data.toList.length = s.size := by simp
      simp only [List.length_nil] at h; omega
  have hysz : (⟨y.toArray⟩ : ByteArray).size ≤ 200 := by show y.toArray.size ≤ 200; simpa using hylen
  obtain ⟨L2, hL2⟩ : ∃ L, L = cutG 46 [] [] y := ⟨_, rfl⟩
  have HL2 : Hid (L2 = cutG 46 [] [] y) := hL2
  clear hL2 hc1
  go_wp2_with fail
  refine (refcut_any ⟨y.toArray⟩ 46 _ hysz).mono ?_
  rintro e w2 ⟨v2, rfl, hT2, hb2⟩
  have hyy : (⟨y.toArray⟩ : ByteArray).data.toList = y := by simp
  rw [hyy, ← HL2.out] at hT2
  obtain ⟨g2, cap2, rfl, -, hg2, hc2⟩ := hT2.cells (by rw [HL2.out]; exact cutG_pos _ _ _ _)
  have HZ2 : Hid (∀ j : Nat, j < 6 → w2.cell? ⟨w.heap.size, j, none⟩ = some (.int .i64 0) ∧ w2.frozen? ⟨w.heap.size, j, none⟩ = false) := keep6 HZ.out hb2
  have HB2 : Hid (Below w.heap.size w w2) := HB.out.trans (hb2.mono (Nat.le_of_lt s1))
  have s2 : w.heap.size < w2.heap.size := Nat.lt_of_lt_of_le s1 hb2.size
  clear hT2 hb2 HB HZ hy1 hyy hg1
  by_cases hl2 : L2.length = 4
  case neg =>
    have hlI : ¬ (L2.length : Int) = 4 := by omega
    have hlB : ((L2.length : Int) == 4) = false := by simpa using hlI
    obtain ⟨a0, b0⟩ := HZ2.out 0 (by omega)
    obtain ⟨a1, b1⟩ := HZ2.out 1 (by omega)
    obtain ⟨a2, b2⟩ := HZ2.out 2 (by omega)
    obtain ⟨a3, b3⟩ := HZ2.out 3 (by omega)
    obtain ⟨a4, b4⟩ := HZ2.out 4 (by omega)
    obtain ⟨a5, b5⟩ := HZ2.out 5 (by omega)
    have HNT : Hid (NoText s) := noText_cut2 HL1.out.symm (by rw [← HL2.out]; exact hl2)
    clear hc2
    go_wp2
    refine bodyPost_ret (v := .tuple #[noTag, .bool false]) (by simp [results, Tryd.results19, go_sem, noTag, a0, a1, a2, a3, a4, a5]) rfl ⟨Or.inr ⟨HNT.out, rfl⟩, ?_⟩
    exact (((((HB2.out.setCell (Nat.le_refl _) _).setCell (Nat.le_refl _) _).setCell (Nat.le_refl _) _).setCell (Nat.le_refl _) _).setCell (Nat.le_refl _) _).setCell (Nat.le_refl _) _
  obtain ⟨a, b, c, d, rfl⟩ := cutG_four hl2
  have hmem : ∀ z ∈ [a, b, c, d], (⟨z.toArray⟩ : ByteArray).size ≤ 200 := by
    intro z hz
    rcases cutG_len y 46 [] [] z (by rw [← HL2.out]; exact hz) with h | h
    · simp at h
    · show z.toArray.size ≤ 200
      simp only [List.length_nil] at h
      simp; omega
  have HM : Hid (∀ z ∈ [a, b, c, d], (⟨z.toArray⟩ : ByteArray).size ≤ 200) := hmem
  have HC2 : Hid (∀ j x, [a, b, c, d][j]? = some x → w2.cell? ⟨g2, j, none⟩ = some (.string ⟨x.toArray⟩)) := hc2
  clear hmem hc2 hysz hylen hs
  go_wp2
  go_loopw [7, 8, 9] (fun i _ _ V => ∃ (k : Nat) (z : Nat → Nat), k ≤ 4 ∧ i = .int .i64 k ∧ ArrAt V w2.heap.size z ∧ (∀ j, j < k → ∀ x, [a, b, c, d][j]? = some x → figV ⟨x.toArray⟩ = .tuple #[.int .i64 (z j : Nat), .bool true]) ∧ Below w2.heap.size w2 V) (fun i _ _ _ => 4 - (intOf i).toNat)
  case atStart => exact ⟨0, fun _ => 0, by omega, rfl, ArrAt.new _, fun j hj => absurd hj (by omega), (Below.refl _ _).alloc (Nat.le_refl _) _⟩
  case round =>
    obtain ⟨k, z, hk, rfl, hz, hfig, hbl⟩ := hrel
    have HA : Hid (ArrAt wr w2.heap.size z) := hz
    have HF : Hid (∀ j, j < k → ∀ x, [a, b, c, d][j]? = some x → figV ⟨x.toArray⟩ = .tuple #[.int .i64 (z j : Nat), .bool true]) := hfig
    have HBL : Hid (Below w2.heap.size w2 wr) := hbl
    have HZ3 : Hid (∀ j : Nat, j < 6 → wr.cell? ⟨w.heap.size, j, none⟩ = some (.int .i64 0) ∧ wr.frozen? ⟨w.heap.size, j, none⟩ = false) := keep6 HZ2.out hbl
    have HB3 : Hid (Below w.heap.size w wr) := HB2.out.trans (hbl.mono (Nat.le_of_lt s2))
    have s3 : w2.heap.size < wr.heap.size := hz.row.lt
    clear hz hfig hbl
    by_cases hlt : k < 4
    case pos =>
      obtain ⟨x, hx⟩ : ∃ x, [a, b, c, d][k]? = some x := ⟨_, List.getElem?_eq_getElem (by simpa using hlt)⟩
      have hcell : wr.cell? ⟨g2, k, none⟩ = some (.string ⟨x.toArray⟩) := (HBL.out.cell (by exact hg2)).trans (HC2.out k x hx)
      have hxs : (⟨x.toArray⟩ : ByteArray).size ≤ 200 := HM.out x (List.mem_of_getElem? hx)
      have HX : Hid ([a, b, c, d][k]? = some x) := hx
      clear hx
      go_wp2_with fail
      refine (figures_any ⟨x.toArray⟩ _ hxs).mono ?_
      obtain ⟨n, bb, hn, hv⟩ := figV_any ⟨x.toArray⟩
      have HV : Hid (figV ⟨x.toArray⟩ = .tuple #[.int .i64 (n : Nat), .bool bb]) := hv
      rw [hv]
      clear hv
      rintro e w3 ⟨rfl, rfl⟩
      cases bb with
      | false =>
        obtain ⟨a0, b0⟩ := HZ3.out 0 (by omega)
        obtain ⟨a1, b1⟩ := HZ3.out 1 (by omega)
        obtain ⟨a2, b2⟩ := HZ3.out 2 (by omega)
        obtain ⟨a3, b3⟩ := HZ3.out 3 (by omega)
        obtain ⟨a4, b4⟩ := HZ3.out 4 (by omega)
        obtain ⟨a5, b5⟩ := HZ3.out 5 (by omega)
        have HNT : Hid (NoText s) := by
          show NoText s
          intro K F P C R S hok ht
          obtain ⟨f1, f2, f3, f4⟩ := noText_fig HL1.out.symm HL2.out.symm hok ht
          have hx := HX.out
          have hv := HV.out
          match k, hlt, hx with
          | 0, _, hx => simp at hx; subst hx; exact absurd (figV_inj f1 hv).2 (by decide)
          | 1, _, hx => simp at hx; subst hx; exact absurd (figV_inj f2 hv).2 (by decide)
          | 2, _, hx => simp at hx; subst hx; exact absurd (figV_inj f3 hv).2 (by decide)
          | 3, _, hx => simp at hx; subst hx; exact absurd (figV_inj f4 hv).2 (by decide)
        go_wp2
        try simp only [Exit.inBlock, Exit.then]
        refine bodyPost_ret (v := .tuple #[noTag, .bool false]) (by simp [results, Tryd.results19, go_sem, noTag, a0, a1, a2, a3, a4, a5]) rfl ⟨Or.inr ⟨HNT.out, rfl⟩, ?_⟩
        exact (((((HB3.out.setCell (Nat.le_refl _) _).setCell (Nat.le_refl _) _).setCell (Nat.le_refl _) _).setCell (Nat.le_refl _) _).setCell (Nat.le_refl _) _).setCell (Nat.le_refl _) _
      | true =>
        have hac := HA.out.row.cell hlt
        have haf := HA.out.row.frozen k
        go_wp2
        go_roundw
        case rel =>
          refine ⟨k + 1, _, by omega, by go_num, HA.out.put k n hn, ?_, HBL.out.setCell (Nat.le_refl _) _⟩
          intro j hj x' hx'
          by_cases e : j = k
          · subst e
            rw [HX.out] at hx'
            injection hx' with hx'
            subst hx'
            rw [if_pos rfl]; exact HV.out
          · rw [if_neg e]
            exact HF.out j (by omega) x' hx'
        case measure => simp [intOf]; omega
    case neg =>
      obtain rfl : k = 4 := by omega
      have q0 := HF.out 0 (by omega) a rfl
      have q1 := HF.out 1 (by omega) b rfl
      have q2 := HF.out 2 (by omega) c rfl
      have q3 := HF.out 3 (by omega) d rfl
      have HQ : Hid (∀ K F P C R S : Int, okB K F P C R S = true → textI K F P C R S = s → F = (z 0 : Nat) ∧ C = (z 1 : Nat) ∧ R = (z 2 : Nat) ∧ S = (z 3 : Nat)) := by
        show ∀ K F P C R S : Int, okB K F P C R S = true → textI K F P C R S = s → F = (z 0 : Nat) ∧ C = (z 1 : Nat) ∧ R = (z 2 : Nat) ∧ S = (z 3 : Nat)
        intro K F P C R S hok ht
        obtain ⟨f1, f2, f3, f4⟩ := noText_fig HL1.out.symm HL2.out.symm hok ht
        exact ⟨(figV_inj f1 q0).1, (figV_inj f2 q1).1, (figV_inj f3 q2).1, (figV_inj f4 q3).1⟩
      clear q0 q1 q2 q3
      have c0 := HA.out.row.cell (i := 0) (by omega)
      have c1 := HA.out.row.cell (i := 1) (by omega)
      have c2 := HA.out.row.cell (i := 2) (by omega)
      have c3 := HA.out.row.cell (i := 3) (by omega)
      have n0 := HA.out.bd 0
      have n1 := HA.out.bd 1
      have n2 := HA.out.bd 2
      have n3 := HA.out.bd 3
      generalize z 0 = z0 at *
      generalize z 1 = z1 at *
      generalize z 2 = z2 at *
      generalize z 3 = z3 at *
      clear HA HF HC2 HM
      have HBW : Hid (Below w2.heap.size w2 wr) := HBL.out
      clear HBL HZ2 HB2
      generalize wr = W at *
      have s4 : w.heap.size < W.heap.size := by omega
      rw [show ((4 : Nat) : Int) = 4 from rfl]
      go_wp2
      go_loopw [10, 11, 12] (fun K _ _ V => ∃ k : Nat, 1 ≤ k ∧ k ≤ 4 ∧ K = .int .i64 k ∧ Below W.heap.size W V ∧ ∀ k' p', 1 ≤ k' → k' < k → p' < 6 → ¬ Hit s z0 z1 z2 z3 k' p') (fun K _ _ _ => 4 - (intOf K).toNat)
      case atStart => exact ⟨1, by omega, by omega, rfl, Below.refl _ _, fun k' p' h1 h2 => absurd h2 (by omega)⟩
      case round =>
        obtain ⟨k, hk1, hk4, rfl, hbl, hno⟩ := hrel
        by_cases hlt : k < 4
        case neg =>
          obtain rfl : k = 4 := by omega
          have hz := keep6 HZ3.out hbl
          obtain ⟨a0, b0⟩ := hz 0 (by omega)
          obtain ⟨a1, b1⟩ := hz 1 (by omega)
          obtain ⟨a2, b2⟩ := hz 2 (by omega)
          obtain ⟨a3, b3⟩ := hz 3 (by omega)
          obtain ⟨a4, b4⟩ := hz 4 (by omega)
          obtain ⟨a5, b5⟩ := hz 5 (by omega)
          have HB4 : Hid (Below w.heap.size w wr) := HB3.out.trans (hbl.mono (Nat.le_of_lt s4))
          have HNT : Hid (NoText s) := by
            show NoText s
            intro K F P C R S hok ht
            obtain ⟨rfl, rfl, rfl, rfl⟩ := HQ.out K F P C R S hok ht
            obtain ⟨j, f, p, c', r, s', rfl, hf, rfl, hc', hr, hs'⟩ := ok_nat hok
            obtain ⟨o1, o2, o3, o4, -⟩ := okN hok
            exact hno (j + 1) p o1 (by omega) (by omega) ⟨hok, ht⟩
          clear hz hbl hno
          go_wp2
          try simp only [Exit.inBlock, Exit.then]
          refine bodyPost_ret (v := .tuple #[noTag, .bool false]) (by simp [results, Tryd.results19, go_sem, noTag, a0, a1, a2, a3, a4, a5]) rfl ⟨Or.inr ⟨HNT.out, rfl⟩, ?_⟩
          exact (((((HB4.out.setCell (Nat.le_refl _) _).setCell (Nat.le_refl _) _).setCell (Nat.le_refl _) _).setCell (Nat.le_refl _) _).setCell (Nat.le_refl _) _).setCell (Nat.le_refl _) _
        case pos =>
          have HNO : Hid (∀ k' p', 1 ≤ k' → k' < k → p' < 6 → ¬ Hit s z0 z1 z2 z3 k' p') := hno
          have HBO : Hid (Below W.heap.size W wr) := hbl
          clear hno hbl
          generalize wr = Wo at *
          have hk3 : decide ((k : Int) ≤ 3) = true := by simp; omega
          go_wp2
          go_loopw [11, 12] (fun P _ V => ∃ p : Nat, p ≤ 6 ∧ P = .int .i64 p ∧ Below W.heap.size W V ∧ ∀ p', p' < p → ¬ Hit s z0 z1 z2 z3 k p') (fun P _ _ => 6 - (intOf P).toNat)
          case atStart => exact ⟨0, by omega, rfl, HBO.out, fun p' h => absurd h (by omega)⟩
          case round =>
            obtain ⟨p, hp6, rfl, hbl, hnp⟩ := hrel
            have HNP : Hid (∀ p', p' < p → ¬ Hit s z0 z1 z2 z3 k p') := hnp
            have HBL : Hid (Below W.heap.size W wr) := hbl
            have k0 := keepCell hbl c0
            have k1 := keepCell hbl c1
            have k2 := keepCell hbl c2
            have k3 := keepCell hbl c3
            clear hnp hbl
            by_cases hltp : p < 6
            case neg =>
              obtain rfl : p = 6 := by omega
              go_wp2
              go_roundw
              case rel =>
                refine ⟨k + 1, by omega, by omega, by go_num, HBL.out, ?_⟩
                intro k' p' h1 h2 h3
                by_cases e : k' = k
                · subst e; exact HNP.out p' h3
                · exact HNO.out k' p' h1 (by omega) h3
              case measure => simp [intOf]; omega
            case pos =>
              have hX := six (W := wr) (a := .int .i64 (k : Nat)) (b := .int .i64 (z0 : Nat)) (c := .int .i64 (p : Nat)) (d := .int .i64 (z1 : Nat)) (e := .int .i64 (z2 : Nat)) (f := .int .i64 (z3 : Nat)) (t := 32) rfl
              go_upto_region 22 with fail
              clear k0 k1 k2 k3
              generalize hXe : wr.alloc (.cells #[.int .i64 (k : Nat), .int .i64 (z0 : Nat), .int .i64 (p : Nat), .int .i64 (z1 : Nat), .int .i64 (z2 : Nat), .int .i64 (z3 : Nat)] 32) = X at *
              obtain ⟨hBX, hsX, e0, e1, e2, e3, e4, e5⟩ := hX
              have HBX : Hid (Below W.heap.size W X) := HBL.out.trans (hBX.mono HBL.out.size)
              clear hBX hXe
              have y1 : (z1 : Int) ≤ 9223372036854775807 := by omega
              have y2 : (z2 : Int) ≤ 9223372036854775807 := by omega
              by_cases hok : okB k z0 p z1 z2 z3 = true
              case neg =>
                have HNH : Hid (¬ Hit s z0 z1 z2 z3 k p) := fun h => hok h.1
                have HOK : Hid (okB k z0 p z1 z2 z3 = false) := by show _ = _; simpa using hok
                clear hok
                go_wp2_with fail
                refine (fault_no k z0 p z1 z2 z3 _ y1 y2 HOK.out).mono ?_
                rintro e Y ⟨rfl, hBY⟩
                have HBY : Hid (Below W.heap.size W Y) := HBX.out.trans (hBY.mono HBX.out.size)
                clear hBY e0 e1 e2 e3 e4 e5
                go_wp2
                go_roundw
                case rel =>
                  refine ⟨p + 1, by omega, by go_num, HBY.out, ?_⟩
                  intro p' h
                  by_cases e : p' = p
                  · subst e; exact HNH.out
                  · exact HNP.out p' (by omega)
                case measure => simp [intOf]; omega
              case pos =>
                have HOK : Hid (okB k z0 p z1 z2 z3 = true) := hok
                clear hok
                by_cases hte : textI k z0 p z1 z2 z3 = s
                case neg =>
                  have HNH : Hid (¬ Hit s z0 z1 z2 z3 k p) := fun h => hte h.2
                  have hse : ((textI k z0 p z1 z2 z3).toList == s.toList) = false := sbeq_false hte
                  clear hte
                  go_wp2_with fail
                  refine (fault_yes k z0 p z1 z2 z3 _ y1 y2 HOK.out).mono ?_
                  rintro e Y0 ⟨rfl, hBY⟩
                  have f0 := keepCell hBY e0
                  have f1 := keepCell hBY e1
                  have f2 := keepCell hBY e2
                  have f3 := keepCell hBY e3
                  have f4 := keepCell hBY e4
                  have f5 := keepCell hBY e5
                  have HBZ : Hid (Below W.heap.size W Y0) := HBX.out.trans (hBY.mono HBX.out.size)
                  clear hBY e0 e1 e2 e3 e4 e5
                  go_wp2_with fail
                  refine (reftext_any k z0 p z1 z2 z3 _ HOK.out).mono ?_
                  rintro e Y ⟨rfl, hBY⟩
                  have e0 := keepCell hBY f0
                  have e1 := keepCell hBY f1
                  have e2 := keepCell hBY f2
                  have e3 := keepCell hBY f3
                  have e4 := keepCell hBY f4
                  have e5 := keepCell hBY f5
                  have HBY : Hid (Below W.heap.size W Y) := HBZ.out.trans (hBY.mono HBZ.out.size)
                  clear hBY f0 f1 f2 f3 f4 f5
                  clear e0 e1 e2 e3 e4 e5
                  go_wp2
                  go_roundw
                  case rel =>
                    refine ⟨p + 1, by omega, by go_num, HBY.out, ?_⟩
                    intro p' h
                    by_cases e : p' = p
                    · subst e; exact HNH.out
                    · exact HNP.out p' (by omega)
                  case measure => simp [intOf]; omega
                case pos =>
                  have HTE : Hid (textI k z0 p z1 z2 z3 = s) := hte
                  have hse : ((textI k z0 p z1 z2 z3).toList == s.toList) = true := sbeq_true hte
                  clear hte
                  go_wp2_with fail
                  refine (fault_yes k z0 p z1 z2 z3 _ y1 y2 HOK.out).mono ?_
                  rintro e Y0 ⟨rfl, hBY⟩
                  have f0 := keepCell hBY e0
                  have f1 := keepCell hBY e1
                  have f2 := keepCell hBY e2
                  have f3 := keepCell hBY e3
                  have f4 := keepCell hBY e4
                  have f5 := keepCell hBY e5
                  have HBZ : Hid (Below W.heap.size W Y0) := HBX.out.trans (hBY.mono HBX.out.size)
                  clear hBY e0 e1 e2 e3 e4 e5
                  go_wp2_with fail
                  refine (reftext_any k z0 p z1 z2 z3 _ HOK.out).mono ?_
                  rintro e Y ⟨rfl, hBY⟩
                  have e0 := keepCell hBY f0
                  have e1 := keepCell hBY f1
                  have e2 := keepCell hBY f2
                  have e3 := keepCell hBY f3
                  have e4 := keepCell hBY f4
                  have e5 := keepCell hBY f5
                  have HBY : Hid (Below W.heap.size W Y) := HBZ.out.trans (hBY.mono HBZ.out.size)
                  clear hBY f0 f1 f2 f3 f4 f5
                  have hz := keep6 HZ3.out HBY.out
                  obtain ⟨a0, b0⟩ := hz 0 (by omega)
                  obtain ⟨a1, b1⟩ := hz 1 (by omega)
                  obtain ⟨a2, b2⟩ := hz 2 (by omega)
                  obtain ⟨a3, b3⟩ := hz 3 (by omega)
                  obtain ⟨a4, b4⟩ := hz 4 (by omega)
                  obtain ⟨a5, b5⟩ := hz 5 (by omega)
                  have HB5 : Hid (Below w.heap.size w Y) := HB3.out.trans (HBY.out.mono (Nat.le_of_lt s4))
                  clear hz
                  go_wp2
                  try simp only [Exit.inBlock, Exit.then]
                  refine bodyPost_ret (v := .tuple #[.agg #[.int .i64 (k : Nat), .int .i64 (z0 : Nat), .int .i64 (p : Nat), .int .i64 (z1 : Nat), .int .i64 (z2 : Nat), .int .i64 (z3 : Nat)], .bool true]) (by simp [results, Tryd.results19, go_sem, a0, a1, a2, a3, a4, a5]) rfl ⟨Or.inl ⟨_, _, _, _, _, _, HOK.out, HTE.out, rfl⟩, ?_⟩
                  exact (((((HB5.out.setCell (Nat.le_refl _) _).setCell (Nat.le_refl _) _).setCell (Nat.le_refl _) _).setCell (Nat.le_refl _) _).setCell (Nat.le_refl _) _).setCell (Nat.le_refl _) _
end Go.Proofs.YtllhfbnafemoeaaDoor.TagA
