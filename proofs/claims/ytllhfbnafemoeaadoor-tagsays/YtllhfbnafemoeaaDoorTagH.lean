/-
  What Text does to the world.
-/
import Derived.Test.YtllhfbnafemoeaaDoorTagG
import Derived.Deep.DeepCutAuto
import Derived.Deep.RegionHeld3
import Derived.Deep.DrawnRows
namespace Go.Proofs.YtllhfbnafemoeaaDoor.TagA
open Go.RowKit TagM
set_option maxRecDepth 100000
attribute [local go_sem ↓] Go.wp_at_zero Go.wp_at_succ

theorem keepCell {w w' : World} {a : Addr} {v : Value} (hb : Below w.heap.size w w') (h : w.cell? a = some v) : w'.cell? a = some v := by
  rw [hb.cell (World.block_lt_of_cell? w a h)]; exact h
theorem keepTabs {w w' : World} (h : Tabs2 w) (hb : Below w.heap.size w w') : Tabs2 w' := h.below hb h.size
theorem keepBelow {W w w' : World} (h : Below W.heap.size W w) (hb : Below w.heap.size w w') : Below W.heap.size W w' := h.trans (hb.mono h.size)
theorem drewCell {w : World} {a : Addr} {v : Value} (h : w.cell? a = some v) : w.drew.cell? a = some v := h
theorem drewTabs {w : World} (h : Tabs2 w) : Tabs2 w.drew := h.below (Below.refl w.heap.size w).drew h.size
theorem drewBelow {W w : World} (h : Below W.heap.size W w) : Below W.heap.size W w.drew := h.drew
theorem allocCell {w : World} {a : Addr} {v : Value} (o : Obj) (h : w.cell? a = some v) : (w.alloc o).cell? a = some v := keepCell ((Below.refl _ _).alloc (Nat.le_refl _) o) h
theorem allocTabs {w : World} (o : Obj) (h : Tabs2 w) : Tabs2 (w.alloc o) := keepTabs h ((Below.refl _ _).alloc (Nat.le_refl _) o)
theorem allocBelow {W w : World} (o : Obj) (h : Below W.heap.size W w) : Below W.heap.size W (w.alloc o) := keepBelow h ((Below.refl _ _).alloc (Nat.le_refl _) o)
theorem dec_len {n d : Nat} (h : n < 10 ^ d) (hd : 1 ≤ d) : (dec n).length ≤ d := by
  unfold dec
  rw [Lib.decDigits_length]
  induction d generalizing n with
  | zero => omega
  | succ d ih =>
    by_cases hn : n < 10
    · rw [Lib.nDigits_small hn]; omega
    · rw [Lib.nDigits_big hn]
      have h2 : n / 10 < 10 ^ d := by rw [Nat.pow_succ] at h; omega
      have hd1 : 1 ≤ d := by
        cases d with
        | zero => simp at h2; omega
        | succ d => omega
      have := ih h2 hd1
      omega

/-- The four fields of a tag's text. -/
def flds (F k C R S : Nat) : List ByteArray := [⟨(dec F).toArray⟩, ⟨(padL C (cdig k)).toArray⟩, ⟨(padL R (rdig k)).toArray⟩, ⟨(dec S).toArray⟩]
/-- The four fields of a tag's text, joined. -/
def jn (F k C R S : Nat) : List UInt8 := dec F ++ 46 :: (padL C (cdig k) ++ 46 :: (padL R (rdig k) ++ 46 :: dec S))
theorem join_flds (F k C R S : Nat) : Lib.join ((flds F k C R S).map (·.data.toList)) [46] = jn F k C R S := by
  simp [flds, jn, Lib.join, List.intercalate]
theorem padL_len {n d : Nat} (h : (dec n).length ≤ d) : (padL n d).length = d := by simp [padL, zer]; omega
theorem jn_len {F k C R S : Nat} (hF : F ≤ 7) (hC : (dec C).length ≤ cdig k) (hR : (dec R).length ≤ rdig k) (hS : S ≤ 16777215) : (jn F k C R S).length ≤ 24 := by
  have a := dec_len (n := F) (d := 1) (by omega) (by omega)
  have b := dec_len (n := S) (d := 8) (by omega) (by omega)
  have := cdig_le k
  have := rdig_le k
  have := dig_sum k
  simp only [jn, List.length_append, List.length_cons, padL_len hC, padL_len hR]
  omega
theorem kw_size (j : Nat) : (kw j).size ≤ 6 := by unfold kw; split <;> decide
/-- A tag's text. -/
def textB (j F k C R S : Nat) : ByteArray := kw j ++ ⟨#[58]⟩ ++ ⟨(jn F k C R S).toArray⟩
theorem join_any (F k C R S bk : Nat) (w : World) (hc : ∀ (i : Nat) (x : ByteArray), (flds F k C R S)[i]? = some x → w.cell? ⟨bk, 0 + i, none⟩ = some (.string x)) (hbk : bk < w.heap.size) (hl : (jn F k C R S).length ≤ 24) :
    Calls Tryd.prog 26 #[.slice (some ⟨bk, 0, none⟩) 4 4, .string ⟨#[46]⟩] w fun e w' => e = .returned (.string ⟨(jn F k C R S).toArray⟩) ∧ Below w.heap.size w w' := by
  have := Tryd.strings_Join bk 0 4 (flds F k C R S) ⟨#[46]⟩ w hc hbk (by show 4 ≤ _; omega) (by show 4 ≤ 4; omega) (by rw [show (⟨#[46]⟩ : ByteArray).data.toList = [46] from rfl, join_flds]; omega)
  rw [show (⟨#[46]⟩ : ByteArray).data.toList = [46] from rfl, join_flds] at this
  exact this

set_option maxHeartbeats 4000000 in
theorem text_ok (j F k C R S : Nat) (w : World) (hT : Tabs2 w) (hok : okB (j + 1 : Nat) F k C R S = true) :
    Calls Tryd.prog 12 #[.agg #[.int .i64 ((j : Int) + 1), .int .i64 F, .int .i64 k, .int .i64 C, .int .i64 R, .int .i64 S]] w fun e w' => e = .returned (.tuple #[.string (textB j F k C R S), .nilIface]) ∧ Below w.heap.size w w' := by
  obtain ⟨o1, o2, o3, o4, o5, o6, o7⟩ := okN hok
  have lC : (dec C).length ≤ cdig k := dec_len o6 (cdig_le k).1
  have lR : (dec R).length ≤ rdig k := dec_len o7 (rdig_le k).1
  have hcd := cdig_le k
  have hrd := rdig_le k
  have hC : C < 4294967296 := Nat.lt_of_lt_of_le o6 (Nat.le_trans (Nat.pow_le_pow_right (by omega) hcd.2) (by decide))
  have hR : R < 4294967296 := Nat.lt_of_lt_of_le o7 (Nat.le_trans (Nat.pow_le_pow_right (by omega) hrd.2) (by decide))
  have hkI : (k : Int) < 6 := by omega
  have hjI : (j : Int) < 3 := by omega
  have hcv : checkV ((j : Int) + 1) F k C R S = .nilIface := by simp only [checkV]; rw [if_pos (by simpa using hok)]
  have HT : Hid _ := hT
  clear hok o6 o7 hT
  go_enter Tryd.func12, Tryd.ntmps12
  go_wp2_with fail
  refine (check_any _ F k C R S _ (HT.out.t.below ((Below.refl _ w).alloc (Nat.le_refl _) _) HT.out.size)).mono ?_
  rintro e w1 ⟨rfl, hb1⟩
  rw [hcv]
  obtain ⟨s1, hb2, d0, d1, d2, d3, d4, d5⟩ := boxed6 hb1
  have hT1 := HT.out.below hb2 HT.out.size
  have q0 := hT1.t.c0 k (by omega)
  have q1 := hT1.t.c1 k (by omega)
  have q2 := hT1.t.c2 k (by omega)
  have q3 := hT1.t.c3 k (by omega)
  have HT1 : Hid _ := hT1
  clear hcv hT1
  have HB : Hid _ := hb2
  clear hb1 hb2
  go_upto_region 5 with fail
  have hWB : Below w1.heap.size w1 (w1.alloc (.cells #[.int .i64 (cbits k), .int .i64 (cdig k), .int .i64 (rbits k), .int .i64 (rdig k)] 50)) := (Below.refl _ _).alloc (Nat.le_refl _) _
  have e0 := keepCell hWB d0
  have e1 := keepCell hWB d1
  have e3 := keepCell hWB d3
  have e4 := keepCell hWB d4
  have e5 := keepCell hWB d5
  have p1 : (w1.alloc (.cells #[.int .i64 (cbits k), .int .i64 (cdig k), .int .i64 (rbits k), .int .i64 (rdig k)] 50)).cell? ⟨w1.heap.size, 1, none⟩ = some (.int .i64 (cdig k)) := by go_simp
  have p3 : (w1.alloc (.cells #[.int .i64 (cbits k), .int .i64 (cdig k), .int .i64 (rbits k), .int .i64 (rdig k)] 50)).cell? ⟨w1.heap.size, 3, none⟩ = some (.int .i64 (rdig k)) := by go_simp
  have hTW := HT1.out.below hWB HT1.out.size
  have hBW := HB.out.trans (hWB.mono (Nat.le_of_lt s1))
  clear hWB d0 d1 d2 d3 d4 d5 q0 q1 q2 q3 HT1 HB HT
  generalize w1.alloc (.cells #[.int .i64 (cbits k), .int .i64 (cdig k), .int .i64 (rbits k), .int .i64 (rdig k)] 50) = W at *
  have HBW : Hid _ := hBW
  have hWW : Below W.heap.size W W := Below.refl _ _
  clear hBW
  go_cut [6] (fun f V => ∃ bk : Nat, f = .slice (some ⟨bk, 0, none⟩) 4 4 ∧ bk < V.heap.size ∧ (∀ (i : Nat) (x : ByteArray), (flds F k C R S)[i]? = some x → V.cell? ⟨bk, 0 + i, none⟩ = some (.string x)) ∧ Tabs2 V ∧ Below W.heap.size W V ∧ V.cell? ⟨w.heap.size, 0, none⟩ = some (.int .i64 ((j : Int) + 1)))
  case first =>
    go_region_held3 (fun w' => w'.cell? ⟨w.heap.size, 0, none⟩ = some (.int .i64 ((j : Int) + 1)) ∧ w'.cell? ⟨w.heap.size, 1, none⟩ = some (.int .i64 F) ∧ w'.cell? ⟨w.heap.size, 3, none⟩ = some (.int .i64 C) ∧ w'.cell? ⟨w.heap.size, 4, none⟩ = some (.int .i64 R) ∧ w'.cell? ⟨w.heap.size, 5, none⟩ = some (.int .i64 S) ∧ w'.cell? ⟨w1.heap.size, 1, none⟩ = some (.int .i64 (cdig k)) ∧ w'.cell? ⟨w1.heap.size, 3, none⟩ = some (.int .i64 (rdig k)) ∧ Tabs2 w' ∧ Below W.heap.size W w')
      (first | exact ⟨drewCell ‹_›, drewCell ‹_›, drewCell ‹_›, drewCell ‹_›, drewCell ‹_›, drewCell ‹_›, drewCell ‹_›, drewTabs ‹_›, drewBelow ‹_›⟩ | (go_split_ands; exact ⟨allocCell _ ‹_›, allocCell _ ‹_›, allocCell _ ‹_›, allocCell _ ‹_›, allocCell _ ‹_›, allocCell _ ‹_›, allocCell _ ‹_›, allocTabs _ ‹_›, allocBelow _ ‹_›⟩) | (go_split_ands; exact ⟨keepCell hb ‹_›, keepCell hb ‹_›, keepCell hb ‹_›, keepCell hb ‹_›, keepCell hb ‹_›, keepCell hb ‹_›, keepCell hb ‹_›, keepTabs ‹_› hb, keepBelow ‹_› hb⟩))
      (first | (go_at_call 20; go_split_ands; refine (itoa_any _ _ ‹_› (by omega)).mono ?_; rintro e w' ⟨rfl, hb⟩) | (go_at_call 25; go_split_ands; refine (padded_any _ _ _ ‹_› (by omega) (by omega) (by omega)).mono ?_; rintro e w' ⟨rfl, hb⟩))
    rename_i hH
    go_wp2
    go_meet
    case rel =>
      obtain ⟨g0, -, -, -, -, -, -, gT, gB⟩ := hH
      refine ⟨_, rfl, by simp, ?_, gT, gB, g0⟩
      intro i x hx
      match i, hx with
      | 0, hx | 1, hx | 2, hx | 3, hx => simp [flds] at hx; subst hx; go_simp
      | _ + 4, hx => simp [flds] at hx
  case rest =>
    obtain ⟨bk, rfl, hbk, hcells, gT, gB, g0⟩ := hcut
    clear e0 e1 e3 e4 e5 p1 p3 hTW hWW
    have gk := gT.kws j (by omega)
    have hcl : Hid _ := hcells
    have GT : Hid _ := gT
    have GB : Hid _ := gB
    clear hcells gT gB
    have hjl := jn_len o3 lC lR o5
    have hks := kw_size j
    have hks1 : ¬ 9223372036854775807 < (kw j).size + (⟨#[58]⟩ : ByteArray).size := by show ¬ _ < (kw j).size + 1; omega
    have hks2 : ¬ 9223372036854775807 < (kw j ++ (⟨#[58]⟩ : ByteArray)).size + (⟨(jn F k C R S).toArray⟩ : ByteArray).size := by
      rw [ByteArray.size_append]; show ¬ _ < (kw j).size + 1 + (jn F k C R S).toArray.size; rw [List.size_toArray]; omega
    have hks3 : ¬ 9223372036854775807 < (kw j).size + 1 := by omega
    have hks4 : ¬ 9223372036854775807 < (kw j).size + 1 + (jn F k C R S).length := by omega
    have hj0 : (0 : Int) ≤ (j : Int) := by omega
    have hw1 : IntKind.i64.wrap (j : Int) = (j : Int) := by simp [IntKind.wrap, IntKind.bits, IntKind.signed]; omega
    have hw2 : IntKind.i64.wrap ((j : Int) + 1 - 1) = (j : Int) := by rw [show (j : Int) + 1 - 1 = j by omega]; exact hw1
    go_upto_region 6 with fail
    have hww : Below wc.heap.size wc wc := Below.refl _ _
    go_region_held3 (fun w' => w'.cell? ⟨w.heap.size, 0, none⟩ = some (.int .i64 ((j : Int) + 1)) ∧ w'.cell? ⟨1, j, none⟩ = some (.string (kw j)) ∧ Below wc.heap.size wc w')
      (first | exact ⟨drewCell ‹_›, drewCell ‹_›, drewBelow ‹_›⟩ | (go_split_ands; exact ⟨keepCell hb ‹_›, keepCell hb ‹_›, keepBelow ‹_› hb⟩))
      (first | (go_at_call 26; go_split_ands; refine (join_any F k C R S bk _ ?_ (by simpa using hbk) hjl).mono ?_; (exact fun i x hx => hcl.out i x hx); rintro e w' ⟨rfl, hb⟩))
    rename_i hH
    go_wp2
    go_ret2
    obtain ⟨-, -, gB⟩ := hH
    refine ⟨rfl, ?_⟩
    exact HBW.out.trans ((GB.out.trans (gB.mono GB.out.size)).mono HBW.out.size)
end Go.Proofs.YtllhfbnafemoeaaDoor.TagA
