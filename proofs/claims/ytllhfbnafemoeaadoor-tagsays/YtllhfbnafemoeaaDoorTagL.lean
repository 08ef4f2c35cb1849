/-
  What Of does to the world.
-/
import Derived.Test.YtllhfbnafemoeaaDoorTagK
namespace Go.Proofs.YtllhfbnafemoeaaDoor.TagA
open Go.RowKit TagM
set_option maxRecDepth 100000

/-- Are there four parts, each a number? -/
def guessB (s : ByteArray) : Bool := ((parts (cutR s)).length == 4) && (((parts (cutR s))[0]?.bind atoiV).isSome && ((parts (cutR s))[1]?.bind atoiV).isSome && ((parts (cutR s))[2]?.bind atoiV).isSome && ((parts (cutR s))[3]?.bind atoiV).isSome)
theorem guess_any (s : ByteArray) (w : World) (hT : Tabs2 w) (hs : s.size < 4294967281) :
    Calls Tryd.prog 34 #[.string s] w fun e w' => e = .returned (if guessB s then guessYes s else guessNo) ∧ Below w.heap.size w w' := by
  by_cases h4 : (parts (cutR s)).length = 4
  · have := guess_4 s w hT hs (parts (cutR s)) rfl h4 _ rfl
    unfold guessB
    rw [h4]
    exact this
  · have := guess_len s w hT hs h4
    unfold guessB
    rw [show ((parts (cutR s)).length == 4) = false by simpa using h4]
    exact this

/-- The fields of what is guessed. -/
def gK (s : ByteArray) : Int := (kindF (cutW s) : Nat)
def gF (s : ByteArray) : Int := numAt (parts (cutR s)) 0
def gP (s : ByteArray) : Int := 6 - ((((parts (cutR s))[1]?).getD ByteArray.empty).size : Int)
def gC (s : ByteArray) : Int := numAt (parts (cutR s)) 1
def gR (s : ByteArray) : Int := numAt (parts (cutR s)) 2
def gS (s : ByteArray) : Int := numAt (parts (cutR s)) 3
theorem guessYes_eq (s : ByteArray) : guessYes s = .tuple #[.agg #[.int .i64 (gK s), .int .i64 (gF s), .int .i64 (gP s), .int .i64 (gC s), .int .i64 (gR s), .int .i64 (gS s)], .bool true] := rfl

/-- The text of a tag of Ints. -/
def textI (K F P C R S : Int) : ByteArray := textB (K.toNat - 1) F.toNat P.toNat C.toNat R.toNat S.toNat

theorem ok_nat {K F P C R S : Int} (h : okB K F P C R S = true) : ∃ j f p c r s : Nat, K = ((j + 1 : Nat) : Int) ∧ F = f ∧ P = p ∧ C = c ∧ R = r ∧ S = s := by
  simp only [okB, Bool.and_eq_true, btw_true, dig_true] at h
  obtain ⟨⟨⟨⟨⟨h1, h2⟩, h3⟩, h4⟩, h5⟩, h6⟩ := h
  exact ⟨(K - 1).toNat, F.toNat, P.toNat, C.toNat, R.toNat, S.toNat, by omega, by omega, by omega, by omega, by omega, by omega⟩

theorem text_yes (K F P C R S : Int) (w : World) (hT : Tabs2 w) (hok : okB K F P C R S = true) :
    Calls Tryd.prog 12 #[.agg #[.int .i64 K, .int .i64 F, .int .i64 P, .int .i64 C, .int .i64 R, .int .i64 S]] w fun e w' => e = .returned (.tuple #[.string (textI K F P C R S), .nilIface]) ∧ Below w.heap.size w w' := by
  obtain ⟨j, f, p, c, r, s, rfl, rfl, rfl, rfl, rfl, rfl⟩ := ok_nat hok
  have := text_ok j f p c r s w hT hok
  have e : ((j : Int) + 1) = ((j + 1 : Nat) : Int) := by omega
  rw [e] at this
  exact this

theorem boxedF {w w1 : World} {o : Obj} (hb : Below (w.alloc o).heap.size (w.alloc o) w1) (h : ∀ j : Nat, (w.alloc o).frozen? ⟨w.heap.size, j, none⟩ = false) (j : Nat) : w1.frozen? ⟨w.heap.size, j, none⟩ = false := by
  rw [hb.frozen (by show w.heap.size < _; simp)]; exact h j
theorem zero6 {w w1 : World} (hb : Below (w.alloc (.cells #[.int .i64 0, .int .i64 0, .int .i64 0, .int .i64 0, .int .i64 0, .int .i64 0] 32)).heap.size (w.alloc (.cells #[.int .i64 0, .int .i64 0, .int .i64 0, .int .i64 0, .int .i64 0, .int .i64 0] 32)) w1) :
    ∀ j : Nat, j < 6 → w1.cell? ⟨w.heap.size, j, none⟩ = some (.int .i64 0) ∧ w1.frozen? ⟨w.heap.size, j, none⟩ = false := by
  intro j hj
  have hs : w.heap.size < (w.alloc (.cells #[.int .i64 0, .int .i64 0, .int .i64 0, .int .i64 0, .int .i64 0, .int .i64 0] 32)).heap.size := by simp
  rw [hb.cell hs, hb.frozen hs]
  match j, hj with
  | 0, _ | 1, _ | 2, _ | 3, _ | 4, _ | 5, _ => exact ⟨by go_simp, by go_simp⟩
  | _ + 6, h => omega
theorem keep6 {r : Nat} {w1 w2 : World} (h : ∀ j : Nat, j < 6 → w1.cell? ⟨r, j, none⟩ = some (.int .i64 0) ∧ w1.frozen? ⟨r, j, none⟩ = false) (hb : Below w1.heap.size w1 w2) :
    ∀ j : Nat, j < 6 → w2.cell? ⟨r, j, none⟩ = some (.int .i64 0) ∧ w2.frozen? ⟨r, j, none⟩ = false :=
  fun j hj => ⟨keepCell hb (h j hj).1, by rw [hb.frozen (World.block_lt_of_cell? _ _ (h j hj).1)]; exact (h j hj).2⟩

/-- What Of answers. -/
def ofV (s : ByteArray) : Value :=
  if guessB s && (okB (gK s) (gF s) (gP s) (gC s) (gR s) (gS s) && decide (textI (gK s) (gF s) (gP s) (gC s) (gR s) (gS s) = s)) then .tuple #[.agg #[.int .i64 (gK s), .int .i64 (gF s), .int .i64 (gP s), .int .i64 (gC s), .int .i64 (gR s), .int .i64 (gS s)], .nilIface]
  else .tuple #[noTag, .iface 23 (.int .i64 4)]

set_option maxHeartbeats 1000000 in
theorem of_any (s : ByteArray) (w : World) (hT : Tabs2 w) (hs : s.size < 4294967281) :
    Calls Tryd.prog 18 #[.string s] w fun e w' => e = .returned (ofV s) ∧ Below w.heap.size w w' := by
  have HT : Hid _ := hT
  clear hT
  by_cases hg : guessB s = true
  case neg =>
    have hv : ofV s = .tuple #[noTag, .iface 23 (.int .i64 4)] := by unfold ofV; rw [if_neg]; simp [hg]
    rw [hv]
    have HGB : Hid _ := hg
    clear hv hg
    go_enter Tryd.func18, Tryd.ntmps18
    go_wp2_with fail
    refine (guess_any s _ (allocTabs _ HT.out) hs).mono ?_
    rw [if_neg HGB.out]
    unfold guessNo noTag
    rintro e w1 ⟨rfl, hb1⟩
    have hz := zero6 hb1
    have HB : Hid _ := (boxed6 hb1).2.1
    have s1 := (boxed6 hb1).1
    obtain ⟨a0, b0⟩ := hz 0 (by omega)
    obtain ⟨a1, b1⟩ := hz 1 (by omega)
    obtain ⟨a2, b2⟩ := hz 2 (by omega)
    obtain ⟨a3, b3⟩ := hz 3 (by omega)
    obtain ⟨a4, b4⟩ := hz 4 (by omega)
    obtain ⟨a5, b5⟩ := hz 5 (by omega)
    clear hz hb1
    go_wp2
    refine bodyPost_ret (v := .tuple #[noTag, .iface 23 (.int .i64 4)]) (by simp [results, Tryd.results18, go_sem, noTag, a0, a1, a2, a3, a4, a5, s1]) rfl ⟨rfl, ?_⟩
    exact ((((((HB.out.setCell (Nat.le_refl _) _).setCell (Nat.le_refl _) _).setCell (Nat.le_refl _) _).setCell (Nat.le_refl _) _).setCell (Nat.le_refl _) _).setCell (Nat.le_refl _) _).alloc (by simp; omega) _
  case pos =>
    by_cases hok : okB (gK s) (gF s) (gP s) (gC s) (gR s) (gS s) = true
    case neg =>
      have hok : okB (gK s) (gF s) (gP s) (gC s) (gR s) (gS s) = false := by simpa using hok
      have hv : ofV s = .tuple #[noTag, .iface 23 (.int .i64 4)] := by unfold ofV; rw [if_neg]; simp [hok]
      rw [hv]
      have HGB : Hid _ := hg
      have HOK : Hid _ := hok
      clear hv hg hok
      go_enter Tryd.func18, Tryd.ntmps18
      go_wp2_with fail
      refine (guess_any s _ (allocTabs _ HT.out) hs).mono ?_
      rw [if_pos HGB.out, guessYes_eq]
      rintro e w1 ⟨rfl, hb1⟩
      have hz := zero6 hb1
      have HB : Hid _ := (boxed6 hb1).2.1
      have s1 := (boxed6 hb1).1
      have HT1 : Hid _ := HT.out.below HB.out HT.out.size
      clear hb1
      go_wp2_with fail
      refine (text_no _ _ _ _ _ _ _ (allocTabs _ HT1.out).t HOK.out).mono ?_
      rintro e w2 ⟨rfl, hb2⟩
      have hB12 := ((Below.refl _ w1).alloc (Nat.le_refl _) (.cells #[.int .i64 (gK s), .int .i64 (gF s), .int .i64 (gP s), .int .i64 (gC s), .int .i64 (gR s), .int .i64 (gS s)] 32)).trans (hb2.mono (by simp))
      have hz2 := keep6 hz hB12
      have HB2 : Hid _ := HB.out.trans (hB12.mono (Nat.le_of_lt s1))
      obtain ⟨a0, b0⟩ := hz2 0 (by omega)
      obtain ⟨a1, b1⟩ := hz2 1 (by omega)
      obtain ⟨a2, b2⟩ := hz2 2 (by omega)
      obtain ⟨a3, b3⟩ := hz2 3 (by omega)
      obtain ⟨a4, b4⟩ := hz2 4 (by omega)
      obtain ⟨a5, b5⟩ := hz2 5 (by omega)
      clear hz hz2 hB12 hb2
      go_wp2
      refine bodyPost_ret (v := .tuple #[noTag, .iface 23 (.int .i64 4)]) (by simp [results, Tryd.results18, go_sem, noTag, a0, a1, a2, a3, a4, a5]) rfl ⟨rfl, ?_⟩
      exact (((((HB2.out.setCell (Nat.le_refl _) _).setCell (Nat.le_refl _) _).setCell (Nat.le_refl _) _).setCell (Nat.le_refl _) _).setCell (Nat.le_refl _) _).setCell (Nat.le_refl _) _
    case pos =>
      by_cases hte : textI (gK s) (gF s) (gP s) (gC s) (gR s) (gS s) = s
      case neg =>
        have hv : ofV s = .tuple #[noTag, .iface 23 (.int .i64 4)] := by unfold ofV; rw [if_neg]; simp [hte]
        rw [hv]
        have HGB : Hid _ := hg
        have HOK : Hid _ := hok
        have hse : ((textI (gK s) (gF s) (gP s) (gC s) (gR s) (gS s)).toList == s.toList) = false := sbeq_false hte
        clear hv hg hok hte
        go_enter Tryd.func18, Tryd.ntmps18
        go_wp2_with fail
        refine (guess_any s _ (allocTabs _ HT.out) hs).mono ?_
        rw [if_pos HGB.out, guessYes_eq]
        rintro e w1 ⟨rfl, hb1⟩
        have hz := zero6 hb1
        have HB : Hid _ := (boxed6 hb1).2.1
        have s1 := (boxed6 hb1).1
        have HT1 : Hid _ := HT.out.below HB.out HT.out.size
        clear hb1
        go_wp2_with fail
        refine (text_yes _ _ _ _ _ _ _ (allocTabs _ HT1.out) HOK.out).mono ?_
        rintro e w2 ⟨rfl, hb2⟩
        have hB12 := ((Below.refl _ w1).alloc (Nat.le_refl _) (.cells #[.int .i64 (gK s), .int .i64 (gF s), .int .i64 (gP s), .int .i64 (gC s), .int .i64 (gR s), .int .i64 (gS s)] 32)).trans (hb2.mono (by simp))
        have hz2 := keep6 hz hB12
        have HB2 : Hid _ := HB.out.trans (hB12.mono (Nat.le_of_lt s1))
        obtain ⟨a0, b0⟩ := hz2 0 (by omega)
        obtain ⟨a1, b1⟩ := hz2 1 (by omega)
        obtain ⟨a2, b2⟩ := hz2 2 (by omega)
        obtain ⟨a3, b3⟩ := hz2 3 (by omega)
        obtain ⟨a4, b4⟩ := hz2 4 (by omega)
        obtain ⟨a5, b5⟩ := hz2 5 (by omega)
        clear hz hz2 hB12 hb2
        go_wp2
        refine bodyPost_ret (v := .tuple #[noTag, .iface 23 (.int .i64 4)]) (by simp [results, Tryd.results18, go_sem, noTag, a0, a1, a2, a3, a4, a5]) rfl ⟨rfl, ?_⟩
        exact (((((HB2.out.setCell (Nat.le_refl _) _).setCell (Nat.le_refl _) _).setCell (Nat.le_refl _) _).setCell (Nat.le_refl _) _).setCell (Nat.le_refl _) _).setCell (Nat.le_refl _) _
      case pos =>
        have hv : ofV s = .tuple #[.agg #[.int .i64 (gK s), .int .i64 (gF s), .int .i64 (gP s), .int .i64 (gC s), .int .i64 (gR s), .int .i64 (gS s)], .nilIface] := by unfold ofV; rw [if_pos]; simp [hg, hok, hte]
        rw [hv]
        have HGB : Hid _ := hg
        have HOK : Hid _ := hok
        have hse : ((textI (gK s) (gF s) (gP s) (gC s) (gR s) (gS s)).toList == s.toList) = true := sbeq_true hte
        clear hv hg hok hte
        go_enter Tryd.func18, Tryd.ntmps18
        go_wp2_with fail
        refine (guess_any s _ (allocTabs _ HT.out) hs).mono ?_
        rw [if_pos HGB.out, guessYes_eq]
        rintro e w1 ⟨rfl, hb1⟩
        have hz := zero6 hb1
        have HB : Hid _ := (boxed6 hb1).2.1
        have s1 := (boxed6 hb1).1
        have HT1 : Hid _ := HT.out.below HB.out HT.out.size
        clear hb1
        go_wp2_with fail
        refine (text_yes _ _ _ _ _ _ _ (allocTabs _ HT1.out) HOK.out).mono ?_
        rintro e w2 ⟨rfl, hb2⟩
        have hB12 := ((Below.refl _ w1).alloc (Nat.le_refl _) (.cells #[.int .i64 (gK s), .int .i64 (gF s), .int .i64 (gP s), .int .i64 (gC s), .int .i64 (gR s), .int .i64 (gS s)] 32)).trans (hb2.mono (by simp))
        have hz2 := keep6 hz hB12
        have HB2 : Hid _ := HB.out.trans (hB12.mono (Nat.le_of_lt s1))
        obtain ⟨-, -, c0, c1, c2, c3, c4, c5⟩ := boxed6 hb2
        obtain ⟨a0, b0⟩ := hz2 0 (by omega)
        obtain ⟨a1, b1⟩ := hz2 1 (by omega)
        obtain ⟨a2, b2⟩ := hz2 2 (by omega)
        obtain ⟨a3, b3⟩ := hz2 3 (by omega)
        obtain ⟨a4, b4⟩ := hz2 4 (by omega)
        obtain ⟨a5, b5⟩ := hz2 5 (by omega)
        clear hz hz2 hB12 hb2
        go_wp2
        refine bodyPost_ret (v := .tuple #[.agg #[.int .i64 (gK s), .int .i64 (gF s), .int .i64 (gP s), .int .i64 (gC s), .int .i64 (gR s), .int .i64 (gS s)], .nilIface]) (by simp [results, Tryd.results18, go_sem, a0, a1, a2, a3, a4, a5]) rfl ⟨rfl, ?_⟩
        exact (((((HB2.out.setCell (Nat.le_refl _) _).setCell (Nat.le_refl _) _).setCell (Nat.le_refl _) _).setCell (Nat.le_refl _) _).setCell (Nat.le_refl _) _).setCell (Nat.le_refl _) _
end Go.Proofs.YtllhfbnafemoeaaDoor.TagA
