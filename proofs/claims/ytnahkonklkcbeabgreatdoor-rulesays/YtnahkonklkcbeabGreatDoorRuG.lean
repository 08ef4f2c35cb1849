/-
  What Parse does to the world.
-/
import Derived.Test.YtnahkonklkcbeabGreatDoorRuE
import Derived.Test.YtnahkonklkcbeabGreatDoorRuF
namespace Go.Proofs.YtnahkonklkcbeabGreatDoor.RuA
open Go.RowKit RuM
set_option maxRecDepth 100000

theorem trim_len (a b : List UInt8) : (Lib.trimSuffix a b).length ≤ a.length := by
  unfold Lib.trimSuffix
  split
  · simp only [List.length_take]; omega
  · exact Nat.le_refl _
theorem guess_nm (l : List UInt8) : (guessR l).nm.size ≤ l.length := by
  have h : (guessR l).nm = bt (Lib.trimSuffix (hd l) [58]) := by unfold guessR; split <;> rfl
  rw [h, bt_size]
  exact Nat.le_trans (trim_len _ _) (hd_len l)
theorem clone_any (s : ByteArray) (w : World) (hs : s.size ≤ 281474976710656) :
    Calls Tryz.prog 24 #[.string s] w fun e w' => e = .returned (.string s) ∧ Below w.heap.size w w' := by
  go_enter Tryz.func24, Tryz.ntmps24
  go_wp2_with fail
  refine (Tryz.stringslite_Clone s w hs).mono ?_
  rintro e w1 ⟨rfl, hb⟩
  have HB : Hid (Below w.heap.size w w1) := hb
  clear hb
  go_wp2
  go_ret
  exact ⟨rfl, HB.out⟩
def zR : Rl := ⟨⟨#[]⟩, 0, 0, 0, 0, 0⟩
def parseNo : Value := .tuple #[rV zR, .iface 57 (.int .i64 4)]
/-- Parse at work: the answer's cells at w.heap.size; the guess at b. -/
structure PS (w V : World) (b : Nat) (r : Rl) : Prop where
  T : RTab V
  bl : Below w.heap.size w V
  p : Cells6 V w.heap.size (.string ⟨#[]⟩) (.int .i64 0) (.int .i64 0) (.int .i64 0) (.int .i64 0) (.int .i64 0)
  r : Cells6 V b (.string r.nm) (.int .i64 r.k) (.int .i64 r.f) (.int .i64 r.t) (.int .i64 r.wo) (.int .i64 r.wi)
  lt : w.heap.size < b
theorem PS.keep {w V V' : World} {b : Nat} {r : Rl} (h : PS w V b r) (hb : Below V.heap.size V V') : PS w V' b r :=
  ⟨h.T.keep hb, h.bl.trans (hb.mono h.bl.size), h.p.move (hb.block _ h.p.lt) hb.size, h.r.move (hb.block _ h.r.lt) hb.size, h.lt⟩
theorem ps_new {w w1 : World} (r : Rl) (hT : RTab w) (hb : Below (w.alloc (.cells #[.string ⟨#[]⟩, .int .i64 0, .int .i64 0, .int .i64 0, .int .i64 0, .int .i64 0] 23)).heap.size (w.alloc (.cells #[.string ⟨#[]⟩, .int .i64 0, .int .i64 0, .int .i64 0, .int .i64 0, .int .i64 0] 23)) w1) :
    PS w (w1.alloc (.cells #[.string r.nm, .int .i64 r.k, .int .i64 r.f, .int .i64 r.t, .int .i64 r.wo, .int .i64 r.wi] 23)) w1.heap.size r := by
  have hB : Below w.heap.size w (w.alloc (.cells #[.string ⟨#[]⟩, .int .i64 0, .int .i64 0, .int .i64 0, .int .i64 0, .int .i64 0] 23)) := (Below.refl _ w).alloc (Nat.le_refl _) _
  have c : Cells6 (w.alloc (.cells #[.string ⟨#[]⟩, .int .i64 0, .int .i64 0, .int .i64 0, .int .i64 0, .int .i64 0] 23)) w.heap.size (.string ⟨#[]⟩) (.int .i64 0) (.int .i64 0) (.int .i64 0) (.int .i64 0) (.int .i64 0) := by
    refine ⟨?_, ?_, ?_, ?_, ?_, ?_, ?_, ?_⟩
    all_goals first | go_simp | (intro i; go_simp)
  have hB1 : Below w.heap.size w w1 := hB.trans (hb.mono hB.size)
  have hB2 : Below w1.heap.size w1 (w1.alloc (.cells #[.string r.nm, .int .i64 r.k, .int .i64 r.f, .int .i64 r.t, .int .i64 r.wo, .int .i64 r.wi] 23)) := (Below.refl _ w1).alloc (Nat.le_refl _) _
  have c1 := c.move (hb.block _ c.lt) hb.size
  have c2 : Cells6 (w1.alloc (.cells #[.string r.nm, .int .i64 r.k, .int .i64 r.f, .int .i64 r.t, .int .i64 r.wo, .int .i64 r.wi] 23)) w1.heap.size (.string r.nm) (.int .i64 r.k) (.int .i64 r.f) (.int .i64 r.t) (.int .i64 r.wo) (.int .i64 r.wi) := by
    refine ⟨?_, ?_, ?_, ?_, ?_, ?_, ?_, ?_⟩
    all_goals first | go_simp | (intro i; go_simp)
  exact ⟨(hT.keep hB1).keep hB2, hB1.trans (hB2.mono hB1.size), c1.move (hB2.block _ c1.lt) hB2.size, c2, c1.lt⟩
section
variable (s : ByteArray) (w : World)
set_option maxHeartbeats 2000000 in
theorem parse_no (hT : RTab w) (hs : s.size < 4294967281) (hno : ¬ ∃ r, Reads s r) :
    Calls Tryz.prog 11 #[.string s] w fun e w' => e = .returned parseNo ∧ Below w.heap.size w w' := by
  obtain ⟨g, hg⟩ : ∃ g, g = guessR s.data.toList := ⟨_, rfl⟩
  have hsz : s.data.toList.length = s.size := by simp
  have HGU : Hid (∀ V : World, RTab V → Calls Tryz.prog 23 #[.string s] V fun e w' => e = .returned (rV g) ∧ Below V.heap.size V w') := fun V hV => by
    have h := guess_any s.data.toList V hV (by omega)
    rw [bt_data, ← hg] at h
    exact h
  have hnm : g.nm.size < 4294967281 := by rw [hg]; exact Nat.lt_of_le_of_lt (guess_nm _) (by omega)
  have HNO : Hid (g.ok → ¬ textB g = s) := fun h h' => hno ⟨g, h, h'⟩
  obtain ⟨n, hn⟩ := flt_ex g
  have HN : Hid (g.flt n) := hn
  have HT : Hid (RTab w) := hT
  clear hg hn hno hT
  go_enter Tryz.func11, Tryz.ntmps11
  go_wp2_with fail
  refine (HGU.out _ (HT.out.keep ((Below.refl _ _).alloc (Nat.le_refl _) _))).mono ?_
  rintro e w1 ⟨rfl, hb1⟩
  have HP : Hid _ := ps_new g HT.out hb1
  clear hb1
  unfold rV
  go_wp2_with fail
  by_cases h0 : n = 0
  case neg =>
    have he : errV n = .iface 57 (.int .i64 (n : Int)) := if_neg h0
    have HX := text_no g (w1.alloc (.cells #[.string g.nm, .int .i64 g.k, .int .i64 g.f, .int .i64 g.t, .int .i64 g.wo, .int .i64 g.wi] 23)) (by omega) HN.out h0
    rw [he] at HX
    unfold rV at HX
    refine HX.mono ?_
    clear HX he h0
    rintro e w2 ⟨rfl, hb2⟩
    have HP2 : Hid _ := HP.out.keep hb2
    clear hb2 HP
    have p0 := HP2.out.p.c0
    have p1 := HP2.out.p.c1
    have p2 := HP2.out.p.c2
    have p3 := HP2.out.p.c3
    have p4 := HP2.out.p.c4
    have p5 := HP2.out.p.c5
    have pf := HP2.out.p.fz
    go_wp2
    refine bodyPost_ret (v := parseNo) (by simp [results, Tryz.results11, go_sem, parseNo, rV, zR, p0, p1, p2, p3, p4, p5]) rfl ⟨rfl, ?_⟩
    exact (((((HP2.out.bl.setCell (Nat.le_refl _) _).setCell (Nat.le_refl _) _).setCell (Nat.le_refl _) _).setCell (Nat.le_refl _) _).setCell (Nat.le_refl _) _).setCell (Nat.le_refl _) _
  case pos =>
    have hok : g.ok := (flt_ok HN.out).1 h0
    have HX := text_yes g (w1.alloc (.cells #[.string g.nm, .int .i64 g.k, .int .i64 g.f, .int .i64 g.t, .int .i64 g.wo, .int .i64 g.wi] 23)) HP.out.T hok
    unfold rV at HX
    refine HX.mono ?_
    have hne := HNO.out hok
    clear HX hok h0 HNO
    rintro e w2 ⟨rfl, hb2⟩
    have HP2 : Hid _ := HP.out.keep hb2
    clear hb2 HP
    have p0 := HP2.out.p.c0
    have p1 := HP2.out.p.c1
    have p2 := HP2.out.p.c2
    have p3 := HP2.out.p.c3
    have p4 := HP2.out.p.c4
    have p5 := HP2.out.p.c5
    have pf := HP2.out.p.fz
    generalize textB g = X at *
    have hb1 : (X.toList == s.toList) = false := sbeq_false hne
    have hb2 : (X.toList != s.toList) = true := by rw [bne, hb1]; rfl
    clear hne
    go_wp2
    refine bodyPost_ret (v := parseNo) (by simp [results, Tryz.results11, go_sem, parseNo, rV, zR, p0, p1, p2, p3, p4, p5]) rfl ⟨rfl, ?_⟩
    exact (((((HP2.out.bl.setCell (Nat.le_refl _) _).setCell (Nat.le_refl _) _).setCell (Nat.le_refl _) _).setCell (Nat.le_refl _) _).setCell (Nat.le_refl _) _).setCell (Nat.le_refl _) _
set_option maxHeartbeats 2000000 in
theorem parse_yes (r : Rl) (hT : RTab w) (hs : s.size < 4294967281) (hr : Reads s r) :
    Calls Tryz.prog 11 #[.string s] w fun e w' => e = .returned (.tuple #[rV r, .nilIface]) ∧ Below w.heap.size w w' := by
  have hsz : s.data.toList.length = s.size := by simp
  have HGU : Hid (∀ V : World, RTab V → Calls Tryz.prog 23 #[.string s] V fun e w' => e = .returned (rV r) ∧ Below V.heap.size V w') := fun V hV => by
    have h := guess_any s.data.toList V hV (by omega)
    rw [bt_data, reads_guess hr] at h
    exact h
  have hnm : r.nm.size ≤ 12 := by have h := hr.1.1.2.1; simpa using h
  have HT : Hid (RTab w) := hT
  have HR : Hid (Reads s r) := hr
  clear hr hT
  go_enter Tryz.func11, Tryz.ntmps11
  go_wp2_with fail
  refine (HGU.out _ (HT.out.keep ((Below.refl _ _).alloc (Nat.le_refl _) _))).mono ?_
  rintro e w1 ⟨rfl, hb1⟩
  have HP : Hid _ := ps_new r HT.out hb1
  clear hb1
  unfold rV
  go_wp2_with fail
  have HX := text_yes r (w1.alloc (.cells #[.string r.nm, .int .i64 r.k, .int .i64 r.f, .int .i64 r.t, .int .i64 r.wo, .int .i64 r.wi] 23)) HP.out.T HR.out.1
  unfold rV at HX
  refine HX.mono ?_
  rw [HR.out.2]
  clear HX
  rintro e w2 ⟨rfl, hb2⟩
  have HP2 : Hid _ := HP.out.keep hb2
  clear hb2 HP
  have hb1 : (s.toList == s.toList) = true := sbeq_true rfl
  have hb2 : (s.toList != s.toList) = false := by rw [bne, hb1]; rfl
  have q0 := HP2.out.r.c0
  go_wp2_with fail
  refine (clone_any r.nm _ (by omega)).mono ?_
  rintro e w3 ⟨rfl, hb3⟩
  have HP3 : Hid _ := HP2.out.keep hb3
  clear hb3 HP2 q0
  have q0 := HP3.out.r.c0
  have q1 := HP3.out.r.c1
  have q2 := HP3.out.r.c2
  have q3 := HP3.out.r.c3
  have q4 := HP3.out.r.c4
  have q5 := HP3.out.r.c5
  have qf := HP3.out.r.fz
  have p0 := HP3.out.p.c0
  have p1 := HP3.out.p.c1
  have p2 := HP3.out.p.c2
  have p3 := HP3.out.p.c3
  have p4 := HP3.out.p.c4
  have p5 := HP3.out.p.c5
  have pf := HP3.out.p.fz
  have hlt := HP3.out.lt
  go_wp2
  have HC : Hid (Cells6 (w3.setCell ⟨w1.heap.size, 0, none⟩ (.string r.nm)) w.heap.size (.string ⟨#[]⟩) (.int .i64 0) (.int .i64 0) (.int .i64 0) (.int .i64 0) (.int .i64 0)) := HP3.out.p.far _ _ (by show w.heap.size ≠ w1.heap.size; omega)
  have HBL : Hid (Below w.heap.size w (w3.setCell ⟨w1.heap.size, 0, none⟩ (.string r.nm))) := HP3.out.bl.setCell (by show w.heap.size ≤ w1.heap.size; omega) _
  clear q0 q1 q2 q3 q4 q5 qf p0 p1 p2 p3 p4 p5 pf
  generalize w3.setCell ⟨w1.heap.size, 0, none⟩ (.string r.nm) = V9 at *
  have p0 := HC.out.c0
  have p1 := HC.out.c1
  have p2 := HC.out.c2
  have p3 := HC.out.c3
  have p4 := HC.out.c4
  have p5 := HC.out.c5
  refine bodyPost_ret (v := .tuple #[rV r, .nilIface]) (by simp [results, Tryz.results11, go_sem, rV, p0, p1, p2, p3, p4, p5]) rfl ⟨rfl, ?_⟩
  exact (((((HBL.out.setCell (Nat.le_refl _) _).setCell (Nat.le_refl _) _).setCell (Nat.le_refl _) _).setCell (Nat.le_refl _) _).setCell (Nat.le_refl _) _).setCell (Nat.le_refl _) _
end
end Go.Proofs.YtnahkonklkcbeabGreatDoor.RuA
