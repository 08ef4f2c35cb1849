/-
  What ruled and same do to the world; Text, Parse and RuleOf, whatever the rule and the text.
-/
import Derived.Test.YtnahkonklkcbeabGreatDoorRuO
import Derived.Test.YtnahkonklkcbeabGreatDoorRuR
import Derived.Test.YtnahkonklkcbeabGreatDoorTkY
import Derived.Laws.StructEq
namespace Go.Proofs.YtnahkonklkcbeabGreatDoor.RuA
open Go.RowKit RuM RfC
set_option maxRecDepth 100000

theorem dec_one {n : Nat} (h : n < 10) : dec n = [UInt8.ofNat (48 + n)] := by
  unfold dec
  rw [Lib.decDigits, dif_pos h]
def rX : Rl := ⟨⟨#[101, 120, 105, 116]⟩, 0, 1, 2, -1, 5⟩
theorem exit_ok : rX.ok := by
  refine ⟨⟨by decide, by decide, ?_⟩, ⟨by decide, by decide, by decide, by decide, by decide⟩, ⟨by decide, by decide, by decide⟩⟩
  intro c hc
  have h : c = 101 ∨ c = 120 ∨ c = 105 ∨ c = 116 := by simpa [rX] using hc
  rcases h with rfl | rfl | rfl | rfl <;> exact ⟨by decide, by decide⟩
theorem exit_text : ((textB rX).toList == [101, 120, 105, 116, 58, 32, 97, 110, 121, 32, 49, 32, 116, 104, 101, 110, 32, 50, 32, 119, 105, 116, 104, 105, 110, 32, 53]) = true := by
  have h : textB rX = ⟨#[101, 120, 105, 116, 58, 32, 97, 110, 121, 32, 49, 32, 116, 104, 101, 110, 32, 50, 32, 119, 105, 116, 104, 105, 110, 32, 53]⟩ := by
    unfold textB
    rw [textL_eq]
    unfold tailL endL rX
    simp only [if_true]
    rw [show dec ((1 : Int)).toNat = [49] from dec_one (n := 1) (by decide), show dec ((2 : Int)).toNat = [50] from dec_one (n := 2) (by decide), show dec ((5 : Int)).toNat = [53] from dec_one (n := 5) (by decide)]
    rfl
  rw [h, ByteArray.toList_eq]
  decide
set_option maxHeartbeats 1000000 in
theorem ruled_any (w : World) (hT : RTab w) : Calls Tryz.prog 4 #[] w fun e w' => e = .returned (.bool true) ∧ Below w.heap.size w w' := by
  have HX : Hid (Calls Tryz.prog 7 #[.agg #[.string ⟨#[101, 120, 105, 116]⟩, .int .i64 0, .int .i64 1, .int .i64 2, .int .i64 (-1), .int .i64 5]] w fun e w' => e = .returned (.tuple #[.string (textB rX), .nilIface]) ∧ Below w.heap.size w w') := text_yes rX w hT exit_ok
  have hx := exit_text
  generalize textB rX = X at *
  clear hT
  go_enter Tryz.func4, Tryz.ntmps4
  go_wp2_with fail
  refine Calls.mono HX.out ?_
  rintro e w1 ⟨rfl, hb⟩
  have HB : Hid (Below w.heap.size w w1) := hb
  clear hb HX
  go_wp2_with fail
  refine (TkA.same_any 0 _).mono ?_
  rintro e w2 ⟨rfl, hw2⟩
  subst hw2
  go_wp2
  go_ret
  exact ⟨rfl, HB.out⟩
theorem errV_same (n : Nat) : TkA.errV n = errV n := rfl
set_option maxHeartbeats 1000000 in
theorem same_40 (w : World) : Calls Tryz.prog 8 #[.iface 57 (.int .i64 4), .int .i64 0] w fun e w' => e = .returned (.bool false) ∧ w' = w := by
  have hta := TkA.assert_errno 4
  go_enter Tryz.func8, Tryz.ntmps8
  go_wp2
  go_ret
  exact ⟨rfl, rfl⟩
/-- What Text writes. -/
def txt (r : Rl) (n : Nat) : ByteArray := if n = 0 then textB r else ⟨#[]⟩
theorem text_any (r : Rl) {n : Nat} (w : World) (hT : RTab w) (hs : r.nm.size ≤ 9223372036854775807) (hn : r.flt n) :
    Calls Tryz.prog 7 #[rV r] w fun e w' => e = .returned (.tuple #[.string (txt r n), errV n]) ∧ Below w.heap.size w w' := by
  unfold txt
  by_cases h : n = 0
  · have hok := (flt_ok hn).1 h
    subst h
    exact text_yes r w hT hok
  · rw [if_neg h]
    exact text_no r w hs hn h
/-- What is read of a text. -/
def PR (s : ByteArray) (u : Rl) (k : Nat) : Prop := (Reads s u ∧ k = 0) ∨ ((¬ ∃ r, Reads s r) ∧ u = zR ∧ k = 4)
theorem pr_ex (s : ByteArray) : ∃ u k, PR s u k := by
  by_cases h : ∃ r, Reads s r
  · obtain ⟨r, hr⟩ := h
    exact ⟨r, 0, Or.inl ⟨hr, rfl⟩⟩
  · exact ⟨zR, 4, Or.inr ⟨h, rfl, rfl⟩⟩
theorem parse_pr (s : ByteArray) (w : World) {u : Rl} {k : Nat} (hT : RTab w) (hs : s.size < 4294967281) (h : PR s u k) :
    Calls Tryz.prog 11 #[.string s] w fun e w' => e = .returned (.tuple #[rV u, errV k]) ∧ Below w.heap.size w w' := by
  rcases h with ⟨h, rfl⟩ | ⟨h, rfl, rfl⟩
  · exact parse_yes s w u hT hs h
  · exact parse_no s w hT hs h
theorem rof_pr (s : ByteArray) (w : World) {u : Rl} {k : Nat} (hs : s.size ≤ 200) (h : PR s u k) :
    Calls Tryz.prog 12 #[.string s] w fun e w' => e = .returned (.tuple #[rV u, .bool (k == 0)]) ∧ Below w.heap.size w w' := by
  refine (rof_any s w hs).mono ?_
  rintro e w' ⟨ho, hb⟩
  refine ⟨?_, hb⟩
  rcases h with ⟨h, rfl⟩ | ⟨h, rfl, rfl⟩
  · rcases ho with ⟨r, hr, rfl⟩ | ⟨hno, _⟩
    · rw [reads_uniq h hr]; rfl
    · exact absurd ⟨u, h⟩ hno
  · rcases ho with ⟨r, hr, _⟩ | ⟨_, rfl⟩
    · exact absurd ⟨r, hr⟩ h
    · rfl
end Go.Proofs.YtnahkonklkcbeabGreatDoor.RuA
