/-
  Kinds of tags: what Parse and kind say of them.
-/
import Derived.Test.YtnahkonklkcbeabGreatDoorRefF
namespace Go.Proofs.YtnahkonklkcbeabGreatDoor.InA
open Go.RowKit
set_option maxRecDepth 100000

/-- The Kind; 0: it is no tag. -/
def knd (s : ByteArray) : Nat := if s.size = 8 ∧ TagA.okP (TagA.numU s.data.toList) = true then TagA.Kf (TagA.numU s.data.toList) - 47 else 0
theorem knd_nil : knd ⟨#[]⟩ = 0 := by
  unfold knd
  rw [if_neg (fun h => absurd h.1 (by decide))]
theorem okP_kf {n : Nat} (h : TagA.okP n = true) : 48 ≤ TagA.Kf n ∧ TagA.Kf n ≤ 50 := by
  unfold TagA.okP TagM.okB at h
  simp only [Bool.and_eq_true] at h
  have := TagM.btw_true.1 h.2.1.1.1.1.1
  omega
theorem knd_le (s : ByteArray) : knd s ≤ 3 := by
  unfold knd
  by_cases h : s.size = 8 ∧ TagA.okP (TagA.numU s.data.toList) = true
  · rw [if_pos h]; have := okP_kf h.2; omega
  · rw [if_neg h]; omega
theorem parse_knd (s : ByteArray) : (0 < knd s ∧ ∃ F P C R S : Int, TagA.parseV s = .tuple #[TagA.tagV (knd s : Int) F P C R S, .nilIface]) ∨ (knd s = 0 ∧ TagA.parseV s = .tuple #[TagA.noTag, .iface 57 (.int .i64 3)]) := by
  unfold knd TagA.parseV
  by_cases h : s.size = 8 ∧ TagA.okP (TagA.numU s.data.toList) = true
  · have h1 := okP_kf h.2
    rw [if_pos h, if_pos h]
    rw [show ((TagA.Kf (TagA.numU s.data.toList) - 47 : Nat) : Int) = (TagA.Kf (TagA.numU s.data.toList) : Int) - 47 by omega]
    exact Or.inl ⟨by omega, _, _, _, _, _, rfl⟩
  · rw [if_neg h, if_neg h]
    exact Or.inr ⟨rfl, rfl⟩
/-- What TagOf answers. -/
def ofV (s : ByteArray) : Value := if s.size = 8 ∧ TagA.okP (TagA.numU s.data.toList) = true then .tuple #[TagA.tagV ((TagA.Kf (TagA.numU s.data.toList) : Int) - 47) (TagA.Ff (TagA.numU s.data.toList)) (TagA.Pf (TagA.numU s.data.toList)) (TagA.Cf (TagA.numU s.data.toList) (TagA.Pf (TagA.numU s.data.toList))) (TagA.Rf (TagA.numU s.data.toList) (TagA.Pf (TagA.numU s.data.toList))) (TagA.Sf (TagA.numU s.data.toList)), .bool true] else TagA.refNo
theorem tagof_any (s : ByteArray) (w : World) (hm : s.size ≤ maxLen) :
    Calls Tryz.prog 54 #[.string s] w fun e w' => e = .returned (ofV s) ∧ Below w.heap.size w w' := by
  unfold ofV
  by_cases h8 : s.size = 8
  · refine TagA.tagof_8 s w h8 _ rfl _ ?_
    by_cases hP : TagA.okP (TagA.numU s.data.toList) = true
    · rw [if_pos ⟨h8, hP⟩, if_pos hP]
    · rw [if_neg (fun h => hP h.2), if_neg hP]
  · rw [if_neg (fun h => h8 h.1)]
    exact TagA.tagof_len s w h8 hm
theorem of_knd (s : ByteArray) : (0 < knd s ∧ ∃ F P C R S : Int, ofV s = .tuple #[TagA.tagV (knd s : Int) F P C R S, .bool true]) ∨ (knd s = 0 ∧ ofV s = TagA.refNo) := by
  unfold knd ofV
  by_cases h : s.size = 8 ∧ TagA.okP (TagA.numU s.data.toList) = true
  · have h1 := okP_kf h.2
    rw [if_pos h, if_pos h]
    rw [show ((TagA.Kf (TagA.numU s.data.toList) - 47 : Nat) : Int) = (TagA.Kf (TagA.numU s.data.toList) : Int) - 47 by omega]
    exact Or.inl ⟨by omega, _, _, _, _, _, rfl⟩
  · rw [if_neg h, if_neg h]
    exact Or.inr ⟨rfl, rfl⟩
set_option maxHeartbeats 1000000 in
theorem kind_any (s : ByteArray) (w : World) (hs : s.size ≤ 100000) :
    Calls Tryz.prog 35 #[.string s] w fun e w' => e = .returned (.int .i64 (knd s : Int)) ∧ Below w.heap.size w w' := by
  have HT : Hid (∀ w : World, Calls Tryz.prog 54 #[.string s] w fun e w' => e = .returned (ofV s) ∧ Below w.heap.size w w') := fun w => tagof_any s w (by unfold maxLen; omega)
  rcases of_knd s with ⟨_, F, P, C, R, S, hv⟩ | ⟨h0, hv⟩
  · rw [hv] at HT
    unfold TagA.tagV at HT
    generalize knd s = K at *
    clear hv
    go_enter Tryz.func35, Tryz.ntmps35
    go_wp2_with fail
    refine (HT.out _).mono ?_
    rintro e w1 ⟨rfl, hb1⟩
    have HB1 : Hid (∀ o, Below w.heap.size w (w1.alloc o)) := fun o => hb1.alloc hb1.size o
    have HB2 : Hid (Below w.heap.size w w1) := hb1
    clear hb1 HT
    go_wp2
    go_ret
    exact ⟨rfl, by first | exact HB1.out _ | exact HB2.out⟩
  · rw [hv] at HT
    unfold TagA.refNo TagA.noTag at HT
    rw [h0]
    clear hv h0
    go_enter Tryz.func35, Tryz.ntmps35
    go_wp2_with fail
    refine (HT.out _).mono ?_
    rintro e w1 ⟨rfl, hb1⟩
    have HB1 : Hid (∀ o, Below w.heap.size w (w1.alloc o)) := fun o => hb1.alloc hb1.size o
    have HB2 : Hid (Below w.heap.size w w1) := hb1
    clear hb1 HT
    go_wp2
    go_ret
    exact ⟨rfl, by first | exact HB1.out _ | exact HB2.out⟩
end Go.Proofs.YtnahkonklkcbeabGreatDoor.InA
