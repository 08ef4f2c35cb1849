/-
  What isOfKind and wasAt do to the world.
-/
import Derived.Test.YtnahkonklkcbeabGreatDoorInZ
import Derived.Test.YtnahkonklkcbeabGreatDoorRuG
import Derived.Test.YtnahkonklkcbeabGreatDoorTkP
import Derived.Test.YtnahkonklkcbeabGreatDoorRuN
namespace Go.Proofs.YtnahkonklkcbeabGreatDoor.HlA
open Go.RowKit
set_option maxRecDepth 100000

/-- Is it a tag of that Kind? -/
def ofK (s : ByteArray) (k : Int) : Bool := decide (0 < InA.knd s) && (k == 0 || (InA.knd s : Int) == k)
set_option maxHeartbeats 1000000 in
theorem isOfKind_any (s : ByteArray) (k : Int) (w : World) (hT : TagA.Tabs w) (hs : s.size ≤ 100000) :
    Calls Tryz.prog 32 #[.string s, .int .i64 k] w fun e w' => e = .returned (.bool (ofK s k)) ∧ Below w.heap.size w w' := by
  have HP : Hid (Calls Tryz.prog 51 #[.string s] w fun e w' => e = .returned (TagA.parseV s) ∧ Below w.heap.size w w') := TagA.parse_any s w hT (by unfold maxLen; omega)
  unfold ofK
  rcases InA.parse_knd s with ⟨h0, F, P, C, R, S, hv⟩ | ⟨h0, hv⟩
  · rw [hv] at HP
    have hd : decide (0 < InA.knd s) = true := by simpa using h0
    rw [hd]
    unfold TagA.tagV at HP
    generalize InA.knd s = n at *
    clear hv hd
    simp only [Bool.true_and]
    by_cases hk : k = 0
    · subst hk
      simp only [beq_self_eq_true, Bool.true_or]
      go_enter Tryz.func32, Tryz.ntmps32
      go_wp2_with fail
      refine Calls.mono HP.out ?_
      rintro e w1 ⟨rfl, hb⟩
      have HB : Hid (∀ o, Below w.heap.size w (w1.alloc o)) := fun o => hb.alloc hb.size o
      clear hb
      go_wp2
      go_ret
      exact ⟨rfl, HB.out _⟩
    · have hk' : (k == 0) = false := by simpa using hk
      rw [hk']
      simp only [Bool.false_or]
      go_enter Tryz.func32, Tryz.ntmps32
      go_wp2_with fail
      refine Calls.mono HP.out ?_
      rintro e w1 ⟨rfl, hb⟩
      have HB : Hid (∀ o, Below w.heap.size w (w1.alloc o)) := fun o => hb.alloc hb.size o
      clear hb
      go_wp2
      go_ret
      exact ⟨rfl, HB.out _⟩
  · rw [hv] at HP
    unfold TagA.noTag at HP
    rw [h0]
    clear hv h0
    simp only [Nat.lt_irrefl, decide_false, Bool.false_and]
    go_enter Tryz.func32, Tryz.ntmps32
    go_wp2_with fail
    refine Calls.mono HP.out ?_
    rintro e w1 ⟨rfl, hb⟩
    have HB : Hid (∀ o, Below w.heap.size w (w1.alloc o)) := fun o => hb.alloc hb.size o
    clear hb
    go_wp2
    go_ret
    exact ⟨rfl, HB.out _⟩
section
open TkM TkW TkA
variable {w : World} {tb : Nat} {who : Nat → Nat × ByteArray × Nat} {W need n r : Nat} {ep : Nat → List Sg}
/-- Was it there? -/
def wasB (n : Nat) (t : Bool) (p e v : Int) : Bool := decide ((wv n t e v).2 = 0) && (p != -1) && ((wv n t e v).1 == p)
set_option maxHeartbeats 1000000 in
theorem wasAt_any (g : ByteArray) (p e : Int) {t : Bool} (d : TrAt w tb who W need n r ep) (hW : W ≤ 8) (hn : n ≤ 1000) (hg : g.size ≤ 100000) (ht : t = true ↔ ∃ e, seenG g (ep e) = true) :
    Calls Tryz.prog 34 #[.pointer (some ⟨tb, 0, none⟩), .string g, .int .i64 p, .int .i64 e] w fun x w' => x = .returned (.bool (wasB n t p e (whr g ep W need e.toNat))) ∧ Below w.heap.size w w' := by
  have HC : Hid (Calls Tryz.prog 53 #[.pointer (some ⟨tb, 0, none⟩), .string g, .int .i64 e] w fun x w' => x = .returned (.tuple #[.int .i64 (wv n t e (whr g ep W need e.toNat)).1, errV (wv n t e (whr g ep W need e.toNat)).2]) ∧ Below w.heap.size w w') := where_any g e d hW hn hg ht
  clear d ht
  unfold wasB
  generalize wv n t e (whr g ep W need e.toNat) = a at *
  obtain ⟨q, k⟩ := a
  simp only at *
  by_cases hk : k = 0
  · subst hk
    rw [show errV 0 = .nilIface from rfl] at HC
    by_cases hp : p = -1
    · subst hp
      simp only [decide_true, bne_self_eq_false, Bool.and_false, Bool.false_and]
      go_enter Tryz.func34, Tryz.ntmps34
      go_wp2_with fail
      refine Calls.mono HC.out ?_
      rintro x w1 ⟨rfl, hb1⟩
      have HB1 : Hid (Below w.heap.size w w1) := hb1
      clear hb1
      go_wp2
      go_ret
      exact ⟨rfl, HB1.out⟩
    · have hp' : (p != -1) = true := by simpa using hp
      rw [hp']
      simp only [decide_true, Bool.true_and]
      go_enter Tryz.func34, Tryz.ntmps34
      go_wp2_with fail
      refine Calls.mono HC.out ?_
      rintro x w1 ⟨rfl, hb1⟩
      have HB1 : Hid (Below w.heap.size w w1) := hb1
      clear hb1
      go_wp2
      go_ret
      exact ⟨rfl, HB1.out⟩
  · rw [errV_pos hk] at HC
    have hk' : decide (k = 0) = false := by simpa using hk
    rw [hk']
    simp only [Bool.false_and]
    clear hk'
    go_enter Tryz.func34, Tryz.ntmps34
    go_wp2_with fail
    refine Calls.mono HC.out ?_
    rintro x w1 ⟨rfl, hb1⟩
    have HB1 : Hid (Below w.heap.size w w1) := hb1
    clear hb1
    go_wp2
    go_ret
    exact ⟨rfl, HB1.out⟩
end
end Go.Proofs.YtnahkonklkcbeabGreatDoor.HlA
