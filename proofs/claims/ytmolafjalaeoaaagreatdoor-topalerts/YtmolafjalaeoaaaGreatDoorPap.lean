/-
  What the document's own answer does to the world: Parts, Decimal, TagFault. · What the document's own answer does to the world: TagOf; kinds of tags. · Plain mathematics of rules: which may be, how they are written, and that what is written is read. · What between, isName and Check of package rule do to the world. · Six cells of a block. · Epochs in memory; what LightEpochs does to the world. · The document's track in memory: what is read of it; what Told does to the world. · What at and Decimal do to the world. · The document's track in memory, whole; what NewTrack, At, Where and Comes do to the world. · What the document's At, Where and Comes do to the world. · What the document's Comes does to the world. · Plain mathematics of a rule that looks back: from the last epoch down, and from the first one up.
-/
import Derived.Test.YtmolafjalaeoaaaGreatDoorPao
import Derived.Laws.BytesArg
import Derived.Lib.QuietBelow
import Derived.Sort.Walk7a
import Derived.Lib.ItoaNum
import Derived.Lib.AtoiAll
import Derived.Lib.Join
import Derived.Lib.IndexMore
import Derived.Lib.Strings
import Derived.Test.YtmolafjalaeoaaaGreatDoorProg
import Derived.WalkKit
import Derived.WalkSpells
import Derived.WalkLawsBesides
import Derived.Deep.QuietTactic
import Derived.BigQuiet
import Derived.Test.YtmolafjalaeoaaaGreatDoorPam
namespace Go.Proofs.YtmolafjalaeoaaaGreatDoor.TagA
open Go.RowKit TagM
set_option maxRecDepth 100000
def fourV (k : Nat) : Value := .agg #[.int .i64 (cbits k), .int .i64 (cdig k), .int .i64 (rbits k), .int .i64 (rdig k)]
end Go.Proofs.YtmolafjalaeoaaaGreatDoor.TagA
namespace Go.Proofs.YtmolafjalaeoaaaGreatDoor.TagA
open Go.RowKit TagM
open Go.Sort (grow)
set_option maxRecDepth 100000
/-- What TagFault answers. -/
def faultV (K F P C R S : Int) : Int := if okB K F P C R S then 0 else 1
end Go.Proofs.YtmolafjalaeoaaaGreatDoor.TagA
namespace Go.Proofs.YtmolafjalaeoaaaGreatDoor.TagA
open Go.RowKit TagM
open Go.Sort (grow)
set_option maxRecDepth 100000
end Go.Proofs.YtmolafjalaeoaaaGreatDoor.TagA
namespace Go.Proofs.YtmolafjalaeoaaaGreatDoor.TagA
open Go.RowKit TagM
set_option maxRecDepth 100000
end Go.Proofs.YtmolafjalaeoaaaGreatDoor.TagA
namespace Go.Proofs.YtmolafjalaeoaaaGreatDoor.TagA
open Go.RowKit TagM
set_option maxRecDepth 100000
def refNo : Value := .tuple #[noTag, .bool false]
end Go.Proofs.YtmolafjalaeoaaaGreatDoor.TagA
namespace Go.Proofs.YtmolafjalaeoaaaGreatDoor.InA
open Go.RowKit
set_option maxRecDepth 100000
/-- The Kind; 0: it is no tag. -/
def knd (s : ByteArray) : Nat := if s.size = 8 ∧ TagA.okP (TagA.numU s.data.toList) = true then TagA.Kf (TagA.numU s.data.toList) - 47 else 0
theorem knd_nil : knd ⟨#[]⟩ = 0 := by
  unfold knd
  rw [if_neg (fun h => absurd h.1 (by decide))]
theorem okP_kf {n : Nat} (h : TagA.okP n = true) : 48 ≤ TagA.Kf n ∧ TagA.Kf n ≤ 50 := by
  unfold TagA.okP TagM.okB at h
  simp only [Bool.and_eq_true] at h
  have := TagM.btw_true.1 h.2.1.1.1.1.1
  omega
theorem knd_le (s : ByteArray) : knd s ≤ 3 := by
  unfold knd
  by_cases h : s.size = 8 ∧ TagA.okP (TagA.numU s.data.toList) = true
  · rw [if_pos h]; have := okP_kf h.2; omega
  · rw [if_neg h]; omega
theorem parse_knd (s : ByteArray) : (0 < knd s ∧ ∃ F P C R S : Int, TagA.parseV s = .tuple #[TagA.tagV (knd s : Int) F P C R S, .nilIface]) ∨ (knd s = 0 ∧ TagA.parseV s = .tuple #[TagA.noTag, .iface 105 (.int .i64 3)]) := by
  unfold knd TagA.parseV
  by_cases h : s.size = 8 ∧ TagA.okP (TagA.numU s.data.toList) = true
  · have h1 := okP_kf h.2
    rw [if_pos h, if_pos h]
    rw [show ((TagA.Kf (TagA.numU s.data.toList) - 47 : Nat) : Int) = (TagA.Kf (TagA.numU s.data.toList) : Int) - 47 by omega]
    exact Or.inl ⟨by omega, _, _, _, _, _, rfl⟩
  · rw [if_neg h, if_neg h]
    exact Or.inr ⟨rfl, rfl⟩
/-- What TagOf answers. -/
def ofV (s : ByteArray) : Value := if s.size = 8 ∧ TagA.okP (TagA.numU s.data.toList) = true then .tuple #[TagA.tagV ((TagA.Kf (TagA.numU s.data.toList) : Int) - 47) (TagA.Ff (TagA.numU s.data.toList)) (TagA.Pf (TagA.numU s.data.toList)) (TagA.Cf (TagA.numU s.data.toList) (TagA.Pf (TagA.numU s.data.toList))) (TagA.Rf (TagA.numU s.data.toList) (TagA.Pf (TagA.numU s.data.toList))) (TagA.Sf (TagA.numU s.data.toList)), .bool true] else TagA.refNo
end Go.Proofs.YtmolafjalaeoaaaGreatDoor.InA
namespace Go.Proofs.YtmolafjalaeoaaaGreatDoor.RuM
open Go
set_option maxRecDepth 100000
def dec (n : Nat) : List UInt8 := Lib.decDigits n
def valL (a : Nat) (l : List UInt8) : Nat := l.foldl (fun a c => a * 10 + (c.toNat - 48)) a
def digs (l : List UInt8) : Prop := ∀ c ∈ l, 48 ≤ c.toNat ∧ c.toNat ≤ 57
/-- The first word, and what is behind its blank. -/
def hd (l : List UInt8) : List UInt8 := (Lib.cut l [32]).1
def tl (l : List UInt8) : List UInt8 := (Lib.cut l [32]).2.1
def btw (n lo hi : Int) : Bool := decide (lo ≤ n) && decide (n ≤ hi)
theorem btw_true {n lo hi : Int} : btw n lo hi = true ↔ lo ≤ n ∧ n ≤ hi := by simp [btw]
theorem btw_false {n lo hi : Int} : btw n lo hi = false ↔ ¬ (lo ≤ n ∧ n ≤ hi) := by rw [← btw_true]; simp
/-- A rule. -/
structure Rl where
  nm : ByteArray
  k : Int
  f : Int
  t : Int
  wo : Int
  wi : Int
def lettr (c : UInt8) : Prop := 97 ≤ c.toNat ∧ c.toNat ≤ 122
def nameOk (l : List UInt8) : Prop := 1 ≤ l.length ∧ l.length ≤ 12 ∧ ∀ c ∈ l, lettr c
def Rl.named (r : Rl) : Prop := nameOk r.nm.data.toList
def Rl.bnd (r : Rl) : Prop := (0 ≤ r.k ∧ r.k ≤ 3) ∧ (0 ≤ r.f ∧ r.f ≤ 7) ∧ (0 ≤ r.t ∧ r.t ≤ 7) ∧ (-1 ≤ r.wo ∧ r.wo ≤ 7) ∧ (1 ≤ r.wi ∧ r.wi ≤ 50)
def Rl.apart (r : Rl) : Prop := r.f ≠ r.t ∧ r.f ≠ r.wo ∧ r.t ≠ r.wo
def Rl.ok (r : Rl) : Prop := r.named ∧ r.bnd ∧ r.apart
/-- What is wrong with it, as a number. -/
def Rl.flt (r : Rl) (n : Nat) : Prop := (¬ r.named ∧ n = 4) ∨ (r.named ∧ ¬ r.bnd ∧ n = 1) ∨ (r.named ∧ r.bnd ∧ ¬ r.apart ∧ n = 3) ∨ (r.ok ∧ n = 0)
theorem flt_ok {r : Rl} {n : Nat} (h : r.flt n) : n = 0 ↔ r.ok := by
  rcases h with ⟨h1, rfl⟩ | ⟨_, h1, rfl⟩ | ⟨_, _, h1, rfl⟩ | ⟨h1, rfl⟩
  · exact ⟨fun h => by omega, fun h => absurd h.1 h1⟩
  · exact ⟨fun h => by omega, fun h => absurd h.2.1 h1⟩
  · exact ⟨fun h => by omega, fun h => absurd h.2.2 h1⟩
  · exact ⟨fun _ => h1, fun _ => rfl⟩
theorem flt_ex (r : Rl) : ∃ n, r.flt n := by
  by_cases h1 : r.named
  · by_cases h2 : r.bnd
    · by_cases h3 : r.apart
      · exact ⟨0, Or.inr (Or.inr (Or.inr ⟨⟨h1, h2, h3⟩, rfl⟩))⟩
      · exact ⟨3, Or.inr (Or.inr (Or.inl ⟨h1, h2, h3, rfl⟩))⟩
    · exact ⟨1, Or.inr (Or.inl ⟨h1, h2, rfl⟩)⟩
  · exact ⟨4, Or.inl ⟨h1, rfl⟩⟩
theorem flt_uniq {r : Rl} {n m : Nat} (h : r.flt n) (h' : r.flt m) : n = m := by
  rcases h with ⟨a, rfl⟩ | ⟨a, b, rfl⟩ | ⟨a, b, c, rfl⟩ | ⟨a, rfl⟩ <;> rcases h' with ⟨a', rfl⟩ | ⟨a', b', rfl⟩ | ⟨a', b', c', rfl⟩ | ⟨a', rfl⟩ <;> first | rfl | (exfalso; first | exact a a' | exact a' a | exact b b' | exact b' b | exact c c' | exact c' c | exact a a'.1 | exact b a'.2.1 | exact c a'.2.2 | exact a' a.1 | exact b' a.2.1 | exact c' a.2.2)
def kwL : Nat → List UInt8 | 0 => [97, 110, 121] | 1 => [105, 116, 101, 109] | 2 => [99, 97, 115, 101] | _ => [112, 97, 108, 108, 101, 116]
def thenL : List UInt8 := [116, 104, 101, 110]
def withoutL : List UInt8 := [119, 105, 116, 104, 111, 117, 116]
def withinL : List UInt8 := [119, 105, 116, 104, 105, 110]
def endW (r : Rl) : List (List UInt8) := [withinL, dec r.wi.toNat]
def tailW (r : Rl) : List (List UInt8) := if r.wo = -1 then endW r else withoutL :: dec r.wo.toNat :: endW r
def wordsR (r : Rl) : List (List UInt8) := (r.nm.data.toList ++ [58]) :: kwL r.k.toNat :: dec r.f.toNat :: thenL :: dec r.t.toNat :: tailW r
def textL (r : Rl) : List UInt8 := Lib.join (wordsR r) [32]
def textB (r : Rl) : ByteArray := ⟨(textL r).toArray⟩
def endL (r : Rl) : List UInt8 := withinL ++ 32 :: dec r.wi.toNat
def tailL (r : Rl) : List UInt8 := if r.wo = -1 then endL r else withoutL ++ 32 :: (dec r.wo.toNat ++ 32 :: endL r)
def num (x : List UInt8) : Int := match Lib.atoiAll x with
  | .ok v => v
  | .range => Lib.atoiSat x
  | _ => 0
/-- The number of a kind's word; -1: it is none. -/
def kindI (x : List UInt8) : Int := if kwL 0 = x then 0 else if kwL 1 = x then 1 else if kwL 2 = x then 2 else if kwL 3 = x then 3 else -1
def guessR (l : List UInt8) : Rl :=
  if hd (tl (tl (tl (tl (tl l))))) = withoutL then
    ⟨⟨(Lib.trimSuffix (hd l) [58]).toArray⟩, kindI (hd (tl l)), num (hd (tl (tl l))), num (hd (tl (tl (tl (tl l))))), num (hd (tl (tl (tl (tl (tl (tl l))))))), num (hd (tl (tl (tl (tl (tl (tl (tl (tl l)))))))))⟩
  else
    ⟨⟨(Lib.trimSuffix (hd l) [58]).toArray⟩, kindI (hd (tl l)), num (hd (tl (tl l))), num (hd (tl (tl (tl (tl l))))), -1, num (hd (tl (tl (tl (tl (tl (tl l)))))))⟩
/-- The rule whose text s is. -/
def Reads (s : ByteArray) (r : Rl) : Prop := r.ok ∧ textB r = s
end Go.Proofs.YtmolafjalaeoaaaGreatDoor.RuM
namespace Go.Proofs.YtmolafjalaeoaaaGreatDoor.RuA
open Go.RowKit RuM
set_option maxRecDepth 100000
set_option maxHeartbeats 400000 in
theorem between_any (n lo hi : Int) (w : World) :
    Calls Tryz.prog 101 #[.int .i64 n, .int .i64 lo, .int .i64 hi] w fun e w' => e = .returned (.bool (btw n lo hi)) ∧ w' = w := by
  by_cases h1 : lo ≤ n
  · by_cases h2 : n ≤ hi
    · have hb : btw n lo hi = true := by simp [btw, h1, h2]
      rw [hb]
      clear hb
      go_enter Tryz.func101, Tryz.ntmps101
      go_wp2
      go_ret
      exact ⟨rfl, rfl⟩
    · have hb : btw n lo hi = false := by simp [btw]; omega
      rw [hb]
      clear hb
      go_enter Tryz.func101, Tryz.ntmps101
      go_wp2
      go_ret
      exact ⟨by simp, rfl⟩
  · have hb : btw n lo hi = false := by simp [btw]; omega
    rw [hb]
    clear hb
    have h1' : decide (lo ≤ n) = false := by simpa using h1
    go_enter Tryz.func101, Tryz.ntmps101
    go_wp2
    go_ret
    exact ⟨rfl, rfl⟩
/-- The first k are letters. -/
def let_ (s : ByteArray) (k : Nat) : Prop := ∀ c ∈ s.data.toList.take k, lettr c
theorem let_snoc {s : ByteArray} {k : Nat} (hk : k < s.size) : let_ s (k + 1) ↔ let_ s k ∧ lettr s[k] := by
  unfold let_
  have hl : k < s.data.toList.length := by simpa using hk
  rw [List.take_succ_eq_append_getElem hl]
  constructor
  · intro h
    exact ⟨fun c hc => h c (List.mem_append_left _ hc), h _ (List.mem_append_right _ (by simp; rfl))⟩
  · rintro ⟨h1, h2⟩ c hc
    rcases List.mem_append.1 hc with hc | hc
    · exact h1 c hc
    · simp only [List.mem_singleton] at hc
      rw [hc]; exact h2
theorem let_all {s : ByteArray} : let_ s s.size ↔ ∀ c ∈ s.data.toList, lettr c := by
  unfold let_
  rw [List.take_of_length_le (by simp)]
theorem size_list (s : ByteArray) : s.data.toList.length = s.size := by simp
theorem let_mono {s : ByteArray} {k : Nat} (hk : k < s.size) (h : ¬ lettr s[k]) : ¬ ∀ c ∈ s.data.toList, lettr c := by
  intro hh
  refine h (hh _ ?_)
  have hl : k < s.data.toList.length := by simpa using hk
  exact List.getElem_mem hl
set_option maxHeartbeats 1000000 in
theorem isName_any (s : ByteArray) (w : World) (hs : s.size ≤ 9223372036854775807) {b : Bool} (hb : b = true ↔ nameOk s.data.toList) :
    Calls Tryz.prog 100 #[.string s] w fun e w' => e = .returned (.bool b) ∧ w' = w := by
  have HB : Hid (b = true ↔ nameOk s.data.toList) := hb
  clear hb
  by_cases h1 : btw (s.size : Int) 1 12 = true
  case neg =>
    have h1 : btw (s.size : Int) 1 12 = false := by simpa using h1
    go_enter Tryz.func100, Tryz.ntmps100
    go_wp2_with (first | (go_at_call 101; refine (between_any _ _ _ _).mono ?_; rintro e w' ⟨rfl, rfl⟩; rw [h1]))
    go_ret
    have h3 := btw_false.1 h1
    have h4 : ¬ nameOk s.data.toList := by
      unfold nameOk
      rw [size_list]
      omega
    have h5 : b = false := by rw [← Bool.not_eq_true, HB.out]; exact h4
    rw [h5]
    exact ⟨rfl, rfl⟩
  have h2 := btw_true.1 h1
  have hs12 : s.size ≤ 12 := by omega
  have hs1 : 1 ≤ s.size := by omega
  go_enter Tryz.func100, Tryz.ntmps100
  go_wp2_with (first | (go_at_call 101; refine (between_any _ _ _ _).mono ?_; rintro e w' ⟨rfl, rfl⟩; rw [h1]))
  go_loop [3, 10] (fun _ i => ∃ k : Nat, k ≤ s.size ∧ i = .int .i64 k ∧ let_ s k) (fun _ i => s.size - (intOf i).toNat)
  case atStart => exact ⟨0, Nat.zero_le _, rfl, fun c hc => by simp at hc⟩
  case round =>
    obtain ⟨k, hk, rfl, hlet⟩ := hrel
    have HL : Hid (let_ s k) := hlet
    clear hlet
    by_cases hlt : k < s.size
    case neg =>
      obtain rfl : k = s.size := by omega
      go_wp2
      go_ret
      have h5 : b = true := HB.out.2 (by
        unfold nameOk
        rw [size_list]
        exact ⟨hs1, hs12, let_all.1 HL.out⟩)
      rw [h5]
      exact ⟨rfl, rfl⟩
    case pos =>
      have hkI : (k : Int) < s.size := by omega
      have hb := s[k].toNat_lt
      by_cases c1 : s[k].toNat < 97
      · have c1I : (s[k].toNat : Int) < 97 := by omega
        have c1D : decide ((s[k].toNat : Int) < 97) = true := by simpa using c1I
        have HX : Hid (¬ ∀ c ∈ s.data.toList, lettr c) := let_mono hlt (fun h => by unfold lettr at h; omega)
        go_wp2
        go_ret
        have h5 : b = false := by rw [← Bool.not_eq_true, HB.out]; exact fun h => HX.out h.2.2
        rw [h5]
        exact ⟨rfl, rfl⟩
      have c1I : ¬ (s[k].toNat : Int) < 97 := by omega
      have c1D : decide ((s[k].toNat : Int) < 97) = false := by simpa using c1I
      by_cases c2 : 122 < s[k].toNat
      · have c2I : 122 < (s[k].toNat : Int) := by omega
        have c2D : decide (122 < (s[k].toNat : Int)) = true := by simpa using c2I
        have HX : Hid (¬ ∀ c ∈ s.data.toList, lettr c) := let_mono hlt (fun h => by unfold lettr at h; omega)
        go_wp2
        go_ret
        have h5 : b = false := by rw [← Bool.not_eq_true, HB.out]; exact fun h => HX.out h.2.2
        rw [h5]
        exact ⟨rfl, rfl⟩
      have c2I : ¬ 122 < (s[k].toNat : Int) := by omega
      have c2D : decide (122 < (s[k].toNat : Int)) = false := by simpa using c2I
      have HL2 : Hid (let_ s (k + 1)) := (let_snoc hlt).2 ⟨HL.out, by unfold lettr; omega⟩
      go_wp2
      go_round
      case rel => exact ⟨k + 1, by omega, by go_num, HL2.out⟩
      case measure => simp [intOf]; omega
/-- A rule as it is handed on. -/
def rV (r : Rl) : Value := .agg #[.string r.nm, .int .i64 r.k, .int .i64 r.f, .int .i64 r.t, .int .i64 r.wo, .int .i64 r.wi]
def errV (n : Nat) : Value := if n = 0 then .nilIface else .iface 105 (.int .i64 (n : Int))
theorem bnd_iff (r : Rl) : r.bnd ↔ btw r.k 0 3 = true ∧ btw r.f 0 7 = true ∧ btw r.t 0 7 = true ∧ btw r.wo (-1) 7 = true ∧ btw r.wi 1 50 = true := by
  simp only [btw_true]; exact Iff.rfl
set_option maxHeartbeats 8000000 in
theorem check_any (r : Rl) (w : World) (hs : r.nm.size ≤ 9223372036854775807) {n : Nat} (hn : r.flt n) :
    Calls Tryz.prog 71 #[rV r] w fun e w' => e = .returned (errV n) ∧ Below w.heap.size w w' := by
  have hbnd := bnd_iff r
  obtain ⟨nm, K, F, T, O, I⟩ := r
  simp only at hs hbnd
  unfold rV
  simp only
  have HN : Hid (∀ V (b : Bool), (b = true ↔ nameOk nm.data.toList) → Calls Tryz.prog 100 #[.string nm] V fun e w' => e = .returned (.bool b) ∧ w' = V) := fun V b hb => isName_any nm V hs hb
  by_cases hnm : nameOk nm.data.toList
  case neg =>
    have hn4 : n = 4 := flt_uniq hn (Or.inl ⟨hnm, rfl⟩)
    subst hn4
    have HN1 : Hid (∀ V, Calls Tryz.prog 100 #[.string nm] V fun e w' => e = .returned (.bool false) ∧ w' = V) := fun V => HN.out V false ⟨fun h => Bool.noConfusion h, fun h => absurd h hnm⟩
    clear hn hbnd HN hnm
    go_enter Tryz.func71, Tryz.ntmps71
    go_wp2_with (first | (go_at_call 100; refine (HN1.out _).mono ?_; rintro e w' ⟨rfl, rfl⟩))
    go_ret
    exact ⟨rfl, (Below.refl _ _).alloc (Nat.le_refl _) _⟩
  have HN1 : Hid (∀ V, Calls Tryz.prog 100 #[.string nm] V fun e w' => e = .returned (.bool true) ∧ w' = V) := fun V => HN.out V true ⟨fun _ => hnm, fun _ => rfl⟩
  have HF1 : Hid (¬ (Rl.mk nm K F T O I).bnd → n = 1) := fun h => flt_uniq hn (Or.inr (Or.inl ⟨hnm, h, rfl⟩))
  have HF3 : Hid ((Rl.mk nm K F T O I).bnd → ¬ (F ≠ T ∧ F ≠ O ∧ T ≠ O) → n = 3) := fun h h' => flt_uniq hn (Or.inr (Or.inr (Or.inl ⟨hnm, h, h', rfl⟩)))
  have HF0 : Hid ((Rl.mk nm K F T O I).bnd → (F ≠ T ∧ F ≠ O ∧ T ≠ O) → n = 0) := fun h h' => flt_uniq hn (Or.inr (Or.inr (Or.inr ⟨⟨hnm, h, h'⟩, rfl⟩)))
  clear hn HN hnm
  by_cases h0 : btw K 0 3 = true
  case neg =>
    have hn1 : n = 1 := HF1.out (fun h => h0 (hbnd.1 h).1)
    subst hn1
    have h0 : btw K 0 3 = false := by simpa using h0
    clear HF1 HF3 HF0 hbnd
    go_enter Tryz.func71, Tryz.ntmps71
    go_wp2_with (first | (go_at_call 100; refine (HN1.out _).mono ?_; rintro e w' ⟨rfl, rfl⟩) | (go_at_call 101; refine (between_any _ _ _ _).mono ?_; rintro e w' ⟨rfl, rfl⟩))
    go_ret
    exact ⟨rfl, (Below.refl _ _).alloc (Nat.le_refl _) _⟩
  by_cases h1 : btw F 0 7 = true
  case neg =>
    have hn1 : n = 1 := HF1.out (fun h => h1 (hbnd.1 h).2.1)
    subst hn1
    have h1 : btw F 0 7 = false := by simpa using h1
    clear HF1 HF3 HF0 hbnd
    go_enter Tryz.func71, Tryz.ntmps71
    go_wp2_with (first | (go_at_call 100; refine (HN1.out _).mono ?_; rintro e w' ⟨rfl, rfl⟩) | (go_at_call 101; refine (between_any _ _ _ _).mono ?_; rintro e w' ⟨rfl, rfl⟩))
    go_ret
    exact ⟨rfl, (Below.refl _ _).alloc (Nat.le_refl _) _⟩
  by_cases h2 : btw T 0 7 = true
  case neg =>
    have hn1 : n = 1 := HF1.out (fun h => h2 (hbnd.1 h).2.2.1)
    subst hn1
    have h2 : btw T 0 7 = false := by simpa using h2
    clear HF1 HF3 HF0 hbnd
    go_enter Tryz.func71, Tryz.ntmps71
    go_wp2_with (first | (go_at_call 100; refine (HN1.out _).mono ?_; rintro e w' ⟨rfl, rfl⟩) | (go_at_call 101; refine (between_any _ _ _ _).mono ?_; rintro e w' ⟨rfl, rfl⟩))
    go_ret
    exact ⟨rfl, (Below.refl _ _).alloc (Nat.le_refl _) _⟩
  by_cases h3 : btw O (-1) 7 = true
  case neg =>
    have hn1 : n = 1 := HF1.out (fun h => h3 (hbnd.1 h).2.2.2.1)
    subst hn1
    have h3 : btw O (-1) 7 = false := by simpa using h3
    clear HF1 HF3 HF0 hbnd
    go_enter Tryz.func71, Tryz.ntmps71
    go_wp2_with (first | (go_at_call 100; refine (HN1.out _).mono ?_; rintro e w' ⟨rfl, rfl⟩) | (go_at_call 101; refine (between_any _ _ _ _).mono ?_; rintro e w' ⟨rfl, rfl⟩))
    go_ret
    exact ⟨rfl, (Below.refl _ _).alloc (Nat.le_refl _) _⟩
  by_cases h4 : btw I 1 50 = true
  case neg =>
    have hn1 : n = 1 := HF1.out (fun h => h4 (hbnd.1 h).2.2.2.2)
    subst hn1
    have h4 : btw I 1 50 = false := by simpa using h4
    clear HF1 HF3 HF0 hbnd
    go_enter Tryz.func71, Tryz.ntmps71
    go_wp2_with (first | (go_at_call 100; refine (HN1.out _).mono ?_; rintro e w' ⟨rfl, rfl⟩) | (go_at_call 101; refine (between_any _ _ _ _).mono ?_; rintro e w' ⟨rfl, rfl⟩))
    go_ret
    exact ⟨rfl, (Below.refl _ _).alloc (Nat.le_refl _) _⟩
  have hB := hbnd.2 ⟨h0, h1, h2, h3, h4⟩
  have HG3 : Hid (¬ (F ≠ T ∧ F ≠ O ∧ T ≠ O) → n = 3) := HF3.out hB
  have HG0 : Hid ((F ≠ T ∧ F ≠ O ∧ T ≠ O) → n = 0) := HF0.out hB
  clear hB HF1 HF3 HF0 hbnd
  by_cases e0 : F = T
  case pos =>
    have hn3 : n = 3 := HG3.out (fun h => absurd e0 h.1)
    subst hn3
    have e0' : (F == T) = true := by simpa using e0
    clear HG3 HG0 e0
    go_enter Tryz.func71, Tryz.ntmps71
    go_wp2_with (first | (go_at_call 100; refine (HN1.out _).mono ?_; rintro e w' ⟨rfl, rfl⟩) | (go_at_call 101; refine (between_any _ _ _ _).mono ?_; rintro e w' ⟨rfl, rfl⟩))
    go_ret
    exact ⟨rfl, (Below.refl _ _).alloc (Nat.le_refl _) _⟩
  have e0' : (F == T) = false := by simpa using e0
  by_cases e1 : F = O
  case pos =>
    have hn3 : n = 3 := HG3.out (fun h => absurd e1 h.2.1)
    subst hn3
    have e1' : (F == O) = true := by simpa using e1
    clear HG3 HG0 e1
    go_enter Tryz.func71, Tryz.ntmps71
    go_wp2_with (first | (go_at_call 100; refine (HN1.out _).mono ?_; rintro e w' ⟨rfl, rfl⟩) | (go_at_call 101; refine (between_any _ _ _ _).mono ?_; rintro e w' ⟨rfl, rfl⟩))
    go_ret
    exact ⟨rfl, (Below.refl _ _).alloc (Nat.le_refl _) _⟩
  have e1' : (F == O) = false := by simpa using e1
  by_cases e2 : T = O
  case pos =>
    have hn3 : n = 3 := HG3.out (fun h => absurd e2 h.2.2)
    subst hn3
    have e2' : (T == O) = true := by simpa using e2
    clear HG3 HG0 e2
    go_enter Tryz.func71, Tryz.ntmps71
    go_wp2_with (first | (go_at_call 100; refine (HN1.out _).mono ?_; rintro e w' ⟨rfl, rfl⟩) | (go_at_call 101; refine (between_any _ _ _ _).mono ?_; rintro e w' ⟨rfl, rfl⟩))
    go_ret
    exact ⟨rfl, (Below.refl _ _).alloc (Nat.le_refl _) _⟩
  have e2' : (T == O) = false := by simpa using e2
  have hn0 : n = 0 := HG0.out ⟨e0, e1, e2⟩
  subst hn0
  clear HG3 HG0
  go_enter Tryz.func71, Tryz.ntmps71
  go_wp2_with (first | (go_at_call 100; refine (HN1.out _).mono ?_; rintro e w' ⟨rfl, rfl⟩) | (go_at_call 101; refine (between_any _ _ _ _).mono ?_; rintro e w' ⟨rfl, rfl⟩))
  go_ret
  exact ⟨rfl, (Below.refl _ _).alloc (Nat.le_refl _) _⟩
end Go.Proofs.YtmolafjalaeoaaaGreatDoor.RuA
namespace Go.Proofs.YtmolafjalaeoaaaGreatDoor.RuA
open Go.RowKit RuM
set_option maxRecDepth 100000
/-- Six cells of a rule at r. -/
structure Cells6 (V : World) (r : Nat) (a b c d e f : Value) : Prop where
  c0 : V.cell? ⟨r, 0, none⟩ = some a
  c1 : V.cell? ⟨r, 1, none⟩ = some b
  c2 : V.cell? ⟨r, 2, none⟩ = some c
  c3 : V.cell? ⟨r, 3, none⟩ = some d
  c4 : V.cell? ⟨r, 4, none⟩ = some e
  c5 : V.cell? ⟨r, 5, none⟩ = some f
  fz : ∀ i : Nat, V.frozen? ⟨r, i, none⟩ = false
  lt : r < V.heap.size
theorem froz_block {V V' : World} {r : Nat} (h : V'.heap[r]? = V.heap[r]?) (i : Nat) : V'.frozen? ⟨r, i, none⟩ = V.frozen? ⟨r, i, none⟩ := by
  unfold World.frozen?
  simp only [h]
theorem Cells6.move {V V' : World} {r : Nat} {a b c d e f : Value} (h : Cells6 V r a b c d e f) (hb : V'.heap[r]? = V.heap[r]?) (hs : V.heap.size ≤ V'.heap.size) : Cells6 V' r a b c d e f where
  c0 := by rw [World.cell?_of_block hb]; exact h.c0
  c1 := by rw [World.cell?_of_block hb]; exact h.c1
  c2 := by rw [World.cell?_of_block hb]; exact h.c2
  c3 := by rw [World.cell?_of_block hb]; exact h.c3
  c4 := by rw [World.cell?_of_block hb]; exact h.c4
  c5 := by rw [World.cell?_of_block hb]; exact h.c5
  fz := fun i => by rw [froz_block hb]; exact h.fz i
  lt := Nat.lt_of_lt_of_le h.lt hs
end Go.Proofs.YtmolafjalaeoaaaGreatDoor.RuA
namespace Go.Proofs.YtmolafjalaeoaaaGreatDoor.TkA
open Go.RowKit TkM TkW Go.Maps
set_option maxRecDepth 100000
/-- A list of epochs, wherever it lies. -/
structure EsOn (w : World) (a : Option Addr) (E : List (List Sg)) : Prop where
  at_ : E ≠ [] → ∃ b o, a = some ⟨b, o, none⟩ ∧ b < w.heap.size ∧ ∀ k l, E[k]? = some l → ∃ p cap, w.cell? ⟨b, o + k, none⟩ = some (.slice p l.length cap) ∧ SgsOn w p l
def goodL (l : List Sg) : Bool := decide (l.length ≤ 6000) && l.all (fun x => decide (x.g.size ≤ 20))
def light (E : List (List Sg)) : Bool := decide (E.length ≤ 100) && E.all goodL
end Go.Proofs.YtmolafjalaeoaaaGreatDoor.TkA
namespace Go.Proofs.YtmolafjalaeoaaaGreatDoor.TkA
open Go.RowKit TkM TkW Go.Maps
set_option maxRecDepth 100000
theorem sbeq_iff (a b : ByteArray) : (a.toList == b.toList) = true ↔ a = b := by
  rw [beq_iff_eq, ByteArray.toList_eq, ByteArray.toList_eq]
  exact ⟨fun h => bytes_ext h, fun h => by rw [h]⟩
theorem sbeq_true {a b : ByteArray} (h : a = b) : (a.toList == b.toList) = true := (sbeq_iff a b).2 h
theorem sbeq_false {a b : ByteArray} (h : ¬ a = b) : (a.toList == b.toList) = false := by
  cases h' : (a.toList == b.toList)
  · rfl
  · exact absurd ((sbeq_iff a b).1 h') h
/-- The document's track, as it is read. -/
structure RfV (w : World) (rb : Nat) (W need : Nat) (p : Option Addr) (cap : Nat) (E : List (List Sg)) : Prop where
  c0 : w.cell? ⟨rb, 0, none⟩ = some (.int .i64 (W : Int))
  c1 : w.cell? ⟨rb, 1, none⟩ = some (.int .i64 (need : Int))
  c2 : w.cell? ⟨rb, 2, none⟩ = some (.slice p E.length cap)
  on : EsOn w p E
  lt : rb < w.heap.size
  good : light E = true
  ok : ∀ l, l ∈ E → l.all okS = true
section
variable {w : World} {rb W need : Nat} {p : Option Addr} {cap : Nat} {E : List (List Sg)}
end
end Go.Proofs.YtmolafjalaeoaaaGreatDoor.TkA
namespace Go.Proofs.YtmolafjalaeoaaaGreatDoor.TkA
open Go.RowKit TkM TkW Go.Maps
set_option maxRecDepth 100000
def dn (k : Nat) (r : Nat) : Prop := k ≤ r ∧ r < 8
/-- A number below a hundred, in digits. -/
def dec2 (e : Nat) : List UInt8 := if e < 10 then [UInt8.ofNat (48 + e)] else [UInt8.ofNat (48 + e / 10), UInt8.ofNat (48 + e % 10)]
section
variable {w : World} {rb W need : Nat} {p : Option Addr} {cap : Nat} {E : List (List Sg)}
end
end Go.Proofs.YtmolafjalaeoaaaGreatDoor.TkA
namespace Go.Proofs.YtmolafjalaeoaaaGreatDoor.TkA
open Go.RowKit TkM TkW Go.Maps
set_option maxRecDepth 100000
/-- What is looked up. -/
def keyL (g : ByteArray) (e : Nat) : List UInt8 := g.data.toList ++ ([64] ++ dec2 e)
def un2 : List UInt8 → Nat
  | [a] => a.toNat - 48
  | [a, b] => (a.toNat - 48) * 10 + (b.toNat - 48)
  | _ => 0
def slv (l : List Sg) (pc : Option Addr × Nat) : Value := .slice pc.1 l.length pc.2
structure RfIn (w : World) (rb fb m : Nat) (v : Value) (Df : DataW Value) (ps : List (Option Addr × Nat)) (F : Nat → Prop) (W need q : Nat) (E : List (List Sg)) : Prop where
  cells : w.heap[rb]? = some (.cells #[.int .i64 (W : Int), .int .i64 (need : Int), v, .map (some fb)] 55)
  plen : ps.length = E.length
  own : w.ownsRow 0 123 1 v E.length (List.zipWith slv E ps)
  rows : ∀ (k : Nat) (l : List Sg) (pc : Option Addr × Nat), E[k]? = some l → ps[k]? = some pc → SgsOn w pc.1 l ∧ (l ≠ [] → ∃ b o, pc.1 = some ⟨b, o, none⟩ ∧ F b ∧ v.ownBlock ≠ some b ∧ b ≠ rb)
  map : w.ownsMap Tryz.prog 9 (plainElem Tryz.prog 3) fb m Df
  room : m ≤ q
  memo : ∀ (g : ByteArray) (e : Nat), e < E.length → (∀ zd : DataW Value, Df.atKey (.string (keyL g e)) zd = zd) ∨ (∀ zd : DataW Value, Df.atKey (.string (keyL g e)) zd = .lit (.int .i64 (whr g (epOf E) W need e)))
  fd : F rb
  fm : F fb
  fv : ∀ b, v.ownBlock = some b → F b
  lim : ∀ b, F b → b < w.heap.size
  good : light E = true
  ok : ∀ l, l ∈ E → l.all okS = true
structure RfAt (w : World) (rb : Nat) (F : Nat → Prop) (W need q : Nat) (E : List (List Sg)) : Prop where
  out : ∃ (fb m : Nat) (v : Value) (Df : DataW Value) (ps : List (Option Addr × Nat)), RfIn w rb fb m v Df ps F W need q E
section
variable {w : World} {rb fb m : Nat} {v : Value} {Df : DataW Value} {ps : List (Option Addr × Nat)} {F : Nat → Prop} {W need q : Nat} {E : List (List Sg)}
end
end Go.Proofs.YtmolafjalaeoaaaGreatDoor.TkA
namespace Go.Proofs.YtmolafjalaeoaaaGreatDoor.TkA
open Go.RowKit TkM TkW Go.Maps
set_option maxRecDepth 100000
theorem zero3 (w : World) : (zeroValue 3).run Tryz.prog w = .ok (.int .i64 0) w := by kernel_rfl
section
variable {w : World} {rb : Nat} {F : Nat → Prop} {W need q : Nat} {E : List (List Sg)}
end
end Go.Proofs.YtmolafjalaeoaaaGreatDoor.TkA
namespace Go.Proofs.YtmolafjalaeoaaaGreatDoor.TkA
open Go.RowKit TkM TkW Go.Maps
set_option maxRecDepth 100000
theorem isA_true {n : Nat} {t : Bool} {p e v : Int} (h : isA n t p e v = true) : (0 ≤ e ∧ e < (n : Int)) ∧ t = true ∧ 0 ≤ p ∧ v = p := by
  unfold isA wv at h
  simp only [Bool.and_eq_true, decide_eq_true_eq] at h
  obtain ⟨⟨h1, h2⟩, h3⟩ := h
  by_cases he : 0 ≤ e ∧ e < (n : Int)
  · simp only [if_pos he] at h1 h3
    cases t with
    | false => simp at h1
    | true => simp at h3; exact ⟨he, rfl, h2, h3⟩
  · simp only [if_neg he] at h1
    cases h1
theorem isA_mk {n : Nat} {p e v : Int} (he : 0 ≤ e ∧ e < (n : Int)) (hp : 0 ≤ p) : isA n true p e v = decide (v = p) := by
  unfold isA wv
  simp [he, hp]
theorem isA_out {n : Nat} {t : Bool} {p e v : Int} (he : ¬ (0 ≤ e ∧ e < (n : Int))) : isA n t p e v = false := by
  unfold isA wv
  rw [if_neg he]
  simp
section
variable {w : World} {rb : Nat} {F : Nat → Prop} {W need q : Nat} {E : List (List Sg)}
end
end Go.Proofs.YtmolafjalaeoaaaGreatDoor.TkA
namespace Go.Proofs.YtmolafjalaeoaaaGreatDoor.RuN
/-- There is an epoch ahead in which it came, and in none between was it where it may not be. -/
def Back (c ws : Int → Bool) (lo hi : Int) : Prop := ∃ e, lo ≤ e ∧ e < hi ∧ c e = true ∧ ∀ x, e < x → x < hi → ws x = false
/-- Down to e: nothing so far. -/
def Down (c ws : Int → Bool) (hi e : Int) : Prop := ∀ x, e < x → x < hi → c x = false ∧ ws x = false
theorem down_start (c ws : Int → Bool) (hi : Int) : Down c ws hi (hi - 1) := fun x h1 h2 => by omega
theorem down_step {c ws : Int → Bool} {hi e : Int} (h : Down c ws hi e) (hc : c e = false) (hw : ws e = false) : Down c ws hi (e - 1) := fun x h1 h2 => by
  by_cases hx : x = e
  · subst hx; exact ⟨hc, hw⟩
  · exact h x (by omega) h2
theorem down_yes {c ws : Int → Bool} {lo hi e : Int} (h : Down c ws hi e) (h1 : lo ≤ e) (h2 : e < hi) (hc : c e = true) : Back c ws lo hi := ⟨e, h1, h2, hc, fun x a b => (h x a b).2⟩
theorem down_no {c ws : Int → Bool} {lo hi e : Int} (h : Down c ws hi e) (he : e < hi) (hc : c e = false) (hw : ws e = true) : ¬ Back c ws lo hi := by
  rintro ⟨y, h1, h2, h3, h4⟩
  by_cases hy : y = e
  · subst hy; rw [hc] at h3; cases h3
  · by_cases hy2 : y < e
    · have := h4 e hy2 he
      rw [hw] at this; cases this
    · have := (h y (by omega) h2).1
      rw [h3] at this; cases this
theorem down_end {c ws : Int → Bool} {lo hi e : Int} (h : Down c ws hi e) (he : e < lo) : ¬ Back c ws lo hi := by
  rintro ⟨y, h1, h2, h3, _⟩
  have := (h y (by omega) h2).1
  rw [h3] at this; cases this
/-- Up to e: none so far. -/
def Up (c ws : Int → Bool) (lo hi e : Int) : Prop := ∀ y, lo ≤ y → y < e → ¬ (c y = true ∧ ∀ x, y < x → x < hi → ws x = false)
theorem up_start (c ws : Int → Bool) (lo hi : Int) : Up c ws lo hi lo := fun y h1 h2 => by omega
theorem up_step {c ws : Int → Bool} {lo hi e : Int} (h : Up c ws lo hi e) (hn : ¬ (c e = true ∧ ∀ x, e < x → x < hi → ws x = false)) : Up c ws lo hi (e + 1) := fun y h1 h2 => by
  by_cases hy : y = e
  · subst hy; exact hn
  · exact h y h1 (by omega)
theorem up_end {c ws : Int → Bool} {lo hi e : Int} (h : Up c ws lo hi e) (he : hi ≤ e) : ¬ Back c ws lo hi := by
  rintro ⟨y, h1, h2, h3, h4⟩
  exact h y h1 (by omega) ⟨h3, h4⟩
end Go.Proofs.YtmolafjalaeoaaaGreatDoor.RuN
