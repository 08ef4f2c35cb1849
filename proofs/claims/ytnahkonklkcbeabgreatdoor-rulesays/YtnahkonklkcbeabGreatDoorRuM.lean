/-
  Plain mathematics of rules: which may be, how they are written, and that what is written is read.
-/
import Derived.Lib.ItoaNum
import Derived.Lib.AtoiAll
import Derived.Lib.Join
import Derived.Lib.IndexMore
import Derived.Lib.Strings
namespace Go.Proofs.YtnahkonklkcbeabGreatDoor.RuM
open Go
set_option maxRecDepth 100000

/- numerals -/
def dec (n : Nat) : List UInt8 := Lib.decDigits n
def valL (a : Nat) (l : List UInt8) : Nat := l.foldl (fun a c => a * 10 + (c.toNat - 48)) a
def digs (l : List UInt8) : Prop := ∀ c ∈ l, 48 ≤ c.toNat ∧ c.toNat ≤ 57
theorem valL_ge : ∀ (l : List UInt8) (a : Nat), a ≤ valL a l
  | [], a => Nat.le_refl _
  | c :: l, a => by
    have := valL_ge l (a * 10 + (c.toNat - 48))
    show a ≤ valL (a * 10 + (c.toNat - 48)) l
    omega
theorem parse_val : ∀ (l : List UInt8) (a : Nat), digs l → valL a l < 1000000000000000000 → Lib.parseUint10 a l = .ok (valL a l)
  | [], a, _, _ => rfl
  | c :: l, a, hd, hv => by
    have h1 := hd c (by simp)
    have h2 : valL (a * 10 + (c.toNat - 48)) l < 1000000000000000000 := hv
    have h3 := valL_ge l (a * 10 + (c.toNat - 48))
    rw [Lib.parseUint10, if_pos h1, if_neg (by omega), if_neg (by omega)]
    exact parse_val l _ (fun x hx => hd x (by simp [hx])) h2
theorem digit_toNat {i : Nat} (h : i < 10) : (UInt8.ofNat (48 + i)).toNat = 48 + i := by
  rw [UInt8.toNat_ofNat']; omega
theorem dec_digs (n : Nat) : digs (dec n) := by
  induction n using Nat.strongRecOn with
  | ind n ih =>
    unfold dec at *
    rw [Lib.decDigits]
    by_cases h : n < 10
    · rw [dif_pos h]
      intro c hc
      simp only [List.mem_singleton] at hc
      subst hc
      rw [digit_toNat h]; omega
    · rw [dif_neg h]
      intro c hc
      rcases List.mem_append.1 hc with hc | hc
      · exact ih (n / 10) (by omega) c hc
      · simp only [List.mem_singleton] at hc
        subst hc
        rw [digit_toNat (by omega)]; omega
theorem dec_val (n : Nat) : valL 0 (dec n) = n := by
  induction n using Nat.strongRecOn with
  | ind n ih =>
    unfold dec at *
    rw [Lib.decDigits]
    by_cases h : n < 10
    · rw [dif_pos h]
      simp only [valL, List.foldl_cons, List.foldl_nil, digit_toNat h]
      omega
    · rw [dif_neg h]
      have := ih (n / 10) (by omega)
      unfold valL at this ⊢
      rw [List.foldl_append, this]
      simp only [List.foldl_cons, List.foldl_nil, digit_toNat (show n % 10 < 10 by omega)]
      omega
theorem dec_ne (n : Nat) : dec n ≠ [] := by
  unfold dec
  rw [Lib.decDigits]
  split
  · simp
  · simp
theorem dec_len2 {n : Nat} (h : n < 100) : (dec n).length ≤ 2 := by
  unfold dec
  rw [Lib.decDigits]
  split
  · simp
  · rw [Lib.decDigits, dif_pos (by omega)]; simp
theorem atoi_digs {l : List UInt8} {n : Nat} (hd : digs l) (hne : l ≠ []) (hv : valL 0 l = n) (hn : n < 1000000000000000000) : Lib.atoiAll l = .ok (n : Int) := by
  match l, hne with
  | c :: r, _ =>
    have h1 := hd c (by simp)
    have hp : Lib.parseUint10 0 (c :: r) = .ok n := by rw [parse_val _ _ hd (by omega), hv]
    unfold Lib.atoiAll Lib.parseMag
    simp only [show ¬ (c.toNat = 43 ∨ c.toNat = 45) by omega, if_false, hp, reduceCtorEq]
    rw [if_neg (by omega), if_neg (by omega), if_neg (by omega)]

/- the place of a sign -/
theorem index_hit1 : ∀ (a b : List UInt8) (c : UInt8), c ∉ a → Lib.index (a ++ c :: b) [c] = (a.length : Int)
  | [], b, c, _ => by simp [Lib.index]
  | x :: a, b, c, h => by
    have hx : ¬ c = x := fun e => h (by simp [e])
    have := index_hit1 a b c (fun hh => h (by simp [hh]))
    rw [List.cons_append, Lib.index, this]
    rw [if_neg (by simp [hx]), if_neg (by simp)]
    simp
theorem index_miss1 : ∀ (a : List UInt8) (c : UInt8), c ∉ a → Lib.index a [c] = -1
  | [], c, _ => by simp [Lib.index]
  | x :: a, c, h => by
    have hx : ¬ c = x := fun e => h (by simp [e])
    have := index_miss1 a c (fun hh => h (by simp [hh]))
    rw [Lib.index, this]
    rw [if_neg (by simp [hx]), if_pos (by simp)]
/-- The first word, and what is behind its blank. -/
def hd (l : List UInt8) : List UInt8 := (Lib.cut l [32]).1
def tl (l : List UInt8) : List UInt8 := (Lib.cut l [32]).2.1
theorem hd_hit {a : List UInt8} (b : List UInt8) (h : (32 : UInt8) ∉ a) : hd (a ++ 32 :: b) = a := by
  unfold hd Lib.cut
  rw [index_hit1 a b 32 h, if_pos (by omega)]
  simp
theorem tl_hit {a : List UInt8} (b : List UInt8) (h : (32 : UInt8) ∉ a) : tl (a ++ 32 :: b) = b := by
  unfold tl Lib.cut
  rw [index_hit1 a b 32 h, if_pos (by omega)]
  simp
theorem hd_end {a : List UInt8} (h : (32 : UInt8) ∉ a) : hd a = a := by
  unfold hd Lib.cut
  rw [index_miss1 a 32 h, if_neg (by omega)]
theorem hd_len (l : List UInt8) : (hd l).length ≤ l.length := by
  unfold hd Lib.cut
  split
  · simp only [List.length_take]; omega
  · exact Nat.le_refl _
theorem tl_len (l : List UInt8) : (tl l).length ≤ l.length := by
  unfold tl Lib.cut
  split
  · simp only [List.length_drop]; omega
  · exact Nat.zero_le _

def btw (n lo hi : Int) : Bool := decide (lo ≤ n) && decide (n ≤ hi)
theorem btw_true {n lo hi : Int} : btw n lo hi = true ↔ lo ≤ n ∧ n ≤ hi := by simp [btw]
theorem btw_false {n lo hi : Int} : btw n lo hi = false ↔ ¬ (lo ≤ n ∧ n ≤ hi) := by rw [← btw_true]; simp
/-- A rule. -/
structure Rl where
  nm : ByteArray
  k : Int
  f : Int
  t : Int
  wo : Int
  wi : Int
def lettr (c : UInt8) : Prop := 97 ≤ c.toNat ∧ c.toNat ≤ 122
def nameOk (l : List UInt8) : Prop := 1 ≤ l.length ∧ l.length ≤ 12 ∧ ∀ c ∈ l, lettr c
def Rl.named (r : Rl) : Prop := nameOk r.nm.data.toList
def Rl.bnd (r : Rl) : Prop := (0 ≤ r.k ∧ r.k ≤ 3) ∧ (0 ≤ r.f ∧ r.f ≤ 7) ∧ (0 ≤ r.t ∧ r.t ≤ 7) ∧ (-1 ≤ r.wo ∧ r.wo ≤ 7) ∧ (1 ≤ r.wi ∧ r.wi ≤ 50)
def Rl.apart (r : Rl) : Prop := r.f ≠ r.t ∧ r.f ≠ r.wo ∧ r.t ≠ r.wo
def Rl.ok (r : Rl) : Prop := r.named ∧ r.bnd ∧ r.apart
/-- What is wrong with it, as a number. -/
def Rl.flt (r : Rl) (n : Nat) : Prop := (¬ r.named ∧ n = 4) ∨ (r.named ∧ ¬ r.bnd ∧ n = 1) ∨ (r.named ∧ r.bnd ∧ ¬ r.apart ∧ n = 3) ∨ (r.ok ∧ n = 0)
theorem flt_ok {r : Rl} {n : Nat} (h : r.flt n) : n = 0 ↔ r.ok := by
  rcases h with ⟨h1, rfl⟩ | ⟨_, h1, rfl⟩ | ⟨_, _, h1, rfl⟩ | ⟨h1, rfl⟩
  · exact ⟨fun h => by omega, fun h => absurd h.1 h1⟩
  · exact ⟨fun h => by omega, fun h => absurd h.2.1 h1⟩
  · exact ⟨fun h => by omega, fun h => absurd h.2.2 h1⟩
  · exact ⟨fun _ => h1, fun _ => rfl⟩
theorem flt_ex (r : Rl) : ∃ n, r.flt n := by
  by_cases h1 : r.named
  · by_cases h2 : r.bnd
    · by_cases h3 : r.apart
      · exact ⟨0, Or.inr (Or.inr (Or.inr ⟨⟨h1, h2, h3⟩, rfl⟩))⟩
      · exact ⟨3, Or.inr (Or.inr (Or.inl ⟨h1, h2, h3, rfl⟩))⟩
    · exact ⟨1, Or.inr (Or.inl ⟨h1, h2, rfl⟩)⟩
  · exact ⟨4, Or.inl ⟨h1, rfl⟩⟩
theorem flt_uniq {r : Rl} {n m : Nat} (h : r.flt n) (h' : r.flt m) : n = m := by
  rcases h with ⟨a, rfl⟩ | ⟨a, b, rfl⟩ | ⟨a, b, c, rfl⟩ | ⟨a, rfl⟩ <;> rcases h' with ⟨a', rfl⟩ | ⟨a', b', rfl⟩ | ⟨a', b', c', rfl⟩ | ⟨a', rfl⟩ <;> first | rfl | (exfalso; first | exact a a' | exact a' a | exact b b' | exact b' b | exact c c' | exact c' c | exact a a'.1 | exact b a'.2.1 | exact c a'.2.2 | exact a' a.1 | exact b' a.2.1 | exact c' a.2.2)

/- its text -/
def kwL : Nat → List UInt8 | 0 => [97, 110, 121] | 1 => [105, 116, 101, 109] | 2 => [99, 97, 115, 101] | _ => [112, 97, 108, 108, 101, 116]
def thenL : List UInt8 := [116, 104, 101, 110]
def withoutL : List UInt8 := [119, 105, 116, 104, 111, 117, 116]
def withinL : List UInt8 := [119, 105, 116, 104, 105, 110]
def endW (r : Rl) : List (List UInt8) := [withinL, dec r.wi.toNat]
def tailW (r : Rl) : List (List UInt8) := if r.wo = -1 then endW r else withoutL :: dec r.wo.toNat :: endW r
def wordsR (r : Rl) : List (List UInt8) := (r.nm.data.toList ++ [58]) :: kwL r.k.toNat :: dec r.f.toNat :: thenL :: dec r.t.toNat :: tailW r
def textL (r : Rl) : List UInt8 := Lib.join (wordsR r) [32]
def textB (r : Rl) : ByteArray := ⟨(textL r).toArray⟩
theorem textB_list (r : Rl) : (textB r).data.toList = textL r := List.toList_toArray
theorem join_two (x y : List UInt8) (r : List (List UInt8)) : Lib.join (x :: y :: r) [32] = x ++ 32 :: Lib.join (y :: r) [32] := by
  rw [Lib.join_cons, Lib.join_cons]
  simp [Lib.joinTail]
def endL (r : Rl) : List UInt8 := withinL ++ 32 :: dec r.wi.toNat
def tailL (r : Rl) : List UInt8 := if r.wo = -1 then endL r else withoutL ++ 32 :: (dec r.wo.toNat ++ 32 :: endL r)
theorem textL_eq (r : Rl) : textL r = (r.nm.data.toList ++ [58]) ++ 32 :: (kwL r.k.toNat ++ 32 :: (dec r.f.toNat ++ 32 :: (thenL ++ 32 :: (dec r.t.toNat ++ 32 :: tailL r)))) := by
  unfold textL wordsR tailW tailL endW endL
  split
  · rw [join_two, join_two, join_two, join_two, join_two, join_two, Lib.join_one]
  · rw [join_two, join_two, join_two, join_two, join_two, join_two, join_two, join_two, Lib.join_one]
theorem blank_digs {l : List UInt8} (h : digs l) : (32 : UInt8) ∉ l := by
  intro hh
  have := (h 32 hh).1
  exact absurd this (by decide)
theorem blank_kw (k : Nat) : (32 : UInt8) ∉ kwL k := by unfold kwL; split <;> decide
theorem blank_name {l : List UInt8} (h : nameOk l) : (32 : UInt8) ∉ l ++ [58] := by
  intro hh
  rcases List.mem_append.1 hh with hh | hh
  · have := (h.2.2 32 hh).1
    exact absurd this (by decide)
  · simp at hh
theorem kw_len (k : Nat) : (kwL k).length ≤ 6 := by unfold kwL; split <;> decide
theorem textL_len {r : Rl} (h : r.ok) : (textL r).length ≤ 60 := by
  obtain ⟨h1, ⟨h2, h3, h4, h5, h6⟩, h7⟩ := h
  have a1 := h1.2.1
  have a2 := kw_len r.k.toNat
  have a3 := dec_len2 (n := r.f.toNat) (by omega)
  have a4 := dec_len2 (n := r.t.toNat) (by omega)
  have a5 := dec_len2 (n := r.wo.toNat) (by omega)
  have a6 := dec_len2 (n := r.wi.toNat) (by omega)
  rw [textL_eq]
  unfold tailL endL thenL withoutL withinL
  split <;> simp only [List.length_append, List.length_cons, List.length_nil] <;> omega

/- a text read -/
def num (x : List UInt8) : Int := match Lib.atoiAll x with
  | .ok v => v
  | .syntax => 0
  | .range => Lib.atoiSat x
theorem num_dec {n : Int} (h0 : 0 ≤ n) (h : n < 1000) : num (dec n.toNat) = n := by
  unfold num
  rw [atoi_digs (n := n.toNat) (dec_digs _) (dec_ne _) (dec_val _) (by omega)]
  show ((n.toNat : Nat) : Int) = n
  omega
/-- The number of a kind's word; -1: it is none. -/
def kindI (x : List UInt8) : Int := if kwL 0 = x then 0 else if kwL 1 = x then 1 else if kwL 2 = x then 2 else if kwL 3 = x then 3 else -1
theorem kindI_kw {k : Int} (h0 : 0 ≤ k) (h : k ≤ 3) : kindI (kwL k.toNat) = k := by
  have : k = 0 ∨ k = 1 ∨ k = 2 ∨ k = 3 := by omega
  rcases this with rfl | rfl | rfl | rfl <;> decide
def guessR (l : List UInt8) : Rl :=
  if hd (tl (tl (tl (tl (tl l))))) = withoutL then
    ⟨⟨(Lib.trimSuffix (hd l) [58]).toArray⟩, kindI (hd (tl l)), num (hd (tl (tl l))), num (hd (tl (tl (tl (tl l))))), num (hd (tl (tl (tl (tl (tl (tl l))))))), num (hd (tl (tl (tl (tl (tl (tl (tl (tl l)))))))))⟩
  else
    ⟨⟨(Lib.trimSuffix (hd l) [58]).toArray⟩, kindI (hd (tl l)), num (hd (tl (tl l))), num (hd (tl (tl (tl (tl l))))), -1, num (hd (tl (tl (tl (tl (tl (tl l)))))))⟩
theorem trim_colon (l : List UInt8) : Lib.trimSuffix (l ++ [58]) [58] = l := by
  unfold Lib.trimSuffix Lib.hasSuffix
  rw [if_pos (by rw [List.isSuffixOf_iff_suffix]; exact List.suffix_append _ _)]
  simp
theorem guess_text {r : Rl} (h : r.ok) : guessR (textL r) = r := by
  obtain ⟨h1, ⟨h2, h3, h4, h5, h6⟩, h7⟩ := h
  obtain ⟨nm, k, f, t, wo, wi⟩ := r
  simp only at h2 h3 h4 h5 h6
  have b1 := blank_name (l := nm.data.toList) h1
  have b2 := blank_kw k.toNat
  have b3 := blank_digs (dec_digs f.toNat)
  have b4 : (32 : UInt8) ∉ thenL := by decide
  have b5 := blank_digs (dec_digs t.toNat)
  have b6 : (32 : UInt8) ∉ withinL := by decide
  have b7 : (32 : UInt8) ∉ withoutL := by decide
  have b8 := blank_digs (dec_digs wo.toNat)
  have b9 := blank_digs (dec_digs wi.toNat)
  have e : (⟨nm.data.toList.toArray⟩ : ByteArray) = nm := by simp
  rw [textL_eq]
  unfold guessR tailL endL
  by_cases hw : wo = -1
  · subst hw
    simp only [hd_hit _ b1, tl_hit _ b1, hd_hit _ b2, tl_hit _ b2, hd_hit _ b3, tl_hit _ b3, tl_hit _ b4, hd_hit _ b5, tl_hit _ b5, hd_hit _ b6, tl_hit _ b6, hd_end b9, if_true, trim_colon, kindI_kw h2.1 h2.2, num_dec h3.1 (by omega), num_dec h4.1 (by omega), num_dec (show 0 ≤ wi by omega) (by omega), e]
    rw [if_neg (by decide)]
  · simp only [if_neg hw, hd_hit _ b1, tl_hit _ b1, hd_hit _ b2, tl_hit _ b2, hd_hit _ b3, tl_hit _ b3, tl_hit _ b4, hd_hit _ b5, tl_hit _ b5, tl_hit _ b6, hd_hit _ b7, tl_hit _ b7, hd_hit _ b8, tl_hit _ b8, hd_end b9, if_true, trim_colon, kindI_kw h2.1 h2.2, num_dec h3.1 (by omega), num_dec h4.1 (by omega), num_dec (show 0 ≤ wi by omega) (by omega), num_dec (show 0 ≤ wo by omega) (by omega), e]
/-- The rule whose text s is. -/
def Reads (s : ByteArray) (r : Rl) : Prop := r.ok ∧ textB r = s
theorem reads_guess {s : ByteArray} {r : Rl} (h : Reads s r) : guessR s.data.toList = r := by
  rw [← h.2, textB_list]; exact guess_text h.1
theorem reads_uniq {s : ByteArray} {r r' : Rl} (h : Reads s r) (h' : Reads s r') : r = r' := (reads_guess h).symm.trans (reads_guess h')
end Go.Proofs.YtnahkonklkcbeabGreatDoor.RuM
