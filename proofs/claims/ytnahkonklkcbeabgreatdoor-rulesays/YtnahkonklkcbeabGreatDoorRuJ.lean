/-
  Texts of rules, cut and read as the document's own answer does.
-/
import Derived.Test.YtnahkonklkcbeabGreatDoorRefJ
import Derived.Test.YtnahkonklkcbeabGreatDoorRuH
import Derived.Test.YtnahkonklkcbeabGreatDoorRuI
namespace Go.Proofs.YtnahkonklkcbeabGreatDoor.RuA
open Go.RowKit RuM RfC
set_option maxRecDepth 100000

theorem cutG_skip : ∀ (p : List UInt8) (c : UInt8) (acc : List (List UInt8)) (cur r : List UInt8), c ∉ p → cutG c acc cur (p ++ r) = cutG c acc (cur ++ p) r
  | [], c, acc, cur, r, _ => by rw [List.nil_append, List.append_nil]
  | a :: p, c, acc, cur, r, h => by
    rw [List.mem_cons, not_or] at h
    rw [List.cons_append, cutG, if_neg (fun e => h.1 e.symm), cutG_skip p c acc _ r h.2, List.append_assoc, List.singleton_append]
theorem cutG_end (p : List UInt8) (c : UInt8) (acc : List (List UInt8)) (h : c ∉ p) : cutG c acc [] p = acc ++ [p] := by
  have := cutG_skip p c acc [] [] h
  rw [List.append_nil, List.nil_append] at this
  rw [this]; rfl
theorem cutG_hit (p r : List UInt8) (c : UInt8) (acc : List (List UInt8)) (h : c ∉ p) : cutG c acc [] (p ++ c :: r) = cutG c (acc ++ [p]) [] r := by
  rw [cutG_skip p c acc [] _ h, cutG, if_pos rfl, List.nil_append]
theorem cutG_len : ∀ (l : List UInt8) (c : UInt8) (acc : List (List UInt8)) (cur x : List UInt8), x ∈ cutG c acc cur l → x ∈ acc ∨ x.length ≤ cur.length + l.length
  | [], c, acc, cur, x, h => by
    rw [cutG, List.mem_append, List.mem_singleton] at h
    rcases h with h | rfl
    · exact Or.inl h
    · exact Or.inr (by simp)
  | a :: r, c, acc, cur, x, h => by
    rw [cutG] at h
    split at h
    · rcases cutG_len r c _ _ x h with h | h
      · rw [List.mem_append, List.mem_singleton] at h
        rcases h with h | rfl
        · exact Or.inl h
        · exact Or.inr (by omega)
      · exact Or.inr (by simp only [List.length_nil, List.length_cons] at *; omega)
    · rcases cutG_len r c _ _ x h with h | h
      · exact Or.inl h
      · exact Or.inr (by simp only [List.length_append, List.length_nil, List.length_cons] at *; omega)
theorem cutG_le : ∀ (l : List UInt8) (c : UInt8) (acc : List (List UInt8)) (cur : List UInt8), 1 ≤ (cutG c acc cur l).length ∧ (cutG c acc cur l).length ≤ acc.length + l.length + 1
  | [], c, acc, cur => by rw [cutG]; simp
  | a :: r, c, acc, cur => by
    rw [cutG]
    split
    · have := cutG_le r c (acc ++ [cur]) []
      simp only [List.length_append, List.length_cons, List.length_nil] at *; omega
    · have := cutG_le r c acc (cur ++ [a])
      simp only [List.length_cons] at *; omega
/-- The words of a text. -/
def cuts (s : ByteArray) : List (List UInt8) := cutG 32 [] [] s.data.toList
theorem cuts_len {s : ByteArray} {x : List UInt8} (h : x ∈ cuts s) : x.length ≤ s.size := by
  rcases cutG_len _ _ _ _ _ h with h | h
  · cases h
  · simpa using h
theorem words_of {s : ByteArray} {r : Rl} (h : Reads s r) : cuts s = wordsR r := by
  obtain ⟨⟨h1, ⟨h2, h3, h4, h5, h6⟩, h7⟩, rfl⟩ := h
  have b1 := blank_name (l := r.nm.data.toList) h1
  have b2 := blank_kw r.k.toNat
  have b3 := blank_digs (dec_digs r.f.toNat)
  have b4 : (32 : UInt8) ∉ thenL := by decide
  have b5 := blank_digs (dec_digs r.t.toNat)
  have b6 : (32 : UInt8) ∉ withinL := by decide
  have b7 : (32 : UInt8) ∉ withoutL := by decide
  have b8 := blank_digs (dec_digs r.wo.toNat)
  have b9 := blank_digs (dec_digs r.wi.toNat)
  unfold cuts
  rw [textB_list, textL_eq, cutG_hit _ _ _ _ b1, cutG_hit _ _ _ _ b2, cutG_hit _ _ _ _ b3, cutG_hit _ _ _ _ b4, cutG_hit _ _ _ _ b5]
  unfold tailL endL wordsR tailW endW
  by_cases hw : r.wo = -1
  · rw [if_pos hw, if_pos hw, cutG_hit _ _ _ _ b6, cutG_end _ _ _ b9]; rfl
  · rw [if_neg hw, if_neg hw, cutG_hit _ _ _ _ b7, cutG_hit _ _ _ _ b8, cutG_hit _ _ _ _ b6, cutG_end _ _ _ b9]; rfl
/-- The last kind's word below k that it is. -/
def kUp (x : List UInt8) : Nat → Int
  | 0 => -1
  | k + 1 => if kwL k = x then (k : Int) else kUp x k
theorem kUp_kw {k : Int} (h0 : 0 ≤ k) (h : k ≤ 3) : kUp (kwL k.toNat) 4 = k := by
  have : k = 0 ∨ k = 1 ∨ k = 2 ∨ k = 3 := by omega
  rcases this with rfl | rfl | rfl | rfl <;> decide
theorem fig_dec {n : Int} (h0 : 0 ≤ n) (h : n < 1000) : figV (bt (dec n.toNat)) = .tuple #[.int .i64 n, .bool true] := by
  have hl : (dec n.toNat).length ≤ 9 := by
    by_cases hn : n < 100
    · have := dec_len2 (n := n.toNat) (by omega); omega
    · unfold dec
      rw [Lib.decDigits, dif_neg (by omega)]
      have := dec_len2 (n := n.toNat / 10) (by omega)
      unfold dec at this
      simp only [List.length_append, List.length_cons, List.length_nil]
      omega
  have := figV_digs (dec_digs n.toNat) (dec_ne n.toNat) (dec_val n.toNat) hl
  rw [show ((n.toNat : Nat) : Int) = n by omega] at this
  exact this
/-- What figures says of a word. -/
structure Fig (x : List UInt8) (a : Int) (b : Bool) : Prop where
  eq : figV (bt x) = .tuple #[.int .i64 a, .bool b]
theorem fig_ex (x : List UInt8) : ∃ a b, Fig x a b := by
  obtain ⟨n, b, _, h⟩ := figV_any (bt x)
  exact ⟨_, _, ⟨h⟩⟩
theorem fig_val {n : Int} {a : Int} {b : Bool} (h : Fig (dec n.toNat) a b) (h0 : 0 ≤ n) (h1 : n < 1000) : a = n ∧ b = true := by
  have h2 := h.eq
  rw [fig_dec h0 h1] at h2
  simp at h2
  exact ⟨h2.1.symm, h2.2⟩
/-- The rule that is made of seven words. -/
def mk7 (x0 x1 : List UInt8) (a b c : Int) : Rl := ⟨bt (x0.take (x0.length - 1)), kUp x1 4, a, b, -1, c⟩
def mk9 (x0 x1 : List UInt8) (a b c d : Int) : Rl := ⟨bt (x0.take (x0.length - 1)), kUp x1 4, a, b, d, c⟩
theorem len7 {r : Rl} : (wordsR r).length = 7 ∨ (wordsR r).length = 9 := by
  unfold wordsR tailW endW
  split
  · exact Or.inl rfl
  · exact Or.inr rfl
theorem take_name (nm : ByteArray) : bt ((nm.data.toList ++ [58]).take ((nm.data.toList ++ [58]).length - 1)) = nm := by
  rw [List.length_append, List.length_singleton, Nat.add_sub_cancel, List.take_left, bt_data]
theorem seven {s : ByteArray} {r : Rl} (h : Reads s r) {x0 x1 x2 x3 x4 x5 x6 : List UInt8} (hc : cuts s = [x0, x1, x2, x3, x4, x5, x6]) :
    r.wo = -1 ∧ x0 ≠ [] ∧ (∀ a o, Fig x2 a o → a = r.f ∧ o = true) ∧ (∀ a o, Fig x4 a o → a = r.t ∧ o = true) ∧ (∀ a o, Fig x6 a o → a = r.wi ∧ o = true) ∧ mk7 x0 x1 r.f r.t r.wi = r := by
  have hw := words_of h
  rw [hc] at hw
  obtain ⟨h1, ⟨h2, h3, h4, h5, h6⟩, h7⟩ := h.1
  unfold wordsR tailW endW at hw
  by_cases hwo : r.wo = -1
  · rw [if_pos hwo] at hw
    simp only [List.cons.injEq, and_true] at hw
    obtain ⟨rfl, rfl, rfl, rfl, rfl, rfl, rfl⟩ := hw
    refine ⟨hwo, by simp, fun a o ha => fig_val ha h3.1 (by omega), fun a o ha => fig_val ha h4.1 (by omega), fun a o ha => fig_val ha (by omega) (by omega), ?_⟩
    unfold mk7
    rw [take_name, kUp_kw h2.1 h2.2, ← hwo]
  · rw [if_neg hwo] at hw
    simp at hw
theorem nine {s : ByteArray} {r : Rl} (h : Reads s r) {x0 x1 x2 x3 x4 x5 x6 x7 x8 : List UInt8} (hc : cuts s = [x0, x1, x2, x3, x4, x5, x6, x7, x8]) :
    x0 ≠ [] ∧ (∀ a o, Fig x2 a o → a = r.f ∧ o = true) ∧ (∀ a o, Fig x4 a o → a = r.t ∧ o = true) ∧ (∀ a o, Fig x8 a o → a = r.wi ∧ o = true) ∧ (∀ a o, Fig x6 a o → a = r.wo ∧ o = true) ∧ mk9 x0 x1 r.f r.t r.wi r.wo = r := by
  have hw := words_of h
  rw [hc] at hw
  obtain ⟨h1, ⟨h2, h3, h4, h5, h6⟩, h7⟩ := h.1
  unfold wordsR tailW endW at hw
  by_cases hwo : r.wo = -1
  · rw [if_pos hwo] at hw
    simp at hw
  · rw [if_neg hwo] at hw
    simp only [List.cons.injEq, and_true] at hw
    obtain ⟨rfl, rfl, rfl, rfl, rfl, rfl, rfl, rfl, rfl⟩ := hw
    refine ⟨by simp, fun a o ha => fig_val ha h3.1 (by omega), fun a o ha => fig_val ha h4.1 (by omega), fun a o ha => fig_val ha (by omega) (by omega), fun a o ha => fig_val ha (by omega) (by omega), ?_⟩
    unfold mk9
    rw [take_name, kUp_kw h2.1 h2.2]
end Go.Proofs.YtnahkonklkcbeabGreatDoor.RuA
