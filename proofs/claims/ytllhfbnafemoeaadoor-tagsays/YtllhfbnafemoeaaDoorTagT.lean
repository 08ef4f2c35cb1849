/-
  Two tags held against each other; what TopTag's and TagSays's calls give.
-/
import Derived.Test.YtllhfbnafemoeaaDoorTagS
import Derived.Laws.StructEq
namespace Go.Proofs.YtllhfbnafemoeaaDoor.TagA
open Go.RowKit TagM
set_option maxRecDepth 100000

def teq (a b c d e f a' b' c' d' e' f' : Int) : Bool := a == a' && (b == b' && (c == c' && (d == d' && (e == e' && f == f'))))
theorem teq_true {a b c d e f a' b' c' d' e' f' : Int} : teq a b c d e f a' b' c' d' e' f' = true ↔ (a = a' ∧ b = b' ∧ c = c' ∧ d = d' ∧ e = e' ∧ f = f') := by simp [teq]
theorem teq_refl (a b c d e f : Int) : teq a b c d e f a b c d e f = true := teq_true.2 ⟨rfl, rfl, rfl, rfl, rfl, rfl⟩
theorem teq_val {α : Type} (x y : α) (a b c d e f a' b' c' d' e' f' : Int) : (if a = a' then if b = b' then if c = c' then if d = d' then if e = e' then if f = f' then x else y else y else y else y else y else y) = if teq a b c d e f a' b' c' d' e' f' then x else y := by
  by_cases h1 : a = a'
  · by_cases h2 : b = b'
    · by_cases h3 : c = c'
      · by_cases h4 : d = d'
        · by_cases h5 : e = e'
          · by_cases h6 : f = f'
            · simp [h1, h2, h3, h4, h5, h6, teq]
            · simp [h1, h2, h3, h4, h5, h6, teq]
          · simp [h1, h2, h3, h4, h5, teq]
        · simp [h1, h2, h3, h4, teq]
      · simp [h1, h2, h3, teq]
    · simp [h1, h2, teq]
  · simp [h1, teq]
theorem eql32 (a b c d e f a' b' c' d' e' f' : Int) (w : World) :
    (binOp .eql 32 (.agg #[.int .i64 a, .int .i64 b, .int .i64 c, .int .i64 d, .int .i64 e, .int .i64 f]) (.agg #[.int .i64 a', .int .i64 b', .int .i64 c', .int .i64 d', .int .i64 e', .int .i64 f'])).run Tryd.prog w = .ok (.bool (teq a b c d e f a' b' c' d' e' f')) w := by
  go_simp
  rw [teq_val]
  cases teq a b c d e f a' b' c' d' e' f' <;> rfl
theorem neq32 (a b c d e f a' b' c' d' e' f' : Int) (w : World) :
    (binOp .neq 32 (.agg #[.int .i64 a, .int .i64 b, .int .i64 c, .int .i64 d, .int .i64 e, .int .i64 f]) (.agg #[.int .i64 a', .int .i64 b', .int .i64 c', .int .i64 d', .int .i64 e', .int .i64 f'])).run Tryd.prog w = .ok (.bool (!teq a b c d e f a' b' c' d' e' f')) w := by
  go_simp
  rw [teq_val]
  cases teq a b c d e f a' b' c' d' e' f' <;> rfl

/-- The bytes of a tag of Ints. -/
def bytesI (K F P C R S : Int) : ByteArray := be8 (num K.toNat F.toNat P.toNat C.toNat R.toNat S.toNat)
theorem bytes_yes (K F P C R S : Int) (w : World) (hT : Tabs w) (hok : okB K F P C R S = true) :
    Calls Tryd.prog 11 #[.agg #[.int .i64 K, .int .i64 F, .int .i64 P, .int .i64 C, .int .i64 R, .int .i64 S]] w fun e w' => e = .returned (.tuple #[.string (bytesI K F P C R S), .nilIface]) ∧ Below w.heap.size w w' := by
  obtain ⟨j, f, p, c, r, s, rfl, rfl, rfl, rfl, rfl, rfl⟩ := ok_nat hok
  exact bytes_ok (j + 1) f p c r s w hT hok
theorem parse_bytesI {K F P C R S : Int} (hok : okB K F P C R S = true) : parseV (bytesI K F P C R S) = .tuple #[.agg #[.int .i64 K, .int .i64 F, .int .i64 P, .int .i64 C, .int .i64 R, .int .i64 S], .nilIface] := by
  obtain ⟨j, f, p, c, r, s, rfl, rfl, rfl, rfl, rfl, rfl⟩ := ok_nat hok
  exact parse_bytes hok
theorem of_textI {K F P C R S : Int} (hok : okB K F P C R S = true) : ofV (textI K F P C R S) = .tuple #[.agg #[.int .i64 K, .int .i64 F, .int .i64 P, .int .i64 C, .int .i64 R, .int .i64 S], .nilIface] := by
  obtain ⟨j, f, p, c, r, s, rfl, rfl, rfl, rfl, rfl, rfl⟩ := ok_nat hok
  exact of_text hok
theorem parse_casesI (s : ByteArray) : (∃ K F P C R S : Int, okB K F P C R S = true ∧ bytesI K F P C R S = s ∧ parseV s = .tuple #[.agg #[.int .i64 K, .int .i64 F, .int .i64 P, .int .i64 C, .int .i64 R, .int .i64 S], .nilIface])
    ∨ ((∀ K F P C R S : Int, okB K F P C R S = true → bytesI K F P C R S ≠ s) ∧ parseV s = .tuple #[noTag, .iface 23 (.int .i64 3)]) := by
  rcases parse_cases s with ⟨j, F, k, C, R, S, hok, rfl, h⟩ | ⟨hn, h⟩
  · exact Or.inl ⟨_, _, _, _, _, _, hok, rfl, h⟩
  · refine Or.inr ⟨fun K F P C R S hok => ?_, h⟩
    obtain ⟨j, f, p, c, r, t, rfl, rfl, rfl, rfl, rfl, rfl⟩ := ok_nat hok
    exact hn j f p c r t hok
theorem of_casesI (s : ByteArray) : (∃ K F P C R S : Int, okB K F P C R S = true ∧ textI K F P C R S = s ∧ ofV s = .tuple #[.agg #[.int .i64 K, .int .i64 F, .int .i64 P, .int .i64 C, .int .i64 R, .int .i64 S], .nilIface])
    ∨ ((∀ K F P C R S : Int, okB K F P C R S = true → textI K F P C R S ≠ s) ∧ ofV s = .tuple #[noTag, .iface 23 (.int .i64 4)]) := by
  rcases of_cases s with ⟨j, F, k, C, R, S, hok, rfl, h⟩ | ⟨hn, h⟩
  · refine Or.inl ⟨_, _, _, _, _, _, hok, rfl, h⟩
  · refine Or.inr ⟨fun K F P C R S hok => ?_, h⟩
    obtain ⟨j, f, p, c, r, t, rfl, rfl, rfl, rfl, rfl, rfl⟩ := ok_nat hok
    exact hn j f p c r t hok
theorem tag_inj {K F P C R S K' F' P' C' R' S' : Int} (h : (.tuple #[.agg #[.int .i64 K, .int .i64 F, .int .i64 P, .int .i64 C, .int .i64 R, .int .i64 S], .nilIface] : Value) = .tuple #[.agg #[.int .i64 K', .int .i64 F', .int .i64 P', .int .i64 C', .int .i64 R', .int .i64 S'], .nilIface]) : teq K F P C R S K' F' P' C' R' S' = true := by
  simp at h
  exact teq_true.2 h
/-- No two tags have the same bytes, or the same text. -/
theorem bytes_same {K F P C R S K' F' P' C' R' S' : Int} (h : okB K F P C R S = true) (h' : okB K' F' P' C' R' S' = true) :
    ((bytesI K F P C R S).toList == (bytesI K' F' P' C' R' S').toList) = teq K F P C R S K' F' P' C' R' S' := by
  by_cases e : teq K F P C R S K' F' P' C' R' S' = true
  · rw [e]
    obtain ⟨rfl, rfl, rfl, rfl, rfl, rfl⟩ := teq_true.1 e
    exact sbeq_true rfl
  · rw [Bool.eq_false_iff.2 e]
    refine sbeq_false fun he => e ?_
    have := parse_bytesI h
    rw [he, parse_bytesI h'] at this
    obtain ⟨rfl, rfl, rfl, rfl, rfl, rfl⟩ := teq_true.1 (tag_inj this)
    exact teq_refl _ _ _ _ _ _
theorem text_same {K F P C R S K' F' P' C' R' S' : Int} (h : okB K F P C R S = true) (h' : okB K' F' P' C' R' S' = true) :
    ((textI K F P C R S).toList == (textI K' F' P' C' R' S').toList) = teq K F P C R S K' F' P' C' R' S' := by
  by_cases e : teq K F P C R S K' F' P' C' R' S' = true
  · rw [e]
    obtain ⟨rfl, rfl, rfl, rfl, rfl, rfl⟩ := teq_true.1 e
    exact sbeq_true rfl
  · rw [Bool.eq_false_iff.2 e]
    refine sbeq_false fun he => e ?_
    have := of_textI h
    rw [he, of_textI h'] at this
    obtain ⟨rfl, rfl, rfl, rfl, rfl, rfl⟩ := teq_true.1 (tag_inj this)
    exact teq_refl _ _ _ _ _ _
theorem bytesI_size (K F P C R S : Int) : (bytesI K F P C R S).size = 8 := rfl
theorem textI_size {K F P C R S : Int} (h : okB K F P C R S = true) : (textI K F P C R S).size ≤ 31 := by
  obtain ⟨j, f, p, c, r, s, rfl, rfl, rfl, rfl, rfl, rfl⟩ := ok_nat h
  obtain ⟨o1, o2, o3, o4, o5, o6, o7⟩ := okN h
  have hl := jn_len o3 (dec_len o6 (cdig_le p).1) (dec_len o7 (rdig_le p).1) o5
  have hk := kw_size j
  show (textB j f p c r s).size ≤ 31
  unfold textB
  rw [ByteArray.size_append, ByteArray.size_append]
  show (kw j).size + 1 + (jn f p c r s).toArray.size ≤ 31
  rw [List.size_toArray]; omega
theorem parse_7 : parseV ⟨#[48, 0, 0, 0, 0, 0, 0, 7]⟩ = .tuple #[.agg #[.int .i64 1, .int .i64 0, .int .i64 0, .int .i64 0, .int .i64 0, .int .i64 7], .nilIface] := by
  have h : okB ((0 + 1 : Nat) : Int) (0 : Nat) (0 : Nat) (0 : Nat) (0 : Nat) (7 : Nat) = true := by decide
  have := parse_bytes h
  rw [show be8 (num (0 + 1) 0 0 0 0 7) = ⟨#[48, 0, 0, 0, 0, 0, 0, 7]⟩ by decide] at this
  exact this
end Go.Proofs.YtllhfbnafemoeaaDoor.TagA
