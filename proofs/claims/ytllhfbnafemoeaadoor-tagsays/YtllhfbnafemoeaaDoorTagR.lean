/-
  Plain mathematics: what is written is read: numbers as bytes, numerals, texts with colons and dots.
-/
import Derived.Test.YtllhfbnafemoeaaDoorTagL
namespace Go.Proofs.YtllhfbnafemoeaaDoor.TagA
open Go.RowKit TagM
set_option maxRecDepth 100000

/- numerals -/
def valL (a : Nat) (l : List UInt8) : Nat := l.foldl (fun a c => a * 10 + (c.toNat - 48)) a
def digs (l : List UInt8) : Prop := ∀ c ∈ l, 48 ≤ c.toNat ∧ c.toNat ≤ 57
theorem valL_ge : ∀ (l : List UInt8) (a : Nat), a ≤ valL a l
  | [], a => Nat.le_refl _
  | c :: l, a => by
    have := valL_ge l (a * 10 + (c.toNat - 48))
    show a ≤ valL (a * 10 + (c.toNat - 48)) l
    omega
theorem parse_val : ∀ (l : List UInt8) (a : Nat), digs l → valL a l < 1000000000000000000 → Lib.parseUint10 a l = .ok (valL a l)
  | [], a, _, _ => rfl
  | c :: l, a, hd, hv => by
    have h1 := hd c (by simp)
    have h2 : valL (a * 10 + (c.toNat - 48)) l < 1000000000000000000 := hv
    have h3 := valL_ge l (a * 10 + (c.toNat - 48))
    rw [Lib.parseUint10, if_pos h1, if_neg (by omega), if_neg (by omega)]
    exact parse_val l _ (fun x hx => hd x (by simp [hx])) h2
theorem digit_toNat {i : Nat} (h : i < 10) : (UInt8.ofNat (48 + i)).toNat = 48 + i := by
  rw [UInt8.toNat_ofNat']; omega
theorem dec_digs (n : Nat) : digs (dec n) := by
  induction n using Nat.strongRecOn with
  | ind n ih =>
    unfold dec at *
    rw [Lib.decDigits]
    by_cases h : n < 10
    · rw [dif_pos h]
      intro c hc
      simp only [List.mem_singleton] at hc
      subst hc
      rw [digit_toNat h]; omega
    · rw [dif_neg h]
      intro c hc
      rcases List.mem_append.1 hc with hc | hc
      · exact ih (n / 10) (by omega) c hc
      · simp only [List.mem_singleton] at hc
        subst hc
        rw [digit_toNat (by omega)]; omega
theorem dec_val (n : Nat) : valL 0 (dec n) = n := by
  induction n using Nat.strongRecOn with
  | ind n ih =>
    unfold dec at *
    rw [Lib.decDigits]
    by_cases h : n < 10
    · rw [dif_pos h]
      simp only [valL, List.foldl_cons, List.foldl_nil, digit_toNat h]
      omega
    · rw [dif_neg h]
      have := ih (n / 10) (by omega)
      unfold valL at this ⊢
      rw [List.foldl_append, this]
      simp only [List.foldl_cons, List.foldl_nil, digit_toNat (show n % 10 < 10 by omega)]
      omega
theorem dec_ne (n : Nat) : dec n ≠ [] := by
  intro h
  have := Lib.nDigits_pos n
  rw [← Lib.decDigits_length] at this
  unfold dec at h
  rw [h] at this
  simp at this
theorem zer_digs (c : Nat) : digs (zer c) := by
  intro x hx
  unfold zer at hx
  rw [List.eq_of_mem_replicate hx]; decide
theorem zer_val : ∀ c, valL 0 (zer c) = 0
  | 0 => rfl
  | c + 1 => zer_val c
theorem padL_digs (n d : Nat) : digs (padL n d) := by
  intro c hc
  rcases List.mem_append.1 hc with hc | hc
  · exact zer_digs _ c hc
  · exact dec_digs _ c hc
theorem padL_val (n d : Nat) : valL 0 (padL n d) = n := by
  unfold padL valL
  rw [List.foldl_append]
  have := zer_val (d - (dec n).length)
  unfold valL at this
  rw [this]
  exact dec_val n
theorem padL_ne (n d : Nat) : padL n d ≠ [] := by
  intro h
  have := List.append_eq_nil_iff.1 h
  exact dec_ne n this.2
theorem atoi_digs {l : List UInt8} {n : Nat} (hd : digs l) (hne : l ≠ []) (hv : valL 0 l = n) (hn : n < 1000000000000000000) : Lib.atoiAll l = .ok (n : Int) := by
  match l, hne with
  | c :: r, _ =>
    have h1 := hd c (by simp)
    have hp : Lib.parseUint10 0 (c :: r) = .ok n := by rw [parse_val _ _ hd (by omega), hv]
    unfold Lib.atoiAll Lib.parseMag
    simp only [show ¬ (c.toNat = 43 ∨ c.toNat = 45) by omega, if_false, hp, reduceCtorEq]
    rw [if_neg (by omega), if_neg (by omega), if_neg (by omega)]

/- the place of a sign -/
theorem index_hit1 : ∀ (a b : List UInt8) (c : UInt8), c ∉ a → Lib.index (a ++ c :: b) [c] = (a.length : Int)
  | [], b, c, _ => by simp [Lib.index]
  | x :: a, b, c, h => by
    have hx : ¬ c = x := fun e => h (by simp [e])
    have := index_hit1 a b c (fun hh => h (by simp [hh]))
    rw [List.cons_append, Lib.index, this]
    rw [if_neg (by simp [hx]), if_neg (by simp)]
    simp
theorem cut_hit (a b : List UInt8) (c : UInt8) (h : c ∉ a) : Lib.cut (a ++ c :: b) [c] = (a, b, true) := by
  unfold Lib.cut
  rw [index_hit1 a b c h, if_pos (by omega)]
  simp
theorem splitK_hit (k : Nat) (a b : List UInt8) (c : UInt8) (h : c ∉ a) : Lib.splitK [c] 0 (k + 1) (a ++ c :: b) = a :: Lib.splitK [c] 0 k b := by
  rw [Lib.splitK, index_hit1 a b c h, if_neg (by simp)]
  simp
theorem dot_digs {l : List UInt8} (h : digs l) : (46 : UInt8) ∉ l := by
  intro hh
  have := (h 46 hh).1
  exact absurd this (by decide)

theorem splitK_jn (F k C R S : Nat) : Lib.splitK [46] 0 3 (jn F k C R S) = [dec F, padL C (cdig k), padL R (rdig k), dec S] := by
  unfold jn
  rw [splitK_hit 2 _ _ _ (dot_digs (dec_digs F)), splitK_hit 1 _ _ _ (dot_digs (padL_digs _ _)), splitK_hit 0 _ _ _ (dot_digs (padL_digs _ _))]
  rfl
theorem bytes_inj {a b : ByteArray} (h : a.data.toList = b.data.toList) : a = b := by
  apply ByteArray.ext
  exact Array.toList_inj.1 h
theorem map_data_inj : ∀ {a b : List ByteArray}, a.map (·.data.toList) = b.map (·.data.toList) → a = b
  | [], [], _ => rfl
  | [], _ :: _, h => by simp at h
  | _ :: _, [], h => by simp at h
  | x :: a, y :: b, h => by
    simp only [List.map_cons, List.cons.injEq] at h
    rw [bytes_inj h.1, map_data_inj h.2]
theorem parts_jn (F k C R S : Nat) : parts ⟨(jn F k C R S).toArray⟩ = flds F k C R S := by
  apply map_data_inj
  unfold parts
  rw [Lib.splitB_data]
  have hl : 3 ≤ (jn F k C R S).length := by
    simp only [jn, List.length_append, List.length_cons]; omega
  have e : min 4 ((⟨(jn F k C R S).toArray⟩ : ByteArray).size + 1) - 1 = 3 := by
    show min 4 ((jn F k C R S).toArray.size + 1) - 1 = 3
    rw [List.size_toArray]; omega
  rw [e]
  show Lib.splitK [46] 0 3 (jn F k C R S) = _
  rw [splitK_jn]
  simp [flds]

def kwL : Nat → List UInt8 | 0 => [105, 116, 101, 109] | 1 => [99, 97, 115, 101] | _ => [112, 97, 108, 108, 101, 116]
theorem kw_list (j : Nat) : (kw j).data.toList = kwL j := by
  match j with
  | 0 | 1 => rfl
  | _ + 2 => rfl
theorem colon_kw (j : Nat) : (58 : UInt8) ∉ kwL j := by unfold kwL; split <;> decide
theorem text_list (j F k C R S : Nat) : (textB j F k C R S).data.toList = kwL j ++ 58 :: jn F k C R S := by
  unfold textB
  simp [ByteArray.data_append, kw_list]
theorem cutW_text (j F k C R S : Nat) : cutW (textB j F k C R S) = kw j := by
  apply bytes_inj
  unfold cutW
  rw [text_list, cut_hit _ _ _ (colon_kw j), kw_list]
theorem cutR_text (j F k C R S : Nat) : cutR (textB j F k C R S) = ⟨(jn F k C R S).toArray⟩ := by
  apply bytes_inj
  unfold cutR
  rw [text_list, cut_hit _ _ _ (colon_kw j)]
theorem kindF_kw {j : Nat} (h : j < 3) : kindF (kw j) = j + 1 := by
  match j, h with
  | 0, _ | 1, _ | 2, _ => decide
  | _ + 3, h => omega
theorem atoiV_dec {n : Nat} (h : n < 1000000000000000000) : atoiV ⟨(dec n).toArray⟩ = some (n : Int) := by
  unfold atoiV
  rw [show (⟨(dec n).toArray⟩ : ByteArray).data.toList = dec n by simp, atoi_digs (dec_digs n) (dec_ne n) (dec_val n) h]
theorem atoiV_pad {n d : Nat} (h : n < 1000000000000000000) : atoiV ⟨(padL n d).toArray⟩ = some (n : Int) := by
  unfold atoiV
  rw [show (⟨(padL n d).toArray⟩ : ByteArray).data.toList = padL n d by simp, atoi_digs (padL_digs n d) (padL_ne n d) (padL_val n d) h]

/-- What is written is read: a tag's text. -/
theorem of_text {j F k C R S : Nat} (hok : okB ((j + 1 : Nat) : Int) F k C R S = true) :
    ofV (textB j F k C R S) = .tuple #[.agg #[.int .i64 ((j + 1 : Nat) : Int), .int .i64 F, .int .i64 k, .int .i64 C, .int .i64 R, .int .i64 S], .nilIface] := by
  obtain ⟨o1, o2, o3, o4, o5, o6, o7⟩ := okN hok
  have hcd := cdig_le k
  have hrd := rdig_le k
  have lC : (dec C).length ≤ cdig k := dec_len o6 hcd.1
  have hC : C < 1000000000000000000 := Nat.lt_of_lt_of_le o6 (Nat.le_trans (Nat.pow_le_pow_right (by omega) hcd.2) (by decide))
  have hR : R < 1000000000000000000 := Nat.lt_of_lt_of_le o7 (Nat.le_trans (Nat.pow_le_pow_right (by omega) hrd.2) (by decide))
  have hp : parts (cutR (textB j F k C R S)) = flds F k C R S := by rw [cutR_text, parts_jn]
  have b0 : ((flds F k C R S)[0]?.bind atoiV) = some (F : Int) := atoiV_dec (by omega)
  have b1 : ((flds F k C R S)[1]?.bind atoiV) = some (C : Int) := atoiV_pad hC
  have b2 : ((flds F k C R S)[2]?.bind atoiV) = some (R : Int) := atoiV_pad hR
  have b3 : ((flds F k C R S)[3]?.bind atoiV) = some (S : Int) := atoiV_dec (by omega)
  have gb : guessB (textB j F k C R S) = true := by
    unfold guessB
    rw [hp, b0, b1, b2, b3]; rfl
  have e1 : gK (textB j F k C R S) = ((j + 1 : Nat) : Int) := by unfold gK; rw [cutW_text, kindF_kw (by omega)]
  have e2 : gF (textB j F k C R S) = F := by unfold gF numAt; rw [hp, b0]; rfl
  have e3 : gP (textB j F k C R S) = k := by
    unfold gP
    rw [hp]
    show 6 - (((padL C (cdig k)).toArray.size : Nat) : Int) = k
    rw [List.size_toArray, padL_len lC]
    have : cdig k + k = 6 := by
      match k, o4 with
      | 0, _ | 1, _ | 2, _ | 3, _ | 4, _ | 5, _ => rfl
    omega
  have e4 : gC (textB j F k C R S) = C := by unfold gC numAt; rw [hp, b1]; rfl
  have e5 : gR (textB j F k C R S) = R := by unfold gR numAt; rw [hp, b2]; rfl
  have e6 : gS (textB j F k C R S) = S := by unfold gS numAt; rw [hp, b3]; rfl
  have e7 : textI ((j + 1 : Nat) : Int) F k C R S = textB j F k C R S := by
    unfold textI
    simp only [Int.toNat_natCast]; rfl
  unfold ofV
  rw [e1, e2, e3, e4, e5, e6, e7, gb, hok]
  simp

/-- What is read was written so. -/
theorem of_cases (s : ByteArray) : (∃ j F k C R S : Nat, okB ((j + 1 : Nat) : Int) F k C R S = true ∧ textB j F k C R S = s ∧ ofV s = .tuple #[.agg #[.int .i64 ((j + 1 : Nat) : Int), .int .i64 F, .int .i64 k, .int .i64 C, .int .i64 R, .int .i64 S], .nilIface])
    ∨ ((∀ j F k C R S : Nat, okB ((j + 1 : Nat) : Int) F k C R S = true → textB j F k C R S ≠ s) ∧ ofV s = .tuple #[noTag, .iface 23 (.int .i64 4)]) := by
  by_cases h : ∃ j F k C R S : Nat, okB ((j + 1 : Nat) : Int) F k C R S = true ∧ textB j F k C R S = s
  · obtain ⟨j, F, k, C, R, S, hok, rfl⟩ := h
    exact Or.inl ⟨j, F, k, C, R, S, hok, rfl, of_text hok⟩
  · refine Or.inr ⟨fun j F k C R S hok e => h ⟨j, F, k, C, R, S, hok, e⟩, ?_⟩
    unfold ofV
    rw [if_neg]
    intro hh
    simp only [Bool.and_eq_true, decide_eq_true_eq] at hh
    obtain ⟨_, hok, ht⟩ := hh
    obtain ⟨j, f, p, c, r, t, e1, e2, e3, e4, e5, e6⟩ := ok_nat hok
    rw [e1, e2, e3, e4, e5, e6] at hok ht
    refine h ⟨j, f, p, c, r, t, hok, ?_⟩
    unfold textI at ht
    simp only [Int.toNat_natCast] at ht
    exact ht
end Go.Proofs.YtllhfbnafemoeaaDoor.TagA
