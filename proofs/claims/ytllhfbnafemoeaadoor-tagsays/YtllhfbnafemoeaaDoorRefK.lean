/-
  Texts of tags, cut and read as the document's own answer does.
-/
import Derived.Test.YtllhfbnafemoeaaDoorRefJ
namespace Go.Proofs.YtllhfbnafemoeaaDoor.TagA
open Go.RowKit TagM
set_option maxRecDepth 100000

theorem cutG_len : ∀ (l : List UInt8) (c : UInt8) (acc : List (List UInt8)) (cur x : List UInt8), x ∈ cutG c acc cur l → x ∈ acc ∨ x.length ≤ cur.length + l.length
  | [], c, acc, cur, x, h => by
    rw [cutG, List.mem_append, List.mem_singleton] at h
    rcases h with h | rfl
    · exact Or.inl h
    · exact Or.inr (by simp)
  | a :: r, c, acc, cur, x, h => by
    rw [cutG] at h
    split at h
    · rcases cutG_len r c _ _ x h with h | h
      · rw [List.mem_append, List.mem_singleton] at h
        rcases h with h | rfl
        · exact Or.inl h
        · exact Or.inr (by omega)
      · exact Or.inr (by simp only [List.length_nil, List.length_cons] at *; omega)
    · rcases cutG_len r c _ _ x h with h | h
      · exact Or.inl h
      · exact Or.inr (by simp only [List.length_append, List.length_nil, List.length_cons] at *; omega)
theorem cutG_skip : ∀ (p : List UInt8) (c : UInt8) (acc : List (List UInt8)) (cur r : List UInt8), c ∉ p → cutG c acc cur (p ++ r) = cutG c acc (cur ++ p) r
  | [], c, acc, cur, r, _ => by rw [List.nil_append, List.append_nil]
  | a :: p, c, acc, cur, r, h => by
    rw [List.mem_cons, not_or] at h
    rw [List.cons_append, cutG, if_neg (fun e => h.1 e.symm), cutG_skip p c acc _ r h.2, List.append_assoc, List.singleton_append]
theorem cutG_end (p : List UInt8) (c : UInt8) (acc : List (List UInt8)) (h : c ∉ p) : cutG c acc [] p = acc ++ [p] := by
  have := cutG_skip p c acc [] [] h
  rw [List.append_nil, List.nil_append] at this
  rw [this]; rfl
theorem cutG_hit (p r : List UInt8) (c : UInt8) (acc : List (List UInt8)) (h : c ∉ p) : cutG c acc [] (p ++ c :: r) = cutG c (acc ++ [p]) [] r := by
  rw [cutG_skip p c acc [] _ h, cutG, if_pos rfl, List.nil_append]
theorem colon_digs {l : List UInt8} (h : digs l) : (58 : UInt8) ∉ l := by
  intro hm
  have := (h _ hm).2
  exact absurd this (by decide)
theorem colon_jn (F k C R S : Nat) : (58 : UInt8) ∉ jn F k C R S := by
  unfold jn
  simp only [List.mem_append, List.mem_cons, not_or]
  exact ⟨colon_digs (dec_digs F), by decide, colon_digs (padL_digs _ _), by decide, colon_digs (padL_digs _ _), by decide, colon_digs (dec_digs S)⟩
theorem cut_text (j F k C R S : Nat) : cutG 58 [] [] (textB j F k C R S).data.toList = [kwL j, jn F k C R S] := by
  rw [text_list, cutG_hit _ _ _ _ (colon_kw j), cutG_end _ _ _ (colon_jn F k C R S)]; rfl
theorem cut_jn (F k C R S : Nat) : cutG 46 [] [] (jn F k C R S) = [dec F, padL C (cdig k), padL R (rdig k), dec S] := by
  unfold jn
  rw [cutG_hit _ _ _ _ (dot_digs (dec_digs F)), cutG_hit _ _ _ _ (dot_digs (padL_digs _ _)), cutG_hit _ _ _ _ (dot_digs (padL_digs _ _)), cutG_end _ _ _ (dot_digs (dec_digs S))]; rfl

/-- No tag that may be has that text. -/
def NoText (s : ByteArray) : Prop := ∀ K F P C R S : Int, okB K F P C R S = true → textI K F P C R S ≠ s
theorem noText_cut {s : ByteArray} (h : (cutG 58 [] [] s.data.toList).length ≠ 2) : NoText s := by
  rintro K F P C R S - rfl
  unfold textI at h
  rw [cut_text] at h
  exact h rfl
theorem noText_cut2 {s : ByteArray} {x y : List UInt8} (h1 : cutG 58 [] [] s.data.toList = [x, y]) (h : (cutG 46 [] [] y).length ≠ 4) : NoText s := by
  rintro K F P C R S - rfl
  unfold textI at h1
  rw [cut_text] at h1
  injection h1 with _ h1
  injection h1 with h1 _
  rw [← h1, cut_jn] at h
  exact h rfl
theorem noText_fig {s : ByteArray} {x y a b c d : List UInt8} (h1 : cutG 58 [] [] s.data.toList = [x, y]) (h2 : cutG 46 [] [] y = [a, b, c, d]) {K F P C R S : Int} (hok : okB K F P C R S = true) (ht : textI K F P C R S = s) :
    figV ⟨a.toArray⟩ = .tuple #[.int .i64 F, .bool true] ∧ figV ⟨b.toArray⟩ = .tuple #[.int .i64 C, .bool true] ∧ figV ⟨c.toArray⟩ = .tuple #[.int .i64 R, .bool true] ∧ figV ⟨d.toArray⟩ = .tuple #[.int .i64 S, .bool true] := by
  obtain ⟨j, F, k, C, R, S, rfl, rfl, rfl, rfl, rfl, rfl⟩ := ok_nat hok
  obtain ⟨o1, o2, o3, o4, o5, o6, o7⟩ := okN hok
  subst ht
  unfold textI at h1
  rw [cut_text] at h1
  injection h1 with _ h1
  injection h1 with h1 _
  rw [← h1, cut_jn] at h2
  injection h2 with e1 h2
  injection h2 with e2 h2
  injection h2 with e3 h2
  injection h2 with e4 _
  simp only [Int.toNat_natCast] at e1 e2 e3 e4
  subst e1 e2 e3 e4
  have hcd := cdig_le k
  have hrd := rdig_le k
  have lF : (dec F).length ≤ 9 := Nat.le_trans (dec_len (d := 1) (by omega) (by omega)) (by omega)
  have lS : (dec S).length ≤ 9 := Nat.le_trans (dec_len (d := 8) (by omega) (by omega)) (by omega)
  have lC : (padL C (cdig k)).length ≤ 9 := by rw [padL_len (dec_len o6 hcd.1)]; omega
  have lR : (padL R (rdig k)).length ≤ 9 := by rw [padL_len (dec_len o7 hrd.1)]; omega
  exact ⟨figV_digs (dec_digs _) (dec_ne _) (dec_val _) lF, figV_digs (padL_digs _ _) (padL_ne _ _) (padL_val _ _) lC, figV_digs (padL_digs _ _) (padL_ne _ _) (padL_val _ _) lR, figV_digs (dec_digs _) (dec_ne _) (dec_val _) lS⟩
theorem figV_inj {n m : Int} {a b : Bool} {v : Value} (h : v = .tuple #[.int .i64 n, .bool a]) (h' : v = .tuple #[.int .i64 m, .bool b]) : n = m ∧ a = b := by
  rw [h] at h'
  simp at h'
  exact h'
/-- What TagRead answers: the tag whose text it is, or none. -/
def RdPost (s : ByteArray) (e : Ending) : Prop :=
  (∃ K F P C R S : Int, okB K F P C R S = true ∧ textI K F P C R S = s ∧ e = .returned (.tuple #[.agg #[.int .i64 K, .int .i64 F, .int .i64 P, .int .i64 C, .int .i64 R, .int .i64 S], .bool true]))
  ∨ (NoText s ∧ e = .returned (.tuple #[noTag, .bool false]))
theorem TextsAt.cells {V : World} {base : Nat} {v : Value} {l : List (List UInt8)} (h : TextsAt V base v l) (hl : 1 ≤ l.length) : ∃ g cap, v = .slice (some ⟨g, 0, none⟩) l.length cap ∧ base ≤ g ∧ g < V.heap.size ∧ ∀ j x, l[j]? = some x → V.cell? ⟨g, j, none⟩ = some (.string ⟨x.toArray⟩) := by
  obtain ⟨g, cap, rfl, h1, h2⟩ := h.own.form (by omega)
  refine ⟨g, cap, rfl, h1, h2, fun j x hj => ?_⟩
  have := h.own.cells (g := g) rfl j (.string ⟨x.toArray⟩) (by unfold strsV; rw [List.getElem?_map, hj]; rfl)
  have e : (⟨g, 0, none⟩ : Addr).add j = ⟨g, j, none⟩ := by unfold Addr.add; split <;> simp_all
  rw [← e]; exact this
theorem cutG_pos : ∀ (l : List UInt8) (c : UInt8) (acc : List (List UInt8)) (cur : List UInt8), 1 ≤ (cutG c acc cur l).length
  | [], c, acc, cur => by rw [cutG, List.length_append]; simp
  | a :: r, c, acc, cur => by
    rw [cutG]
    split
    · exact cutG_pos r c _ _
    · exact cutG_pos r c _ _
theorem cutG_two {l : List (List UInt8)} (h : l.length = 2) : ∃ x y, l = [x, y] := by
  match l, h with
  | [x, y], _ => exact ⟨x, y, rfl⟩
theorem cutG_four {l : List (List UInt8)} (h : l.length = 4) : ∃ a b c d, l = [a, b, c, d] := by
  match l, h with
  | [a, b, c, d], _ => exact ⟨a, b, c, d, rfl⟩
end Go.Proofs.YtllhfbnafemoeaaDoor.TagA
