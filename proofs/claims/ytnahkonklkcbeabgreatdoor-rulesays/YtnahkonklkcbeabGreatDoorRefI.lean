/-
  What the document's own answer does to the world: cut.
-/
import Derived.Test.YtnahkonklkcbeabGreatDoorRuF
import Derived.Laws.AppendOwnNone
namespace Go.Proofs.YtnahkonklkcbeabGreatDoor.RfC
open Go.RowKit RuM
set_option maxRecDepth 100000

/-- A text, cut at each of a byte: what is cut off, what is under way, what is left. -/
def cutG (c : UInt8) (acc : List (List UInt8)) (cur : List UInt8) : List UInt8 → List (List UInt8)
  | [] => acc ++ [cur]
  | x :: r => if x = c then cutG c (acc ++ [cur]) [] r else cutG c acc (cur ++ [x]) r
def strsV (l : List (List UInt8)) : List Value := l.map fun x => .string ⟨x.toArray⟩
/-- A list of texts. -/
structure TextsAt (V : World) (base : Nat) (v : Value) (l : List (List UInt8)) : Prop where
  own : V.ownsRow base 9 1 v l.length (strsV l)
theorem TextsAt.nil (V : World) (base : Nat) : TextsAt V base (.slice none 0 0) [] := ⟨World.ownsRow_nil _ _ _ _⟩
theorem info9 : (Tryz.prog.info? 9).map (fun i => (i.zero, i.size, i.bytes)) = some (some (.string ⟨#[]⟩), 1, 16) := by kernel_rfl
theorem TextsAt.snoc {V : World} {base : Nat} {v : Value} {l : List (List UInt8)} {b : ByteArray} (h : V.ownsRow base 9 1 v (l.length + 1) (strsV l ++ [.string b])) : TextsAt V base v (l ++ [b.data.toList]) := by
  refine ⟨?_⟩
  rw [List.length_append]
  unfold strsV
  rw [List.map_append]
  exact h
theorem ext_list (s : ByteArray) (a b : Nat) : (s.extract a b).data.toList = (s.data.toList.drop a).take (b - a) := by
  rw [ByteArray.data_extract, Array.toList_extract, List.extract_eq_take_drop]
theorem ext_snoc (s : ByteArray) (a k : Nat) (ha : a ≤ k) (hk : k < s.size) : (s.extract a (k + 1)).data.toList = (s.extract a k).data.toList ++ [s[k]] := by
  have hl : k < s.data.toList.length := by simpa using hk
  rw [ext_list, ext_list, show k + 1 - a = (k - a) + 1 by omega, List.take_add_one]
  congr 1
  rw [List.getElem?_drop, show a + (k - a) = k by omega, List.getElem?_eq_getElem hl]
  rfl
theorem ext_nil (s : ByteArray) (k : Nat) : (s.extract k k).data.toList = [] := by rw [ext_list]; simp
theorem drop_at (s : ByteArray) (k : Nat) (hk : k < s.size) : s.data.toList.drop k = s[k] :: s.data.toList.drop (k + 1) := List.drop_eq_getElem_cons (by simpa using hk)
theorem drop_end (s : ByteArray) : s.data.toList.drop s.size = [] := by
  apply List.drop_eq_nil_of_le
  show s.data.toList.length ≤ s.data.size
  simp

set_option maxHeartbeats 2000000 in
theorem refcut_any (s : ByteArray) (c : UInt8) (w : World) (hs : s.size ≤ 200) :
    Calls Tryz.prog 25 #[.string s, .int .u8 (c.toNat : Int)] w fun e w' => ∃ v, e = .returned v ∧ TextsAt w' w.heap.size v (cutG c [] [] s.data.toList) ∧ Below w.heap.size w w' := by
  obtain ⟨i0, hi, hz0, hz1, hz2⟩ := info_parts info9
  obtain ⟨R, hR⟩ : ∃ R, R = cutG c [] [] s.data.toList := ⟨_, rfl⟩
  rw [← hR]
  have HR : Hid (R = cutG c [] [] s.data.toList) := hR
  clear hR
  go_enter Tryz.func25, Tryz.ntmps25
  go_wp2
  go_loopw [5, 6, 7] (fun l f i V => ∃ (k fr : Nat) (acc : List (List UInt8)), k ≤ s.size + 1 ∧ i = .int .i64 k ∧ f = .int .i64 fr ∧ acc.length ≤ k ∧ TextsAt V w.heap.size l acc ∧ Below w.heap.size w V ∧
      ((k ≤ s.size ∧ fr ≤ k ∧ cutG c acc (s.extract fr k).data.toList (s.data.toList.drop k) = R) ∨ (k = s.size + 1 ∧ acc = R))) (fun _ _ i _ => s.size + 1 - (intOf i).toNat)
  case atStart => exact ⟨0, 0, [], by omega, rfl, rfl, Nat.le_refl _, TextsAt.nil _ _, Below.refl _ _, Or.inl ⟨Nat.zero_le _, Nat.le_refl _, by rw [ext_nil, List.drop_zero]; exact HR.out.symm⟩⟩
  case round =>
    obtain ⟨k, fr, acc, hk, rfl, rfl, hac, hta, hbl, hrel⟩ := hrel
    rcases hrel with ⟨hkn, hfk, hcut⟩ | ⟨rfl, rfl⟩
    case inr =>
      have HTA : Hid (TextsAt wr w.heap.size u5 acc) := hta
      have HBL : Hid (Below w.heap.size w wr) := hbl
      clear hta hbl
      go_wp2
      go_ret
      exact ⟨_, rfl, HTA.out, HBL.out⟩
    case inl =>
      have HCUT : Hid (cutG c acc (s.extract fr k).data.toList (s.data.toList.drop k) = R) := hcut
      have HBL : Hid (Below w.heap.size w wr) := hbl
      have hown := hta.own
      clear hcut hbl hta
      have hfI : (fr : Int) ≤ k := by omega
      have hle : wr.heap.size + 1 ≥ w.heap.size := by have := HBL.out.size; omega
      by_cases hlt : k < s.size
      case neg =>
        obtain rfl : k = s.size := by omega
        go_wp2_with (at_builtin; refine wpList_append_own _ rfl _ _ 43 rfl w.heap.size 9 i0 (.string ⟨#[]⟩) 1 16 Tryz.underlying43 hi hz0 hz1 hz2 rfl (by decide) _ _ _ rfl (hown.alloc _) ⟨wr.heap.size, 0, none⟩ 1 1 [.string (s.extract fr s.size)] rfl rfl ?q1 ?q2 ?q3 ?q4 ?q5 ?_)
        case q1 =>
          intro j u hj
          match j, hj with
          | 0, hj => simp at hj; subst hj; simp [Addr.add]
        case q2 => first | rfl | (intro u hu; simp at hu; subst hu; rfl)
        case q3 => unfold maxLen; omega
        case q4 => omega
        case q5 => have := HBL.out.size; simp; omega
        · intro v' w3 hown' hgrow _
          have hR := TextsAt.snoc hown'
          have hB' : Below w.heap.size w w3 := (HBL.out.alloc HBL.out.size _).grown hgrow (by have := HBL.out.size; simp; omega) (fun k hk => (hown.lt k hk).1)
          have HR' : Hid (TextsAt w3 w.heap.size v' (acc ++ [(s.extract fr s.size).data.toList])) := hR
          have HB' : Hid (Below w.heap.size w w3) := hB'
          clear hown' hgrow hown hR hB'
          go_wp2
          go_roundw
          case rel =>
            refine ⟨s.size + 1, s.size + 1, _, Nat.le_refl _, by go_num, by go_num, by simp; omega, HR'.out, HB'.out, Or.inr ⟨rfl, ?_⟩⟩
            have := HCUT.out
            rw [drop_end] at this
            exact this
          case measure => simp [intOf]
      case pos =>
        have hkI : (k : Int) < s.size := by omega
        by_cases hc : s[k] = c
        case pos =>
          have HC : Hid (s[k] = c) := hc
          have hcI : ((s[k].toNat : Int) == (c.toNat : Int)) = true := by rw [hc]; simp
          have hcN : (s[k].toNat : Int) = (c.toNat : Int) := by rw [hc]
          have hcM : s[k].toNat = c.toNat := by rw [hc]
          clear hc
          go_wp2_with (at_builtin; refine wpList_append_own _ rfl _ _ 43 rfl w.heap.size 9 i0 (.string ⟨#[]⟩) 1 16 Tryz.underlying43 hi hz0 hz1 hz2 rfl (by decide) _ _ _ rfl (hown.alloc _) ⟨wr.heap.size, 0, none⟩ 1 1 [.string (s.extract fr k)] rfl rfl ?r1 ?r2 ?r3 ?r4 ?r5 ?_)
          case r1 =>
            intro j u hj
            match j, hj with
            | 0, hj => simp at hj; subst hj; simp [Addr.add]
          case r2 => first | rfl | (intro u hu; simp at hu; subst hu; rfl)
          case r3 => unfold maxLen; omega
          case r4 => omega
          case r5 => have := HBL.out.size; simp; omega
          · intro v' w3 hown' hgrow _
            have hR := TextsAt.snoc hown'
            have hB' : Below w.heap.size w w3 := (HBL.out.alloc HBL.out.size _).grown hgrow (by have := HBL.out.size; simp; omega) (fun k hk => (hown.lt k hk).1)
            have HR' : Hid (TextsAt w3 w.heap.size v' (acc ++ [(s.extract fr k).data.toList])) := hR
            have HB' : Hid (Below w.heap.size w w3) := hB'
            clear hown' hgrow hown hR hB' hcI hcN hcM
            go_wp2
            go_roundw
            case rel =>
              refine ⟨k + 1, k + 1, _, by omega, by go_num, by go_num, by simp; omega, HR'.out, HB'.out, Or.inl ⟨by omega, Nat.le_refl _, ?_⟩⟩
              have := HCUT.out
              rw [drop_at s k hlt, cutG, if_pos HC.out] at this
              rw [ext_nil]
              exact this
            case measure => simp [intOf]; omega
        case neg =>
          have HC : Hid (¬ s[k] = c) := hc
          have hcM : ¬ s[k].toNat = c.toNat := fun h => hc (UInt8.toNat_inj.1 h)
          have hcI : ((s[k].toNat : Int) == (c.toNat : Int)) = false := by simp; omega
          have hcN : ¬ (s[k].toNat : Int) = (c.toNat : Int) := by omega
          have HO : Hid (wr.ownsRow w.heap.size 9 1 u5 acc.length (strsV acc)) := hown
          clear hc hown
          go_wp2
          go_roundw
          case rel =>
            refine ⟨k + 1, fr, acc, by omega, by go_num, rfl, by omega, ⟨HO.out⟩, HBL.out, Or.inl ⟨by omega, by omega, ?_⟩⟩
            have := HCUT.out
            rw [drop_at s k hlt, cutG, if_neg HC.out] at this
            rw [ext_snoc s fr k hfk hlt]
            exact this
          case measure => simp [intOf]; omega
end Go.Proofs.YtnahkonklkcbeabGreatDoor.RfC
