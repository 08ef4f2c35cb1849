/-
  What the document's own answer does to the world: figures.
-/
import Derived.Test.YtnahkonklkcbeabGreatDoorRefI
namespace Go.Proofs.YtnahkonklkcbeabGreatDoor.RfC
open Go.RowKit RuM
set_option maxRecDepth 100000

/-- Figures alone, from the k-th on: their number. -/
def figG (k n : Nat) : List UInt8 → Option Nat
  | [] => some n
  | c :: r => if 48 ≤ c.toNat ∧ c.toNat ≤ 57 ∧ k ≤ 8 then figG (k + 1) (10 * n + (c.toNat - 48)) r else none
theorem figG_digs : ∀ (l : List UInt8) (k n : Nat), digs l → k + l.length ≤ 9 → figG k n l = some (valL n l)
  | [], _, _, _, _ => rfl
  | c :: r, k, n, hd, hl => by
    have hc := hd c (by simp)
    simp only [List.length_cons] at hl
    rw [figG, if_pos ⟨hc.1, hc.2, by omega⟩, figG_digs r (k + 1) _ (fun x hx => hd x (by simp [hx])) (by omega)]
    unfold valL
    rw [List.foldl_cons, Nat.mul_comm 10 n]
theorem figG_lt : ∀ (l : List UInt8) (k n m : Nat), k ≤ 9 → n < 10 ^ k → figG k n l = some m → m < 1000000000
  | [], k, n, m, hk, hn, h => by
    simp [figG] at h; subst h
    exact Nat.lt_of_lt_of_le hn (Nat.pow_le_pow_right (n := 10) (by omega) hk)
  | c :: r, k, n, m, hk, hn, h => by
    rw [figG] at h
    split at h
    case isTrue hc => exact figG_lt r (k + 1) _ m (by omega) (by rw [Nat.pow_succ]; omega) h
    case isFalse => cases h
/-- What figures answers. -/
def figV (s : ByteArray) : Value := match figG 0 0 s.data.toList with
  | some n => .tuple #[.int .i64 n, .bool (!s.toList.isEmpty)]
  | none => .tuple #[.int .i64 0, .bool false]

set_option maxHeartbeats 2000000 in
theorem figures_any (s : ByteArray) (w : World) (hs : s.size ≤ 200) :
    Calls Tryz.prog 26 #[.string s] w fun e w' => e = .returned (figV s) ∧ w' = w := by
  obtain ⟨R, hR⟩ : ∃ R, R = figG 0 0 s.data.toList := ⟨_, rfl⟩
  have HR : Hid (R = figG 0 0 s.data.toList) := hR
  clear hR
  go_enter Tryz.func26, Tryz.ntmps26
  go_wp2
  go_loop [4, 5] (fun a i => ∃ (k n : Nat), k ≤ s.size ∧ k ≤ 9 ∧ n < 10 ^ k ∧ i = .int .i64 k ∧ a = .int .i64 n ∧ figG k n (s.data.toList.drop k) = R) (fun _ i => s.size - (intOf i).toNat)
  case atStart => exact ⟨0, 0, by omega, by omega, by decide, rfl, rfl, by rw [List.drop_zero]; exact HR.out.symm⟩
  case round =>
    obtain ⟨k, n, hk, hk9, hn, rfl, rfl, hfig⟩ := hrel
    have HF : Hid (figG k n (s.data.toList.drop k) = R) := hfig
    have HN : Hid (n < 10 ^ k) := hn
    have hn9 : n < 1000000000 := Nat.lt_of_lt_of_le hn (Nat.pow_le_pow_right (n := 10) (by omega) hk9)
    clear hfig hn
    by_cases hlt : k < s.size
    case neg =>
      obtain rfl : k = s.size := by omega
      go_wp2
      go_ret2
      have h1 := HF.out
      rw [drop_end, figG, HR.out] at h1
      refine ⟨?_, rfl⟩
      unfold figV
      rw [← h1]
      rfl
    case pos =>
      have hkI : (k : Int) < s.size := by omega
      have hb := s[k].toNat_lt
      have h1 := HF.out
      rw [drop_at s k hlt, figG] at h1
      have HF1 : Hid ((if 48 ≤ s[k].toNat ∧ s[k].toNat ≤ 57 ∧ k ≤ 8 then figG (k + 1) (10 * n + (s[k].toNat - 48)) (s.data.toList.drop (k + 1)) else none) = R) := h1
      clear h1
      by_cases c1 : s[k].toNat < 48
      · have c1I : (s[k].toNat : Int) < 48 := by omega
        have c1D : decide ((s[k].toNat : Int) < 48) = true := by simpa using c1I
        go_wp2
        go_ret2
        have h1 := HF1.out
        rw [if_neg (by omega), HR.out] at h1
        refine ⟨?_, rfl⟩
        unfold figV
        rw [← h1]
        rfl
      have c1I : ¬ (s[k].toNat : Int) < 48 := by omega
      have c1D : decide ((s[k].toNat : Int) < 48) = false := by simpa using c1I
      by_cases c2 : 57 < s[k].toNat
      · have c2I : 57 < (s[k].toNat : Int) := by omega
        have c2D : decide (57 < (s[k].toNat : Int)) = true := by simpa using c2I
        go_wp2
        go_ret2
        have h1 := HF1.out
        rw [if_neg (by omega), HR.out] at h1
        refine ⟨?_, rfl⟩
        unfold figV
        rw [← h1]
        rfl
      have c2I : ¬ 57 < (s[k].toNat : Int) := by omega
      have c2D : decide (57 < (s[k].toNat : Int)) = false := by simpa using c2I
      by_cases c3 : 8 < k
      · go_wp2
        go_ret2
        have h1 := HF1.out
        rw [if_neg (by omega), HR.out] at h1
        refine ⟨?_, rfl⟩
        unfold figV
        rw [← h1]
        rfl
      have HN1 : Hid (10 * n + (s[k].toNat - 48) < 10 ^ (k + 1)) := by
        show 10 * n + (s[k].toNat - 48) < 10 ^ (k + 1)
        have := HN.out
        rw [Nat.pow_succ]; omega
      go_wp2
      go_round
      case rel =>
        refine ⟨k + 1, 10 * n + (s[k].toNat - 48), by omega, by omega, HN1.out, by go_num, by go_num, ?_⟩
        have h1 := HF1.out
        rw [if_pos (by omega)] at h1
        exact h1
      case measure => simp [intOf]; omega
theorem toL_ne {l : List UInt8} (h : l ≠ []) : (⟨l.toArray⟩ : ByteArray).toList.isEmpty = false := by
  have e : (⟨l.toArray⟩ : ByteArray).toList = l := by simp [ByteArray.toList_eq]
  rw [e]
  cases l with
  | nil => exact absurd rfl h
  | cons => rfl
theorem figV_digs {l : List UInt8} {n : Nat} (hd : digs l) (hne : l ≠ []) (hv : valL 0 l = n) (hl : l.length ≤ 9) : figV ⟨l.toArray⟩ = .tuple #[.int .i64 n, .bool true] := by
  have e : figG 0 0 (⟨l.toArray⟩ : ByteArray).data.toList = some n := by
    show figG 0 0 l.toArray.toList = _
    rw [List.toList_toArray, figG_digs l 0 0 hd (by omega), hv]
  unfold figV
  rw [e]
  show Value.tuple #[.int .i64 n, .bool (!(⟨l.toArray⟩ : ByteArray).toList.isEmpty)] = _
  rw [toL_ne hne]; rfl
theorem figV_any (s : ByteArray) : ∃ (n : Nat) (b : Bool), n < 1000000000 ∧ figV s = .tuple #[.int .i64 n, .bool b] := by
  unfold figV
  cases h : figG 0 0 s.data.toList with
  | none => exact ⟨0, false, by decide, rfl⟩
  | some n => exact ⟨n, _, figG_lt _ 0 0 n (by omega) (by decide) h, rfl⟩
end Go.Proofs.YtnahkonklkcbeabGreatDoor.RfC
