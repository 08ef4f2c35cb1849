/-
  Digits; what Parse answers.
-/
import Derived.Test.YtnahkonklkcbeabGreatDoorTagF
import Derived.Lib.AppendIntMem
import Derived.Deep.DeepCutAuto
import Derived.Deep.RegionHeld3
import Derived.Deep.DrawnRows
namespace Go.Proofs.YtnahkonklkcbeabGreatDoor.TagA
open Go.RowKit TagM
set_option maxRecDepth 100000

/-- A number's digits. -/
def dec (n : Nat) : List UInt8 := Lib.decDigits n
theorem app_bytes (a b : List UInt8) : (⟨a.toArray⟩ : ByteArray) ++ ⟨b.toArray⟩ = ⟨(a ++ b).toArray⟩ := by
  apply ByteArray.ext
  simp

theorem keepCell {w w' : World} {a : Addr} {v : Value} (hb : Below w.heap.size w w') (h : w.cell? a = some v) : w'.cell? a = some v := by
  rw [hb.cell (World.block_lt_of_cell? w a h)]; exact h
theorem keepBelow {W w w' : World} (h : Below W.heap.size W w) (hb : Below w.heap.size w w') : Below W.heap.size W w' := h.trans (hb.mono h.size)
theorem drewCell {w : World} {a : Addr} {v : Value} (h : w.cell? a = some v) : w.drew.cell? a = some v := h
theorem drewBelow {W w : World} (h : Below W.heap.size W w) : Below W.heap.size W w.drew := h.drew
theorem allocCell {w : World} {a : Addr} {v : Value} (o : Obj) (h : w.cell? a = some v) : (w.alloc o).cell? a = some v := keepCell ((Below.refl _ _).alloc (Nat.le_refl _) o) h
theorem allocBelow {W w : World} (o : Obj) (h : Below W.heap.size W w) : Below W.heap.size W (w.alloc o) := keepBelow h ((Below.refl _ _).alloc (Nat.le_refl _) o)
theorem dec_len {n d : Nat} (h : n < 10 ^ d) (hd : 1 ≤ d) : (dec n).length ≤ d := by
  unfold dec
  rw [Lib.decDigits_length]
  induction d generalizing n with
  | zero => omega
  | succ d ih =>
    by_cases hn : n < 10
    · rw [Lib.nDigits_small hn]; omega
    · rw [Lib.nDigits_big hn]
      have h2 : n / 10 < 10 ^ d := by rw [Nat.pow_succ] at h; omega
      have hd1 : 1 ≤ d := by
        cases d with
        | zero => simp at h2; omega
        | succ d => omega
      have := ih h2 hd1
      omega

theorem bytes_inj {a b : ByteArray} (h : a.data.toList = b.data.toList) : a = b := by
  apply ByteArray.ext
  exact Array.toList_inj.1 h
def okP (n : Nat) : Bool := decide (Pf n < 6) && okB ((Kf n : Int) - 47) (Ff n) (Pf n) (Cf n (Pf n)) (Rf n (Pf n)) (Sf n)
/-- What Parse answers. -/
def parseV (s : ByteArray) : Value :=
  if s.size = 8 ∧ okP (numU s.data.toList) = true then .tuple #[tagV ((Kf (numU s.data.toList) : Int) - 47) (Ff (numU s.data.toList)) (Pf (numU s.data.toList)) (Cf (numU s.data.toList) (Pf (numU s.data.toList))) (Rf (numU s.data.toList) (Pf (numU s.data.toList))) (Sf (numU s.data.toList)), .nilIface]
  else .tuple #[noTag, .iface 57 (.int .i64 3)]
theorem parse_any (s : ByteArray) (w : World) (hT : Tabs w) (hm : s.size ≤ maxLen) :
    Calls Tryz.prog 51 #[.string s] w fun e w' => e = .returned (parseV s) ∧ Below w.heap.size w w' := by
  by_cases h8 : s.size = 8
  case neg =>
    have e : parseV s = .tuple #[noTag, .iface 57 (.int .i64 3)] := by unfold parseV; rw [if_neg (fun h => h8 h.1)]
    rw [e]
    exact parse_len s w h8 hm
  by_cases hP : Pf (numU s.data.toList) < 6
  case neg =>
    have e : parseV s = .tuple #[noTag, .iface 57 (.int .i64 3)] := by
      unfold parseV; rw [if_neg]; intro h; unfold okP at h; simp [hP] at h
    rw [e]
    exact parse_part s w h8 _ rfl (by omega)
  have := parse_8 s w hT h8 _ _ rfl rfl hP _ rfl
  have e : parseV s = if okB ((Kf (numU s.data.toList) : Int) - 47) (Ff (numU s.data.toList)) (Pf (numU s.data.toList)) (Cf (numU s.data.toList) (Pf (numU s.data.toList))) (Rf (numU s.data.toList) (Pf (numU s.data.toList))) (Sf (numU s.data.toList)) then .tuple #[tagV ((Kf (numU s.data.toList) : Int) - 47) (Ff (numU s.data.toList)) (Pf (numU s.data.toList)) (Cf (numU s.data.toList) (Pf (numU s.data.toList))) (Rf (numU s.data.toList) (Pf (numU s.data.toList))) (Sf (numU s.data.toList)), .nilIface] else .tuple #[noTag, .iface 57 (.int .i64 3)] := by
    unfold parseV okP
    simp [h8, hP]
  rw [e]
  exact this

theorem byt_lt (n i : Nat) : byt n i < 256 := Nat.mod_lt _ (by decide)
theorem byt_toNat (n i : Nat) : (UInt8.ofNat (byt n i)).toNat = byt n i := by
  rw [UInt8.toNat_ofNat']; have := byt_lt n i; omega
theorem be8_size (n : Nat) : (be8 n).size = 8 := rfl
theorem numU_be8 {n : Nat} (h : n < 2 ^ 64) : numU (be8 n).data.toList = n := by
  show numU [UInt8.ofNat (byt n 0), UInt8.ofNat (byt n 1), UInt8.ofNat (byt n 2), UInt8.ofNat (byt n 3), UInt8.ofNat (byt n 4), UInt8.ofNat (byt n 5), UInt8.ofNat (byt n 6), UInt8.ofNat (byt n 7)] = n
  simp only [numU, List.foldl_cons, List.foldl_nil, byt_toNat]
  simp only [pk, byt]
  simp only [Nat.reducePow, Nat.reduceMul, Nat.reduceSub] at *
  omega
theorem be8_numU {s : ByteArray} (h : s.size = 8) : be8 (numU s.data.toList) = s := by
  obtain ⟨⟨l⟩⟩ := s
  match l, h with
  | [b0, b1, b2, b3, b4, b5, b6, b7], _ =>
    have h0 := UInt8.toNat_lt b0
    have h1 := UInt8.toNat_lt b1
    have h2 := UInt8.toNat_lt b2
    have h3 := UInt8.toNat_lt b3
    have h4 := UInt8.toNat_lt b4
    have h5 := UInt8.toNat_lt b5
    have h6 := UInt8.toNat_lt b6
    have h7 := UInt8.toNat_lt b7
    have key : ∀ (i : Nat) (b : UInt8), byt (numU [b0, b1, b2, b3, b4, b5, b6, b7]) i = b.toNat → UInt8.ofNat (byt (numU [b0, b1, b2, b3, b4, b5, b6, b7]) i) = b := fun i b e => by rw [e]; simp
    unfold be8
    show (⟨#[UInt8.ofNat (byt (numU [b0, b1, b2, b3, b4, b5, b6, b7]) 0), UInt8.ofNat (byt (numU [b0, b1, b2, b3, b4, b5, b6, b7]) 1), UInt8.ofNat (byt (numU [b0, b1, b2, b3, b4, b5, b6, b7]) 2), UInt8.ofNat (byt (numU [b0, b1, b2, b3, b4, b5, b6, b7]) 3), UInt8.ofNat (byt (numU [b0, b1, b2, b3, b4, b5, b6, b7]) 4), UInt8.ofNat (byt (numU [b0, b1, b2, b3, b4, b5, b6, b7]) 5), UInt8.ofNat (byt (numU [b0, b1, b2, b3, b4, b5, b6, b7]) 6), UInt8.ofNat (byt (numU [b0, b1, b2, b3, b4, b5, b6, b7]) 7)]⟩ : ByteArray) = ⟨#[b0, b1, b2, b3, b4, b5, b6, b7]⟩
    rw [key 0 b0 ?_, key 1 b1 ?_, key 2 b2 ?_, key 3 b3 ?_, key 4 b4 ?_, key 5 b5 ?_, key 6 b6 ?_, key 7 b7 ?_]
    all_goals
      simp only [numU, List.foldl_cons, List.foldl_nil, pk, byt]
      simp only [Nat.reducePow, Nat.reduceMul, Nat.reduceSub] at *
      omega

/- fields -/
theorem div_pow (n a b : Nat) : n / 2 ^ (a + b) = n / 2 ^ a / 2 ^ b := by rw [Nat.pow_add, Nat.div_div_eq_div_mul]
theorem fields {K F k C R S : Nat} (hK : K ≤ 3) (hF : F ≤ 7) (hk : k ≤ 5) (hC : C < 2 ^ cbits k) (hR : R < 2 ^ rbits k) (hS : S ≤ 16777215) :
    Kf (num K F k C R S) = K + 47 ∧ Ff (num K F k C R S) = F ∧ Pf (num K F k C R S) = k ∧ Cf (num K F k C R S) k = C ∧ Rf (num K F k C R S) k = R ∧ Sf (num K F k C R S) = S := by
  have hs := bits_sum k
  have hcb := cbits_le k
  have e24 : num K F k C R S / 2 ^ 24 = pk (pk (n3 K F k) (cbits k) C) (rbits k) R := pk_div (by omega)
  have eR : num K F k C R S / 2 ^ (24 + rbits k) = pk (n3 K F k) (cbits k) C := by rw [div_pow, e24, pk_div hR]
  have e50 : num K F k C R S / 2 ^ 50 = n3 K F k := by rw [show 50 = 24 + rbits k + cbits k by omega, div_pow, eR, pk_div hC]
  have e53 : num K F k C R S / 2 ^ 53 = pk (pk 0 8 (K + 47)) 3 F := by rw [show 53 = 50 + 3 by omega, div_pow, e50]; exact pk_div (by omega)
  have e56 : num K F k C R S / 2 ^ 56 = pk 0 8 (K + 47) := by rw [show 56 = 53 + 3 by omega, div_pow, e53]; exact pk_div (by omega)
  refine ⟨?_, ?_, ?_, ?_, ?_, ?_⟩
  · unfold Kf fld; rw [e56]; exact pk_mod (by omega)
  · unfold Ff fld; rw [e53]; exact pk_mod (by omega)
  · unfold Pf fld; rw [e50]; exact pk_mod (by omega)
  · unfold Cf fld; rw [show 50 - cbits k = 24 + rbits k by omega, eR]; exact pk_mod hC
  · unfold Rf fld; rw [e24]; exact pk_mod hR
  · unfold Sf fld; rw [Nat.pow_zero, Nat.div_one]; exact pk_mod (by omega)
theorem unfields {n K : Nat} (hn : n < 2 ^ 64) (hK : Kf n = K + 47) : num K (Ff n) (Pf n) (Cf n (Pf n)) (Rf n (Pf n)) (Sf n) = n := by
  have hs := bits_sum (Pf n)
  have hcb := cbits_le (Pf n)
  have a1 : pk 0 8 (K + 47) = n / 2 ^ 56 := by
    rw [← hK]; unfold Kf fld pk
    simp only [Nat.reducePow] at *
    omega
  have a2 : pk (pk 0 8 (K + 47)) 3 (Ff n) = n / 2 ^ 53 := by
    rw [a1]; unfold Ff fld
    rw [show 56 = 53 + 3 by omega, div_pow]; exact pk_split _ _
  have a3 : n3 K (Ff n) (Pf n) = n / 2 ^ 50 := by
    unfold n3; rw [a2]; unfold Pf fld
    rw [show 53 = 50 + 3 by omega, div_pow]; exact pk_split _ _
  have a4 : pk (n3 K (Ff n) (Pf n)) (cbits (Pf n)) (Cf n (Pf n)) = n / 2 ^ (24 + rbits (Pf n)) := by
    rw [a3]; unfold Cf fld
    rw [show 50 - cbits (Pf n) = 24 + rbits (Pf n) by omega]
    generalize hq : Pf n = q at *
    rw [show 50 = 24 + rbits q + cbits q by omega, div_pow]; exact pk_split _ _
  have a5 : pk (pk (n3 K (Ff n) (Pf n)) (cbits (Pf n)) (Cf n (Pf n))) (rbits (Pf n)) (Rf n (Pf n)) = n / 2 ^ 24 := by
    rw [a4]; unfold Rf fld
    rw [div_pow]; exact pk_split _ _
  unfold num
  rw [a5]; unfold Sf fld
  rw [Nat.pow_zero, Nat.div_one]; exact pk_split _ _

end Go.Proofs.YtnahkonklkcbeabGreatDoor.TagA
