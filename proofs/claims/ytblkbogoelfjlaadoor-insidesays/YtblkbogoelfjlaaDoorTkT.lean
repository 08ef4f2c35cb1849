/-
  What goes over the tags.
-/
import Derived.Test.YtblkbogoelfjlaaDoorTkS
import Derived.RangeFuncNested
import Derived.RangeFuncBound
import Derived.RangeFuncCalls
import Derived.RangeFuncLeaves
import Derived.Shelf.Abstract
import Derived.Shelf.RegionOpen
import Derived.OwnWalkIn
import Derived.TacticsInMore
import Derived.LoopNIn
import Derived.LoopIn
namespace Go.Proofs.YtblkbogoelfjlaaDoor.TkA
open Go.RowKit TkM TkW Go.Maps Go.Shelf
set_option maxRecDepth 100000
attribute [local go_sem] Oper.semAt_some

/-- Some blocks are as they were. -/
def KpB (S : Nat → Prop) (A B : World) : Prop := ∀ b, S b → B.heap[b]? = A.heap[b]?
theorem kpB_t {S : Nat → Prop} {A B C : World} (h : KpB S A B) (k : KpB S B C) : KpB S A C := fun b hb => (k b hb).trans (h b hb)
theorem kpB_b {S : Nat → Prop} {w : World} (hS : ∀ b, S b → b < w.heap.size) (W : World) (l : Nat) (o o' : Obj) (hl : w.heap.size ≤ l) (_ : W.heap[l]? = some o) (_ : o.isCells = false) (_ : o.isWalk = false) : KpB S W (W.putObj l o') := fun b hb => World.putObj_heap_other (fun e => by have := hS b hb; omega)
section
variable {A : ByteArray → Prop}
/-- The tags lie there. -/
structure TgOn (W : World) (Bs : Nat) (p : Option Addr) (xs : List { x : ByteArray // A x }) (cap : Nat) : Prop where
  box : W.cell? ⟨Bs, 0, none⟩ = some (.slice p xs.length cap)
  at_ : ∀ j x, xs[j]? = some x → ∃ b, p = some ⟨b, 0, none⟩ ∧ W.cell? ⟨b, j, none⟩ = some (.string x.1)
set_option maxHeartbeats 2000000 in
theorem tseq_in (n : Nat) (hn : 1 ≤ n) (l Bs : Nat) (p : Option Addr) (cap : Nat) (xs : List { x : ByteArray // A x }) (S : Nat → Prop) (hS2 : ∀ b o, p = some ⟨b, o, none⟩ → S b) (hl : xs.length ≤ 90000) (J Jx : List { x : ByteArray // A x } → World → Prop)
    (hY : ∀ pre x W1, J pre W1 → pre.length < xs.length → YieldAt Fence.wide (n - 1) Tryd.prog l #[.string x.1] W1 fun e W' => (e = .returned (.bool true) ∧ J (pre ++ [x]) W' ∧ KpB S W1 W') ∨ (e = .returned (.bool false) ∧ Jx (pre ++ [x]) W'))
    (W : World) (hT : TgOn W Bs p xs cap) (h0 : J [] W) :
    CallsIn Fence.wide n Tryd.prog 63 #[.func (.yield l) #[] #[], .pointer (some ⟨Bs, 0, none⟩)] W fun e W' => (∃ v, e = .returned v) ∧ ((∃ ys, ys = xs ∧ J ys W') ∨ (∃ pre, pre <+: xs ∧ Jx pre W')) := by
  have hbox := hT.box
  have HT : Hid (TgOn W Bs p xs cap) := hT
  obtain ⟨N, hN⟩ : ∃ N, N = xs.length := ⟨_, rfl⟩
  have HN : Hid (N = xs.length) := hN
  have HS2 : Hid (∀ b o, p = some ⟨b, o, none⟩ → S b) := hS2
  have HJ0 : Hid (J [] W) := h0
  have HY : Hid (∀ pre x W1, J pre W1 → pre.length < xs.length → YieldAt Fence.wide (n - 1) Tryd.prog l #[.string x.1] W1 fun e W' => (e = .returned (.bool true) ∧ J (pre ++ [x]) W' ∧ KpB S W1 W') ∨ (e = .returned (.bool false) ∧ Jx (pre ++ [x]) W')) := hY
  rw [← hN] at hbox hl
  have hNI : (N : Int) ≤ 90000 := by omega
  clear hT hN hS2 h0 hY
  refine callsIn_of_wp Tryd.func63 rfl trivial ?_ rfl
  simp only [Tryd.ntmps63, List.size_toArray, List.length_cons, List.length_nil, Nat.reduceAdd, Nat.reduceSub, Array.replicate_succ, Array.replicate_zero, List.push_toArray, List.append_toArray, List.nil_append, List.cons_append]
  gi_wp2
  gi_loopw [4, 7] (fun _ i wr => ∃ k : Nat, k ≤ N ∧ i = .int .i64 (k : Int) ∧ J (xs.take k) wr ∧ KpB S W wr) (fun _ i _ => N - (intOf i).toNat)
  case atStart => exact ⟨0, Nat.zero_le _, rfl, HJ0.out, fun _ _ => rfl⟩
  case round =>
    obtain ⟨k, hk, rfl, hJ, hkp⟩ := hrel
    have HJ : Hid (J (xs.take k) wr) := hJ
    have HKP : Hid (KpB S W wr) := hkp
    clear hJ hkp
    by_cases hlt : k < N
    · have hkI : (k : Int) < N := by omega
      have hk' : k < xs.length := by rw [← HN.out]; exact hlt
      obtain ⟨b, hpe, hc⟩ := HT.out.at_ k _ (List.getElem?_eq_getElem hk')
      have hc' : wr.cell? ⟨b, k, none⟩ = some (.string xs[k].1) := by rw [World.cell?_of_block (HKP.out b (HS2.out b 0 hpe))]; exact hc
      have HTK : Hid (xs.take k ++ [xs[k]] = xs.take (k + 1)) := by show _ = _; rw [List.take_add_one, List.getElem?_eq_getElem hk']; rfl
      obtain ⟨fn, tmps, assign, body, hy, hR⟩ := HY.out (xs.take k) xs[k] wr HJ.out (by rw [List.length_take]; omega)
      generalize xs[k] = x at *
      obtain ⟨x, hx⟩ := x
      simp only at hc' hy hR
      subst hpe
      clear hc
      gi_wp2
      refine hR.mono ?_
      rintro e W3 (⟨rfl, hJ3, hk3⟩ | ⟨rfl, hJx3⟩)
      · have HJ3 : Hid (J (xs.take (k + 1)) W3) := by rw [← HTK.out]; exact hJ3
        have HK3 : Hid (KpB S W W3) := kpB_t HKP.out hk3
        clear hJ3 hk3
        gi_wp2
        go_roundw
        case rel => exact ⟨k + 1, by omega, by go_num, HJ3.out, HK3.out⟩
        case measure => simp [intOf]; omega
      · have HJ3 : Hid (Jx (xs.take (k + 1)) W3) := by rw [← HTK.out]; exact hJx3
        clear hJx3
        gi_wp2
        refine bodyPost_ret (results_none rfl _ _ _) rfl ?_
        exact ⟨⟨_, rfl⟩, .inr ⟨_, List.take_prefix _ _, HJ3.out⟩⟩
    · have hkk : k = N := by omega
      subst hkk
      have hII : ¬ (k : Int) < k := by omega
      gi_wp2
      go_end0
      refine ⟨⟨_, rfl⟩, .inl ?_⟩
      have := HJ.out
      rw [HN.out, List.take_length] at this
      exact this
theorem TgOn.keep {W W' : World} {Bs : Nat} {p : Option Addr} {xs : List { x : ByteArray // A x }} {cap : Nat} {S : Nat → Prop} (h : TgOn W Bs p xs cap) (hS1 : S Bs) (hS2 : ∀ b o, p = some ⟨b, o, none⟩ → S b) (hk : KpB S W W') : TgOn W' Bs p xs cap where
  box := by rw [World.cell?_of_block (hk Bs hS1)]; exact h.box
  at_ := fun j x hx => by
    obtain ⟨b, hp, hc⟩ := h.at_ j x hx
    exact ⟨b, hp, by rw [World.cell?_of_block (hk b (hS2 b 0 hp))]; exact hc⟩
theorem tseq_stops (n : Nat) (hn : 1 ≤ n) (w : World) (Bs : Nat) (p : Option Addr) (cap : Nat) (xs : List { x : ByteArray // A x }) (S : Nat → Prop) (hS1 : S Bs) (hS2 : ∀ b o, p = some ⟨b, o, none⟩ → S b) (hl : xs.length ≤ 90000) (hlt : ∀ b, S b → b < w.heap.size) (hT : TgOn w Bs p xs cap) :
    SeqStopsK Fence.wide n Tryd.prog 63 #[.pointer (some ⟨Bs, 0, none⟩)] (fun x : { x : ByteArray // A x } => #[Value.string x.1]) (KpB S) (fun ys => ys = xs) (fun pre => pre <+: xs) xs.length w := fun l J Jx W hW _ _ hY h0 =>
  tseq_in n hn l Bs p cap xs S hS2 hl J Jx hY W (hT.keep hS1 hS2 (fun b hb => hW.block b (hlt b hb))) h0
end
end Go.Proofs.YtblkbogoelfjlaaDoor.TkA
