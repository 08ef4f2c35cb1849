/-
  What New and take do to the world.
-/
import Derived.Test.YtllhfbnafemoeaaEpC
namespace Go.Proofs.Ytllhfbnafemoeaa.EpA
open Go.RowKit EpM EpW Go.Maps
set_option maxRecDepth 100000

theorem zero73 (w : World) : (zeroValue 73).run Try.prog w = .ok nilS w := by kernel_rfl
/-- A look-up in the desk's map. -/
theorem wpList_lookup_held {P : Program} (w : World) {ops : Array Oper} {rest : List Oper} {o : Oper} {a : Act} {Q : Exit → Act → World → Prop}
    (hg : o.guard = none) (m x : Operand) (t : TypeId) (hop : o.op = Op.lookup t m x false)
    (k e : TypeId) (z : Value) (K : Keyed P k) (ht : P.underlying t = some (.map k e)) (hz : (zeroValue e).run P w = .ok z w) (b n : Nat) (D : DataW Value)
    (hm : a.eval m = .map (some b)) (hown : w.ownsMap P k heldV b n D) (key : Value) (kl : Lit) (hx : a.eval x = key) (hkey : keyOf P k key = some kl) (v : Value) (hv : D.atKey kl (.held z) = .held v)
    (hK : wpList P ops Q rest (a.put o.dst v) w) :
    wpList P ops Q (o :: rest) a w := by
  refine wpList_plain hg fun K' hK' => ?_
  obtain ⟨u, ps, hrun, hR⟩ := hown.lookup K ht hz (zd := .held z) (zp := []) rfl hkey
  rw [hv] at hR
  unfold heldV at hR
  simp at hR
  obtain ⟨rfl, _⟩ := hR
  unfold Oper.wp
  simp [execOp, hop, hm, hx, hrun, Result.andThen]
  exact hK' _ _ hK

theorem ptrDesk (w : World) (size late : Nat) : DeskAt ((w.alloc (.map #[] 0)).alloc (.cells #[.int .i64 (size : Int), .int .i64 (late : Int), .int .i64 0, .map (some w.heap.size)] 89)) (w.heap.size + 1) (fun b => w.heap.size ≤ b ∧ b < w.heap.size + 2) size late 0 [] 0 := by
  refine ⟨w.heap.size, 0, .map [], fun _ => nilS, ?_⟩
  refine ⟨?_, ?_, Nat.le_refl _, by omega, by omega, fun k _ => rfl, fun k _ => World.ownsRow_nil _ _ _ _, fun k b _ h => by simp [nilS, Value.ownBlock] at h, fun k k' _ _ _ b h => by simp [nilS, Value.ownBlock] at h⟩
  · have := Go.heap_alloc_new (w.alloc (.map #[] 0)) (.cells #[.int .i64 (size : Int), .int .i64 (late : Int), .int .i64 0, .map (some w.heap.size)] 89)
    simpa using this
  · exact (World.ownsMap_made w Try.prog 3 heldV).alloc _

set_option maxHeartbeats 400000 in
theorem new_ok (size late : Nat) (w : World) (h0 : 1 ≤ size) (h1 : size ≤ 50) (h2 : late ≤ 50) :
    Calls Try.prog 21 #[.int .i64 (size : Int), .int .i64 (late : Int)] w fun e w' => e = .returned (.tuple #[.pointer (some ⟨w.heap.size + 1, 0, none⟩), .nilIface]) ∧ w'.heap.size = w.heap.size + 2 ∧ DeskAt w' (w.heap.size + 1) (fun b => w.heap.size ≤ b ∧ b < w.heap.size + 2) size late 0 [] 0 ∧ Below w.heap.size w w' := by
  have hmm := @run_makeMap Try.prog
  have b1 : btw (size : Int) 1 50 = true := by simp [btw]; omega
  have b2 : btw (late : Int) 0 50 = true := by simp [btw]; omega
  have HD : Hid _ := ptrDesk w size late
  go_enter Try.func21, Try.ntmps21
  go_wp2_with fail
  refine (between_is b1 _).mono ?_
  rintro e w' ⟨rfl, rfl⟩
  go_wp2_with fail
  refine (between_is b2 _).mono ?_
  rintro e w' ⟨rfl, rfl⟩
  go_wp2
  go_ret2
  exact ⟨rfl, by simp, HD.out, ((Below.refl _ _).alloc (Nat.le_refl _) _).alloc (by simp) _⟩
theorem new_bad (size late : Int) (w : World) (h : ¬ (1 ≤ size ∧ size ≤ 50 ∧ 0 ≤ late ∧ late ≤ 50)) :
    Calls Try.prog 21 #[.int .i64 size, .int .i64 late] w fun e w' => e = .returned (.tuple #[.pointer none, .iface 79 (.int .i64 1)]) ∧ w' = w := by
  cases b1 : btw size 1 50 with
  | false =>
    go_enter Try.func21, Try.ntmps21
    go_wp2_with fail
    refine (between_is b1 _).mono ?_
    rintro e w' ⟨rfl, rfl⟩
    go_wp2
    go_ret2
    exact ⟨rfl, rfl⟩
  | true =>
    have b2 : btw late 0 50 = false := by simp [btw] at b1 ⊢; omega
    go_enter Try.func21, Try.ntmps21
    go_wp2_with fail
    refine (between_is b1 _).mono ?_
    rintro e w' ⟨rfl, rfl⟩
    go_wp2_with fail
    refine (between_is b2 _).mono ?_
    rintro e w' ⟨rfl, rfl⟩
    go_wp2
    go_ret2
    exact ⟨rfl, rfl⟩

/-- Something of F is taken away. -/
def less (F : Nat → Prop) (v : Value) : Nat → Prop := fun b => F b ∧ v.ownBlock ≠ some b
section
variable {w : World} {db : Nat} {F : Nat → Prop} {size late now : Nat} {all : List Sg} {lo : Nat}
theorem taken {mb n : Nat} {D : DataW Value} {h : Nat → Value} {w1 w2 : World} (d : DeskIn w db mb n D h F size late now all lo) (hT : w.grownBy w1 (some mb)) (hO : w1.ownsMap Try.prog 3 heldV mb n (D.del (.int .i64 (lo : Int)))) (hG : w1.grownBy w2 (h lo).ownBlock) :
    DeskIn w2 db mb n (D.del (.int .i64 (lo : Int))) h (less F (h lo)) size late now all (lo + 1) where
  cells := by
    rw [hG.block db (Nat.lt_of_lt_of_le d.lt hT.size) (fun e => (d.rne (Nat.le_refl _) e.symm).1 rfl), hT.block db d.lt (fun e => d.ne (by simpa using e.symm))]
    exact d.cells
  own := hO.kept hG (fun e => (d.rne (Nat.le_refl _) e.symm).2 rfl)
  room := d.room
  fd := ⟨d.fd, fun e => (d.rne (Nat.le_refl _) e).1 rfl⟩
  fm := ⟨d.fm, fun e => (d.rne (Nat.le_refl _) e).2 rfl⟩
  key := fun k hk => by
    rw [Maps.atKey_del_other (fun e => by simp at e; omega)]
    exact d.key k (by omega)
  row := fun k hk => own_keep (d.row k (by omega)) (fun b hb => by
    have hlt := own_lt (d.row k (by omega)) hb
    rw [hG.block b (Nat.lt_of_lt_of_le hlt hT.size) (fun e => d.apart lo k (Nat.le_refl _) (by omega) (by omega) b e.symm hb), hT.block b hlt (fun e => (d.rne (by omega) hb).2 (by simpa using e))])
  fr := fun k b hk hb => ⟨d.fr k b (by omega) hb, fun e => d.apart lo k (Nat.le_refl _) (by omega) (by omega) b e hb⟩
  apart := fun k k' hk hk' => d.apart k k' (by omega) (by omega)
set_option maxHeartbeats 400000 in
theorem take_any (d : DeskAt w db F size late now all lo) (hlo : lo ≤ 1000) (hal : all.length ≤ 100000) :
    Calls Try.prog 40 #[.pointer (some ⟨db, 0, none⟩), .int .i64 (lo : Int)] w fun e w' => ∃ v, e = .returned v ∧ w'.ownsRow 0 61 4 v (grp size all lo).length (sgcs (sorted (grp size all lo))) ∧ (∀ b, v.ownBlock = some b → F b ∧ b < w.heap.size) ∧ DeskAt w' db (less F v) size late now all (lo + 1) ∧ Kp F w w' := by
  obtain ⟨mb, n, D, h, d⟩ := d.out
  have c3 := d.c3
  have hown := d.own
  have hkey := d.key lo (Nat.le_refl _)
  have HD : Hid (DeskIn w db mb n D h F size late now all lo) := d
  clear d
  go_enter Try.func40, Try.ntmps40
  go_wp2_with (first | (at_lookup; refine wpList_lookup_held _ rfl _ _ 87 rfl 3 73 nilS law3 Try.underlying87 (zero73 _) mb n D rfl hown _ _ rfl (keyOf_int_mk Try.underlying3 (WalkArith.wf_i64 (by omega))) _ hkey ?_) | (at_delete; refine wpList_delete_own _ rfl _ _ 87 3 rfl 73 law3 Try.underlying87 heldV mb n D rfl hown _ _ rfl (keyOf_int_mk Try.underlying3 (WalkArith.wf_i64 (by omega))) ?_; intro w1 hown1 hturn1))
  have hg1 := hturn1.grown
  have hrow : w1.ownsRow 0 61 4 (h lo) (grp size all lo).length (sgcs (grp size all lo)) := own_keep (HD.out.row lo (Nat.le_refl _)) (fun b hb => hg1.block b (own_lt (HD.out.row lo (Nat.le_refl _)) hb) (fun e => (HD.out.rne (Nat.le_refl _) hb).2 (by simpa using e)))
  refine (sort_any (h lo) (grp size all lo) w1 hrow (Nat.le_trans (grp_length _ _ _) hal)).mono ?_
  rintro e w2 ⟨rfl, hrow2, hg2⟩
  have HR : Hid (w2.ownsRow 0 61 4 (h lo) (grp size all lo).length (sgcs (sorted (grp size all lo)))) := hrow2
  have HG : Hid (w1.grownBy w2 (h lo).ownBlock) := hg2
  have HT : Hid (w.grownBy w1 (some mb)) := hg1
  have HO : Hid (w1.ownsMap Try.prog 3 heldV mb n (D.del (.int .i64 (lo : Int)))) := hown1
  clear hrow2 hg2 hg1 hown1 hturn1 hrow hown hkey
  go_wp2
  go_ret
  exact ⟨h lo, rfl, HR.out, fun b hb => ⟨HD.out.fr lo b (Nat.le_refl _) hb, own_lt (HD.out.row lo (Nat.le_refl _)) hb⟩, ⟨mb, n, _, h, taken HD.out HT.out HO.out HG.out⟩, (grown_kp HT.out (fun k hk => by simp at hk; exact hk ▸ HD.out.fm)).trans (grown_kp HG.out (fun k hk => HD.out.fr lo k (Nat.le_refl _) hk))⟩
end
end Go.Proofs.Ytllhfbnafemoeaa.EpA
