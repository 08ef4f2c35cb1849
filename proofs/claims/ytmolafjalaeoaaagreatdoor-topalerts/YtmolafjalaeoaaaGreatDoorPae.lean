/-
  What Check does to the world. · What closing and bodyOf do to the world.
-/
import Derived.Test.YtmolafjalaeoaaaGreatDoorPad
import Derived.Deep.AppendLies
import Derived.Lib.AppendStr
import Derived.Laws.BytesArg
namespace Go.Proofs.YtmolafjalaeoaaaGreatDoor.FrmA
open Go.RowKit FrmM
set_option maxRecDepth 100000
/-- An error by its number; 0: none. -/
def errV (n : Nat) : Value := if n = 0 then .nilIface else .iface 105 (.int .i64 n)
set_option maxHeartbeats 1000000 in
theorem check_ty (T W : Int) (rs : List Rd) (p : Option Addr) (cap : Nat) (w : World) (h : btw T 1 3 = false) :
    Calls Tryz.prog 142 #[.agg #[.int .i64 T, .slice p rs.length cap, .int .i64 W]] w fun e w' => e = .returned (.iface 105 (.int .i64 1)) ∧ Below w.heap.size w w' := by
  go_enter Tryz.func142, Tryz.ntmps142
  go_wp2_with (go_at_call 170; refine (between_any _ _ _ _).mono ?_; rintro e w' ⟨rfl, rfl⟩)
  go_ret
  exact ⟨rfl, (Below.refl _ _).alloc (Nat.le_refl _) _⟩
set_option maxHeartbeats 1000000 in
theorem check_shape1 (W : Int) (n : Nat) (p : Option Addr) (cap : Nat) (w : World) (h : W ≠ 0) :
    Calls Tryz.prog 142 #[.agg #[.int .i64 1, .slice p n cap, .int .i64 W]] w fun e w' => e = .returned (.iface 105 (.int .i64 3)) ∧ Below w.heap.size w w' := by
  have b1 : btw 1 1 3 = true := rfl
  have hW : (W == 0) = false := by simpa using h
  go_enter Tryz.func142, Tryz.ntmps142
  go_wp2_with (go_at_call 170; refine (between_any _ _ _ _).mono ?_; rintro e w' ⟨rfl, rfl⟩)
  go_ret
  exact ⟨rfl, (Below.refl _ _).alloc (Nat.le_refl _) _⟩
set_option maxHeartbeats 1000000 in
theorem check_shape2 (W : Int) (p : Option Addr) (cap : Nat) (w : World) (h : W ≠ 0) :
    Calls Tryz.prog 142 #[.agg #[.int .i64 2, .slice p 0 cap, .int .i64 W]] w fun e w' => e = .returned (.iface 105 (.int .i64 3)) ∧ Below w.heap.size w w' := by
  have b1 : btw 2 1 3 = true := rfl
  have hW : (W == 0) = false := by simpa using h
  go_enter Tryz.func142, Tryz.ntmps142
  go_wp2_with (go_at_call 170; refine (between_any _ _ _ _).mono ?_; rintro e w' ⟨rfl, rfl⟩)
  go_ret
  exact ⟨rfl, (Below.refl _ _).alloc (Nat.le_refl _) _⟩
set_option maxHeartbeats 1000000 in
theorem check_shapeN (T W : Int) (n : Nat) (p : Option Addr) (cap : Nat) (w : World) (h : T = 2 ∨ T = 3) (hn : 0 < n) :
    Calls Tryz.prog 142 #[.agg #[.int .i64 T, .slice p n cap, .int .i64 W]] w fun e w' => e = .returned (.iface 105 (.int .i64 3)) ∧ Below w.heap.size w w' := by
  have b1 : btw T 1 3 = true := by rcases h with rfl | rfl <;> rfl
  have hT : (T == 1) = false := by rcases h with rfl | rfl <;> rfl
  clear h
  go_enter Tryz.func142, Tryz.ntmps142
  go_wp2_with (go_at_call 170; refine (between_any _ _ _ _).mono ?_; rintro e w' ⟨rfl, rfl⟩)
  go_ret
  exact ⟨rfl, (Below.refl _ _).alloc (Nat.le_refl _) _⟩
set_option maxHeartbeats 1000000 in
theorem check_warm (W : Int) (p : Option Addr) (cap : Nat) (w : World) (h : btw W 0 255 = false) :
    Calls Tryz.prog 142 #[.agg #[.int .i64 3, .slice p 0 cap, .int .i64 W]] w fun e w' => e = .returned (.iface 105 (.int .i64 1)) ∧ Below w.heap.size w w' := by
  have b1 : btw 3 1 3 = true := rfl
  go_enter Tryz.func142, Tryz.ntmps142
  go_wp2_with (go_at_call 170; refine (between_any _ _ _ _).mono ?_; rintro e w' ⟨rfl, rfl⟩)
  go_ret
  exact ⟨rfl, (Below.refl _ _).alloc (Nat.le_refl _) _⟩
set_option maxHeartbeats 1000000 in
theorem check_many (n : Nat) (p : Option Addr) (cap : Nat) (w : World) (h : 4 < n) :
    Calls Tryz.prog 142 #[.agg #[.int .i64 1, .slice p n cap, .int .i64 0]] w fun e w' => e = .returned (.iface 105 (.int .i64 2)) ∧ Below w.heap.size w w' := by
  have b1 : btw 1 1 3 = true := rfl
  have b2 : btw 0 0 255 = true := rfl
  have hI : (4 : Int) < n := by omega
  go_enter Tryz.func142, Tryz.ntmps142
  go_wp2_with (go_at_call 170; refine (between_any _ _ _ _).mono ?_; rintro e w' ⟨rfl, rfl⟩)
  go_ret
  exact ⟨rfl, (Below.refl _ _).alloc (Nat.le_refl _) _⟩
set_option maxHeartbeats 1000000 in
theorem check_none (T W : Int) (p : Option Addr) (cap : Nat) (w : World) (h : T = 2 ∧ W = 0 ∨ T = 3 ∧ btw W 0 255 = true) :
    Calls Tryz.prog 142 #[.agg #[.int .i64 T, .slice p 0 cap, .int .i64 W]] w fun e w' => e = .returned .nilIface ∧ Below w.heap.size w w' := by
  have b1 : btw T 1 3 = true := by rcases h with ⟨rfl, _⟩ | ⟨rfl, _⟩ <;> rfl
  have hT : (T == 1) = false := by rcases h with ⟨rfl, _⟩ | ⟨rfl, _⟩ <;> rfl
  have b2 : btw W 0 255 = true := by rcases h with ⟨_, rfl⟩ | ⟨_, h⟩; rfl; exact h
  rcases h with ⟨rfl, rfl⟩ | ⟨rfl, h⟩
  · go_enter Tryz.func142, Tryz.ntmps142
    go_wp2_with (go_at_call 170; refine (between_any _ _ _ _).mono ?_; rintro e w' ⟨rfl, rfl⟩)
    go_loopw [4, 43] (fun _ i V => i = .int .i64 0 ∧ V = w.alloc (.cells #[.int .i64 2, .slice p 0 cap, .int .i64 0] 93)) (fun _ _ _ => 0)
    case atStart => exact ⟨rfl, rfl⟩
    case round =>
      obtain ⟨rfl, rfl⟩ := hrel
      go_wp2
      go_ret
      exact ⟨rfl, (Below.refl _ _).alloc (Nat.le_refl _) _⟩
  · go_enter Tryz.func142, Tryz.ntmps142
    go_wp2_with (go_at_call 170; refine (between_any _ _ _ _).mono ?_; rintro e w' ⟨rfl, rfl⟩)
    go_loopw [4, 43] (fun _ i V => i = .int .i64 0 ∧ V = w.alloc (.cells #[.int .i64 3, .slice p 0 cap, .int .i64 W] 93)) (fun _ _ _ => 0)
    case atStart => exact ⟨rfl, rfl⟩
    case round =>
      obtain ⟨rfl, rfl⟩ := hrel
      go_wp2
      go_ret
      exact ⟨rfl, (Below.refl _ _).alloc (Nat.le_refl _) _⟩
set_option maxHeartbeats 1000000 in
theorem check_reads (rs : List Rd) (p : Option Addr) (cap : Nat) (w : World) (h : rs.length ≤ 4) (hr : ReadsOn w p rs) :
    Calls Tryz.prog 142 #[.agg #[.int .i64 1, .slice p rs.length cap, .int .i64 0]] w fun e w' => e = .returned (errV (if rs.all rdOk = true then 0 else 1)) ∧ Below w.heap.size w w' := by
  have HR : Hid (ReadsOn w p rs) := hr
  clear hr
  obtain ⟨R, hR⟩ : ∃ R, R = errV (if rs.all rdOk = true then 0 else 1) := ⟨_, rfl⟩
  have HRR : Hid (R = errV (if rs.all rdOk = true then 0 else 1)) := hR
  rw [← hR]
  clear hR
  have b1 : btw 1 1 3 = true := rfl
  have b2 : btw 0 0 255 = true := rfl
  obtain ⟨n, hn⟩ : ∃ n, n = rs.length := ⟨_, rfl⟩
  rw [← hn] at h ⊢
  have HN : Hid (n = rs.length) := hn
  have hI : ¬ (4 : Int) < n := by omega
  clear hn
  go_enter Tryz.func142, Tryz.ntmps142
  go_wp2_with (go_at_call 170; refine (between_any _ _ _ _).mono ?_; rintro e w' ⟨rfl, rfl⟩)
  go_loopw [4, 43] (fun _ i V => ∃ k : Nat, k ≤ n ∧ i = .int .i64 k ∧ Below (w.heap.size + 1) (w.alloc (.cells #[.int .i64 1, .slice p n cap, .int .i64 0] 93)) V ∧ (rs.take k).all rdOk = true) (fun _ i _ => n - (intOf i).toNat)
  case atStart => exact ⟨0, Nat.zero_le _, rfl, Below.refl _ _, rfl⟩
  case round =>
    obtain ⟨k, hk, rfl, hbl, hall⟩ := hrel
    by_cases hlt : k < n
    · have hkI : (k : Int) < n := by omega
      have hk' : k < rs.length := by rw [← HN.out]; exact hlt
      obtain ⟨b, o, rfl, hb, hc⟩ := HR.out.at_ (by intro e; rw [e] at hk'; simp at hk')
      have hrd := (hc k _ (List.getElem?_eq_getElem hk')).keep ((hbl.block b (by omega)).trans (Below.heap_alloc w _ b hb))
      have ht := HR.out.tags _ (List.getElem_mem hk')
      obtain ⟨c0, c1, c2, c3⟩ := hrd
      have HT : Hid (rs[k].t.size ≤ maxLen) := ht
      have HB : Hid (Below w.heap.size w wr) := ((Below.refl _ w).alloc (Nat.le_refl _) _).trans (hbl.mono (by omega))
      have HBL : Hid (Below (w.heap.size + 1) (w.alloc (.cells #[.int .i64 1, .slice (some ⟨b, o, none⟩) n cap, .int .i64 0] 93)) wr) := hbl
      have hsz : w.heap.size + 1 ≤ wr.heap.size := by have := hbl.size; simpa using this
      have HA : Hid ((rs.take k).all rdOk = true) := hall
      have HK : Hid (rs.take (k + 1) = rs.take k ++ [rs[k]]) := List.take_succ_eq_append_getElem hk'
      have HD : Hid (rs.all rdOk = true → rdOk rs[k] = true) := fun h => List.all_eq_true.1 h _ (List.getElem_mem hk')
      clear hbl hc ht hall hb
      go_wp2_with fail
      refine (isRead_any _ _ HT.out).mono ?_
      rintro e w1 ⟨rfl, hb1⟩
      have HB1 : Hid (Below (wr.alloc (.cells #[.int .i64 rs[k].a, .int .i64 rs[k].s, .int .i64 rs[k].g, .string rs[k].t] 90)).heap.size (wr.alloc (.cells #[.int .i64 rs[k].a, .int .i64 rs[k].s, .int .i64 rs[k].g, .string rs[k].t] 90)) w1) := hb1
      clear hb1 c0 c1 c2 c3
      cases hok : rdOk rs[k]
      · go_wp2
        go_ret
        refine ⟨?_, ?_⟩
        · rw [HRR.out, if_neg (fun h => by have := HD.out h; rw [hok] at this; cases this)]
          rfl
        · exact (HB.out.alloc (by omega) _).trans (HB1.out.mono (by simp; omega))
      · go_wp2
        go_roundw
        case rel =>
          refine ⟨k + 1, by omega, by go_num, (HBL.out.alloc (by omega) _).trans (HB1.out.mono (by simp; omega)), ?_⟩
          rw [HK.out, List.all_append, HA.out]
          simp [hok]
        case measure => simp [intOf]; omega
    · obtain rfl : k = n := by omega
      have HA : Hid ((rs.take k).all rdOk = true) := hall
      have HB : Hid (Below w.heap.size w wr) := ((Below.refl _ w).alloc (Nat.le_refl _) _).trans (hbl.mono (by omega))
      clear hbl hall
      go_wp2
      go_ret
      refine ⟨?_, HB.out⟩
      have := HA.out
      rw [HN.out, List.take_length] at this
      rw [HRR.out, if_pos this]
      rfl
theorem errV_pos {n : Nat} (h : n ≠ 0) : errV n = .iface 105 (.int .i64 n) := by unfold errV; rw [if_neg h]
theorem check_any (f : Fr) (p : Option Addr) (cap : Nat) (w : World) (hr : ReadsOn w p f.rs) :
    Calls Tryz.prog 142 #[.agg #[.int .i64 f.ty, .slice p f.rs.length cap, .int .i64 f.wm]] w fun e w' => e = .returned (errV (fault f)) ∧ Below w.heap.size w w' := by
  obtain ⟨T, rs, W⟩ := f
  simp only at hr ⊢
  unfold fault
  simp only
  cases h1 : btw T 1 3 with
  | false =>
    rw [if_pos rfl]
    exact check_ty T W rs p cap w h1
  | true =>
    rw [if_neg (by simp)]
    have h1' := btw_true.1 h1
    rcases (show T = 1 ∨ T = 2 ∨ T = 3 by omega) with rfl | rfl | rfl
    · by_cases hW : W = 0
      · subst hW
        rw [if_neg (by simp), if_neg (by decide)]
        by_cases h4 : 4 < rs.length
        · rw [if_pos h4]
          exact check_many rs.length p cap w h4
        · rw [if_neg h4]
          exact check_reads rs p cap w (by omega) hr
      · rw [if_pos (Or.inr ⟨by decide, hW⟩)]
        exact check_shape1 W rs.length p cap w hW
    · by_cases hn : 0 < rs.length
      · rw [if_pos (Or.inl ⟨by decide, hn⟩)]
        exact check_shapeN 2 W rs.length p cap w (Or.inl rfl) hn
      · obtain rfl : rs = [] := List.length_eq_zero_iff.1 (by omega)
        by_cases hW : W = 0
        · subst hW
          rw [if_neg (by simp), if_neg (by decide), if_neg (by simp), if_pos List.all_nil]
          exact check_none 2 0 p cap w (Or.inl ⟨rfl, rfl⟩)
        · rw [if_pos (Or.inr ⟨by decide, hW⟩)]
          exact check_shape2 W p cap w hW
    · by_cases hn : 0 < rs.length
      · rw [if_pos (Or.inl ⟨by decide, hn⟩)]
        exact check_shapeN 3 W rs.length p cap w (Or.inr rfl) hn
      · obtain rfl : rs = [] := List.length_eq_zero_iff.1 (by omega)
        rw [if_neg (by simp)]
        cases hW : btw W 0 255 with
        | false =>
          rw [if_pos rfl]
          exact check_warm W p cap w hW
        | true =>
          rw [if_neg (by simp), if_neg (by simp), if_pos List.all_nil]
          exact check_none 3 W p cap w (Or.inr ⟨rfl, hW⟩)
end Go.Proofs.YtmolafjalaeoaaaGreatDoor.FrmA
namespace Go.Proofs.YtmolafjalaeoaaaGreatDoor.FrmA
open Go.RowKit FrmM
set_option maxRecDepth 100000
def cellsU (l : List UInt8) : List Value := l.map fun x => Value.int .u8 (x.toNat : Int)
theorem cellsU_len (l : List UInt8) : (cellsU l).length = l.length := by simp [cellsU]
theorem cellsU_append (l m : List UInt8) : cellsU (l ++ m) = cellsU l ++ cellsU m := by simp [cellsU]
/-- A list of bytes that the call has made. -/
structure BytesAt (V : World) (base : Nat) (v : Value) (l : List UInt8) : Prop where
  own : V.ownsRow base 5 1 v l.length (cellsU l)
theorem BytesAt.nil (V : World) (base : Nat) : BytesAt V base (.slice none 0 0) [] := ⟨World.ownsRow_nil _ _ _ _⟩
theorem addr_add (g j : Nat) : (⟨g, 0, none⟩ : Addr).add j = ⟨g, j, none⟩ := by unfold Addr.add; split <;> simp_all
theorem BytesAt.form {V : World} {base : Nat} {v : Value} {l : List UInt8} (h : BytesAt V base v l) (hl : l ≠ []) : ∃ g cap, v = .slice (some ⟨g, 0, none⟩) l.length cap ∧ base ≤ g ∧ g < V.heap.size ∧ ∀ j x, l[j]? = some x → V.cell? ⟨g, j, none⟩ = some (.int .u8 (x.toNat : Int)) := by
  obtain ⟨g, cap, rfl, h1, h2⟩ := h.own.form (List.length_pos_iff.2 hl)
  refine ⟨g, cap, rfl, h1, h2, fun j x hx => ?_⟩
  have := h.own.cells (g := g) rfl j (.int .u8 (x.toNat : Int)) (by unfold cellsU; rw [List.getElem?_map, hx]; rfl)
  rwa [addr_add] at this
theorem info_parts {e : TypeId} {z : Value} {a b : Nat} (h : (Tryz.prog.info? e).map (fun i => (i.zero, i.size, i.bytes)) = some (some z, a, b)) : ∃ i, Tryz.prog.info? e = some i ∧ i.zero = some z ∧ i.size = a ∧ i.bytes = b := by
  cases hi : Tryz.prog.info? e with
  | none => rw [hi] at h; cases h
  | some i =>
    rw [hi] at h
    simp at h
    exact ⟨i, rfl, h.1, h.2.1, h.2.2⟩
theorem info5 : (Tryz.prog.info? 5).map (fun i => (i.zero, i.size, i.bytes)) = some (some (.int .u8 0), 1, 1) := by kernel_rfl
theorem sumL_snoc (l : List UInt8) (x : UInt8) : sumL (l ++ [x]) = sumL l + x.toNat := by simp [sumL]
set_option maxHeartbeats 1000000 in
theorem closing_any (l : List UInt8) (g cap : Nat) (w : World) (hl : l.length ≤ 100) (hc : ∀ j x, l[j]? = some x → w.cell? ⟨g, j, none⟩ = some (.int .u8 (x.toNat : Int))) :
    Calls Tryz.prog 144 #[.slice (some ⟨g, 0, none⟩) l.length cap] w fun e w' => e = .returned (.int .u8 ((clo l).toNat : Int)) ∧ w' = w := by
  obtain ⟨R, hR⟩ : ∃ R : Int, R = ((clo l).toNat : Int) := ⟨_, rfl⟩
  rw [← hR]
  have HR : Hid (R = ((clo l).toNat : Int)) := hR
  have HC : Hid (∀ j x, l[j]? = some x → w.cell? ⟨g, j, none⟩ = some (.int .u8 (x.toNat : Int))) := hc
  clear hR hc
  obtain ⟨n, hn⟩ : ∃ n, n = l.length := ⟨_, rfl⟩
  rw [← hn] at hl ⊢
  have HN : Hid (n = l.length) := hn
  clear hn
  go_enter Tryz.func144, Tryz.ntmps144
  go_wp2
  go_loopw [3, 4, 7] (fun s _ i V => ∃ k : Nat, k ≤ n ∧ i = .int .i64 k ∧ s = .int .u8 ((sumL (l.take k) % 256 : Nat) : Int) ∧ V = w) (fun _ _ i _ => n - (intOf i).toNat)
  case atStart => exact ⟨0, Nat.zero_le _, rfl, rfl, rfl⟩
  case round =>
    obtain ⟨k, hk, rfl, rfl, rfl⟩ := hrel
    by_cases hlt : k < n
    · have hkI : (k : Int) < n := by omega
      have hk' : k < l.length := by rw [← HN.out]; exact hlt
      have c0 := HC.out k _ (List.getElem?_eq_getElem hk')
      have HS : Hid (sumL (l.take (k + 1)) = sumL (l.take k) + l[k].toNat) := by show _ = _; rw [List.take_succ_eq_append_getElem hk', sumL_snoc]
      generalize sumL (l.take k) = S at *
      generalize l[k].toNat = x at *
      go_wp2
      go_roundw
      case rel =>
        refine ⟨k + 1, by omega, by go_num, ?_, trivial⟩
        rw [HS.out]
        congr 1
        omega
      case measure => simp [intOf]; omega
    · obtain rfl : k = n := by omega
      have HT : Hid (l.take k = l) := by show _ = _; rw [HN.out, List.take_length]
      go_wp2
      go_ret
      refine ⟨?_, rfl⟩
      rw [HR.out, HT.out]
      show Ending.returned (.int .u8 (255 - (sumL l : Int) % 256)) = _
      have : ((clo l).toNat : Int) = 255 - (sumL l : Int) % 256 := by
        unfold clo
        rw [UInt8.toNat_ofNat']
        omega
      rw [this]
theorem BytesAt.snoc {V : World} {base n m : Nat} {v : Value} {l : List UInt8} {ys : List Value} {r : List UInt8} (h : V.ownsRow base 5 1 v n (cellsU l ++ ys)) (hn : n = l.length + m) (hm : m = r.length) (hy : ys = cellsU r) : BytesAt V base v (l ++ r) := by
  subst hn hm hy
  exact ⟨by rw [List.length_append, cellsU_append]; exact h⟩
theorem BytesAt.le {V : World} {base base' : Nat} {v : Value} {l : List UInt8} (h : BytesAt V base v l) (hb : base' ≤ base) : BytesAt V base' v l :=
  ⟨h.own.1, h.own.2.elim Or.inl (fun ⟨g, cap, cur, hv, hg, r⟩ => Or.inr ⟨g, cap, cur, hv, Nat.le_trans hb hg, r⟩)⟩
set_option maxHeartbeats 2000000 in
theorem bodyOf_any (f : Fr) (p : Option Addr) (cap : Nat) (w : World) (hr : ReadsOn w p f.rs) (hok : Ok f) :
    Calls Tryz.prog 143 #[.agg #[.int .i64 f.ty, .slice p f.rs.length cap, .int .i64 f.wm]] w fun e w' => ∃ v, e = .returned v ∧ BytesAt w' w.heap.size v (body f) ∧ (body f = [] → v = .slice none 0 0) ∧ Below w.heap.size w w' := by
  obtain ⟨B, hB⟩ : ∃ B, B = body f := ⟨_, rfl⟩
  rw [← hB]
  have HB : Hid (B = body f) := hB
  have HR : Hid (ReadsOn w p f.rs) := hr
  have HO : Hid (Ok f) := hok
  clear hB hr hok
  obtain ⟨T, rs, W⟩ := f
  simp only at HR ⊢
  obtain ⟨n, hn⟩ : ∃ n, n = rs.length := ⟨_, rfl⟩
  have h4 : n ≤ 4 := by rw [hn]; exact HO.out.len
  rw [← hn]
  have HN : Hid (n = rs.length) := hn
  clear hn
  obtain ⟨i0, hi, hz0, hz1, hz2⟩ := info_parts info5
  go_enter Tryz.func143, Tryz.ntmps143
  go_wp2
  go_loopw [3, 5, 9] (fun u _ i V => ∃ k : Nat, k ≤ n ∧ i = .int .i64 k ∧ BytesAt V (w.heap.size + 1) u (encRs (rs.take k)) ∧ (k = 0 → u = .slice none 0 0) ∧ Below (w.heap.size + 1) (w.alloc (.cells #[.int .i64 T, .slice p n cap, .int .i64 W] 93)) V) (fun _ _ i _ => n - (intOf i).toNat)
  case atStart => exact ⟨0, Nat.zero_le _, rfl, BytesAt.nil _ _, fun _ => rfl, Below.refl _ _⟩
  case round =>
    obtain ⟨k, hk, rfl, hby, hnil, hbl⟩ := hrel
    by_cases hlt : k < n
    · have hkI : (k : Int) < n := by omega
      have hk' : k < rs.length := by rw [← HN.out]; exact hlt
      obtain ⟨b, o, rfl, hb, hc⟩ := HR.out.at_ (by intro e; rw [e] at hk'; simp at hk')
      have hrd := (hc k _ (List.getElem?_eq_getElem hk')).keep ((hbl.block b (by omega)).trans (Below.heap_alloc w _ b hb))
      have hrk := HO.out.all _ (List.getElem_mem hk')
      have HE : Hid (encRs (rs.take (k + 1)) = encRs (rs.take k) ++ [u8 rs[k].a, u8 rs[k].s, u8 rs[k].g] ++ rs[k].t.data.toList) := by
        show _ = _
        unfold encRs
        rw [List.take_succ_eq_append_getElem hk', List.flatMap_append]
        simp [encR]
      have HL : Hid ((encRs (rs.take k)).length = 11 * k) := by
        show _ = _
        rw [encRs_len (fun r hr => HO.out.tags r (List.mem_of_mem_take hr)), List.length_take, Nat.min_eq_left (Nat.le_of_lt hk')]
      have HU : Hid (((u8 rs[k].a).toNat : Int) = rs[k].a % 256 ∧ ((u8 rs[k].s).toNat : Int) = rs[k].s % 256 ∧ ((u8 rs[k].g).toNat : Int) = rs[k].g % 256) := ⟨u8_toNat _, u8_toNat _, u8_toNat _⟩
      obtain ⟨c0, c1, c2, c3⟩ := hrd
      have HBL : Hid (Below (w.heap.size + 1) (w.alloc (.cells #[.int .i64 T, .slice (some ⟨b, o, none⟩) n cap, .int .i64 W] 93)) wr) := hbl
      have hsz : w.heap.size + 1 ≤ wr.heap.size := by have := hbl.size; simpa using this
      have hown := hby.own
      have h8 : Hid (rs[k].t.size = 8) := hrk.2.2.2
      generalize rs[k] = r at *
      obtain ⟨a, s, g, t⟩ := r
      simp only at *
      clear hby hnil hc hbl hrk hb
      have hl0 : (encRs (rs.take k)).length ≤ 44 := by rw [HL.out]; omega
      go_wp2_with (at_builtin; refine wpList_append_own _ rfl _ _ 157 rfl (w.heap.size + 1) 5 i0 (.int .u8 0) 1 1 Tryz.underlying157 hi hz0 hz1 hz2 rfl (by decide) _ _ _ rfl ((hown.alloc _).alloc _) ⟨wr.heap.size + 1, 0, none⟩ 3 3 [.int .u8 (a % 256), .int .u8 (s % 256), .int .u8 (g % 256)] rfl rfl ?q1 ?q2 ?q3 ?q4 ?q5 ?_)
      case q1 =>
        intro j u hj
        match j, hj with
        | 0, hj => simp at hj; subst hj; simp [Addr.add]
        | 1, hj => simp at hj; subst hj; simp [Addr.add]
        | 2, hj => simp at hj; subst hj; simp [Addr.add]
      case q2 => intro u hu; simp at hu; rcases hu with rfl | rfl | rfl <;> rfl
      case q3 => unfold maxLen; omega
      case q4 => omega
      case q5 => simp; omega
      intro v1 w1 hown1 hgrow1 _
      have hby1 : BytesAt w1 (w.heap.size + 1) v1 (encRs (rs.take k) ++ [u8 a, u8 s, u8 g]) := BytesAt.snoc (m := 3) hown1 rfl rfl (by simp [cellsU, HU.out.1, HU.out.2.1, HU.out.2.2])
      have hB1 : Below (w.heap.size + 1) (w.alloc (.cells #[.int .i64 T, .slice (some ⟨b, o, none⟩) n cap, .int .i64 W] 93)) w1 := ((HBL.out.alloc (by omega) _).alloc (by simp; omega) _).grown hgrow1 (by simp; omega) (fun k hk => (hown.lt k hk).1)
      have cT : w1.cell? ⟨wr.heap.size, 3, none⟩ = some (.string t) := hgrow1.cell (by simp) (by intro e; have := (hown.lt _ e.symm).2; simp at this)
      have HB1 : Hid (Below (w.heap.size + 1) (w.alloc (.cells #[.int .i64 T, .slice (some ⟨b, o, none⟩) n cap, .int .i64 W] 93)) w1) := hB1
      have hsz1 : w.heap.size + 1 ≤ w1.heap.size := by have := hB1.size; simpa using this
      have hown2 := hby1.own
      have hl1 : (encRs (rs.take k) ++ [u8 a, u8 s, u8 g]).length ≤ 47 := by rw [List.length_append]; simp; omega
      clear hown hown1 hgrow1 hby1 hB1 c0 c1 c2 c3
      go_wp2_with (at_builtin; refine Lib.wpList_append_own_string _ rfl _ _ 157 9 rfl (w.heap.size + 1) 5 i0 Tryz.underlying157 Tryz.underlying9 hi hz0 hz1 hz2 _ _ _ rfl hown2 t rfl ?r1 ?r2 ?r3 ?_)
      case r1 => have := h8.out; unfold maxLen; omega
      case r2 => have := h8.out; omega
      case r3 => omega
      intro v2 w2 hown3 hgrow2 _
      have hby2 : BytesAt w2 (w.heap.size + 1) v2 (encRs (rs.take k) ++ [u8 a, u8 s, u8 g] ++ t.data.toList) := BytesAt.snoc (m := t.size) hown3 (by simp) (by simp) rfl
      have hB2 : Below (w.heap.size + 1) (w.alloc (.cells #[.int .i64 T, .slice (some ⟨b, o, none⟩) n cap, .int .i64 W] 93)) w2 := HB1.out.grown hgrow2 hsz1 (fun k hk => (hown2.lt k hk).1)
      rw [← HE.out] at hby2
      have HBY2 : Hid (BytesAt w2 (w.heap.size + 1) v2 (encRs (rs.take (k + 1)))) := hby2
      have HB2 : Hid (Below (w.heap.size + 1) (w.alloc (.cells #[.int .i64 T, .slice (some ⟨b, o, none⟩) n cap, .int .i64 W] 93)) w2) := hB2
      clear hown2 hown3 hgrow2 hby2 hB2 cT
      go_wp2
      go_roundw
      case rel => exact ⟨k + 1, by omega, by go_num, HBY2.out, fun h => by omega, HB2.out⟩
      case measure => simp [intOf]; omega
    · obtain rfl : k = n := by omega
      have hT : Hid (rs.take k = rs) := by show _ = _; rw [HN.out, List.take_length]
      rw [hT.out] at hby
      have hbx0 : wr.cell? ⟨w.heap.size, 0, none⟩ = some (.int .i64 T) := keepCell hbl (by simp) (by simp)
      have hbx2 : wr.cell? ⟨w.heap.size, 2, none⟩ = some (.int .i64 W) := keepCell hbl (by simp) (by simp)
      have hsz : w.heap.size + 1 ≤ wr.heap.size := by have := hbl.size; simpa using this
      have HB0 : Hid (Below w.heap.size w wr) := ((Below.refl _ w).alloc (Nat.le_refl _) _).trans (hbl.mono (by omega))
      have HBY : Hid (BytesAt wr (w.heap.size + 1) u3 (encRs rs)) := hby
      have HNIL : Hid (k = 0 → u3 = .slice none 0 0) := hnil
      have hown := hby.own
      clear hbl hby hnil
      have hl0 : Hid ((encRs rs).length = 11 * k) := by show _ = _; rw [encRs_len HO.out.tags, HN.out]
      have HU : Hid (((u8 W).toNat : Int) = W % 256) := u8_toNat _
      by_cases h3 : T = 3
      · subst h3
        have hl1 : (encRs rs).length ≤ 44 := by have := hl0.out; omega
        go_wp2_with (at_builtin; refine wpList_append_own _ rfl _ _ 157 rfl (w.heap.size + 1) 5 i0 (.int .u8 0) 1 1 Tryz.underlying157 hi hz0 hz1 hz2 rfl (by decide) _ _ _ rfl (hown.alloc _) ⟨wr.heap.size, 0, none⟩ 1 1 [.int .u8 (W % 256)] rfl rfl ?s1 ?s2 ?s3 ?s4 ?s5 ?_)
        case s1 =>
          intro j u hj
          match j, hj with
          | 0, hj => simp at hj; subst hj; simp [Addr.add]
        case s2 => intro u hu; simp at hu; subst hu; rfl
        case s3 => unfold maxLen; omega
        case s4 => omega
        case s5 => simp; omega
        intro v1 w1 hown1 hgrow1 _
        have hby1 : BytesAt w1 (w.heap.size + 1) v1 (encRs rs ++ [u8 W]) := BytesAt.snoc (m := 1) hown1 rfl rfl (by simp [cellsU, HU.out])
        have hB1 : Below w.heap.size w w1 := (HB0.out.alloc (by omega) _).grown hgrow1 (by simp; omega) (fun k hk => Nat.le_of_lt (hown.lt k hk).1)
        have HBY1 : Hid (BytesAt w1 (w.heap.size + 1) v1 (encRs rs ++ [u8 W])) := hby1
        have HB1 : Hid (Below w.heap.size w w1) := hB1
        clear hown hown1 hgrow1 hby1 hB1
        have HE : Hid (body ⟨3, rs, W⟩ = encRs rs ++ [u8 W]) := rfl
        go_wp2
        go_ret
        refine ⟨_, rfl, ?_, ?_, HB1.out⟩
        · rw [HB.out, HE.out]
          exact HBY1.out.le (by omega)
        · intro h
          rw [HB.out, HE.out] at h
          simp at h
      · have hT3 : (T == 3) = false := by simpa using h3
        have HE : Hid (body ⟨T, rs, W⟩ = encRs rs) := by show _ = _; simp [body, h3]
        clear hown
        go_wp2
        go_ret
        refine ⟨_, rfl, ?_, ?_, HB0.out⟩
        · rw [HB.out, HE.out]
          exact HBY.out.le (by omega)
        · intro h
          rw [HB.out, HE.out] at h
          have := hl0.out
          rw [h] at this
          exact HNIL.out (by simp at this; omega)
end Go.Proofs.YtmolafjalaeoaaaGreatDoor.FrmA
