/-
  What places does to the world.
-/
import Derived.Test.YtblkbogoelfjlaaDoorInC
namespace Go.Proofs.YtblkbogoelfjlaaDoor.InA
open Go.RowKit TkM TkW TkA InM Go.Maps
set_option maxRecDepth 100000

theorem infoI : (Tryd.prog.info? 3).map (fun i => (i.zero, i.size, i.bytes)) = some (some (.int .i64 0), 1, 8) := by kernel_rfl
def plv (u : Nat → Int) (L j : Nat) : List Value := (List.range j).map (fun i => .int .i64 (u (L + i)))
theorem plv_snoc (u : Nat → Int) (L j : Nat) : plv u L (j + 1) = plv u L j ++ [.int .i64 (u (L + j))] := by simp [plv, List.range_succ]
theorem plv_at {u : Nat → Int} {L j i : Nat} (h : i < j) : (plv u L j)[i]? = some (.int .i64 (u (L + i))) := by simp [plv, h]
theorem pl_of {V : World} {B : Nat} {v : Value} {u : Nat → Int} {L j : Nat} (h : V.ownsRow B 3 1 v j (plv u L j)) : ∃ p cap, v = .slice p j cap ∧ PlOn V p u L j := by
  rcases Nat.eq_zero_or_pos j with h0 | h0
  · subst h0
    rcases h.2 with ⟨rfl, _⟩ | ⟨g, cap, cur, hv, _⟩
    · exact ⟨none, 0, rfl, ⟨fun j hj => by omega⟩⟩
    · exact ⟨_, cap, hv, ⟨fun j hj => by omega⟩⟩
  · obtain ⟨g, cap, rfl, _, hlt⟩ := h.form h0
    refine ⟨some ⟨g, 0, none⟩, cap, rfl, ⟨fun i hi => ⟨g, rfl, hlt, ?_⟩⟩⟩
    have := h.cells (g := g) rfl i _ (plv_at hi)
    rw [addr_add] at this
    exact this
section
variable {w : World} {tb xb : Nat} {who : Nat → Nat × ByteArray × Nat} {F : Nat → Prop} {W need n r span score k : Nat} {ep : Nat → List Sg} {f : Nat → ByteArray → ByteArray}
set_option maxHeartbeats 1000000 in
theorem places_any (s : ByteArray) (e : Nat) (d : TrAt w tb who W need n r ep) (x : InAt w xb tb F span score k f) (hW : W ≤ 8) (hn : n ≤ 1000) (he : e < n) (hs : s.size ≤ 100000) (ht : ∃ e, seenG s (ep e) = true) (h8 : span ≤ 8) :
    Calls Tryd.prog 76 #[.pointer (some ⟨xb, 0, none⟩), .string s, .int .i64 (e : Int)] w fun x w' => ∃ p cap, x = .returned (.slice p (e + 1 - lo span e) cap) ∧ w'.ownsRow w.heap.size 3 1 (.slice p (e + 1 - lo span e) cap) (e + 1 - lo span e) (plv (whr s ep W need) (lo span e) (e + 1 - lo span e)) ∧ Below w.heap.size w w' := by
  obtain ⟨i3, hi3, hz3, hs3, hb3⟩ := info_parts infoI
  have HD : Hid (TrAt w tb who W need n r ep) := d
  have HT : Hid (∃ e, seenG s (ep e) = true) := ht
  obtain ⟨xv, ms, x⟩ := x.out
  have c1 := x.c1
  have c0 := x.c0
  have HX : Hid (w.cell? ⟨xb, 0, none⟩ = some (.pointer (some ⟨tb, 0, none⟩)) ∧ xb < w.heap.size) := ⟨x.c0, x.lt⟩
  clear d x ht
  have hSI : (span : Int) ≤ 8 := by omega
  have heI : (e : Int) ≤ 1000 := by omega
  have hml := @max_lo span e
  obtain ⟨L, hL⟩ : ∃ L, L = lo span e := ⟨_, rfl⟩
  have hL1 : L ≤ e + 1 := by rw [hL]; unfold lo; omega
  have HL : Hid (L = lo span e) := hL
  rw [← hL] at hml ⊢
  obtain ⟨N, hN⟩ : ∃ N, N = e + 1 - L := ⟨_, rfl⟩
  have HN : Hid (N = e + 1 - L) := hN
  rw [← hN]
  clear hL hN
  go_enter Tryd.func76, Tryd.ntmps76
  go_wp2
  clear c1 c0
  go_loopw [7, 8, 9, 10] (fun v i _ _ V => ∃ (j : Nat) (p : Option Addr) (cap : Nat), j ≤ N ∧ i = .int .i64 ((L + j : Nat) : Int) ∧ v = .slice p j cap ∧ V.ownsRow w.heap.size 3 1 (.slice p j cap) j (plv (whr s ep W need) L j) ∧ Below w.heap.size w V) (fun _ i _ _ _ => N - ((intOf i).toNat - L))
  case atStart => exact ⟨0, none, 0, Nat.zero_le _, rfl, rfl, World.ownsRow_nil _ _ _ _, Below.refl _ _⟩
  case round =>
    obtain ⟨j, p, cap, hj, rfl, rfl, hrow, hbl⟩ := hrel
    by_cases hlt : L + j ≤ e
    case neg =>
      have hjj : j = N := by have := HN.out; omega
      have hI : ¬ ((L + j : Nat) : Int) ≤ e := by omega
      subst hjj
      have HF : Hid (wr.ownsRow w.heap.size 3 1 (.slice p j cap) j (plv (whr s ep W need) L j) ∧ Below w.heap.size w wr) := ⟨hrow, hbl⟩
      clear hrow hbl
      go_wp2
      go_ret
      exact ⟨p, cap, rfl, HF.out⟩
    case pos =>
      have hI : ((L + j : Nat) : Int) ≤ e := by omega
      obtain ⟨E, hE⟩ : ∃ E, E = L + j := ⟨_, rfl⟩
      rw [← hE] at hI ⊢
      have hEe : E < n := by omega
      have hE9 : (E : Int) ≤ 1000 := by omega
      obtain ⟨y, hy⟩ : ∃ y, y = whr s ep W need E := ⟨_, rfl⟩
      have HC : Hid (Calls Tryd.prog 36 #[.pointer (some ⟨tb, 0, none⟩), .string s, .int .i64 (E : Int)] wr fun x w' => x = .returned (.tuple #[.int .i64 y, .nilIface]) ∧ Below wr.heap.size wr w') := by
        have := where_told s E (HD.out.below hbl) hW hn hEe hs HT.out
        rw [← hy] at this
        exact this
      have HY : Hid (plv (whr s ep W need) L (j + 1) = plv (whr s ep W need) L j ++ [.int .i64 y]) := by rw [hy, hE]; exact plv_snoc _ _ _
      have HE : Hid (E = L + j) := hE
      have c0 : wr.cell? ⟨xb, 0, none⟩ = some (.pointer (some ⟨tb, 0, none⟩)) := by rw [hbl.cell HX.out.2]; exact HX.out.1
      have HROW : Hid (wr.ownsRow w.heap.size 3 1 (.slice p j cap) j (plv (whr s ep W need) L j)) := hrow
      have HBL : Hid (Below w.heap.size w wr) := hbl
      clear hrow hbl hy hE
      go_wp2_with fail
      refine HC.out.mono ?_
      rintro x w1 ⟨rfl, hb1⟩
      have hrow1 := own_keep HROW.out (V' := w1) (fun b hb => hb1.block b (own_lt HROW.out hb))
      have hpo := hrow1.alloc (.cells #[.int .i64 y] 3)
      have HB1 : Hid (Below w.heap.size w w1) := HBL.out.trans (hb1.mono HBL.out.size)
      have hs1 : w.heap.size ≤ w1.heap.size := HB1.out.size
      clear hb1 HC HROW HBL c0
      go_wp2_with (at_builtin; refine wpList_append_lies _ rfl _ _ 22 rfl w.heap.size 3 i3 (.int .i64 0) 1 8 Tryd.underlying22 hi3 hz3 hs3 hb3 rfl (by decide) _ _ _ rfl hpo ⟨w1.heap.size, 0, none⟩ 1 1 [.int .i64 y] rfl rfl ?q1 ?q2 (by omega) ?q3 ?q4 ?q5 (w1.heap.size + 1) ?q6 ?_)
      try case q1 =>
        intro i u hi
        match i, hi with
        | 0, hi => simp at hi; subst hi; simp [Addr.add]
      try case q2 => first | rfl | (intro u hu; simp at hu; subst hu; rfl)
      try case q3 => unfold maxLen; omega
      try case q4 => omega
      try case q5 => simp; omega
      try case q6 => simp
      intro g3 cv3 V3 hown3 hgrow3 hat3 hlt3
      have HO3 : Hid (V3.ownsRow w.heap.size 3 1 (.slice (some ⟨g3, 0, none⟩) (j + 1) cv3) (j + 1) (plv (whr s ep W need) L (j + 1))) := by rw [HY.out]; exact hown3
      have HB3 : Hid (Below w.heap.size w V3) := (HB1.out.alloc hs1 _).trans ⟨hgrow3.os, hgrow3.tape, hgrow3.output, hgrow3.size, fun b hb => hgrow3.block b (by simp; omega) (fun e => by have := (hrow1.lt b e.symm).1; omega)⟩
      clear hown3 hgrow3 hat3 hlt3 hpo hrow1
      go_wp2
      go_roundw
      case rel => exact ⟨j + 1, _, _, by have := HN.out; omega, by rw [HE.out]; go_num, rfl, HO3.out, HB3.out⟩
      case measure => have h1 := HE.out; have h2 := HN.out; simp [intOf]; omega
end
end Go.Proofs.YtblkbogoelfjlaaDoor.InA
