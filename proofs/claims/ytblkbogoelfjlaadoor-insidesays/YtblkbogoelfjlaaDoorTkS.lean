/-
  What Tags does to the world: the tags, each once.
-/
import Derived.Test.YtblkbogoelfjlaaDoorTkR2
import Derived.Sort.KeysCollected
import Derived.Sort.OwnSorted
namespace Go.Proofs.YtblkbogoelfjlaaDoor.TkA
open Go.RowKit TkM TkW Go.Maps
set_option maxRecDepth 100000

theorem sortS (v : Value) (ss : List (List UInt8)) (w : World) (base : Nat) (h : w.ownsRow base 9 1 v ss.length (ss.map encStr)) (hl : ss.length ≤ 100000) :
    Calls Tryd.prog 62 #[v] w fun e w' => e = .returned (.tuple #[]) ∧ w'.ownsRow base 9 1 v ss.length ((ss.mergeSort leB).map encStr) ∧ w.grownBy w' v.ownBlock := by
  have hown := h
  rcases h.2 with ⟨rfl, h0⟩ | ⟨g, cap, cur, rfl, hg, hb, h1, h2, h3, h4⟩
  · have hx : ss = [] := List.length_eq_zero_iff.1 h0
    subst hx
    refine (Tryd.slices_Sort_string_none none 0 w).mono ?_
    rintro e w' ⟨rfl, rfl⟩
    have e : ([] : List (List UInt8)).mergeSort leB = [] := by simp
    rw [e]
    exact ⟨rfl, hown, ⟨rfl, rfl, rfl, Nat.le_refl _, fun _ _ _ => rfl⟩⟩
  · refine (Tryd.slices_Sort_string g 0 cap ss w (holds_of_block hb (by simpa using h4)) (Array.getElem?_eq_some_iff.1 hb).1 (by omega)).mono ?_
    rintro e w' ⟨rfl, n, os, rfl⟩
    exact ⟨rfl, ownsRow_sorted (List.length_mergeSort _) hg hb h1 h2 h3, grownBy_sorted _⟩
section
variable {w : World} {tb : Nat} {who : Nat → Nat × ByteArray × Nat} {W need n r : Nat} {ep : Nat → List Sg}
set_option maxHeartbeats 1000000 in
theorem tags_any (d : TrAt w tb who W need n r ep) (hr : r ≤ 90000) :
    Calls Tryd.prog 35 #[.pointer (some ⟨tb, 0, none⟩)] w fun e w' => e = .returned (.func (.func 63) #[] #[.pointer (some ⟨w.heap.size, 0, none⟩)]) ∧ ∃ (v : Value) (ss : List (List UInt8)), w'.cell? ⟨w.heap.size, 0, none⟩ = some v ∧ w'.ownsRow w.heap.size 9 1 v ss.length (ss.map encStr) ∧ ss.length ≤ 90000 ∧ ss.Nodup ∧ (∀ g : ByteArray, g.data.toList ∈ ss ↔ ∃ e, seenG g (ep e) = true) ∧ Below w.heap.size w w' ∧ w.heap.size < w'.heap.size := by
  obtain ⟨i9, hi9, hz9, hs9, hb9⟩ := info_parts info9
  obtain ⟨mb, m, D, tr, sp, d⟩ := d.out
  have HD : Hid (TrIn w tb mb m D tr sp who W need n r ep) := d
  have hmr := d.room
  have hmlt := d.mlt
  have hD1 : ∀ o, TrIn (w.alloc o) tb mb m D tr sp who W need n r ep := fun o => d.below ((Below.refl _ w).alloc (Nat.le_refl _) o)
  have c3 : ∀ o, (w.alloc o).cell? ⟨tb, 3, none⟩ = some (.map (some mb)) := fun o => (hD1 o).c3
  have hown : ∀ o, (w.alloc o).ownsMap Tryd.prog 9 heldV mb m D := fun o => (hD1 o).own
  have HB0 : Hid (∀ o, Below w.heap.size w (w.alloc o)) := fun o => (Below.refl _ w).alloc (Nat.le_refl _) o
  clear d hD1
  go_enter Tryd.func35, Tryd.ntmps35
  go_wp2_with (first | (at_range; refine wpList_range_own _ rfl _ 104 rfl 9 122 law9 Tryd.underlying104 _ mb m D rfl (hown _) ?_; intro w0 hrg0 hg0 hs0))
  go_frame
  have HC0 : Hid (w0.heap[w.heap.size]? = some (.cells #[.slice none 0 0] 61)) := (hg0.block _ (by simp) (by simp)).trans (Go.heap_alloc_new w _)
  have HBB : Hid (Below w.heap.size w w0) := (HB0.out _).trans ⟨hg0.os, hg0.tape, hg0.output, hg0.size, fun k hk => hg0.block k (by simp; omega) (by simp)⟩
  rw [World.size_alloc] at hrg0 hs0 ⊢
  obtain ⟨RB, hRB⟩ : ∃ RB, RB = w.heap.size + 1 := ⟨_, rfl⟩
  rw [← hRB] at hrg0 hs0 ⊢
  have HRB : Hid (RB = w.heap.size + 1) := hRB
  have hRBw : w.heap.size < RB := by omega
  clear hRB c3 hown
  go_loopw [4] (fun _ V => ∃ left cn ss v, V.ranges Tryd.prog 9 heldV mb RB m D left cn ∧ Collected D left ss ∧ V.heap[w.heap.size]? = some (.cells #[v] 61) ∧ V.ownsRow (w.heap.size + 1) 9 1 v ss.length (ss.map encStr) ∧ ss.length + cn ≤ Maps.size D ∧ Below w.heap.size w V) (fun _ V => V.rangeLeft mb RB)
  case atStart => exact ⟨_, _, [], .slice none 0 0, hrg0, Collected.start D, HC0.out, World.ownsRow_nil _ _ _ _, by simp, HBB.out⟩
  case round =>
    obtain ⟨left, cn, ss, v, hrg, hC, hbx, hrow, hlen, hbl⟩ := hrel
    have hsz := hrg.owns.size_le
    have HC : Hid (Collected D left ss) := hC
    have HBX : Hid (wr.heap[w.heap.size]? = some (.cells #[v] 61)) := hbx
    have HROW : Hid (wr.ownsRow (w.heap.size + 1) 9 1 v ss.length (ss.map encStr)) := hrow
    have HBL : Hid (Below w.heap.size w wr) := hbl
    have HRGO : Hid (wr.ranges Tryd.prog 9 heldV mb RB m D left cn) := hrg
    have hBs : w.heap.size < wr.heap.size := (Array.getElem?_eq_some_iff.1 hbx).1
    clear hC hbx hrow hbl hrg0 hg0 hs0 HC0 HBB
    go_wp2_with (first | (at_next; refine wpList_next_ranges (α := List UInt8) (β := Value) _ rfl _ rfl 9 law9 heldV encStr (fun v => v) (fun key kl hk => (by obtain ⟨x, hx, _⟩ := Maps.keyOf_str Tryd.underlying9 hk; exact ⟨x, hx⟩)) (fun v y _ => ⟨v, rfl⟩) mb RB m _ _ _ rfl hrg ?_ ?_))
    · intro hc0 hl0
      have hperm := HC.out.perm HRGO.out.owns law9 Tryd.underlying9 hl0
      have k0 : wr.cell? ⟨w.heap.size, 0, none⟩ = some v := by simp [World.cell?, HBX.out]
      have HND : Hid (ss.Nodup) := HC.out.1
      have HMEM : Hid (∀ g : ByteArray, g.data.toList ∈ ss ↔ ∃ e, seenG g (ep e) = true) := fun g => by
        rw [HC.out.2, hl0]
        simp only [and_true]
        rw [← HD.out.told g]
        constructor
        · intro h
          cases ht : tr g with
          | some b => rfl
          | none =>
            have := has_false_of_atKey (D := D) (k := .string g.data.toList) (fun z => by rw [HD.out.key g z, ht]; rfl)
            rw [h] at this
            cases this
        · intro h
          obtain ⟨b, hb⟩ := Option.isSome_iff_exists.1 h
          exact has_true_of_atKey (y := .held (.map (some b))) (fun z => by rw [HD.out.key g z, hb]; rfl)
      have hl9 : ss.length ≤ 90000 := by omega
      clear hrg hc0 hl0 hperm HC HRGO
      go_wp2_with fail
      refine (sortS v ss wr (w.heap.size + 1) HROW.out (by omega)).mono ?_
      rintro e w2 ⟨rfl, ho2, hg2⟩
      have hne : some w.heap.size ≠ v.ownBlock := row_ne_low HROW.out (by omega)
      have HX2 : Hid (w2.heap[w.heap.size]? = some (.cells #[v] 61)) := (hg2.block _ hBs hne).trans HBX.out
      have HO2 : Hid (w2.ownsRow w.heap.size 9 1 v (ss.mergeSort leB).length ((ss.mergeSort leB).map encStr)) := by
        show World.ownsRow _ _ _ _ _ _ _
        rw [List.length_mergeSort]
        exact own_base ho2 (by omega)
      have HB2 : Hid (Below w.heap.size w w2) := HBL.out.trans ⟨hg2.os, hg2.tape, hg2.output, hg2.size, fun k hk => hg2.block k (by omega) (row_ne_low HROW.out (by omega))⟩
      have hs2 : w.heap.size < w2.heap.size := by have := hg2.size; omega
      clear ho2 hg2 hne k0
      go_wp2
      go_ret
      refine ⟨rfl, v, ss.mergeSort leB, by simp [World.cell?, HX2.out], HO2.out, by rw [List.length_mergeSort]; exact hl9, (List.mergeSort_perm ss leB).nodup_iff.2 HND.out, fun g => ?_, HB2.out, hs2⟩
      rw [(List.mergeSort_perm ss leB).mem_iff]
      exact HMEM.out g
    · intro x c kl yd yp w2 cnt2 hkey hlk hv hat hrg2 hlt hg2 hs2 hen
      obtain ⟨x', ex, rfl, _⟩ := Maps.keyOf_str Tryd.underlying9 hkey
      obtain rfl : x = x' := encStr_inj ex
      have hbx2 : w2.heap[w.heap.size]? = some (.cells #[v] 61) := (hg2.block _ hBs (fun e => by simp at e; omega)).trans HBX.out
      have hrow2 : w2.ownsRow (w.heap.size + 1) 9 1 v ss.length (ss.map encStr) := own_keep HROW.out (fun b hb => hg2.block b (own_lt HROW.out hb) (fun e => row_ne_iter HROW.out HRGO.out (by rw [hb]; exact e.symm)))
      obtain ⟨xb, hxb⟩ : ∃ xb, encStr x = .string xb := ⟨_, rfl⟩
      have HXB : Hid (encStr x = .string xb) := hxb
      have hpo := hrow2.alloc (.cells #[.string xb] 9)
      rw [hxb] at hen ⊢
      have k0 : ∀ o, (w2.alloc o).cell? ⟨w.heap.size, 0, none⟩ = some v := fun o => by
        have h1 : (w2.alloc o).heap[w.heap.size]? = some (.cells #[v] 61) := (Below.heap_alloc w2 o _ (by omega)).trans hbx2
        simp [World.cell?, h1]
      have k0' : w2.cell? ⟨w.heap.size, 0, none⟩ = some v := by simp [World.cell?, hbx2]
      have HBX2 : Hid (w2.heap[w.heap.size]? = some (.cells #[v] 61)) := hbx2
      have HROW2 : Hid (w2.ownsRow (w.heap.size + 1) 9 1 v ss.length (ss.map encStr)) := hrow2
      have HRG2 : Hid (w2.ranges Tryd.prog 9 heldV mb RB m D (fun z => left z && !z.sameKey (.string x)) cnt2) := hrg2
      have HCS : Hid (Collected D (fun z => left z && !z.sameKey (.string x)) (ss ++ [x])) := HC.out.step hlk hat
      have HBL2 : Hid (Below w.heap.size w w2) := HBL.out.trans ⟨hg2.os, hg2.tape, hg2.output, hg2.size, fun k hk => hg2.block k (by omega) (fun e => by simp at e; omega)⟩
      have HLT : Hid (cnt2 < cn) := hlt
      have hs2' : w.heap.size < w2.heap.size := by omega
      clear hkey hlk hv hat hrg2 hlt hg2 hs2 hrow2 hbx2 hrg HC HROW HBX HBL ex hxb
      go_wp2_with (at_builtin; refine wpList_append_lies _ rfl _ _ 61 rfl (w.heap.size + 1) 9 i9 (.string ⟨#[]⟩) 1 16 Tryd.underlying61 hi9 hz9 hs9 hb9 rfl (by decide) _ _ _ rfl hpo ⟨w2.heap.size, 0, none⟩ 1 1 [.string xb] rfl rfl ?q1 ?q2 (by omega) ?q3 ?q4 ?q5 (w2.heap.size + 1) ?q6 ?_)
      try case q1 =>
        intro j u hj
        match j, hj with
        | 0, hj => simp at hj; subst hj; simp [Addr.add]
      try case q2 => first | rfl | (intro u hu; simp at hu; subst hu; rfl)
      try case q3 => unfold maxLen; omega
      try case q4 => omega
      try case q5 => simp; omega
      try case q6 => simp
      intro g3 cv3 V3 hown3 hgrow3 hat3 hlt3
      have hne3 : some w.heap.size ≠ v.ownBlock := row_ne_low HROW2.out (by omega)
      have hX3 : V3.heap[w.heap.size]? = some (.cells #[v] 61) := (hgrow3.block _ (by simp; omega) hne3).trans ((Below.heap_alloc w2 _ _ (by omega)).trans HBX2.out)
      have k3 : V3.cell? ⟨w.heap.size, 0, none⟩ = some v := by simp [World.cell?, hX3]
      have f3 : V3.frozen? ⟨w.heap.size, 0, none⟩ = false := by simp [World.frozen?, hX3]
      have HX4 : Hid ((V3.setCell ⟨w.heap.size, 0, none⟩ (.slice (some ⟨g3, 0, none⟩) (ss.length + 1) cv3)).heap[w.heap.size]? = some (.cells #[.slice (some ⟨g3, 0, none⟩) (ss.length + 1) cv3] 61)) := by
        show _ = _
        simp [World.setCell, Array.getElem?_modify, hX3]
      have HG3 : Hid (w2.grownBy V3 v.ownBlock) := (World.grownBy_alloc w2 _ _).trans hgrow3
      have HO3 : Hid (V3.ownsRow (w.heap.size + 1) 9 1 (.slice (some ⟨g3, 0, none⟩) (ss.length + 1) cv3) (ss.length + 1) ((ss ++ [x]).map encStr)) := by
        have : (ss ++ [x]).map encStr = ss.map encStr ++ [.string xb] := by rw [List.map_append, ← HXB.out]; rfl
        show World.ownsRow _ _ _ _ _ _ _
        rw [this]
        exact hown3
      have hgne : g3 ≠ w.heap.size := by have := (hown3.lt g3 rfl).1; omega
      clear hown3 hgrow3 hat3 hlt3 hX3 hne3 hpo k0 k0' hen
      go_wp2
      have hset : V3.grownBy (V3.setCell ⟨w.heap.size, 0, none⟩ (.slice (some ⟨g3, 0, none⟩) (ss.length + 1) cv3)) (some w.heap.size) := ⟨rfl, rfl, rfl, by simp [World.setCell], fun b _ hn => Below.heap_setCell _ _ _ _ (fun e => hn (by rw [e]))⟩
      have hrgA := HRG2.out.kept HG3.out (row_ne_low HROW2.out (by omega)) (row_ne_iter HROW2.out HRG2.out)
      have hrgN := hrgA.kept hset (fun e => by simp at e; omega) (fun e => by simp at e; omega)
      refine ⟨⟨_, _, ss ++ [x], .slice (some ⟨g3, 0, none⟩) (ss.length + 1) cv3, hrgN, HCS.out, HX4.out, ?_, ?_, ?_⟩, ?_⟩
      · rw [List.length_append]
        exact own_keep HO3.out (fun b hb => hset.block b (own_lt HO3.out hb) (fun e => by simp [Value.ownBlock] at hb; simp at e; omega))
      · have := HLT.out; simp; omega
      · have h1 : Below w.heap.size w V3 := HBL2.out.trans ⟨HG3.out.os, HG3.out.tape, HG3.out.output, HG3.out.size, fun k hk => HG3.out.block k (by omega) (row_ne_low HROW2.out (by omega))⟩
        exact h1.setCell (p := ⟨w.heap.size, 0, none⟩) (Nat.le_refl _) _
      · rw [hrgN.left_eq, HRGO.out.left_eq]
        exact HLT.out
end
end Go.Proofs.YtblkbogoelfjlaaDoor.TkA
