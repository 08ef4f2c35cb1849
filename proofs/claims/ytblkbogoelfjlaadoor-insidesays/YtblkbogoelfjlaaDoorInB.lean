/-
  What New, Epochs and Parent do to the world.
-/
import Derived.Test.YtblkbogoelfjlaaDoorInW
namespace Go.Proofs.YtblkbogoelfjlaaDoor.InA
open Go.RowKit TkM TkW TkA InM Go.Maps
set_option maxRecDepth 100000

set_option maxHeartbeats 400000 in
theorem betw_any (n lo hi : Int) (w : World) :
    Calls Tryd.prog 56 #[.int .i64 n, .int .i64 lo, .int .i64 hi] w fun e w' => e = .returned (.bool (btw n lo hi)) ∧ w' = w := by
  by_cases h1 : lo ≤ n
  · by_cases h2 : n ≤ hi
    · have hb : btw n lo hi = true := by simp [btw, h1, h2]
      rw [hb]
      clear hb
      go_enter Tryd.func56, Tryd.ntmps56
      go_wp2
      go_ret
      exact ⟨rfl, rfl⟩
    · have hb : btw n lo hi = false := by simp [btw]; omega
      rw [hb]
      clear hb
      go_enter Tryd.func56, Tryd.ntmps56
      go_wp2
      go_ret
      exact ⟨by simp, rfl⟩
  · have hb : btw n lo hi = false := by simp [btw]; omega
    rw [hb]
    clear hb
    have h1' : decide (lo ≤ n) = false := by simpa using h1
    go_enter Tryd.func56, Tryd.ntmps56
    go_wp2
    go_ret
    exact ⟨rfl, rfl⟩
theorem betw_is {n lo hi : Int} {r : Bool} (h : btw n lo hi = r) (w : World) :
    Calls Tryd.prog 56 #[.int .i64 n, .int .i64 lo, .int .i64 hi] w fun e w' => e = .returned (.bool r) ∧ w' = w := h ▸ betw_any n lo hi w
theorem field0 (x : ByteArray) (w : World) : (Instr.field 117 (.agg #[.string x]) 0).run Tryd.prog w = .ok (.string x) w := by kernel_rfl
theorem newIn (w : World) (tb span score : Nat) : InAt (w.alloc (.cells #[.pointer (some ⟨tb, 0, none⟩), .int .i64 (span : Int), .int .i64 (score : Int), .slice none 0 0] 102)) w.heap.size tb (fun b => b = w.heap.size) span score 0 (fun _ _ => ⟨#[]⟩) := by
  refine ⟨.slice none 0 0, [], ?_, rfl, World.ownsRow_nil _ _ _ _, fun e b h => by simp at h, rfl, fun b h => by simp [Value.ownBlock] at h, fun b h => absurd h List.not_mem_nil, fun b h => by rw [h]; simp⟩
  exact Go.heap_alloc_new w _
set_option maxHeartbeats 400000 in
theorem inNew_ok (tb span score : Nat) (w : World) (h0 : 1 ≤ span) (h1 : span ≤ 8) (h2 : 1 ≤ score) (h3 : score ≤ span) :
    Calls Tryd.prog 26 #[.pointer (some ⟨tb, 0, none⟩), .int .i64 (span : Int), .int .i64 (score : Int)] w fun e w' => e = .returned (.tuple #[.pointer (some ⟨w.heap.size, 0, none⟩), .nilIface]) ∧ w'.heap.size = w.heap.size + 1 ∧ InAt w' w.heap.size tb (fun b => b = w.heap.size) span score 0 (fun _ _ => ⟨#[]⟩) ∧ Below w.heap.size w w' := by
  have b1 : btw (span : Int) 1 8 = true := by simp [btw]; omega
  have b2 : btw (score : Int) 1 span = true := by simp [btw]; omega
  have HD : Hid _ := newIn w tb span score
  go_enter Tryd.func26, Tryd.ntmps26
  go_wp2_with fail
  refine (betw_is b1 _).mono ?_
  rintro e w' ⟨rfl, rfl⟩
  go_wp2_with fail
  refine (betw_is b2 _).mono ?_
  rintro e w' ⟨rfl, rfl⟩
  go_wp2
  go_ret2
  exact ⟨rfl, by simp, HD.out, (Below.refl _ _).alloc (Nat.le_refl _) _⟩
set_option maxHeartbeats 400000 in
theorem inNew_bad (tb : Nat) (span score : Int) (w : World) (h : ¬ (1 ≤ span ∧ span ≤ 8 ∧ 1 ≤ score ∧ score ≤ span)) :
    Calls Tryd.prog 26 #[.pointer (some ⟨tb, 0, none⟩), .int .i64 span, .int .i64 score] w fun e w' => e = .returned (.tuple #[.pointer none, .iface 23 (.int .i64 1)]) ∧ w' = w := by
  cases b1 : btw span 1 8 with
  | false =>
    go_enter Tryd.func26, Tryd.ntmps26
    go_wp2_with fail
    refine (betw_is b1 _).mono ?_
    rintro e w' ⟨rfl, rfl⟩
    go_wp2
    go_ret2
    exact ⟨rfl, rfl⟩
  | true =>
    have b2 : btw score 1 span = false := by simp [btw] at b1 ⊢; omega
    go_enter Tryd.func26, Tryd.ntmps26
    go_wp2_with fail
    refine (betw_is b1 _).mono ?_
    rintro e w' ⟨rfl, rfl⟩
    go_wp2_with fail
    refine (betw_is b2 _).mono ?_
    rintro e w' ⟨rfl, rfl⟩
    go_wp2
    go_ret2
    exact ⟨rfl, rfl⟩
section
variable {w : World} {xb tb : Nat} {F : Nat → Prop} {span score k : Nat} {f : Nat → ByteArray → ByteArray}
theorem inEpochs_any (d : InAt w xb tb F span score k f) :
    Calls Tryd.prog 30 #[.pointer (some ⟨xb, 0, none⟩)] w fun e w' => e = .returned (.int .i64 (k : Int)) ∧ w' = w := by
  obtain ⟨v, ms, d⟩ := d.out
  obtain ⟨p, cap, rfl, _⟩ := d.form
  have c3 := d.c3
  clear d
  go_enter Tryd.func30, Tryd.ntmps30
  go_wp2
  go_ret
  exact ⟨rfl, rfl⟩
set_option maxHeartbeats 400000 in
theorem parent_out (s : ByteArray) (e : Int) (d : InAt w xb tb F span score k f) (hk : k ≤ 1000) (he : ¬ (0 ≤ e ∧ e < (k : Int))) :
    Calls Tryd.prog 33 #[.pointer (some ⟨xb, 0, none⟩), .string s, .int .i64 e] w fun x w' => x = .returned (.tuple #[.string ⟨#[]⟩, .iface 23 (.int .i64 1)]) ∧ w' = w := by
  obtain ⟨v, ms, d⟩ := d.out
  obtain ⟨p, cap, rfl, _⟩ := d.form
  have c3 := d.c3
  have hkI : (k : Int) ≤ 1000 := by omega
  have b1 : btw e 0 ((k : Int) - 1) = false := by simp [btw]; omega
  clear d he
  go_enter Tryd.func33, Tryd.ntmps33
  go_wp2_with fail
  refine (betw_is b1 _).mono ?_
  rintro x w' ⟨rfl, rfl⟩
  go_wp2
  go_ret2
  exact ⟨rfl, rfl⟩
set_option maxHeartbeats 400000 in
theorem parent_in (s : ByteArray) (e : Nat) (d : InAt w xb tb F span score k f) (hk : k ≤ 1000) (he : e < k) (hs : s.size ≤ 100000) :
    Calls Tryd.prog 33 #[.pointer (some ⟨xb, 0, none⟩), .string s, .int .i64 (e : Int)] w fun x w' => x = .returned (.tuple #[.string (f e s), .nilIface]) ∧ w' = w := by
  obtain ⟨v, ms, d⟩ := d.out
  obtain ⟨p, cap, rfl, hm⟩ := d.form
  have c3 := d.c3
  have hel : e < ms.length := by rw [d.len]; exact he
  obtain ⟨g, rfl, hc⟩ := hm e _ (List.getElem?_eq_getElem hel)
  have hrun := (d.maps e _ (List.getElem?_eq_getElem hel)).look s hs
  generalize ms[e] = mb at *
  have hkI : (k : Int) ≤ 1000 := by omega
  have heI : (e : Int) < k := by omega
  have b1 : btw (e : Int) 0 ((k : Int) - 1) = true := by simp [btw]; omega
  clear d hm
  have hfl := field0
  go_enter Tryd.func33, Tryd.ntmps33
  go_wp2_with fail
  refine (betw_is b1 _).mono ?_
  rintro x w' ⟨rfl, rfl⟩
  go_wp2
  go_ret2
  exact ⟨rfl, rfl⟩
end
end Go.Proofs.YtblkbogoelfjlaaDoor.InA
