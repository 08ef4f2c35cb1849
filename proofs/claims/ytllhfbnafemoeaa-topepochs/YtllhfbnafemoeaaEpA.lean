/-
  How sights are compared, and sorted.
-/
import Derived.Test.YtllhfbnafemoeaaEpW
import Derived.Test.YtllhfbnafemoeaaShelf
import Derived.Deep.RegionHeld3
namespace Go.Proofs.Ytllhfbnafemoeaa.EpA
open Go.RowKit EpM EpW Go.Sort Go.Shelf
set_option maxRecDepth 100000

def or4 (a b c d : Int) : Int := if a ≠ 0 then a else if b ≠ 0 then b else if c ≠ 0 then c else d
set_option maxHeartbeats 1000000 in
theorem or_any (B : Nat) (a b c d : Int) (w : World) (h0 : w.cell? ⟨B, 0, none⟩ = some (.int .i64 a)) (h1 : w.cell? ⟨B, 1, none⟩ = some (.int .i64 b)) (h2 : w.cell? ⟨B, 2, none⟩ = some (.int .i64 c)) (h3 : w.cell? ⟨B, 3, none⟩ = some (.int .i64 d)) :
    Calls Try.prog 48 #[.slice (some ⟨B, 0, none⟩) 4 4] w fun e w' => e = .returned (.int .i64 (or4 a b c d)) ∧ w' = w := by
  obtain ⟨R, hR⟩ : ∃ R, R = or4 a b c d := ⟨_, rfl⟩
  have HR : Hid (R = or4 a b c d) := hR
  rw [← hR]
  clear hR
  by_cases ha : a = 0
  · subst ha
    by_cases hb : b = 0
    · subst hb
      by_cases hc : c = 0
      · subst hc
        by_cases hd : d = 0
        · subst hd
          have hR : R = 0 := by rw [HR.out]; rfl
          subst hR
          clear HR
          go_enter Try.func48, Try.ntmps48
          go_wp2
          refine wp_loop_rounds 5 ?_
          repeat (rw [rounds_succ]; go_wp2)
          go_ret
          exact ⟨rfl, rfl⟩
        · have hR : R = d := by rw [HR.out]; unfold or4; rw [if_neg (fun h => h rfl), if_neg (fun h => h rfl), if_neg (fun h => h rfl)]
          subst hR
          have h' : (R != 0) = true := by simpa using hd
          clear HR hd
          go_enter Try.func48, Try.ntmps48
          go_wp2
          refine wp_loop_rounds 5 ?_
          repeat (rw [rounds_succ]; go_wp2)
          go_ret
          exact ⟨rfl, rfl⟩
      · have hR : R = c := by rw [HR.out]; unfold or4; rw [if_neg (fun h => h rfl), if_neg (fun h => h rfl), if_pos hc]
        subst hR
        have h' : (R != 0) = true := by simpa using hc
        clear HR hc
        go_enter Try.func48, Try.ntmps48
        go_wp2
        refine wp_loop_rounds 5 ?_
        repeat (rw [rounds_succ]; go_wp2)
        go_ret
        exact ⟨rfl, rfl⟩
    · have hR : R = b := by rw [HR.out]; unfold or4; rw [if_neg (fun h => h rfl), if_pos hb]
      subst hR
      have h' : (R != 0) = true := by simpa using hb
      clear HR hb
      go_enter Try.func48, Try.ntmps48
      go_wp2
      refine wp_loop_rounds 5 ?_
      repeat (rw [rounds_succ]; go_wp2)
      go_ret
      exact ⟨rfl, rfl⟩
  · have hR : R = a := by rw [HR.out]; unfold or4; rw [if_pos ha]
    subst hR
    have h' : (R != 0) = true := by simpa using ha
    clear HR ha
    go_enter Try.func48, Try.ntmps48
    go_wp2
    refine wp_loop_rounds 5 ?_
    rw [rounds_succ]
    go_wp2
    go_ret
    exact ⟨rfl, rfl⟩

theorem or_new (W : World) (B : Nat) (a b c d : Int) (hB : B = W.heap.size) :
    Calls Try.prog 48 #[.slice (some ⟨B, 0, none⟩) 4 4] (W.alloc (.cells #[.int .i64 a, .int .i64 b, .int .i64 c, .int .i64 d] 3)).drew fun e w' => e = .returned (.int .i64 (or4 a b c d)) ∧ w' = (W.alloc (.cells #[.int .i64 a, .int .i64 b, .int .i64 c, .int .i64 d] 3)).drew := by
  subst hB
  refine or_any _ a b c d _ ?_ ?_ ?_ ?_
  all_goals
    show (W.alloc _).cell? _ = _
    simp
theorem alloc3_grow (w : World) (a b c : Obj) : (((w.alloc a).alloc b).alloc c).drew = grow (w.drewN 1) #[a, b, c] := by
  have e : ((w.heap.push a).push b).push c = w.heap ++ #[a, b, c] := by
    apply Array.ext'
    simp
  unfold World.alloc World.drew grow World.drewN
  simp only [e]
theorem cf_or (x y : Sg) : cf x y = or4 (Lib.compareBytes x.g.data.toList y.g.data.toList) (Lib.compareInt x.t y.t) (Lib.compareInt x.p y.p) (Lib.compareInt x.s y.s) := rfl

set_option maxHeartbeats 1000000 in
theorem less_any (x y : Sg) (w : World) :
    Calls Try.prog 47 #[.agg #[.int .i64 x.p, .int .i64 x.s, .int .i64 x.t, .string x.g], .agg #[.int .i64 y.p, .int .i64 y.s, .int .i64 y.t, .string y.g]] w fun e w' => e = .returned (.int .i64 (cf x y)) ∧ ∃ q os', w' = grow (w.drewN q) os' := by
  rw [cf_or]
  have mixed : Try.prog.follows .mixedOrders = true := by kernel_rfl
  obtain ⟨xp, xs, xt, xg⟩ := x
  obtain ⟨yp, ys, yt, yg⟩ := y
  simp only
  go_enter Try.func47, Try.ntmps47
  go_wp2_with fail
  go_region_held3 (fun w' => w'.cell? ⟨w.heap.size, 0, none⟩ = some (.int .i64 xp) ∧ w'.cell? ⟨w.heap.size, 1, none⟩ = some (.int .i64 xs) ∧ w'.cell? ⟨w.heap.size, 2, none⟩ = some (.int .i64 xt) ∧ w'.cell? ⟨w.heap.size, 3, none⟩ = some (.string xg) ∧ w'.cell? ⟨w.heap.size + 1, 0, none⟩ = some (.int .i64 yp) ∧ w'.cell? ⟨w.heap.size + 1, 1, none⟩ = some (.int .i64 ys) ∧ w'.cell? ⟨w.heap.size + 1, 2, none⟩ = some (.int .i64 yt) ∧ w'.cell? ⟨w.heap.size + 1, 3, none⟩ = some (.string yg)) (go_keep)
    (first | (go_at_call 49; refine (Try.strings_Compare _ _ _).mono ?_; rintro e w' ⟨rfl, rfl⟩) | (go_at_call 50; refine (Try.cmp_Compare_int _ _ _).mono ?_; rintro e w' ⟨rfl, rfl⟩) | (go_at_call 48; refine (or_new _ (w.heap.size + 1 + 1) _ _ _ _ (by simp)).mono ?_; rintro e w' ⟨rfl, rfl⟩))
  go_wp2
  go_ret
  exact ⟨rfl, 1, _, alloc3_grow _ _ _ _⟩
end Go.Proofs.Ytllhfbnafemoeaa.EpA
