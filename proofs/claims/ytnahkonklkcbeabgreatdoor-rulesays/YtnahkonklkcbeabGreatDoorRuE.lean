/-
  What guess does to the world.
-/
import Derived.Test.YtnahkonklkcbeabGreatDoorRuZ
namespace Go.Proofs.YtnahkonklkcbeabGreatDoor.RuA
open Go.RowKit RuM
set_option maxRecDepth 100000

theorem gs_new (l : List UInt8) (w : World) (hT : RTab w) : GS w ((((w.alloc (.cells #[.string (bt l)] 9)).alloc (.cells #[.string ⟨#[]⟩, .int .i64 0, .int .i64 0, .int .i64 0, .int .i64 0, .int .i64 0] 23)).alloc (.cells #[.func (.func 42) #[] #[.pointer (some ⟨w.heap.size, 0, none⟩)]] 85)).alloc (.cells #[.string ⟨#[]⟩, .int .i64 0, .int .i64 0, .int .i64 0, .int .i64 (-1), .int .i64 0] 23)) l (.string ⟨#[]⟩) (.int .i64 0) (.int .i64 0) (.int .i64 0) (.int .i64 (-1)) (.int .i64 0) := by
  have hB : Below w.heap.size w ((((w.alloc (.cells #[.string (bt l)] 9)).alloc (.cells #[.string ⟨#[]⟩, .int .i64 0, .int .i64 0, .int .i64 0, .int .i64 0, .int .i64 0] 23)).alloc (.cells #[.func (.func 42) #[] #[.pointer (some ⟨w.heap.size, 0, none⟩)]] 85)).alloc (.cells #[.string ⟨#[]⟩, .int .i64 0, .int .i64 0, .int .i64 0, .int .i64 (-1), .int .i64 0] 23)) :=
    ((((Below.refl _ w).alloc (Nat.le_refl _) _).alloc (by simp) _).alloc (by simp; omega) _).alloc (by simp; omega) _
  refine ⟨hT.size, hT.keep hB, hB, ?_, ?_, ?_, ⟨?_, ?_, ?_, ?_, ?_, ?_, ?_, ?_⟩, ⟨?_, ?_, ?_, ?_, ?_, ?_, ?_, ?_⟩⟩
  all_goals first | go_simp | (intro i; go_simp)

set_option maxHeartbeats 4000000 in
theorem guess_any (l : List UInt8) (w : World) (hT : RTab w) (hs : l.length < 4294967281) :
    Calls Tryz.prog 23 #[.string (bt l)] w fun e w' => e = .returned (rV (guessR l)) ∧ Below w.heap.size w w' := by
  have hsf := fun (a : Addr) (c : Array Value) (w : World) => run_store Tryz.prog w a (.func (.func 42) #[] c) .plain rfl
  have HT : Hid (RTab w) := hT
  have hl1 := Nat.le_trans (tl_len l) (Nat.le_of_lt hs)
  have H0 : Hid (l.length < 4294967281) := hs
  have H1 : Hid ((tl l).length < 4294967281) := Nat.lt_of_le_of_lt (tl_len _) H0.out
  have H2 : Hid ((tl (tl l)).length < 4294967281) := Nat.lt_of_le_of_lt (tl_len _) H1.out
  have H3 : Hid ((tl (tl (tl l))).length < 4294967281) := Nat.lt_of_le_of_lt (tl_len _) H2.out
  have H4 : Hid ((tl (tl (tl (tl l)))).length < 4294967281) := Nat.lt_of_le_of_lt (tl_len _) H3.out
  have H5 : Hid ((tl (tl (tl (tl (tl l))))).length < 4294967281) := Nat.lt_of_le_of_lt (tl_len _) H4.out
  have H6 : Hid ((tl (tl (tl (tl (tl (tl l)))))).length < 4294967281) := Nat.lt_of_le_of_lt (tl_len _) H5.out
  have H7 : Hid ((tl (tl (tl (tl (tl (tl (tl l))))))).length < 4294967281) := Nat.lt_of_le_of_lt (tl_len _) H6.out
  have H8 : Hid ((tl (tl (tl (tl (tl (tl (tl (tl l)))))))).length < 4294967281) := Nat.lt_of_le_of_lt (tl_len _) H7.out
  have HG : Hid _ := gs_new l w hT
  clear hT hl1 hs
  go_enter Tryz.func23, Tryz.ntmps23
  go_wp2_with fail
  refine (GS.take HG.out H0.out).mono ?_
  rintro e V1 ⟨rfl, h1⟩
  have HG1 : Hid _ := h1
  have f0 := h1.r.fz 0
  have c0 := h1.r.c0
  have t0 := h1.t0
  clear HG h1
  go_wp2_with fail
  refine (trim_any (hd l) _ (Nat.lt_of_le_of_lt (hd_len l) H0.out)).mono ?_
  rintro e V1' ⟨rfl, rfl⟩
  have HG2 : Hid _ := HG1.out.set (HG1.out.r.set0 (.string (bt (Lib.trimSuffix (hd l) [58]))))
  have t0' := HG2.out.t0
  clear HG1
  go_wp2_with fail
  have HG := HG2
  clear HG2 f0 c0 t0
  refine (GS.take HG.out H1.out).mono ?_
  rintro e V ⟨rfl, h1⟩
  have HG' : Hid _ := h1
  clear HG h1
  have HG := HG'
  clear HG'
  clear t0'
  have f0 := HG.out.r.fz 1
  have c0 := HG.out.r.c1
  have t0 := HG.out.t0
  go_wp2_with fail
  refine (kindOf_any (bt (hd (tl l))) _ (HG.out.T.kws 0 (by decide)) (HG.out.T.kws 1 (by decide)) (HG.out.T.kws 2 (by decide)) (HG.out.T.kws 3 (by decide))).mono ?_
  rw [bt_list]
  rintro e V' ⟨rfl, rfl⟩
  have HG' : Hid _ := HG.out.set (HG.out.r.set1 (.int .i64 (kindI (hd (tl l)))))
  clear HG
  have HG := HG'
  have t0' := HG.out.t0
  clear HG'
  go_wp2_with fail
  clear f0 c0 t0
  refine (GS.numb HG.out H2.out).mono ?_
  rintro e V ⟨rfl, h1⟩
  have HG' : Hid _ := h1
  clear HG h1
  have HG := HG'
  clear HG'
  clear t0'
  have f0 := HG.out.r.fz 2
  have c0 := HG.out.r.c2
  have t0 := HG.out.t0
  have HG' : Hid _ := HG.out.set (HG.out.r.set2 (.int .i64 (num (hd (tl (tl l))))))
  clear HG
  have HG := HG'
  have t0' := HG.out.t0
  clear HG'
  go_wp2_with fail
  clear f0 c0 t0
  refine (GS.take HG.out H3.out).mono ?_
  rintro e V ⟨rfl, h1⟩
  have HG' : Hid _ := h1
  clear HG h1
  have HG := HG'
  clear HG'
  clear t0'
  have t0 := HG.out.t0
  go_wp2_with fail
  clear t0
  refine (GS.numb HG.out H4.out).mono ?_
  rintro e V ⟨rfl, h1⟩
  have HG' : Hid _ := h1
  clear HG h1
  have HG := HG'
  clear HG'
  have f0 := HG.out.r.fz 3
  have c0 := HG.out.r.c3
  have t0 := HG.out.t0
  have HG' : Hid _ := HG.out.set (HG.out.r.set3 (.int .i64 (num (hd (tl (tl (tl (tl l))))))))
  clear HG
  have HG := HG'
  have t0' := HG.out.t0
  clear HG'
  go_wp2_with fail
  clear f0 c0 t0
  refine (GS.take HG.out H5.out).mono ?_
  rintro e V ⟨rfl, h1⟩
  have HG' : Hid _ := h1
  clear HG h1
  have HG := HG'
  clear HG'
  clear t0'
  have t0 := HG.out.t0
  have HXW : Hid (bt (hd (tl (tl (tl (tl (tl l)))))) = ⟨#[119, 105, 116, 104, 111, 117, 116]⟩ ↔ hd (tl (tl (tl (tl (tl l))))) = withoutL) := ⟨fun h => by have := congrArg (fun b : ByteArray => b.data.toList) h; rw [bt_list] at this; exact this, fun h => by rw [h]; rfl⟩
  generalize bt (hd (tl (tl (tl (tl (tl l)))))) = X at *
  by_cases hwo : X = ⟨#[119, 105, 116, 104, 111, 117, 116]⟩
  case pos =>
    have hb' : (X.toList == [119, 105, 116, 104, 111, 117, 116]) = true := by rw [hwo, ByteArray.toList_eq]; decide
    have HWO : Hid (hd (tl (tl (tl (tl (tl l))))) = withoutL) := HXW.out.1 hwo
    clear hwo HXW
    go_wp2_with fail
    clear t0 hb'
    refine (GS.numb HG.out H6.out).mono ?_
    rintro e V ⟨rfl, h1⟩
    have HG' : Hid _ := h1
    clear HG h1
    have HG := HG'
    clear HG'
    have f0 := HG.out.r.fz 4
    have c0 := HG.out.r.c4
    have t0 := HG.out.t0
    have HG' : Hid _ := HG.out.set (HG.out.r.set4 (.int .i64 (num (hd (tl (tl (tl (tl (tl (tl l))))))))))
    clear HG
    have HG := HG'
    have t0' := HG.out.t0
    clear HG'
    go_wp2_with fail
    clear f0 c0 t0
    refine (GS.take HG.out H7.out).mono ?_
    rintro e V ⟨rfl, h1⟩
    have HG' : Hid _ := h1
    clear HG h1
    have HG := HG'
    clear HG'
    clear t0'
    have t0 := HG.out.t0
    go_wp2_with fail
    clear t0
    refine (GS.numb HG.out H8.out).mono ?_
    rintro e V ⟨rfl, h1⟩
    have HG' : Hid _ := h1
    clear HG h1
    have HG := HG'
    clear HG'
    have f0 := HG.out.r.fz 5
    have c0 := HG.out.r.c5
    have t0 := HG.out.t0
    have HG' : Hid _ := HG.out.set (HG.out.r.set5 (.int .i64 (num (hd (tl (tl (tl (tl (tl (tl (tl (tl l))))))))))))
    have q0 := HG'.out.r.c0
    have q1 := HG'.out.r.c1
    have q2 := HG'.out.r.c2
    have q3 := HG'.out.r.c3
    have q4 := HG'.out.r.c4
    have q5 := HG'.out.r.c5
    have p0 := HG'.out.p.c0
    have p1 := HG'.out.p.c1
    have p2 := HG'.out.p.c2
    have p3 := HG'.out.p.c3
    have p4 := HG'.out.p.c4
    have p5 := HG'.out.p.c5
    have pf := HG'.out.p.fz
    clear HG
    go_wp2_with fail
    have HR : Hid (guessR l = ⟨bt (Lib.trimSuffix (hd l) [58]), kindI (hd (tl l)), num (hd (tl (tl l))), num (hd (tl (tl (tl (tl l))))), num (hd (tl (tl (tl (tl (tl (tl l))))))), num (hd (tl (tl (tl (tl (tl (tl (tl (tl l)))))))))⟩) := by
      show guessR l = _
      unfold guessR
      rw [if_pos HWO.out]; rfl
    rw [HR.out]
    clear HR hsf f0 c0 t0 q0 q1 q2 q3 q4 q5
    generalize V.setCell ⟨w.heap.size + 1 + 1 + 1, 5, none⟩ (.int .i64 (num (hd (tl (tl (tl (tl (tl (tl (tl (tl l))))))))))) = V9 at *
    refine bodyPost_ret (v := rV ⟨bt (Lib.trimSuffix (hd l) [58]), kindI (hd (tl l)), num (hd (tl (tl l))), num (hd (tl (tl (tl (tl l))))), num (hd (tl (tl (tl (tl (tl (tl l))))))), num (hd (tl (tl (tl (tl (tl (tl (tl (tl l)))))))))⟩) (by simp [results, Tryz.results23, go_sem, rV, p0, p1, p2, p3, p4, p5]) rfl ⟨rfl, ?_⟩
    exact (((((HG'.out.bl.setCell (Nat.le_succ _) _).setCell (Nat.le_succ _) _).setCell (Nat.le_succ _) _).setCell (Nat.le_succ _) _).setCell (Nat.le_succ _) _).setCell (Nat.le_succ _) _
  case neg =>
    have hb' : (X.toList == [119, 105, 116, 104, 111, 117, 116]) = false := by
      rw [← Bool.not_eq_true, beq_iff_eq, ByteArray.toList_eq]
      exact fun h => hwo (ByteArray.ext (Array.toList_inj.1 h))
    have HWO : Hid (¬ hd (tl (tl (tl (tl (tl l))))) = withoutL) := fun h => hwo (HXW.out.2 h)
    clear hwo HXW
    go_wp2_with fail
    clear t0 hb'
    refine (GS.numb HG.out H6.out).mono ?_
    rintro e V ⟨rfl, h1⟩
    have HG' : Hid _ := h1
    clear HG h1
    have HG := HG'
    clear HG'
    have f0 := HG.out.r.fz 5
    have c0 := HG.out.r.c5
    have t0 := HG.out.t0
    have HG' : Hid _ := HG.out.set (HG.out.r.set5 (.int .i64 (num (hd (tl (tl (tl (tl (tl (tl l))))))))))
    have q0 := HG'.out.r.c0
    have q1 := HG'.out.r.c1
    have q2 := HG'.out.r.c2
    have q3 := HG'.out.r.c3
    have q4 := HG'.out.r.c4
    have q5 := HG'.out.r.c5
    have p0 := HG'.out.p.c0
    have p1 := HG'.out.p.c1
    have p2 := HG'.out.p.c2
    have p3 := HG'.out.p.c3
    have p4 := HG'.out.p.c4
    have p5 := HG'.out.p.c5
    have pf := HG'.out.p.fz
    clear HG
    go_wp2_with fail
    have HR : Hid (guessR l = ⟨bt (Lib.trimSuffix (hd l) [58]), kindI (hd (tl l)), num (hd (tl (tl l))), num (hd (tl (tl (tl (tl l))))), -1, num (hd (tl (tl (tl (tl (tl (tl l)))))))⟩) := by
      show guessR l = _
      unfold guessR
      rw [if_neg HWO.out]; rfl
    rw [HR.out]
    clear HR hsf f0 c0 t0 q0 q1 q2 q3 q4 q5
    generalize V.setCell ⟨w.heap.size + 1 + 1 + 1, 5, none⟩ (.int .i64 (num (hd (tl (tl (tl (tl (tl (tl l))))))))) = V9 at *
    refine bodyPost_ret (v := rV ⟨bt (Lib.trimSuffix (hd l) [58]), kindI (hd (tl l)), num (hd (tl (tl l))), num (hd (tl (tl (tl (tl l))))), -1, num (hd (tl (tl (tl (tl (tl (tl l)))))))⟩) (by simp [results, Tryz.results23, go_sem, rV, p0, p1, p2, p3, p4, p5]) rfl ⟨rfl, ?_⟩
    exact (((((HG'.out.bl.setCell (Nat.le_succ _) _).setCell (Nat.le_succ _) _).setCell (Nat.le_succ _) _).setCell (Nat.le_succ _) _).setCell (Nat.le_succ _) _).setCell (Nat.le_succ _) _
end Go.Proofs.YtnahkonklkcbeabGreatDoor.RuA
