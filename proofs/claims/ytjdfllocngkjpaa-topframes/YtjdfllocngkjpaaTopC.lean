/-
  Frames, or none, put behind frames: as one law.
-/
import Derived.Test.YtjdfllocngkjpaaTopA
import Derived.Deep.AppendSrc
namespace Go.Proofs.Ytjdfllocngkjpaa.FrmA
open Go.RowKit FrmM
set_option maxRecDepth 100000

theorem append_no_none (p : Option Addr) (c : Nat) (ty : TypeId) (w : World) : (Builtin.append_ #[36, 36] ty #[.slice none 0 0, .slice p 0 c]).run Try.prog w = .ok (.slice none 0 0) w := by
  obtain ⟨i0, hi, hz0, hz1, hz2⟩ := info_parts info24
  cases p with
  | none => simp [Builtin.append_, run_underlying Try.underlying36, sizeOf, typeInfo, hi, Builtin.lenOf, Builtin.firstCells]
  | some a =>
    have hl := run_loadCells_list (P := Try.prog) w a [] (fun j v h => by simp at h)
    simp at hl
    simp [Builtin.append_, run_underlying Try.underlying36, sizeOf, typeInfo, hi, Builtin.lenOf, Builtin.firstCells, hl]
theorem append_no_some (g n cap : Nat) (hn : n ≤ cap) (p : Option Addr) (c : Nat) (ty : TypeId) (w : World) : (Builtin.append_ #[36, 36] ty #[.slice (some ⟨g, 0, none⟩) n cap, .slice p 0 c]).run Try.prog w = .ok (.slice (some ⟨g, 0, none⟩) n cap) w := by
  obtain ⟨i0, hi, hz0, hz1, hz2⟩ := info_parts info24
  have hs : Src Try.prog i0.size 36 (.slice p 0 c) 0 [] w := by
    cases p with
    | none => exact Src.ofNil w Try.underlying36 c
    | some a => exact Src.ofSlice w Try.underlying36 a 0 c [] (by simp) (fun j u h => by simp at h) (fun u h => by cases h)
  have := run_append_room_src (P := Try.prog) w 36 36 ty 24 i0 Try.underlying36 hi g 0 n cap (.slice p 0 c) 0 [] hs hn (fun j h => by simp at h) (fun j h => by simp at h)
  exact this
theorem frCells_one : ∀ (fs : List Fr) (ps : List (Option Addr × Nat)), ∀ u ∈ frCells fs ps, u.oneCell' = true
  | f :: fs, p :: ps, u, hu => by
    have e : frCells (f :: fs) (p :: ps) = frCells1 f p ++ frCells fs ps := rfl
    rw [e] at hu
    rcases List.mem_append.1 hu with h | h
    · simp [frCells1] at h
      rcases h with rfl | rfl | rfl <;> rfl
    · exact frCells_one fs ps u h
  | [], _, u, hu => by simp [frCells] at hu
  | _ :: _, [], u, hu => by simp [frCells] at hu
theorem run_append_frames (w : World) (base base2 : Nat) (v v' : Value) (fs gs : List Fr) (ty : TypeId) (h1 : FramesOwn w base base v fs) (h2 : FramesOwn w base2 base2 v' gs) (hbb : base ≤ base2) (hown : ∀ k, v.ownBlock = some k → k < base2) (hb : base ≤ w.heap.size) (hl : fs.length + gs.length ≤ 100000) :
    ∃ pv w', (Builtin.append_ #[36, 36] ty #[v, v']).run Try.prog w = .ok pv w' ∧ FramesOwn w' base base pv (fs ++ gs) ∧ w.grownBy w' v.ownBlock := by
  obtain ⟨i0, hi, hz0, hz1, hz2⟩ := info_parts info24
  obtain ⟨ps, hpl, hpo, hpr⟩ := h1.out
  obtain ⟨qs, hql, hqo, hqr⟩ := h2.out
  by_cases hg : gs = []
  · subst hg
    obtain ⟨p', c', rfl, _⟩ := h2.on
    refine ⟨v, w, ?_, by rw [List.append_nil]; exact h1, ⟨rfl, rfl, rfl, Nat.le_refl _, fun _ _ _ => rfl⟩⟩
    rcases hpo.2 with ⟨rfl, h0⟩ | ⟨g, cap, cur, rfl, _, _, hnc, _⟩
    · exact append_no_none p' c' ty w
    · exact append_no_some g _ cap hnc p' c' ty w
  · have hgp := List.length_pos_iff.2 hg
    obtain ⟨g5, c5, rfl, hg1, hg2⟩ := hqo.form hgp
    obtain ⟨g, cap, w', hr, ho, hgr, hat, hlt⟩ := run_append_lies (P := Try.prog) w 36 ty base 24 i0 _ 3 40 Try.underlying36 hi hz0 hz1 hz2 rfl (by decide) v fs.length _ hpo ⟨g5, 0, none⟩ gs.length c5 (frCells gs qs) (frCells_len gs qs hql) (hqo.cells (g := g5) rfl) (frCells_one gs qs) hgp (by unfold maxLen; omega) (by omega) hb _ rfl
    refine ⟨_, w', hr, FramesOwn.cat hpl hpr hql (fun k f pc hf hp => ?_) ho hgr hat, hgr⟩
    obtain ⟨h3, h4⟩ := hqr k f pc hf hp
    refine ⟨h3, fun hne => ?_⟩
    obtain ⟨b, o, h5, h6, _⟩ := h4 hne
    exact ⟨b, o, h5, by omega, fun e => by have := hown b e; omega⟩
theorem wpList_append_frames {ops : Array Oper} {rest : List Oper} {o : Oper} {a : Act} {Q : Exit → Act → World → Prop} (w : World) (hgd : o.guard = none) (s x : Operand) (ho : o.op = .call { callee := .builtin .append, args := #[s, x], argTypes := #[36, 36] })
    (base base2 : Nat) (v v' : Value) (fs gs : List Fr) (hs : a.eval s = v) (hx : a.eval x = v') (h1 : FramesOwn w base base v fs) (h2 : FramesOwn w base2 base2 v' gs) (hbb : base ≤ base2) (hown : ∀ k, v.ownBlock = some k → k < base2) (hb : base ≤ w.heap.size) (hl : fs.length + gs.length ≤ 100000)
    (h : ∀ pv w', FramesOwn w' base base pv (fs ++ gs) → w.grownBy w' v.ownBlock → wpList Try.prog ops Q rest (a.put o.dst pv) w') : wpList Try.prog ops Q (o :: rest) a w := by
  refine wpList_plain hgd fun K hK => ?_
  obtain ⟨pv, w', hr, h3, h4⟩ := run_append_frames w base base2 v v' fs gs o.type h1 h2 hbb hown hb hl
  unfold Oper.wp execOp
  simp only [ho, resolve, invoke, builtin, Sem.run_bind, Sem.run_pure, Result.andThen_ok, List.map_toArray, List.map_cons, List.map_nil, hs, hx, hr]
  exact hK _ _ (h pv w' h3 h4)
end Go.Proofs.Ytjdfllocngkjpaa.FrmA
