/-
  The tags that acts feed.
-/
import Derived.Test.YtmolafjalaeoaaaGreatDoorPbl
namespace Go.Proofs.YtmolafjalaeoaaaGreatDoor.WbA
open Go.RowKit TkW WaM WaW WaB Go.Maps
open RuM (Rl)
set_option maxRecDepth 100000
/-- One tag more, if it is new and there is room. -/
def addO (T : List ByteArray) (g : ByteArray) : List ByteArray := if T.length < 40 ∧ hasT T g = false then T ++ [g] else T
theorem addO_len {T : List ByteArray} (h : T.length ≤ 40) (g : ByteArray) : (addO T g).length ≤ 40 := by
  unfold addO
  split
  · rename_i h1
    simp
    omega
  · exact h
/-- The tags of frames. -/
def ftags (fs : List FrmM.Fr) : List ByteArray := fs.flatMap (fun f => f.rs.map (·.t))
/-- Lines' rests and counts, and tags so far. -/
structure Tg where
  rest : Nat → List UInt8
  lost : Nat → Nat
  out : List ByteArray
abbrev skips (a : Ac) : Prop := a.kd = tickW ∨ a.n < 0 ∨ 3 < a.n ∨ 2000 < a.st.size
def Tg.feed (t : Tg) (r : Nat) (b : List UInt8) : Tg :=
  ⟨upd t.rest r (FrmM.feed (t.rest r ++ b)).2.2, upd t.lost r (t.lost r + (FrmM.feed (t.rest r ++ b)).2.1), (ftags (FrmM.feed (t.rest r ++ b)).1).foldl addO t.out⟩
def Tg.step (t : Tg) (a : Ac) : Tg := if skips a then t else t.feed a.n.toNat a.st.data.toList
def Tg.zero : Tg := ⟨fun _ => [], fun _ => 0, []⟩
def tgs (ac : List Ac) : Tg := ac.foldl Tg.step Tg.zero
/-- The cells of lines. -/
def lv (t : Tg) (i : Nat) : Value := if i % 2 = 0 then .string (FrmA.str (t.rest (i / 2))) else .int .i64 (t.lost (i / 2) : Int)
def lvs (t : Tg) : Array Value := #[lv t 0, lv t 1, lv t 2, lv t 3, lv t 4, lv t 5, lv t 6, lv t 7]
theorem lvs_at (t : Tg) {i : Nat} (h : i < 8) : (lvs t)[i]? = some (lv t i) := by
  match i, h with
  | 0, _ => rfl
  | 1, _ => rfl
  | 2, _ => rfl
  | 3, _ => rfl
  | 4, _ => rfl
  | 5, _ => rfl
  | 6, _ => rfl
  | 7, _ => rfl
  | i + 8, h => exact absurd h (by omega)
theorem tgs_succ {ac : List Ac} {j : Nat} {a : Ac} (h : ac[j]? = some a) : tgs (ac.take (j + 1)) = (tgs (ac.take j)).step a := by
  unfold tgs
  rw [List.take_add_one, h]
  simp
theorem lv_feed (t : Tg) (r : Nat) (R : List UInt8) (n : Nat) (o : List ByteArray) (j : Nat) : lv ⟨upd t.rest r R, upd t.lost r n, o⟩ j = if j = r * 2 + 1 then .int .i64 (n : Int) else if j = r * 2 then .string (FrmA.str R) else lv t j := by
  unfold lv upd
  simp only
  by_cases h1 : j = r * 2 + 1
  · have e1 : j % 2 = 1 := by omega
    have e2 : j / 2 = r := by omega
    rw [if_pos h1, if_neg (by omega), if_pos e2]
  · rw [if_neg h1]
    by_cases h2 : j = r * 2
    · have e1 : j % 2 = 0 := by omega
      have e2 : j / 2 = r := by omega
      rw [if_pos h2, if_pos e1, if_pos e2]
    · rw [if_neg h2]
      have e2 : j / 2 ≠ r := by omega
      rw [if_neg e2, if_neg e2]
def layT (t : Tg) (r : Nat) (hr : r < 4) : FrmA.Lay := ⟨r * 2, lvs t, 143, by show r * 2 + 1 < 8; omega⟩
theorem lvs_size (t : Tg) : (lvs t).size = 8 := rfl
theorem layT_obj (t : Tg) (r : Nat) (hr : r < 4) (R : List UInt8) (n : Nat) (o : List ByteArray) : (layT t r hr).obj (FrmA.str R) n = .cells (lvs ⟨upd t.rest r R, upd t.lost r n, o⟩) 143 := by
  unfold FrmA.Lay.obj layT
  simp only
  congr 1
  apply Array.ext_getElem?
  intro j
  rw [Array.getElem?_setIfInBounds, Array.getElem?_setIfInBounds, Array.size_setIfInBounds, lvs_size]
  by_cases hj : j < 8
  · rw [lvs_at t hj, lvs_at ⟨upd t.rest r R, upd t.lost r n, o⟩ hj, lv_feed]
    by_cases h1 : j = r * 2 + 1
    · subst h1
      simp [hj]
    · rw [if_neg (by omega), if_neg h1]
      by_cases h2 : j = r * 2
      · subst h2
        simp [hj]
      · rw [if_neg (by omega), if_neg h2]
  · rw [if_neg (by omega), if_neg (by omega)]
    rw [Array.getElem?_eq_none (by rw [lvs_size]; omega), Array.getElem?_eq_none (by rw [lvs_size]; omega)]
theorem layT_self (t : Tg) (r : Nat) (hr : r < 4) : (layT t r hr).obj (FrmA.str (t.rest r)) (t.lost r) = .cells (lvs t) 143 := by
  rw [layT_obj t r hr (t.rest r) (t.lost r) t.out]
  have e1 : upd t.rest r (t.rest r) = t.rest := by funext i; unfold upd; split <;> simp_all
  have e2 : upd t.lost r (t.lost r) = t.lost := by funext i; unfold upd; split <;> simp_all
  rw [e1, e2]
theorem Tg.step_use {t : Tg} {a : Ac} {n : Nat} (ho : aok a) (h : ∀ r, (t.rest r).length + t.lost r ≤ n) (r : Nat) : ((t.step a).rest r).length + (t.step a).lost r ≤ n + aw a := by
  unfold Tg.step
  by_cases hs : skips a
  · rw [if_pos hs]
    have := h r
    omega
  · rw [if_neg hs]
    unfold Tg.feed upd
    simp only
    by_cases hr : r = a.n.toNat
    · rw [if_pos hr, if_pos hr]
      have h1 := FrmM.feed_sum (t.rest a.n.toNat ++ a.st.data.toList)
      have h2 := h a.n.toNat
      rw [List.length_append, data_len] at h1
      have h3 : a.st.size ≤ 2000 := by unfold skips at hs; omega
      have h4 : aw a = a.st.size := by unfold aok at ho; unfold aw; omega
      omega
    · rw [if_neg hr, if_neg hr]
      have := h r
      omega
theorem tgs_use {ac : List Ac} (ho : ∀ a, a ∈ ac → aok a) : ∀ j, j ≤ ac.length → ∀ r, ((tgs (ac.take j)).rest r).length + (tgs (ac.take j)).lost r ≤ awS ac j
  | 0, _ => fun r => by simp [tgs, Tg.zero, awS]
  | j + 1, hj => fun r => by
    have ih := tgs_use ho j (by omega)
    have hj' := List.getElem?_eq_getElem (l := ac) (i := j) (by omega)
    rw [tgs_succ hj', awS_succ hj']
    exact Tg.step_use (ho _ (List.getElem_mem _)) ih r
theorem addO_full {T : List ByteArray} (h : 40 ≤ T.length) (g : ByteArray) : addO T g = T := by
  unfold addO
  rw [if_neg (by omega)]
theorem foldO_full : ∀ (l : List ByteArray) (T : List ByteArray), 40 ≤ T.length → l.foldl addO T = T
  | [], _, _ => rfl
  | g :: l, T, h => by rw [List.foldl_cons, addO_full h]; exact foldO_full l T h
theorem foldO_len : ∀ (l : List ByteArray) (T : List ByteArray), T.length ≤ 40 → (l.foldl addO T).length ≤ 40
  | [], _, h => h
  | g :: l, T, h => by rw [List.foldl_cons]; exact foldO_len l _ (addO_len h g)
theorem ftags_succ {fs : List FrmM.Fr} {k : Nat} {f : FrmM.Fr} (h : fs[k]? = some f) : ftags (fs.take (k + 1)) = ftags (fs.take k) ++ f.rs.map (·.t) := by
  unfold ftags
  rw [List.take_add_one, h]
  simp
theorem tgs_len (ac : List Ac) : ∀ j, (tgs (ac.take j)).out.length ≤ 40
  | 0 => by simp [tgs, Tg.zero]
  | j + 1 => by
    cases h : ac[j]? with
    | none =>
      have : ac.take (j + 1) = ac.take j := by rw [List.take_add_one, h]; simp
      rw [this]
      exact tgs_len ac j
    | some a =>
      rw [tgs_succ h]
      unfold Tg.step
      split
      · exact tgs_len ac j
      · exact foldO_len _ _ (tgs_len ac j)
/-- A row that grew, seen from where it began. -/
structure Ow (w2 V : World) (v0 v : Value) : Prop where
  kp : Kp (fun b => v0.ownBlock = some b) w2 V
  new : ∀ b, v.ownBlock = some b → v0.ownBlock = some b ∨ w2.heap.size ≤ b
theorem Ow.refl (w : World) (v : Value) : Ow w w v v := ⟨Kp.refl _ _, fun _ h => Or.inl h⟩
theorem Ow.then_below {w2 V V' : World} {v0 v : Value} (h : Ow w2 V v0 v) (hb : Below V.heap.size V V') : Ow w2 V' v0 v := ⟨h.kp.trans (below_kp hb _), h.new⟩
theorem Ow.grow {w2 V V' : World} {v0 v v' : Value} (h : Ow w2 V v0 v) (hg : V.grownBy V' v.ownBlock) (hn : ∀ b, v'.ownBlock = some b → v.ownBlock = some b ∨ V.heap.size ≤ b) : Ow w2 V' v0 v' where
  kp := h.kp.then (G := fun b => v.ownBlock = some b) (grown_kp hg (fun k hk => hk)) (fun i hi hG => by
    rcases h.new i hG with h1 | h1
    · exact h1
    · omega)
  new := fun b hb => by
    rcases hn b hb with h1 | h1
    · exact h.new b h1
    · exact Or.inr (Nat.le_trans h.kp.size h1)
theorem info9 : (Tryz.prog.info? 9).map (fun i => (i.zero, i.size, i.bytes)) = some (some (.string ⟨#[]⟩), 1, 16) := by kernel_rfl
theorem strs_form {w : World} {base : Nat} {v : Value} {T : List ByteArray} (h : w.ownsRow base 9 1 v T.length (T.map Value.string)) : ∃ q cap, v = .slice q T.length cap ∧ ∀ j x, T[j]? = some x → ∃ g, q = some ⟨g, 0, none⟩ ∧ w.cell? ⟨g, j, none⟩ = some (.string x) := by
  rcases h.2 with ⟨rfl, h0⟩ | ⟨g, cap, cur, hv, hb, hg, _⟩
  · refine ⟨none, 0, by rw [h0], fun j x hx => ?_⟩
    have := (List.getElem?_eq_some_iff.1 hx).1
    omega
  · refine ⟨some ⟨g, 0, none⟩, cap, hv, fun j x hx => ⟨g, rfl, ?_⟩⟩
    have hc := World.ownsRow.cells h (g := g) (by rw [hv]; rfl) j (.string x) (by rw [List.getElem?_map, hx]; rfl)
    rw [addr_add] at hc
    exact hc
theorem hasT_take {T : List ByteArray} {x : Nat} {y g : ByteArray} (h : T[x]? = some y) : hasT (T.take (x + 1)) g = (hasT (T.take x) g || decide (y = g)) := by
  unfold hasT
  rw [List.take_add_one, h]
  simp
end Go.Proofs.YtmolafjalaeoaaaGreatDoor.WbA
