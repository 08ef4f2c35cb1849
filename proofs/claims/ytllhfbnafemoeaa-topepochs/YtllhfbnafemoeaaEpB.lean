/-
  A row of sights is sorted.
-/
import Derived.Test.YtllhfbnafemoeaaEpA
import Derived.Sort.LotA
import Derived.Shelf.SlSortCmp.NoneTotal
namespace Go.Proofs.Ytllhfbnafemoeaa.EpA
open Go.RowKit EpM EpW Go.Sort Go.Shelf
set_option maxRecDepth 100000

theorem flat_eq [Inhabited Sg] (xs : List Sg) : flatK sgc 4 xs.toArray = (sgcs xs).toArray := by
  refine ext_get! (by simp [sgcs_len]) fun t ht => ?_
  have ht' : t < xs.length * 4 := by simpa using ht
  rw [get_flatK sgc 4 xs.toArray t (by simpa using ht')]
  have h4 : t / 4 < xs.length := by omega
  have e := sgcs_at xs (t / 4) (t % 4) xs[t / 4] (List.getElem?_eq_getElem h4) (by omega)
  rw [show t / 4 * 4 + t % 4 = t by omega] at e
  have e1 : xs.toArray[t / 4]! = xs[t / 4] := by
    rw [getElem!_pos xs.toArray (t / 4) (by simpa using h4)]
    simp
  rw [e1]
  have hl : t % 4 < (sgc xs[t / 4]).length := by show t % 4 < 4; omega
  have ht2 : t < (sgcs xs).length := by rw [sgcs_len]; exact ht'
  rw [getElem!_pos (sgc xs[t / 4]) (t % 4) hl, getElem!_pos (sgcs xs).toArray t (by simpa using ht2)]
  rw [List.getElem?_eq_getElem hl, List.getElem?_eq_getElem ht2] at e
  simp at e
  simp [e]
theorem heap_put {w : World} {g n : Nat} {os : Array Obj} {cur : Array Value} {e : TypeId} {fr : Nat × Nat} (d : Array Value) (hb : w.heap[g]? = some (.cells cur e fr)) :
    (grow (putRow id (Sort.ahead w n) g 0 d) os).heap[g]? = some (.cells (putCells id 0 d cur) e fr) := by
  have hg : g < w.heap.size := (Array.getElem?_eq_some_iff.1 hb).1
  rw [heap_grow_old _ _ (by simpa using hg)]
  simp [putRow, mapBlock, Sort.ahead, Array.getElem?_modify, hb, onCells]
theorem grown_put {w : World} {g n : Nat} {os : Array Obj} (d : Array Value) : w.grownBy (grow (putRow id (Sort.ahead w n) g 0 d) os) (some g) := by
  refine ⟨rfl, rfl, rfl, by simp, fun k hk hne => ?_⟩
  rw [heap_grow_old _ _ (by simpa using hk)]
  have : g ≠ k := fun e => hne (by rw [e])
  simp [putRow, mapBlock, Sort.ahead, Array.getElem?_modify, this]
theorem take_put (cur : Array Value) (ts : List Value) (h : ts.length ≤ cur.size) : (putCells id 0 ts.toArray cur).toList.take ts.length = ts := by
  apply List.ext_getElem?
  intro j
  by_cases hj : j < ts.length
  · rw [List.getElem?_take_of_lt hj, Array.getElem?_toList]
    simp [putCells, hj, show j < cur.size by omega]
  · rw [List.getElem?_take_eq_none (by omega), List.getElem?_eq_none (by omega)]

theorem sort_row [Inhabited Sg] (g cap : Nat) (xs : List Sg) (w : World) (h : w.ownsRow 0 61 4 (.slice (some ⟨g, 0, none⟩) xs.length cap) xs.length (sgcs xs)) (hl : xs.length ≤ 100000) :
    Calls Try.prog 46 #[.slice (some ⟨g, 0, none⟩) xs.length cap, .func (.func 47) #[] #[]] w fun e w' => e = .returned (.tuple #[]) ∧ w'.ownsRow 0 61 4 (.slice (some ⟨g, 0, none⟩) xs.length cap) xs.length (sgcs (sorted xs)) ∧ w.grownBy w' (some g) := by
  have eg : ∀ args w, (callFunc 47 args).run Try.prog w = .ok (.enter 47 args) w := enters_of Try.func47 (by kernel_rfl) rfl
  obtain ⟨hlen, hh⟩ := h
  obtain ⟨cur, hb, h1, h2, h3, h4⟩ : ∃ cur, w.heap[g]? = some (.cells cur 61 (0, 0)) ∧ xs.length ≤ cap ∧ cap ≤ maxLen ∧ cur.size = cap * 4 ∧ cur.toList.take (xs.length * 4) = sgcs xs := by
    rcases hh with ⟨h0, _⟩ | ⟨g', cap', cur, hv, _, hb, r⟩
    · cases h0
    · simp at hv
      obtain ⟨rfl, rfl⟩ := hv
      exact ⟨cur, hb, r⟩
  have hH : HoldsK sgc 4 w g 0 xs.toArray := by
    unfold HoldsK
    rw [flat_eq]
    intro j hj
    have hj' : j < (sgcs xs).length := by simpa using hj
    refine ⟨?_, by simp [World.frozen?, hb]⟩
    have e1 : (cur.toList.take (xs.length * 4))[j]? = (sgcs xs)[j]? := by rw [h4]
    rw [List.getElem?_take_of_lt (by rw [← sgcs_len]; exact hj')] at e1
    simp only [World.cell?, hb, Nat.zero_add]
    simp only [Option.isSome_none, Bool.false_eq_true, if_false]
    rw [← Array.getElem?_toList, e1]
    simp [hj']
  have hg : g < w.heap.size := (Array.getElem?_eq_some_iff.1 hb).1
  have hcon := AnyQ.slices_SortFunc Try.sortS 4 Try.isAgg61 Try.sizeOf61 sgc (fun _ => rfl) (fun x v hv => by simp [sgc] at hv; rcases hv with rfl | rfl | rfl | rfl <;> rfl) cf swo 47 #[] g 0 cap xs.toArray w eg
    (fun m os dk _ x y => less_any x y _) hH hg (by simp; omega)
  refine hcon.mono ?_
  rintro e w' ⟨rfl, d', n, os, hp, hs, rfl⟩
  have hd : d' = (sorted xs).toArray := by
    have e := sorted_unique_holds swo total xs.toArray d' hp hs
    rw [← Array.toList_inj]
    exact e
  unfold sortWorldK putRowK
  rw [hd, flat_eq]
  refine ⟨rfl, ⟨by rw [sgcs_len, sorted_length], .inr ⟨g, cap, _, rfl, Nat.zero_le _, heap_put _ hb, h1, h2, by simp [putCells, h3], ?_⟩⟩, grown_put _⟩
  have : xs.length * 4 = (sgcs (sorted xs)).length := by rw [sgcs_len, sorted_length]
  rw [this]
  exact take_put cur _ (by rw [← this, h3]; omega)
theorem sort_any (v : Value) (xs : List Sg) (w : World) (h : w.ownsRow 0 61 4 v xs.length (sgcs xs)) (hl : xs.length ≤ 100000) :
    Calls Try.prog 46 #[v, .func (.func 47) #[] #[]] w fun e w' => e = .returned (.tuple #[]) ∧ w'.ownsRow 0 61 4 v xs.length (sgcs (sorted xs)) ∧ w.grownBy w' v.ownBlock := by
  have hown := h
  rcases h.2 with ⟨rfl, h0⟩ | ⟨g, cap, cur, rfl, _⟩
  · have hx : xs = [] := List.length_eq_zero_iff.1 h0
    subst hx
    refine (AnyF.slices_SortFunc_none Try.sortS none 0 _ w).mono ?_
    rintro e w' ⟨rfl, rfl⟩
    have e : sorted [] = [] := by unfold sorted; simp
    rw [e]
    exact ⟨rfl, hown, ⟨rfl, rfl, rfl, Nat.le_refl _, fun _ _ _ => rfl⟩⟩
  · haveI : Inhabited Sg := ⟨Sg.none⟩
    exact sort_row g cap xs w hown hl
end Go.Proofs.Ytllhfbnafemoeaa.EpA
