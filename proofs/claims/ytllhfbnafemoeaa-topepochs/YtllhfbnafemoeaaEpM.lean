/-
  Sights and their order.
-/
import Derived.Lib.Bytealg
import Derived.Lib.Small
import Derived.Sort.Statements
namespace Go.Proofs.Ytllhfbnafemoeaa.EpM
open Go Go.Sort

structure Sg where
  p : Int
  s : Int
  t : Int
  g : ByteArray
def Sg.none : Sg := ⟨0, 0, 0, ⟨#[]⟩⟩

structure Good {α : Type} (c : α → α → Int) : Prop where
  neg : ∀ x y, c y x = - c x y
  tr : ∀ x y z, c x y ≤ 0 → c y z ≤ 0 → c x z ≤ 0
def lex {α : Type} (c d : α → α → Int) (x y : α) : Int := if c x y ≠ 0 then c x y else d x y
theorem Good.zero {α : Type} {c : α → α → Int} (h : Good c) {x y z : α} (h1 : c x y ≤ 0) (h2 : c y z ≤ 0) (h3 : c x z = 0) : c x y = 0 ∧ c y z = 0 := by
  have e1 := h.neg x z
  have e2 := h.neg x y
  have e3 := h.neg y z
  have a := h.tr z x y (by omega) h1
  have b := h.tr y z x h2 (by omega)
  constructor <;> omega
theorem Good.lex {α : Type} {c d : α → α → Int} (h : Good c) (k : Good d) : Good (lex c d) where
  neg := fun x y => by
    have e1 := h.neg x y
    have e2 := k.neg x y
    unfold EpM.lex
    split <;> split <;> omega
  tr := fun x y z h1 h2 => by
    unfold EpM.lex at *
    have a : c x y ≤ 0 := by split at h1 <;> omega
    have b : c y z ≤ 0 := by split at h2 <;> omega
    have e := h.tr x y z a b
    by_cases hz : c x z = 0
    · obtain ⟨p, q⟩ := h.zero a b hz
      simp [hz, p, q] at *
      exact k.tr x y z h1 h2
    · simp [hz]; exact e
theorem Good.on {α β : Type} {c : β → β → Int} (h : Good c) (f : α → β) : Good (fun x y => c (f x) (f y)) := ⟨fun _ _ => h.neg _ _, fun _ _ _ => h.tr _ _ _⟩
theorem good_int : Good Lib.compareInt where
  neg := fun x y => by unfold Lib.compareInt; repeat' split; all_goals omega
  tr := fun x y z h1 h2 => by
    unfold Lib.compareInt at *
    have a : ¬ x > y := fun h => by have : ¬ x < y := by omega
                                    simp [this, h] at h1
    have b : ¬ y > z := fun h => by have : ¬ y < z := by omega
                                    simp [this, h] at h2
    repeat' split
    all_goals omega
theorem bytes_neg : ∀ x y : List UInt8, Lib.compareBytes y x = - Lib.compareBytes x y
  | [], [] => rfl
  | [], _ :: _ => rfl
  | _ :: _, [] => rfl
  | a :: x, b :: y => by
    unfold Lib.compareBytes
    have h := bytes_neg x y
    by_cases h1 : a < b
    · have h2 : ¬ b < a := UInt8.lt_asymm h1
      simp [h1, h2]
    · by_cases h2 : b < a
      · simp [h1, h2]
      · simp [h1, h2, h]
theorem bytes_le : ∀ {x y : List UInt8}, Lib.compareBytes x y ≤ 0 → x ≤ y
  | [], _, _ => List.nil_le _
  | _ :: _, [], h => by unfold Lib.compareBytes at h; omega
  | a :: x, b :: y, h => by
    unfold Lib.compareBytes at h
    rw [List.cons_le_cons_iff]
    by_cases h1 : a < b
    · exact Or.inl h1
    · by_cases h2 : b < a
      · simp [h1, h2] at h
      · simp [h1, h2] at h
        have : a = b := UInt8.le_antisymm (UInt8.not_lt.1 h2) (UInt8.not_lt.1 h1)
        exact Or.inr ⟨this, bytes_le h⟩
theorem le_bytes : ∀ {x y : List UInt8}, x ≤ y → Lib.compareBytes x y ≤ 0
  | [], [], _ => by unfold Lib.compareBytes; omega
  | [], _ :: _, _ => by unfold Lib.compareBytes; omega
  | _ :: _, [], h => by simp at h
  | a :: x, b :: y, h => by
    unfold Lib.compareBytes
    rw [List.cons_le_cons_iff] at h
    rcases h with h | ⟨rfl, h⟩
    · simp [h]
    · have h1 : ¬ a < a := UInt8.lt_irrefl a
      simp [h1]
      exact le_bytes h
theorem good_bytes : Good Lib.compareBytes where
  neg := bytes_neg
  tr := fun _ _ _ h1 h2 => le_bytes (List.le_trans (bytes_le h1) (bytes_le h2))
theorem bytes_zero {x y : List UInt8} (h : Lib.compareBytes x y = 0) : x = y :=
  List.le_antisymm (bytes_le (by omega)) (bytes_le (by rw [bytes_neg]; omega))
theorem int_zero {x y : Int} (h : Lib.compareInt x y = 0) : x = y := by
  unfold Lib.compareInt at h
  split at h
  · omega
  · split at h <;> omega

def cf : Sg → Sg → Int :=
  lex (fun x y => Lib.compareBytes x.g.data.toList y.g.data.toList) (lex (fun x y => Lib.compareInt x.t y.t) (lex (fun x y => Lib.compareInt x.p y.p) (fun x y => Lib.compareInt x.s y.s)))
theorem good_cf : Good cf :=
  Good.lex (good_bytes.on fun x : Sg => x.g.data.toList) (Good.lex (good_int.on fun x : Sg => x.t) (Good.lex (good_int.on fun x : Sg => x.p) (good_int.on fun x : Sg => x.s)))
def lt (x y : Sg) : Bool := decide (cf x y < 0)
theorem lt_neg {x y : Sg} : lt x y = false ↔ cf y x ≤ 0 := by
  unfold lt
  have := good_cf.neg x y
  simp only [decide_eq_false_iff_not]
  omega
theorem swo : SWO lt where
  irrefl := fun x => by
    rw [lt_neg]
    have := good_cf.neg x x
    omega
  trans := fun x y z h1 h2 => by
    unfold lt at *
    simp only [decide_eq_true_eq] at *
    have a := good_cf.tr x y z (by omega) (by omega)
    rcases Int.lt_or_eq_of_le a with h | h
    · exact h
    · have := good_cf.zero (x := x) (y := y) (z := z) (by omega) (by omega) h
      omega
  ntrans := fun x y z h1 h2 => by
    rw [lt_neg] at *
    exact good_cf.tr z y x h2 h1
theorem lex_zero {α : Type} {c d : α → α → Int} {x y : α} (h : lex c d x y = 0) : c x y = 0 ∧ d x y = 0 := by
  unfold lex at h
  split at h
  · omega
  · constructor <;> omega
theorem cf_zero {x y : Sg} (h : cf x y = 0) : x = y := by
  obtain ⟨h1, h⟩ := lex_zero h
  obtain ⟨h2, h⟩ := lex_zero h
  obtain ⟨h3, h4⟩ := lex_zero h
  cases x; cases y
  have e1 := bytes_zero h1
  have e2 := int_zero h2
  have e3 := int_zero h3
  have e4 := int_zero h4
  simp only at e1 e2 e3 e4
  subst e2 e3 e4
  congr 1
  exact ByteArray.ext (Array.toList_inj.1 e1)
theorem total (x y : Sg) (h1 : lt x y = false) (h2 : lt y x = false) : x = y := by
  rw [lt_neg] at *
  have := good_cf.neg x y
  exact cf_zero (by omega)

/-- The order of sights. -/
def le (x y : Sg) : Bool := !lt y x
def sorted (l : List Sg) : List Sg := l.mergeSort le
theorem le_trans (x y z : Sg) (h1 : le x y = true) (h2 : le y z = true) : le x z = true := by
  unfold le at *
  simp only [Bool.not_eq_true'] at *
  exact swo.ntrans _ _ _ h2 h1
theorem le_total (x y : Sg) : (le x y || le y x) = true := by
  unfold le
  cases h : lt x y with
  | false => simp
  | true =>
    cases h2 : lt y x with
    | false => simp
    | true =>
      have := swo.trans x y x h h2
      rw [swo.irrefl] at this
      cases this
theorem le_anti (x y : Sg) (h1 : le x y = true) (h2 : le y x = true) : x = y := by
  unfold le at *
  simp only [Bool.not_eq_true'] at *
  exact total x y h2 h1
theorem sorted_of {l m : List Sg} (hp : m.Perm l) (hs : m.Pairwise fun x y => le x y = true) : m = sorted l := by
  refine List.Perm.eq_of_pairwise (le := fun x y => le x y = true) (fun x y _ _ => le_anti x y) hs ?_ (hp.trans (List.mergeSort_perm l le).symm)
  exact List.pairwise_mergeSort le_trans le_total l
theorem sorted_perm {l m : List Sg} (h : l.Perm m) : sorted l = sorted m :=
  sorted_of ((List.mergeSort_perm l le).trans h) (List.pairwise_mergeSort le_trans le_total l)
theorem sorted_length (l : List Sg) : (sorted l).length = l.length := List.length_mergeSort l
theorem sorted_mem {l : List Sg} {x : Sg} : x ∈ sorted l ↔ x ∈ l := List.mem_mergeSort

theorem ins_step (l : List Sg) (x : Sg) (k : Nat) (h1 : ∀ y ∈ (sorted l).drop k, lt x y = true) (h2 : k = 0 ∨ ∃ y, (sorted l)[k - 1]? = some y ∧ lt x y = false) :
    (sorted l).take k ++ x :: (sorted l).drop k = sorted (l ++ [x]) := by
  have hs : (sorted l).Pairwise fun x y => le x y = true := List.pairwise_mergeSort le_trans le_total l
  refine sorted_of ?_ ?_
  · refine (List.perm_middle (a := x)).trans ?_
    rw [List.take_append_drop]
    exact ((List.mergeSort_perm l le).cons x).trans (List.perm_append_singleton x l).symm
  · rw [List.pairwise_append]
    have hd : ∀ y ∈ (sorted l).drop k, le x y = true := fun y hy => by
      have a := h1 y hy
      unfold le
      rw [Bool.not_eq_true']
      cases hb : lt y x with
      | false => rfl
      | true =>
        have := swo.trans x y x a hb
        rw [swo.irrefl] at this
        cases this
    refine ⟨hs.sublist (List.take_sublist _ _), List.pairwise_cons.2 ⟨hd, hs.sublist (List.drop_sublist _ _)⟩, ?_⟩
    intro a ha b hb
    have hax : le a x = true := by
      rcases h2 with rfl | ⟨y, hy, hl⟩
      · simp at ha
      · have hyx : le y x = true := by unfold le; rw [hl]; rfl
        obtain ⟨i, hi, hia⟩ := List.getElem_of_mem ha
        rw [List.length_take] at hi
        rw [List.getElem_take] at hia
        obtain ⟨hk1, hky⟩ := List.getElem?_eq_some_iff.1 hy
        rcases Nat.lt_or_ge i (k - 1) with hlt | hge
        · have := List.pairwise_iff_getElem.1 hs i (k - 1) (by omega) hk1 hlt
          rw [hia, hky] at this
          exact le_trans _ _ _ this hyx
        · have : i = k - 1 := by omega
          subst this
          rw [← hia, hky]
          exact hyx
    rcases List.mem_cons.1 hb with rfl | hb
    · exact hax
    · exact le_trans _ _ _ hax (hd b hb)

/-- How many epochs are closed. -/
def closedN (size late now : Nat) : Nat := (now - late) / size
theorem closedN_lt {size late now k : Nat} (hs : 0 < size) : k < closedN size late now ↔ (k + 1) * size + late ≤ now := by
  unfold closedN
  rw [← Nat.succ_le_iff, Nat.le_div_iff_mul_le hs]
  have : 1 * size ≤ (k + 1) * size := Nat.mul_le_mul_right _ (by omega)
  show (k + 1) * size ≤ now - late ↔ _
  omega
theorem closedN_le {size late now : Nat} : closedN size late now ≤ now := by
  unfold closedN
  exact Nat.le_trans (Nat.div_le_self _ _) (Nat.sub_le _ _)
theorem closedN_mono {size late now now' : Nat} (h : now ≤ now') : closedN size late now ≤ closedN size late now' := by
  unfold closedN
  exact Nat.div_le_div_right (by omega)
/-- May a sight be seen, up to now? -/
def okS (now : Nat) (x : Sg) : Bool := decide (0 ≤ x.p) && decide (x.p ≤ 7) && (decide (0 ≤ x.s) && decide (x.s ≤ 255)) && (decide (0 ≤ x.t) && decide (x.t ≤ now)) && decide (x.g.size = 8)
structure Okay (now : Nat) (x : Sg) : Prop where
  p0 : 0 ≤ x.p
  p1 : x.p ≤ 7
  s0 : 0 ≤ x.s
  s1 : x.s ≤ 255
  t0 : 0 ≤ x.t
  t1 : x.t ≤ now
  g : x.g.size = 8
theorem okS_iff {now : Nat} {x : Sg} : okS now x = true ↔ Okay now x := by
  unfold okS
  simp only [Bool.and_eq_true, decide_eq_true_eq]
  constructor
  · rintro ⟨⟨⟨⟨a, b⟩, c, d⟩, e, f⟩, g⟩; exact ⟨a, b, c, d, e, f, g⟩
  · rintro ⟨a, b, c, d, e, f, g⟩; exact ⟨⟨⟨⟨a, b⟩, c, d⟩, e, f⟩, g⟩
/-- A sight's epoch. -/
def epo (size : Nat) (x : Sg) : Nat := x.t.toNat / size
/-- What is wrong with adding a sight. -/
def addF (size late now : Nat) (x : Sg) : Nat := if okS now x then (if epo size x < closedN size late now then 6 else 0) else 1
/-- The sights of an epoch, as they came. -/
def grp (size : Nat) (all : List Sg) (k : Nat) : List Sg := all.filter fun x => decide (epo size x = k)
theorem grp_snoc_same {size : Nat} (all : List Sg) (x : Sg) : grp size (all ++ [x]) (epo size x) = grp size all (epo size x) ++ [x] := by
  unfold grp
  rw [List.filter_append]
  simp
theorem grp_snoc_other {size : Nat} (all : List Sg) (x : Sg) {k : Nat} (h : k ≠ epo size x) : grp size (all ++ [x]) k = grp size all k := by
  unfold grp
  rw [List.filter_append]
  have : ¬ epo size x = k := fun e => h e.symm
  simp [this]
theorem grp_length (size : Nat) (all : List Sg) (k : Nat) : (grp size all k).length ≤ all.length := List.length_filter_le _ _
theorem grp_perm {size : Nat} {l m : List Sg} (h : l.Perm m) (k : Nat) : (grp size l k).Perm (grp size m k) := h.filter _
/-- The epochs from a on, before b, with their sights in order. -/
def tells (size : Nat) (all : List Sg) (a b : Nat) : List (Nat × List Sg) := (List.range' a (b - a)).map fun k => (k, sorted (grp size all k))
theorem tells_snoc {size : Nat} (all : List Sg) {a b : Nat} (h : a ≤ b) : tells size all a (b + 1) = tells size all a b ++ [(b, sorted (grp size all b))] := by
  unfold tells
  rw [show b + 1 - a = (b - a) + 1 by omega, List.range'_concat, List.map_append, show a + 1 * (b - a) = b by omega]
  rfl
theorem tells_nil {size : Nat} (all : List Sg) {a b : Nat} (h : b ≤ a) : tells size all a b = [] := by
  unfold tells
  rw [show b - a = 0 by omega]
  rfl
theorem tells_perm {size : Nat} {l m : List Sg} (h : l.Perm m) (a b : Nat) : tells size l a b = tells size m a b := by
  unfold tells
  refine List.map_congr_left fun k _ => ?_
  rw [sorted_perm (grp_perm h k)]
end Go.Proofs.Ytllhfbnafemoeaa.EpM
