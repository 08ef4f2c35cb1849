/-
  A watch, as mathematics: what was told, tags, alerts. · A watch in memory. · Contracts of the library at this program: each one application of a theorem of the kit.
-/
import Derived.Test.YtmolafjalaeoaaaGreatDoorPaq
import Derived.Test.YtmolafjalaeoaaaGreatDoorPap
import Derived.Test.YtmolafjalaeoaaaGreatDoorPan
import Derived.Test.YtmolafjalaeoaaaGreatDoorPac
import Derived.Test.YtmolafjalaeoaaaGreatDoorPah
import Derived.Shelf.Small.Bits
import Derived.Shelf.Small.Strs
import Derived.Shelf.Small.Wraps
import Derived.Shelf.Strconv.Itoa0
import Derived.Shelf.LaysM
import Derived.Shelf.Strconv.Clone
import Derived.Shelf.SlGeneric
import Derived.Ground.SlsfProg
import Derived.Shelf.SlSortCmp.WholeK
import Derived.Test.YtmolafjalaeoaaaGreatDoorPaf
namespace Go.Proofs.YtmolafjalaeoaaaGreatDoor.WaM
open TkM (Sg seenG epOf whr)
open RuM (Rl)
set_option maxRecDepth 100000
/-- The epochs below k, each with its sights in order. -/
def Ep (c : Cf) (s : St) (k : Nat) : List (List Sg) := (List.range k).map (fun j => EpM.sorted (EpM.grp c.len s.all j))
theorem Ep_len (c : Cf) (s : St) (k : Nat) : (Ep c s k).length = k := by simp [Ep]
theorem Ep_snoc (c : Cf) (s : St) (k : Nat) : Ep c s (k + 1) = Ep c s k ++ [EpM.sorted (EpM.grp c.len s.all k)] := by
  unfold Ep
  rw [List.range_succ, List.map_append]
  rfl
theorem epOf_Ep (c : Cf) (s : St) (k j : Nat) : epOf (Ep c s k) j = if j < k then EpM.sorted (EpM.grp c.len s.all j) else [] := by
  unfold epOf Ep
  by_cases h : j < k
  · rw [if_pos h, List.getD_eq_getElem?_getD, List.getElem?_map, List.getElem?_range h]
    rfl
  · rw [if_neg h, List.getD_eq_getElem?_getD, List.getElem?_eq_none (by simp; omega)]
    rfl
/-- Sights that are added to open epochs leave closed ones as they are. -/
theorem Ep_snocSight (c : Cf) (s : St) (x : Sg) (k : Nat) (h : k ≤ EpM.epo c.len x) : Ep c { s with all := s.all ++ [x] } k = Ep c s k := by
  unfold Ep
  refine List.map_congr_left fun j hj => ?_
  have : j < k := List.mem_range.1 hj
  simp only
  rw [EpM.grp_snoc_other _ _ (by omega)]
theorem cnt_split (n : Nat) (k : Nat) : ∀ l : List Sg, (l.filter (fun x => decide (EpM.epo n x < k + 1))).length = (l.filter (fun x => decide (EpM.epo n x < k))).length + (l.filter (fun x => decide (EpM.epo n x = k))).length
  | [] => rfl
  | x :: l => by
    have ih := cnt_split n k l
    rcases Nat.lt_trichotomy (EpM.epo n x) k with h | h | h
    · have h1 : EpM.epo n x < k + 1 := by omega
      have h2 : ¬ EpM.epo n x = k := by omega
      simp [h, h1, h2, ih]
      omega
    · have h1 : EpM.epo n x < k + 1 := by omega
      have h2 : ¬ EpM.epo n x < k := by omega
      simp [h, ih]
      omega
    · have h1 : ¬ EpM.epo n x < k + 1 := by omega
      have h2 : ¬ EpM.epo n x = k := by omega
      have h3 : ¬ EpM.epo n x < k := by omega
      simp [h1, h2, h3, ih]
theorem Ep_flatten (c : Cf) (s : St) (k : Nat) : (Ep c s k).flatten.length = (s.all.filter (fun x => decide (EpM.epo c.len x < k))).length := by
  induction k with
  | zero =>
    have e : s.all.filter (fun x => decide (EpM.epo c.len x < 0)) = [] := List.filter_eq_nil_iff.2 (fun x _ => by simp)
    rw [e]
    rfl
  | succ k ih =>
    rw [Ep_snoc, List.flatten_append, List.length_append, ih, cnt_split]
    simp [EpM.sorted_length, EpM.grp]
theorem Ep_flat (c : Cf) (s : St) (k : Nat) : (Ep c s k).flatten.length ≤ s.all.length := by
  rw [Ep_flatten]
  exact List.length_filter_le _ _
def leT (a b : ByteArray) : Bool := decide (Lib.compareBytes a.data.toList b.data.toList ≤ 0)
theorem leT_trans (a b c : ByteArray) (h1 : leT a b = true) (h2 : leT b c = true) : leT a c = true := by
  unfold leT at *
  simp only [decide_eq_true_eq] at *
  exact EpM.good_bytes.tr _ _ _ h1 h2
theorem leT_total (a b : ByteArray) : (leT a b || leT b a) = true := by
  unfold leT
  have := EpM.good_bytes.neg a.data.toList b.data.toList
  simp only [Bool.or_eq_true, decide_eq_true_eq]
  omega
theorem leT_lt {a b : ByteArray} (h : leT a b = true) (hn : a ≠ b) : a.toList < b.toList := by
  unfold leT at h
  simp only [decide_eq_true_eq] at h
  have h1 := EpM.bytes_le h
  rw [ByteArray.toList_eq, ByteArray.toList_eq]
  refine InM.lt_tri (fun h2 => ?_) (fun e => hn (ByteArray.ext (Array.toList_inj.1 e.symm)))
  have h3 := List.le_of_lt h2
  have := List.le_antisymm h1 h3
  exact hn (ByteArray.ext (Array.toList_inj.1 this))
def tagsL (E : List (List Sg)) : List ByteArray := (kn E.flatten).mergeSort leT
theorem told_flat {E : List (List Sg)} {g : ByteArray} : g ∈ kn E.flatten ↔ TkM.told g E = true := by
  rw [kn_mem]
  unfold TkM.told
  simp only [List.any_eq_true, TkM.seen_iff, List.mem_flatten]
  constructor
  · rintro ⟨x, ⟨l, h1, h2⟩, h3⟩
    exact ⟨l, h1, x, h2, h3⟩
  · rintro ⟨l, h1, x, h2, h3⟩
    exact ⟨x, ⟨l, h1, h2⟩, h3⟩
theorem tagsL_mem {E : List (List Sg)} {g : ByteArray} : g ∈ tagsL E ↔ TkM.told g E = true := by
  unfold tagsL
  rw [List.mem_mergeSort, told_flat]
theorem tagsL_srt (E : List (List Sg)) : (tagsL E).Pairwise (fun a b => a.toList < b.toList) := by
  have h1 : (tagsL E).Pairwise (fun a b => leT a b = true) := List.pairwise_mergeSort leT_trans leT_total _
  have h2 : (tagsL E).Nodup := (List.mergeSort_perm _ _).nodup_iff.2 (kn_nodup _)
  exact List.Pairwise.imp₂ (fun a b h h' => leT_lt h h') h1 h2
theorem srt_nodup {L : List ByteArray} (h : L.Pairwise (fun a b => a.toList < b.toList)) : L.Nodup :=
  List.Pairwise.imp (fun hab e => by rw [e] at hab; exact List.lt_irrefl _ hab) h
theorem srt_uniq {L L' : List ByteArray} (h : L.Pairwise (fun a b => a.toList < b.toList)) (h' : L'.Pairwise (fun a b => a.toList < b.toList)) (hm : ∀ g, g ∈ L ↔ g ∈ L') : L = L' := by
  refine List.Perm.eq_of_pairwise (le := fun a b : ByteArray => a.toList < b.toList) (fun a b _ _ h1 h2 => ?_) h h' ?_
  · exact absurd (List.lt_trans h1 h2) (List.lt_irrefl _)
  · exact (List.perm_ext_iff_of_nodup (srt_nodup h) (srt_nodup h')).2 hm
theorem tagsL_is {E : List (List Sg)} {L : List ByteArray} (h : L.Pairwise (fun a b => a.toList < b.toList)) (hm : ∀ g, g ∈ L ↔ TkM.told g E = true) : L = tagsL E :=
  srt_uniq h (tagsL_srt E) (fun g => by rw [hm, tagsL_mem])
/-- Where a rule holds of a tag that was told. -/
def hb (g : ByteArray) (ep : Nat → List Sg) (W need : Nat) (r : Rl) (e : Nat) : Bool :=
  HlA.ofK g r.k && HlA.cm g ep W need (e + 1) true r.t (e : Int) && (List.range e).any (fun y => decide ((e : Int) - r.wi ≤ (y : Int)) && HlA.cm g ep W need (e + 1) true r.f (y : Int) && (List.range e).all (fun x => !decide (y < x) || !HlA.ws g ep W need (e + 1) true r.wo (x : Int)))
theorem hb_iff {g : ByteArray} {ep : Nat → List Sg} {W need : Nat} {r : Rl} {e : Nat} (ho : r.ok) : hb g ep W need r e = true ↔ HlA.HoldsP g ep W need (e + 1) true r (e : Int) := by
  unfold hb HlA.HoldsP RuN.Back
  simp only [Bool.and_eq_true, List.any_eq_true, List.mem_range, decide_eq_true_eq, List.all_eq_true, Bool.or_eq_true, Bool.not_eq_true', decide_eq_false_iff_not]
  constructor
  · rintro ⟨⟨h1, h2⟩, y, hy, ⟨h3, h4⟩, h5⟩
    refine ⟨ho, h1, h2, (y : Int), by omega, by omega, h4, fun x hx1 hx2 => ?_⟩
    obtain ⟨z, rfl⟩ : ∃ z : Nat, x = (z : Int) := ⟨x.toNat, by omega⟩
    rcases h5 z (by omega) with h | h
    · omega
    · exact h
  · rintro ⟨_, h1, h2, y, hy1, hy2, h3, h4⟩
    obtain ⟨z, rfl⟩ : ∃ z : Nat, y = (z : Int) := ⟨y.toNat, by omega⟩
    refine ⟨⟨h1, h2⟩, z, by omega, ⟨by omega, h3⟩, fun x hx => ?_⟩
    by_cases hzx : z < x
    · exact Or.inr (h4 (x : Int) (by omega) (by omega))
    · exact Or.inl hzx
structure Al where
  rule : Nat
  ep : Nat
  g : ByteArray
/-- The alerts of a rule in an epoch, and those of all rules. -/
def alR (W need : Nat) (ep : Nat → List Sg) (L : List ByteArray) (e : Nat) (r : Rl) (i : Nat) : List Al := (L.filter (fun g => hb g ep W need r e)).map (fun g => ⟨i, e, g⟩)
def alsFrom (W need : Nat) (ep : Nat → List Sg) (L : List ByteArray) (e : Nat) : List Rl → Nat → List Al
  | [], _ => []
  | r :: rs, i => alR W need ep L e r i ++ alsFrom W need ep L e rs (i + 1)
def als (W need : Nat) (ep : Nat → List Sg) (L : List ByteArray) (e : Nat) (rs : List Rl) : List Al := alsFrom W need ep L e rs 0
theorem alsFrom_snoc (W need : Nat) (ep : Nat → List Sg) (L : List ByteArray) (e : Nat) (r : Rl) : ∀ (rs : List Rl) (i : Nat), alsFrom W need ep L e (rs ++ [r]) i = alsFrom W need ep L e rs i ++ alR W need ep L e r (i + rs.length)
  | [], i => by simp [alsFrom]
  | x :: rs, i => by
    show alR W need ep L e x i ++ alsFrom W need ep L e (rs ++ [r]) (i + 1) = _
    rw [alsFrom_snoc W need ep L e r rs (i + 1)]
    simp only [alsFrom, List.append_assoc, List.length_cons]
    congr 3
    omega
theorem als_snoc (W need : Nat) (ep : Nat → List Sg) (L : List ByteArray) (e : Nat) (r : Rl) (rs : List Rl) : als W need ep L e (rs ++ [r]) = als W need ep L e rs ++ alR W need ep L e r rs.length := by
  unfold als
  rw [alsFrom_snoc, Nat.zero_add]
theorem alR_snoc (W need : Nat) (ep : Nat → List Sg) (L : List ByteArray) (g : ByteArray) (e : Nat) (r : Rl) (i : Nat) : alR W need ep (L ++ [g]) e r i = alR W need ep L e r i ++ (if hb g ep W need r e = true then [⟨i, e, g⟩] else []) := by
  unfold alR
  rw [List.filter_append, List.map_append]
  congr 1
  by_cases h : hb g ep W need r e = true
  · simp [h]
  · simp [h]
def alE (c : Cf) (rs : List Rl) (s : St) (e : Nat) : List Al := als c.W c.need (epOf (Ep c s (e + 1))) (tagsL (Ep c s (e + 1))) e rs
/-- All alerts of the epochs below k. -/
def alerts (c : Cf) (rs : List Rl) (s : St) (k : Nat) : List Al := (List.range k).flatMap (alE c rs s)
theorem alerts_snoc (c : Cf) (rs : List Rl) (s : St) (k : Nat) : alerts c rs s (k + 1) = alerts c rs s k ++ alE c rs s k := by
  unfold alerts
  rw [List.range_succ, List.flatMap_append, List.flatMap_singleton]
theorem alerts_zero (c : Cf) (rs : List Rl) (s : St) : alerts c rs s 0 = [] := rfl
theorem alerts_congr (c : Cf) (rs : List Rl) (s s' : St) (k : Nat) (h : ∀ j, j ≤ k → Ep c s j = Ep c s' j) : alerts c rs s k = alerts c rs s' k := by
  induction k with
  | zero => rw [alerts_zero, alerts_zero]
  | succ k ih =>
    have e : alE c rs s k = alE c rs s' k := by unfold alE; rw [h (k + 1) (Nat.le_refl _)]
    rw [alerts_snoc c rs s k, alerts_snoc c rs s' k, ih (fun j hj => h j (Nat.le_succ_of_le hj)), e]
theorem alR_len (W need : Nat) (ep : Nat → List Sg) (L : List ByteArray) (e : Nat) (r : Rl) (i : Nat) : (alR W need ep L e r i).length ≤ L.length := by
  unfold alR
  rw [List.length_map]
  exact List.length_filter_le _ _
theorem alsFrom_len (W need : Nat) (ep : Nat → List Sg) (L : List ByteArray) (e : Nat) : ∀ (rs : List Rl) (i : Nat), (alsFrom W need ep L e rs i).length ≤ rs.length * L.length
  | [], _ => by simp [alsFrom]
  | r :: rs, i => by
    have h1 := alR_len W need ep L e r i
    have h2 := alsFrom_len W need ep L e rs (i + 1)
    simp only [alsFrom, List.length_append, List.length_cons, Nat.add_mul, Nat.one_mul]
    omega
theorem tags_sub {c : Cf} {s : St} {k : Nat} {g : ByteArray} (h : g ∈ tagsL (Ep c s k)) : g ∈ kn s.all := by
  rw [tagsL_mem] at h
  unfold TkM.told at h
  simp only [List.any_eq_true, TkM.seen_iff] at h
  obtain ⟨l, h1, x, h2, h3⟩ := h
  rw [kn_mem]
  unfold Ep at h1
  obtain ⟨j, _, rfl⟩ := List.mem_map.1 h1
  rw [EpM.sorted_mem] at h2
  exact ⟨x, (List.mem_filter.1 h2).1, h3⟩
theorem tags_len (c : Cf) (s : St) (k : Nat) : (tagsL (Ep c s k)).length ≤ (kn s.all).length :=
  (srt_nodup (tagsL_srt _)).length_le_of_subset (fun _ h => tags_sub h)
theorem alerts_len (c : Cf) (rs : List Rl) (s : St) (k m : Nat) (hm : (kn s.all).length ≤ m) : (alerts c rs s k).length ≤ k * (rs.length * m) := by
  induction k with
  | zero => simp [alerts]
  | succ k ih =>
    rw [alerts_snoc, List.length_append, Nat.add_mul, Nat.one_mul]
    have h1 : (alE c rs s k).length ≤ rs.length * (tagsL (Ep c s (k + 1))).length := alsFrom_len _ _ _ _ _ _ _
    have h2 : rs.length * (tagsL (Ep c s (k + 1))).length ≤ rs.length * m := Nat.mul_le_mul_left _ (Nat.le_trans (tags_len c s (k + 1)) hm)
    omega
end Go.Proofs.YtmolafjalaeoaaaGreatDoor.WaM
namespace Go.Proofs.YtmolafjalaeoaaaGreatDoor.WaW
open Go.RowKit TkW WaM Go.Maps
open TkM (Sg epOf)
open RuM (Rl)
set_option maxRecDepth 100000
/-- What hangs on a watch. -/
structure Pt where
  kb : Nat
  db : Nat
  tb : Nat
  xb : Nat
  rv : Value
  av : Value
/-- The cells of a watch. -/
def cv (c : Cf) (s : St) (p : Pt) (i : Nat) : Value :=
  if i < 28 then
    (if i % 7 = 0 then .string (FrmA.str (s.rest (i / 7))) else if i % 7 = 1 then .int .i64 (s.lost (i / 7) : Int) else if i % 7 = 6 then .int .i64 (s.warm (i / 7)) else .int .i64 (c.pl (i / 7) (i % 7 - 2)))
  else match i - 28 with
    | 0 => .map (some p.kb)
    | 1 => .pointer (some ⟨p.db, 0, none⟩)
    | 2 => .pointer (some ⟨p.tb, 0, none⟩)
    | 3 => .pointer (some ⟨p.xb, 0, none⟩)
    | 4 => p.rv
    | 5 => p.av
    | 6 => .int .i64 0
    | 7 => .int .i64 (s.bad : Int)
    | 8 => .int .i64 (s.nowh : Int)
    | 9 => .int .i64 (s.late : Int)
    | _ => .int .i64 (s.full : Int)
def wcs (c : Cf) (s : St) (p : Pt) : Array Value := ((List.range 39).map (cv c s p)).toArray
theorem wcs_size (c : Cf) (s : St) (p : Pt) : (wcs c s p).size = 39 := by simp [wcs]
theorem wcs_at (c : Cf) (s : St) (p : Pt) {i : Nat} (h : i < 39) : (wcs c s p)[i]? = some (cv c s p i) := by
  unfold wcs
  rw [List.getElem?_toArray, List.getElem?_map, List.getElem?_range h]
  rfl
theorem wcs_set {c : Cf} {s s' : St} {p p' : Pt} {i : Nat} {v : Value} (h : ∀ j, j < 39 → cv c s' p' j = if j = i then v else cv c s p j) : (wcs c s p).setIfInBounds i v = wcs c s' p' := by
  apply Array.ext_getElem?
  intro j
  rw [Array.getElem?_setIfInBounds, wcs_size]
  by_cases hj : j < 39
  · rw [wcs_at c s' p' hj, h j hj, wcs_at c s p hj]
    by_cases hi : i = j
    · subst hi
      simp [hj]
    · have hi' : ¬ j = i := fun e => hi e.symm
      simp [hi, hi']
  · have e1 : (wcs c s' p')[j]? = none := Array.getElem?_eq_none (by rw [wcs_size]; omega)
    have e2 : (wcs c s p)[j]? = none := Array.getElem?_eq_none (by rw [wcs_size]; omega)
    rw [e1, e2]
    by_cases hi : i = j
    · subst hi; simp [hj]
    · simp [hi]
def rcl (r : Rl) : List Value := [.string r.nm, .int .i64 r.k, .int .i64 r.f, .int .i64 r.t, .int .i64 r.wo, .int .i64 r.wi]
def rcs (rs : List Rl) : List Value := rs.flatMap rcl
def acl (a : Al) : List Value := [.int .i64 (a.rule : Int), .int .i64 (a.ep : Int), .string a.g]
def acs (l : List Al) : List Value := l.flatMap acl
theorem rcs_len : ∀ rs : List Rl, (rcs rs).length = rs.length * 6
  | [] => rfl
  | r :: rs => by
    have : (rcs (r :: rs)).length = (rcl r).length + (rcs rs).length := by simp [rcs]
    rw [this, rcs_len rs, List.length_cons]
    show 6 + _ = _
    omega
theorem acs_len : ∀ l : List Al, (acs l).length = l.length * 3
  | [] => rfl
  | a :: l => by
    have : (acs (a :: l)).length = (acl a).length + (acs l).length := by simp [acs]
    rw [this, acs_len l, List.length_cons]
    show 3 + _ = _
    omega
theorem acs_snoc (l : List Al) (a : Al) : acs (l ++ [a]) = acs l ++ [.int .i64 (a.rule : Int), .int .i64 (a.ep : Int), .string a.g] := by simp [acs, acl]
theorem acs_one (l : List Al) : ∀ u ∈ acs l, u.oneCell' = true := fun u hu => by
  obtain ⟨a, _, ha⟩ := List.mem_flatMap.1 hu
  simp [acl] at ha
  rcases ha with rfl | rfl | rfl <;> rfl
theorem rcs_one (l : List Rl) : ∀ u ∈ rcs l, u.oneCell' = true := fun u hu => by
  obtain ⟨a, _, ha⟩ := List.mem_flatMap.1 hu
  simp [rcl] at ha
  rcases ha with rfl | rfl | rfl | rfl | rfl | rfl <;> rfl
theorem flat_at {α : Type} (f : α → List Value) (n : Nat) (hf : ∀ x, (f x).length = n) : ∀ (l : List α) (k j : Nat) (x : α), l[k]? = some x → j < n → (l.flatMap f)[k * n + j]? = (f x)[j]?
  | y :: l, 0, j, x, hx, hj => by
    simp at hx
    subst hx
    rw [List.flatMap_cons, List.getElem?_append_left (by rw [hf]; omega), Nat.zero_mul, Nat.zero_add]
  | y :: l, k + 1, j, x, hx, hj => by
    rw [List.flatMap_cons, List.getElem?_append_right (by rw [hf, Nat.add_mul]; omega), hf, show (k + 1) * n + j - n = k * n + j by rw [Nat.add_mul]; omega]
    exact flat_at f n hf l k j x (by simpa using hx) hj
  | [], _, _, _, hx, _ => by simp at hx
/-- The set of tags that are known. -/
structure Kn (w : World) (kb : Nat) (L : List ByteArray) : Prop where
  out : ∃ (m : Nat) (D : DataW Value), w.ownsMap Tryz.prog 9 unitElem kb m D ∧ m = L.length ∧ (∀ g : ByteArray, Maps.has D (.string g.data.toList) = hasT L g) ∧ Maps.size D = L.length
structure Wa (w : World) (wb : Nat) (ow : Nat → Nat) (c : Cf) (rs : List Rl) (s : St) (k : Nat) (p : Pt) : Prop where
  blk : w.heap[wb]? = some (.cells (wcs c s p) 116)
  ob : ow wb = 1
  lim : ∀ b, ow b ≠ 0 → b < w.heap.size
  kn : Kn w p.kb (kn s.all)
  ok : ow p.kb = 2
  desk : EpW.DeskAt w p.db (fun b => ow b = 3) c.len c.late s.now s.all (EpM.closedN c.len c.late s.now)
  trk : ∃ who, TrAt w p.tb who c.W c.need k (Ep c s k).flatten.length (epOf (Ep c s k)) ∧ ∀ b, of who b → ow b = 4
  ins : ∃ F f, InA.InAt w p.xb p.tb F c.span c.score k f ∧ InM.Prs InA.knd (epOf (Ep c s k)) c.W c.need c.span c.score f k ∧ ∀ b, F b → ow b = 5
  rul : w.ownsRow 0 32 6 p.rv rs.length (rcs rs)
  orl : ∀ b, p.rv.ownBlock = some b → ow b = 6
  alr : w.ownsRow 0 86 3 p.av (alerts c rs s k).length (acs (alerts c rs s k))
  oal : ∀ b, p.av.ownBlock = some b → ow b = 7
  anil : alerts c rs s k = [] → p.av = .slice none 0 0
  cok : c.Ok
  rok : rs.length ≤ 6 ∧ ∀ r, r ∈ rs → r.ok
  tim : s.now ≤ 1000
  cls : k ≤ EpM.closedN c.len c.late s.now
  few : (WaM.kn s.all).length ≤ 12
  sok : ∀ x, x ∈ s.all → EpM.okS s.now x = true ∧ 0 < InA.knd x.g
  use : s.sum ≤ 6000
/-- A watch, as far as it was told. -/
structure WaK (w : World) (wb : Nat) (ow : Nat → Nat) (c : Cf) (rs : List Rl) (s : St) (k : Nat) : Prop where
  out : ∃ p, Wa w wb ow c rs s k p
/-- A watch. -/
structure WaAt (w : World) (wb : Nat) (ow : Nat → Nat) (c : Cf) (rs : List Rl) (s : St) : Prop where
  out : WaK w wb ow c rs s (s.cl c)
/-- What a watch may change, and what it may take up. -/
structure Wp (w w' : World) (ow ow' : Nat → Nat) : Prop where
  kp : Kp (fun b => ow b ≠ 0) w w'
  new : ∀ b, ow' b ≠ 0 → ow b ≠ 0 ∨ w.heap.size ≤ b
theorem Wp.refl (w : World) (ow : Nat → Nat) : Wp w w ow ow := ⟨Kp.refl _ _, fun _ h => Or.inl h⟩
theorem Wp.trans {a b c : World} {o1 o2 o3 : Nat → Nat} (h : Wp a b o1 o2) (k : Wp b c o2 o3) : Wp a c o1 o3 where
  kp := h.kp.then k.kp (fun i hi h2 => by
    rcases h.new i h2 with h3 | h3
    · exact h3
    · omega)
  new := fun i h3 => by
    rcases k.new i h3 with h2 | h2
    · exact h.new i h2
    · exact Or.inr (Nat.le_trans h.kp.size h2)
theorem Wp.below {a b : World} (h : Below a.heap.size a b) (ow : Nat → Nat) : Wp a b ow ow := ⟨below_kp h _, fun _ h => Or.inl h⟩
section
variable {w w' : World} {wb : Nat} {ow : Nat → Nat} {c : Cf} {rs : List Rl} {s : St} {k : Nat} {p : Pt}
theorem Kn.keep {kb : Nat} {L : List ByteArray} (h : Kn w kb L) (e : w'.heap[kb]? = w.heap[kb]?) : Kn w' kb L := by
  obtain ⟨m, D, h1, h2⟩ := h.out
  exact ⟨m, D, map_keep h1 e, h2⟩
theorem Kn.lt {kb : Nat} {L : List ByteArray} (h : Kn w kb L) : kb < w.heap.size := by
  obtain ⟨m, D, h1, h2⟩ := h.out
  exact h1.lt
/-- Its blocks are as they were. -/
theorem Wa.move (h : Wa w wb ow c rs s k p) (hs : w.heap.size ≤ w'.heap.size) (hk : ∀ b, b < w.heap.size → ow b ≠ 0 → w'.heap[b]? = w.heap[b]?) : Wa w' wb ow c rs s k p where
  blk := by rw [hk wb (h.lim wb (by rw [h.ob]; decide)) (by rw [h.ob]; decide)]; exact h.blk
  ob := h.ob
  lim := fun b hb => Nat.lt_of_lt_of_le (h.lim b hb) hs
  kn := h.kn.keep (hk _ h.kn.lt (by rw [h.ok]; decide))
  ok := h.ok
  desk := h.desk.move (fun b hb h3 => hk b hb (by rw [h3]; decide))
  trk := by
    obtain ⟨who, h1, h2⟩ := h.trk
    exact ⟨who, h1.move hs (fun b hb h4 => hk b hb (by rw [h2 b h4]; decide)), h2⟩
  ins := by
    obtain ⟨F, f, h1, h2, h3⟩ := h.ins
    exact ⟨F, f, h1.move hs (fun b hb h4 => hk b hb (by rw [h3 b h4]; decide)), h2, h3⟩
  rul := own_keep h.rul (fun b hb => hk b (own_lt h.rul hb) (by rw [h.orl b hb]; decide))
  orl := h.orl
  alr := own_keep h.alr (fun b hb => hk b (own_lt h.alr hb) (by rw [h.oal b hb]; decide))
  oal := h.oal
  anil := h.anil
  cok := h.cok
  rok := h.rok
  tim := h.tim
  cls := h.cls
  few := h.few
  sok := h.sok
  use := h.use
theorem WaK.move (h : WaK w wb ow c rs s k) (hs : w.heap.size ≤ w'.heap.size) (hk : ∀ b, b < w.heap.size → ow b ≠ 0 → w'.heap[b]? = w.heap[b]?) : WaK w' wb ow c rs s k := by
  obtain ⟨p, h⟩ := h.out
  exact ⟨p, h.move hs hk⟩
theorem WaK.below (h : WaK w wb ow c rs s k) (hb : Below w.heap.size w w') : WaK w' wb ow c rs s k := h.move hb.size (fun b h1 _ => hb.block b h1)
theorem WaAt.below (h : WaAt w wb ow c rs s) (hb : Below w.heap.size w w') : WaAt w' wb ow c rs s := ⟨h.out.below hb⟩
theorem WaAt.kp {F : Nat → Prop} (h : WaAt w wb ow c rs s) (hb : Kp F w w') (hF : ∀ b, ow b ≠ 0 → ¬ F b) : WaAt w' wb ow c rs s := ⟨h.out.move hb.size (fun b h1 h2 => hb.block b h1 (hF b h2))⟩
theorem Wa.lt (h : Wa w wb ow c rs s k p) : wb < w.heap.size := h.lim wb (by rw [h.ob]; decide)
theorem Wa.cell (h : Wa w wb ow c rs s k p) (i : Nat) (hi : i < 39) : w.cell? ⟨wb, i, none⟩ = some (cv c s p i) := by
  simp only [World.cell?, h.blk, Option.isSome_none, Bool.false_eq_true, if_false]
  exact wcs_at c s p hi
theorem Wa.fz (h : Wa w wb ow c rs s k p) (i : Nat) : w.frozen? ⟨wb, i, none⟩ = false := by simp [World.frozen?, h.blk]
theorem Wa.c28 (h : Wa w wb ow c rs s k p) : w.cell? ⟨wb, 28, none⟩ = some (.map (some p.kb)) := h.cell 28 (by omega)
theorem Wa.c29 (h : Wa w wb ow c rs s k p) : w.cell? ⟨wb, 29, none⟩ = some (.pointer (some ⟨p.db, 0, none⟩)) := h.cell 29 (by omega)
theorem Wa.c30 (h : Wa w wb ow c rs s k p) : w.cell? ⟨wb, 30, none⟩ = some (.pointer (some ⟨p.tb, 0, none⟩)) := h.cell 30 (by omega)
theorem Wa.c31 (h : Wa w wb ow c rs s k p) : w.cell? ⟨wb, 31, none⟩ = some (.pointer (some ⟨p.xb, 0, none⟩)) := h.cell 31 (by omega)
theorem Wa.c33 (h : Wa w wb ow c rs s k p) : w.cell? ⟨wb, 33, none⟩ = some p.av := h.cell 33 (by omega)
theorem Wa.setBlk (h : Wa w wb ow c rs s k p) {i : Nat} {v : Value} {s' : St} {p' : Pt} (hc : ∀ j, j < 39 → cv c s' p' j = if j = i then v else cv c s p j) : (w.setCell ⟨wb, i, none⟩ v).heap[wb]? = some (.cells (wcs c s' p') 116) := by
  simp only [World.setCell, Array.getElem?_modify, h.blk, if_true, Option.map_some, Option.isSome_none, Bool.false_eq_true, if_false]
  rw [wcs_set hc]
end
end Go.Proofs.YtmolafjalaeoaaaGreatDoor.WaW
namespace Go.Proofs
open Go.Shelf Go.RowKit
def Tryz.lays128_ren : Go.Shelf.Ren := ⟨fun | 128 => 158 | n => n, fun | 51 => 260 | 3 => 3 | 4 => 4 | 46 => 189 | 5 => 5 | 9 => 9 | n => n, fun | n => n⟩
def Tryz.lays125_ren : Go.Shelf.Ren := ⟨fun | 125 => 132 | 128 => 158 | 129 => 159 | n => n, fun | 46 => 189 | 3 => 3 | 51 => 260 | 53 => 145 | 4 => 4 | 5 => 5 | 9 => 9 | n => n, fun | n => n⟩
def Tryz.lays213_ren : Go.Shelf.Ren := ⟨fun | 213 => 133 | 265 => 160 | n => n, fun | 9 => 9 | 3 => 3 | n => n, fun | n => n⟩
def Tryz.lays106_ren : Go.Shelf.Ren := ⟨fun | 106 => 106 | 213 => 133 | 265 => 160 | n => n, fun | 9 => 9 | 3 => 3 | n => n, fun | n => n⟩
theorem Tryz.lays106 : Go.Proofs.Lays.n106 Tryz.prog Tryz.lays106_ren := {
  mixed := by kernel_rfl
  f106 := Tryz.func106.trans (congrArg some (by kernel_rfl))
  f213 := Tryz.func133.trans (congrArg some (by kernel_rfl))
  f265 := Tryz.func160.trans (congrArg some (by kernel_rfl))
  t3 := Tryz.underlying3
  a3 := Tryz.isAgg3
  z3 := Tryz.sizeOf3
  v3 := Tryz.zeroValue3
  t9 := Tryz.underlying9
  a9 := Tryz.isAgg9
  z9 := Tryz.sizeOf9
  v9 := Tryz.zeroValue9 }
theorem Tryz.strings_Compare (a b : ByteArray) (w : World) :
    Calls Tryz.prog 106 #[.string a, .string b] w fun e w' => e = .returned (.int .i64 (Lib.compareBytes a.data.toList b.data.toList)) ∧ w' = w := Any.strings_Compare Tryz.lays106 a b w
def Tryz.lays215_ren : Go.Shelf.Ren := ⟨fun | 215 => 134 | n => n, fun | 3 => 3 | 4 => 4 | n => n, fun | n => n⟩
def Tryz.lays122_ren : Go.Shelf.Ren := ⟨fun | 122 => 107 | 215 => 134 | n => n, fun | 3 => 3 | 4 => 4 | n => n, fun | n => n⟩
theorem Tryz.lays122 : Go.Proofs.Lays.n122 Tryz.prog Tryz.lays122_ren := {
  mixed := by kernel_rfl
  f122 := Tryz.func107.trans (congrArg some (by kernel_rfl))
  f215 := Tryz.func134.trans (congrArg some (by kernel_rfl))
  t3 := Tryz.underlying3
  a3 := Tryz.isAgg3
  z3 := Tryz.sizeOf3
  v3 := Tryz.zeroValue3
  t4 := Tryz.underlying4
  a4 := Tryz.isAgg4
  z4 := Tryz.sizeOf4
  v4 := Tryz.zeroValue4 }
theorem Tryz.cmp_Compare_int (x y : Int) (w : World) :
    Calls Tryz.prog 107 #[.int .i64 x, .int .i64 y] w fun e w' => e = .returned (.int .i64 (Lib.compareInt x y)) ∧ w' = w := Any.cmp_Compare_int Tryz.lays122 x y w
def Tryz.lays129_ren : Go.Shelf.Ren := ⟨fun | 129 => 159 | n => n, fun | 53 => 145 | 3 => 3 | 4 => 4 | 46 => 189 | 5 => 5 | 9 => 9 | n => n, fun | n => n⟩
def Tryz.sortS_ren : Go.Shelf.Ren := ⟨fun | 6 => 103 | 15 => 132 | 14 => 131 | 28 => 158 | 29 => 159 | 20 => 150 | 21 => 151 | 22 => 152 | 23 => 153 | 24 => 154 | 25 => 155 | 26 => 156 | 27 => 157 | 46 => 172 | 47 => 173 | 48 => 174 | 49 => 175 | 50 => 176 | 57 => 181 | n => n, fun | 22 => 123 | 24 => 43 | 25 => 202 | 3 => 3 | 39 => 189 | 0 => 0 | 53 => 260 | 55 => 145 | 4 => 4 | 46 => 254 | 45 => 253 | 50 => 231 | 5 => 5 | 9 => 9 | 66 => 269 | 70 => 273 | 76 => 277 | 77 => 48 | n => n, fun | n => n⟩
theorem Tryz.sortS : Go.Proofs.SlLaysF0.n6 Tryz.prog Tryz.sortS_ren := {
  mixed := by kernel_rfl
  f6 := ⟨Tryz.f103.name, by decide, Tryz.func103.trans (congrArg some (by kernel_rfl))⟩
  f14 := ⟨Tryz.f131.name, by decide, Tryz.func131.trans (congrArg some (by kernel_rfl))⟩
  f15 := Tryz.func132.trans (congrArg some (by kernel_rfl))
  f20 := ⟨Tryz.f150.name, by decide, Tryz.func150.trans (congrArg some (by kernel_rfl))⟩
  f21 := ⟨Tryz.f151.name, by decide, Tryz.func151.trans (congrArg some (by kernel_rfl))⟩
  f22 := ⟨Tryz.f152.name, by decide, Tryz.func152.trans (congrArg some (by kernel_rfl))⟩
  f23 := ⟨Tryz.f153.name, by decide, Tryz.func153.trans (congrArg some (by kernel_rfl))⟩
  f24 := ⟨Tryz.f154.name, by decide, Tryz.func154.trans (congrArg some (by kernel_rfl))⟩
  f25 := ⟨Tryz.f155.name, by decide, Tryz.func155.trans (congrArg some (by kernel_rfl))⟩
  f26 := ⟨Tryz.f156.name, by decide, Tryz.func156.trans (congrArg some (by kernel_rfl))⟩
  f27 := ⟨Tryz.f157.name, by decide, Tryz.func157.trans (congrArg some (by kernel_rfl))⟩
  f28 := Tryz.func158.trans (congrArg some (by kernel_rfl))
  f29 := Tryz.func159.trans (congrArg some (by kernel_rfl))
  f46 := ⟨Tryz.f172.name, by decide, Tryz.func172.trans (congrArg some (by kernel_rfl))⟩
  f47 := Tryz.func173.trans (congrArg some (by kernel_rfl))
  f48 := Tryz.func174.trans (congrArg some (by kernel_rfl))
  f49 := ⟨Tryz.f175.name, by decide, Tryz.func175.trans (congrArg some (by kernel_rfl))⟩
  f50 := ⟨Tryz.f176.name, by decide, Tryz.func176.trans (congrArg some (by kernel_rfl))⟩
  f57 := ⟨Tryz.f181.name, by decide, Tryz.func181.trans (congrArg some (by kernel_rfl))⟩
  t0 := Tryz.underlying0
  a0 := Tryz.isAgg0
  z0 := Tryz.sizeOf0
  v0 := Tryz.zeroValue0
  t3 := Tryz.underlying3
  a3 := Tryz.isAgg3
  z3 := Tryz.sizeOf3
  v3 := Tryz.zeroValue3
  t4 := Tryz.underlying4
  a4 := Tryz.isAgg4
  z4 := Tryz.sizeOf4
  v4 := Tryz.zeroValue4
  t5 := Tryz.underlying5
  a5 := Tryz.isAgg5
  z5 := Tryz.sizeOf5
  v5 := Tryz.zeroValue5
  t9 := Tryz.underlying9
  a9 := Tryz.isAgg9
  z9 := Tryz.sizeOf9
  v9 := Tryz.zeroValue9
  t22 := Tryz.underlying123
  a22 := Tryz.isAgg123
  z22 := Tryz.sizeOf123
  v22 := Tryz.zeroValue123
  t25 := Tryz.underlying202
  a25 := Tryz.isAgg202
  z25 := Tryz.sizeOf202
  v25 := Tryz.zeroValue202
  t39 := Tryz.underlying189
  a39 := Tryz.isAgg189
  z39 := Tryz.sizeOf189
  v39 := Tryz.zeroValue189
  t45 := Tryz.underlying253
  a45 := Tryz.isAgg253
  z45 := Tryz.sizeOf253
  v45 := Tryz.zeroValue253
  t46 := Tryz.underlying254
  a46 := Tryz.isAgg254
  z46 := Tryz.sizeOf254
  v46 := Tryz.zeroValue254
  t50 := Tryz.underlying231
  a50 := Tryz.isAgg231
  z50 := Tryz.sizeOf231
  v50 := Tryz.zeroValue231
  t53 := Tryz.underlying260
  a53 := Tryz.isAgg260
  z53 := Tryz.sizeOf260
  v53 := Tryz.zeroValue260
  t55 := Tryz.underlying145
  a55 := Tryz.isAgg145
  z55 := Tryz.sizeOf145
  v55 := Tryz.zeroValue145
  t66 := Tryz.underlying269
  a66 := Tryz.isAgg269
  z66 := Tryz.sizeOf269
  v66 := Tryz.zeroValue269
  t70 := Tryz.underlying273
  a70 := Tryz.isAgg273
  z70 := Tryz.sizeOf273
  v70 := Tryz.zeroValue273
  t76 := Tryz.underlying277
  a76 := Tryz.isAgg277
  z76 := Tryz.sizeOf277
  v76 := Tryz.zeroValue277
  t77 := Tryz.underlying48
  a77 := Tryz.isAgg48
  z77 := Tryz.sizeOf48
  v77 := Tryz.zeroValue48 }
end Go.Proofs
