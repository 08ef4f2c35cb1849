/-
  TopOrder. · TopOrder: what its loops have done so far.
-/
import Derived.Test.YtmolafjalaeoaaaGreatDoorPbq
import Derived.Test.YtmolafjalaeoaaaGreatDoorPbs
namespace Go.Proofs.YtmolafjalaeoaaaGreatDoor.WbA
open Go.RowKit TkW WaM WaW WaB Go.Maps
open RuM (Rl)
open TkA (sbeq_true sbeq_false)
set_option maxRecDepth 100000
set_option maxHeartbeats 4000000 in
theorem topOrder_none (x : Ci) (rs : List Rl) (q : Option Addr) (cap : Nat) (ac : List Ac) (p : Option Addr) (capA : Nat) (w : World)
    (hr : RsIn w q cap rs) (hA : AcsOn w.heap.size w p ac) (hAl : ac.length ≤ 9223372036854775807) (hG : ¬ (light ac 50 ∧ Good x rs)) :
    Calls Tryz.prog 5 #[.agg (cfw x), .slice q rs.length cap, .slice p ac.length capA] w fun e w' => e = .returned (.bool true) ∧ Below w.heap.size w w' := by
  obtain ⟨bl, hbl⟩ : ∃ b : Bool, b = true ↔ light ac 50 := by
    by_cases h : light ac 50
    · exact ⟨true, by simp [h]⟩
    · exact ⟨false, by simp [h]⟩
  have HLA : Hid (∀ V, Below w.heap.size w V → Calls Tryz.prog 8 #[.slice p ac.length capA, .int .i64 50] V fun e w' => e = .returned (.bool bl) ∧ Below V.heap.size V w') := fun V hV => (lightActs_is ac p capA 50 w.heap.size hbl V (hA.below hV) (by omega) hAl).mono (fun e w' ⟨h1, qq, h2⟩ => ⟨h1, by rw [h2]; exact below_drewN (Below.refl _ _) qq⟩)
  have HB0 : Hid (∀ o, Below w.heap.size w (w.alloc o)) := fun o => (Below.refl _ _).alloc (Nat.le_refl _) o
  have HCF : Hid (∀ w' : World, Below (w.alloc (.cells (cfw x) 25)).heap.size (w.alloc (.cells (cfw x) 25)) w' → w'.heap[w.heap.size]? = some (.cells (cfw x) 25)) := fun w' hb => (hb.block w.heap.size (by simp)).trans (Go.heap_alloc_new w _)
  obtain ⟨mR, hmR⟩ : ∃ mR, mR = rs.length := ⟨_, rfl⟩
  obtain ⟨mA, hmA⟩ : ∃ mA, mA = ac.length := ⟨_, rfl⟩
  have HRS : Hid (RsIn w q cap rs) := hr
  rw [← hmA] at HLA
  have hi' : (Tryz.prog.info? 25).map (·.size) = some (cfw x).toList.length := by kernel_rfl
  cases bl with
  | false =>
    rw [← hmR, ← hmA]
    generalize cfw x = C at *
    clear hr hA hG hbl hmR hmA
    go_enter Tryz.func5, Tryz.ntmps5
    go_wp2_with fail
    refine (HLA.out _ (HB0.out _)).mono ?_
    rintro e w1 ⟨rfl, hb1⟩
    have HB1 : Hid (Below w.heap.size w w1) := (HB0.out _).trans (hb1.mono (HB0.out _).size)
    clear hb1
    go_wp2
    go_ret
    exact ⟨rfl, HB1.out⟩
  | true =>
      have hng : ¬ Good x rs := fun h => hG ⟨hbl.1 rfl, h⟩
      have HMA : Hid (∀ V, Below w.heap.size w V → Calls Tryz.prog 19 #[.agg (cfw x), .slice q rs.length cap] V fun e w' => e = .returned (.tuple #[.pointer none, .bool false]) ∧ Below V.heap.size V w') := fun V hV => made_none (hr.below hV) hng
      obtain ⟨n, hn⟩ := Fl.ex x rs
      have HWF : Hid (∀ V, Below w.heap.size w V → Calls Tryz.prog 11 #[.agg (cfw x), .slice q rs.length cap] V fun e w' => e = .returned (.int .i64 (n : Int)) ∧ Below V.heap.size V w') := fun V hV => watchFault_any x rs q cap V hn (hr.on.below hV) hr.len hr.names
      have HLR : Hid (n = 0 → ∀ V, Below w.heap.size w V → Calls Tryz.prog 9 #[.slice q rs.length cap] V fun e w' => e = .returned (.bool false) ∧ w' = V) := fun h0 V hV => lightRules_is rs q cap (b := false) (by constructor <;> intro k; cases k; exact absurd ⟨k, by rw [← h0]; exact hn⟩ hng) V (hr.on.below hV) hr.len hr.names
      rw [← hmR, ← hmA]
      rw [← hmR] at HMA HWF HLR
      have hra : ∀ w' : World, Below (w.alloc (.cells (cfw x) 25)).heap.size (w.alloc (.cells (cfw x) 25)) w' → w'.rangeAt w.heap.size 0 (cfw x).toList := fun w' hb => range_new (HCF.out w' hb)
      have HRA : Hid (∀ w' : World, Below (w.alloc (.cells (cfw x) 25)).heap.size (w.alloc (.cells (cfw x) 25)) w' → w'.rangeAt w.heap.size 0 (cfw x).toList) := hra
      generalize cfw x = C at *
      clear hr hA hG hbl hmR hmA hng hn hra
      go_enter Tryz.func5, Tryz.ntmps5
      go_wp2_with fail
      refine (HLA.out _ (HB0.out _)).mono ?_
      rintro e w1 ⟨rfl, hb1⟩
      have HA1 : Hid (Below (w.alloc (.cells C 25)).heap.size (w.alloc (.cells C 25)) w1) := hb1
      have hra := HRA.out _ hb1
      clear hb1
      go_wp2_with (refine wpList_load_mid rfl 25 (.tmp 3) rfl w.heap.size 0 rfl C.toList _ hra Tryz.underlying25 rfl hi' ?_)
      have HBW : Hid (∀ V, Below (w.alloc (.cells C 25)).heap.size (w.alloc (.cells C 25)) V → Below w.heap.size w V) := fun V hV => (HB0.out _).trans (hV.mono (HB0.out _).size)
      refine (HMA.out _ (HBW.out _ HA1.out)).mono ?_
      rintro e w2 ⟨rfl, hb2⟩
      have HA2 : Hid (Below (w.alloc (.cells C 25)).heap.size (w.alloc (.cells C 25)) w2) := HA1.out.trans (hb2.mono HA1.out.size)
      clear hb2 hra
      have hra := HRA.out _ HA2.out
      go_wp2_with (refine wpList_load_mid rfl 25 (.tmp 3) rfl w.heap.size 0 rfl C.toList _ hra Tryz.underlying25 rfl hi' ?_)
      refine (HMA.out _ (HBW.out _ HA2.out)).mono ?_
      rintro e w3 ⟨rfl, hb3⟩
      have HA3 : Hid (Below (w.alloc (.cells C 25)).heap.size (w.alloc (.cells C 25)) w3) := HA2.out.trans (hb3.mono HA2.out.size)
      clear hb3 hra
      have hra := HRA.out _ HA3.out
      go_wp2_with (refine wpList_load_guard rfl 25 (.tmp 3) rfl w.heap.size 0 rfl C.toList _ hra Tryz.underlying25 rfl hi' ?_)
      refine (HWF.out _ (HBW.out _ HA3.out)).mono ?_
      rintro e w4 ⟨rfl, hb4⟩
      have HA4 : Hid (Below (w.alloc (.cells C 25)).heap.size (w.alloc (.cells C 25)) w4) := HA3.out.trans (hb4.mono HA3.out.size)
      have HB4 : Hid (Below w.heap.size w w4) := HBW.out _ HA4.out
      clear hb4 hra
      by_cases hn0 : n = 0
      · have HL2 : Hid (Calls Tryz.prog 9 #[.slice q mR cap] w4 fun e w' => e = .returned (.bool false) ∧ w' = w4) := HLR.out hn0 _ HB4.out
        have hnI : ¬ (0 : Int) < n := by omega
        go_wp2_with fail
        refine HL2.out.mono ?_
        rintro e w5 ⟨rfl, rfl⟩
        go_wp2
        go_ret
        exact ⟨rfl, HB4.out⟩
      · have hnI : (0 : Int) < n := by omega
        go_wp2
        go_ret
        exact ⟨rfl, HB4.out⟩
/-- What acts count. -/
def wS (l : List Ac) : Nat := (l.map aw).sum
theorem wS_append (a b : List Ac) : wS (a ++ b) = wS a + wS b := by simp [wS]
theorem wS_fr : ∀ A : List Ac, wS (fr A 3) + wS (fr A 2) + wS (fr A 1) + wS (fr A 0) ≤ wS A
  | [] => by simp [wS, fr]
  | a :: A => by
    have ih := wS_fr A
    have e : wS (a :: A) = aw a + wS A := by simp [wS]
    have c : ∀ l, wS (a :: l) = aw a + wS l := fun l => by simp [wS]
    rw [e]
    by_cases h3 : a.n = 3
    · rw [fr_same h3, fr_other (by omega), fr_other (by omega), fr_other (by omega), c]; omega
    · by_cases h2 : a.n = 2
      · rw [fr_other h3, fr_same h2, fr_other (by omega), fr_other (by omega), c]; omega
      · by_cases h1 : a.n = 1
        · rw [fr_other h3, fr_other h2, fr_same h1, fr_other (by omega), c]; omega
        · by_cases h0 : a.n = 0
          · rw [fr_other h3, fr_other h2, fr_other h1, fr_same h0, c]; omega
          · rw [fr_other h3, fr_other h2, fr_other h1, fr_other h0]; omega
theorem fl_sum {c : Cf} : ∀ {D : List Ac} {t : St}, (∀ a, a ∈ D → aok a) → (fl c D t).sum ≤ t.sum + wS D
  | [], _, _ => Nat.le_add_right _ _
  | a :: D, t, h => by
    have ih := fl_sum (c := c) (D := D) (t := pf c a.n a.st t) (fun x hx => h x (List.mem_cons_of_mem _ hx))
    have e : wS (a :: D) = aw a + wS D := by simp [wS]
    rw [fl_cons, e]
    have h1 : (pf c a.n a.st t).sum ≤ t.sum + aw a := by
      have ha := h a List.mem_cons_self
      by_cases hl : 2000 < a.st.size
      · rw [pf_sum_long hl]; omega
      · refine Nat.le_trans (pf_sum c a.n a.st t) ?_
        unfold aok at ha
        unfold aw
        omega
    omega
theorem fr_take_succ {A : List Ac} {m : Nat} {a : Ac} {r : Int} (h : A[m]? = some a) : fr (A.take (m + 1)) r = if a.n = r then fr (A.take m) r ++ [a] else fr (A.take m) r := by
  unfold fr
  rw [List.take_add_one, h, List.filter_append]
  by_cases hr : a.n = r
  · rw [if_pos hr]; simp [hr]
  · rw [if_neg hr]; simp [hr]
theorem fr_take_le (A : List Ac) (m : Nat) (r : Int) : wS (fr (A.take m) r) ≤ wS (fr A r) := by
  have e : fr A r = fr (A.take m) r ++ fr (A.drop m) r := by
    unfold fr
    rw [← List.filter_append, List.take_append_drop]
  rw [e, wS_append]
  omega
end Go.Proofs.YtmolafjalaeoaaaGreatDoor.WbA
namespace Go.Proofs.YtmolafjalaeoaaaGreatDoor.WbA
open WaM WaW WaB WbO
set_option maxRecDepth 100000
/-- The acts of readers that are done. -/
def dn (A : List Ac) : Nat → List Ac
  | 0 => []
  | d + 1 => dn A d ++ fr A (3 - (d : Int))
theorem dn_grouped (A : List Ac) : dn A 4 = grouped A := by
  unfold grouped
  simp [dn, List.append_assoc]
theorem dn_mono (A : List Ac) : ∀ {d e : Nat}, d ≤ e → wS (dn A d) ≤ wS (dn A e)
  | d, 0, h => by
    obtain rfl : d = 0 := by omega
    exact Nat.le_refl _
  | d, e + 1, h => by
    by_cases hd : d = e + 1
    · rw [hd]; exact Nat.le_refl _
    · have := dn_mono A (d := d) (e := e) (by omega)
      show _ ≤ wS (dn A e ++ fr A (3 - (e : Int)))
      rw [wS_append]
      omega
theorem dn_le (A : List Ac) {d : Nat} (h : d ≤ 4) : wS (dn A d) ≤ wS A := by
  refine Nat.le_trans (dn_mono A h) ?_
  rw [dn_grouped]
  unfold grouped
  have := wS_fr A
  rw [wS_append, wS_append, wS_append]
  omega
theorem dn_mem {A : List Ac} {a : Ac} : ∀ {d : Nat}, a ∈ dn A d → a ∈ A
  | 0, h => by simp [dn] at h
  | d + 1, h => by
    rcases List.mem_append.1 h with h | h
    · exact dn_mem h
    · exact (List.mem_filter.1 h).1
/-- There is room for the next. -/
theorem dn_room {c : Cf} {A : List Ac} {t : St} {d m : Nat} {a : Ac} (hd : d < 4) (ho : ∀ x, x ∈ A → aok x) (hm : A[m]? = some a) (ha : a.n = 3 - (d : Int)) (hl : a.st.size ≤ 2000) :
    (fl c (dn A d ++ fr (A.take m) (3 - (d : Int))) t).sum + a.st.size ≤ t.sum + wS A := by
  have h1 := fl_sum (c := c) (D := dn A d ++ fr (A.take m) (3 - (d : Int))) (t := t) (fun x hx => by
    rcases List.mem_append.1 hx with h | h
    · exact ho x (dn_mem h)
    · exact ho x (List.mem_of_mem_take (List.mem_filter.1 h).1))
  have h2 := fr_take_le A (m + 1) (3 - (d : Int))
  rw [fr_take_succ hm, if_pos ha, wS_append] at h2
  have h3 := dn_le A (d := d + 1) (by omega)
  have h4 : wS (dn A (d + 1)) = wS (dn A d) + wS (fr A (3 - (d : Int))) := wS_append _ _
  have h5 : wS [a] = aw a := by simp [wS]
  have h6 : aw a = a.st.size := by
    have := ho a (List.mem_iff_getElem?.2 ⟨m, hm⟩)
    unfold aok at this
    unfold aw
    omega
  rw [wS_append] at h1
  omega
/-- Acts of one tick. -/
def seg (ac : List Ac) (f i : Nat) : List Ac := (ac.drop f).take (i - f)
theorem seg_at {ac : List Ac} {f i m : Nat} (h : m < i - f) : (seg ac f i)[m]? = ac[f + m]? := by
  unfold seg
  rw [List.getElem?_take, if_pos h, List.getElem?_drop]
theorem seg_nil (ac : List Ac) (f : Nat) : seg ac f f = [] := by unfold seg; simp
theorem seg_succ {ac : List Ac} {f i : Nat} {a : Ac} (hf : f ≤ i) (h : ac[i]? = some a) : seg ac f (i + 1) = seg ac f i ++ [a] := by
  unfold seg
  have e : i + 1 - f = (i - f) + 1 := by omega
  rw [e, List.take_add_one, List.getElem?_drop, show f + (i - f) = i by omega, h]
  rfl
theorem seg_plays {c : Cf} {ac : List Ac} {f : Nat} : ∀ {i : Nat}, f ≤ i → i ≤ ac.length → (∀ k, f ≤ k → k < i → ∀ a, ac[k]? = some a → a.kd ≠ tickW) → plays c (ac.take i) St.zero = fl c (seg ac f i) (plays c (ac.take f) St.zero)
  | 0, hf, _, _ => by
    obtain rfl : f = 0 := by omega
    rw [seg_nil]
    rfl
  | i + 1, hf, hi, hk => by
    by_cases hfi : f = i + 1
    · rw [hfi, seg_nil]; rfl
    · have ih := seg_plays (c := c) (ac := ac) (f := f) (i := i) (by omega) (by omega) (fun k h1 h2 => hk k h1 (by omega))
      have hi' := List.getElem?_eq_getElem (l := ac) (i := i) (by omega)
      rw [plays_succ hi', ih, seg_succ (by omega) hi', fl_append]
      unfold pact
      rw [if_neg (hk i (by omega) (by omega) _ hi')]
      rfl
theorem seg_ga {c : Cf} {ac : List Ac} (h40 : (tgs ac).out.length < 40) {f : Nat} : ∀ {i : Nat}, f ≤ i → i ≤ ac.length → (∀ k, f ≤ k → k < i → ∀ a, ac[k]? = some a → a.kd ≠ tickW) → GA c (tgs ac).out (seg ac f i) (plays c (ac.take f) St.zero)
  | 0, hf, _, _ => by
    obtain rfl : f = 0 := by omega
    rw [seg_nil]
    trivial
  | i + 1, hf, hi, hk => by
    by_cases hfi : f = i + 1
    · rw [hfi, seg_nil]; trivial
    · have ih := seg_ga (c := c) h40 (f := f) (i := i) (by omega) (by omega) (fun k h1 h2 => hk k h1 (by omega))
      have hi' := List.getElem?_eq_getElem (l := ac) (i := i) (by omega)
      rw [seg_succ (by omega) hi', ga_append]
      refine ⟨ih, ?_, trivial⟩
      rw [← seg_plays (c := c) (by omega) (by omega) (fun k h1 h2 => hk k h1 (by omega))]
      exact reads_in h40 hi' (hk i (by omega) (by omega) _ hi')
theorem Eqv.sum {s t : St} (h : Eqv s t) : s.sum = t.sum := by
  unfold St.sum St.cnt
  rw [h.rest, h.lost, h.bad, h.nowh, h.late, h.full, h.all.length_eq]
end Go.Proofs.YtmolafjalaeoaaaGreatDoor.WbA
