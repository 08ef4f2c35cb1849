/-
  What a watch's checkRules, readersAt and apart do to the world. · What a line's Feed, Lost, Waits and Copy do to the world.
-/
import Derived.Test.YtmolafjalaeoaaaGreatDoorPat
import Derived.Test.YtmolafjalaeoaaaGreatDoorPah
namespace Go.Proofs.YtmolafjalaeoaaaGreatDoor.WaB
open Go.RowKit TkW WaM WaW Go.Maps
open RuM (Rl)
set_option maxRecDepth 100000
/-- A rule that may stand where it stands. -/
def Fit (rs : List Rl) (j : Nat) : Prop := ∀ r, rs[j]? = some r → r.ok ∧ ∀ x, x ∈ rs.take j → x.nm ≠ r.nm
/-- What is wrong with rules, as a number. -/
def Ck (rs : List Rl) (n : Nat) : Prop :=
  (6 < rs.length ∧ n = 2) ∨ (rs.length ≤ 6 ∧ (((∀ j, j < rs.length → Fit rs j) ∧ n = 0) ∨ ∃ j r, rs[j]? = some r ∧ (∀ i, i < j → Fit rs i) ∧ ((¬ r.ok ∧ r.flt n ∧ n ≠ 0) ∨ (r.ok ∧ (∃ x, x ∈ rs.take j ∧ x.nm = r.nm) ∧ n = 7))))
theorem flt_ex (r : Rl) : ∃ n, r.flt n := by
  unfold RuM.Rl.flt RuM.Rl.ok
  by_cases h1 : r.named
  · by_cases h2 : r.bnd
    · by_cases h3 : r.apart
      · exact ⟨0, Or.inr (Or.inr (Or.inr ⟨⟨h1, h2, h3⟩, rfl⟩))⟩
      · exact ⟨3, Or.inr (Or.inr (Or.inl ⟨h1, h2, h3, rfl⟩))⟩
    · exact ⟨1, Or.inr (Or.inl ⟨h1, h2, rfl⟩)⟩
  · exact ⟨4, Or.inl ⟨h1, rfl⟩⟩
theorem fit_clash {rs : List Rl} {j n : Nat} {r : Rl} (hj : rs[j]? = some r) (h : Fit rs j) (hb : (¬ r.ok ∧ r.flt n ∧ n ≠ 0) ∨ (r.ok ∧ (∃ x, x ∈ rs.take j ∧ x.nm = r.nm) ∧ n = 7)) : False := by
  obtain ⟨h1, h2⟩ := h r hj
  rcases hb with ⟨h3, _⟩ | ⟨_, ⟨x, h3, h4⟩, _⟩
  · exact h3 h1
  · exact h2 x h3 h4
theorem Ck.uniq {rs : List Rl} {n m : Nat} (h : Ck rs n) (h' : Ck rs m) : n = m := by
  rcases h with ⟨h1, h2⟩ | ⟨h1, h2⟩ <;> rcases h' with ⟨k1, k2⟩ | ⟨k1, k2⟩
  · omega
  · omega
  · omega
  · rcases h2 with ⟨h2, h3⟩ | ⟨j, r, hj, hi, hb⟩ <;> rcases k2 with ⟨k2, k3⟩ | ⟨j', r', hj', hi', hb'⟩
    · omega
    · exact (fit_clash hj' (h2 j' (List.getElem?_eq_some_iff.1 hj').1) hb').elim
    · exact (fit_clash hj (k2 j (List.getElem?_eq_some_iff.1 hj).1) hb).elim
    · rcases Nat.lt_trichotomy j j' with hl | hl | hl
      · exact (fit_clash hj (hi' j hl) hb).elim
      · subst hl
        rw [hj] at hj'
        cases hj'
        rcases hb with ⟨a1, a2, a3⟩ | ⟨a1, a2, a3⟩ <;> rcases hb' with ⟨b1, b2, b3⟩ | ⟨b1, b2, b3⟩
        · exact RuM.flt_uniq a2 b2
        · exact absurd b1 a1
        · exact absurd a1 b1
        · omega
      · exact (fit_clash hj' (hi j' hl) hb').elim
theorem Ck.ex (rs : List Rl) : ∃ n, Ck rs n := by
  by_cases h6 : 6 < rs.length
  · exact ⟨2, Or.inl ⟨h6, rfl⟩⟩
  · have key : ∀ m, (∀ j, j < m → Fit rs j) ∨ ∃ n j r, rs[j]? = some r ∧ (∀ i, i < j → Fit rs i) ∧ ((¬ r.ok ∧ r.flt n ∧ n ≠ 0) ∨ (r.ok ∧ (∃ x, x ∈ rs.take j ∧ x.nm = r.nm) ∧ n = 7)) := by
      intro m
      induction m with
      | zero => exact Or.inl (fun j hj => by omega)
      | succ m ih =>
        rcases ih with ih | ih
        · cases hm : rs[m]? with
          | none =>
            refine Or.inl (fun j hj => ?_)
            by_cases hjm : j = m
            · intro r hr; rw [hjm, hm] at hr; cases hr
            · exact ih j (by omega)
          | some r =>
            obtain ⟨n, hn⟩ := flt_ex r
            by_cases hok : r.ok
            · by_cases hx : ∃ x, x ∈ rs.take m ∧ x.nm = r.nm
              · exact Or.inr ⟨7, m, r, hm, ih, Or.inr ⟨hok, hx, rfl⟩⟩
              · refine Or.inl (fun j hj => ?_)
                by_cases hjm : j = m
                · intro r' hr'
                  rw [hjm, hm] at hr'
                  cases hr'
                  exact ⟨hok, fun x h1 h2 => hx ⟨x, by rw [← hjm]; exact h1, h2⟩⟩
                · exact ih j (by omega)
            · exact Or.inr ⟨n, m, r, hm, ih, Or.inl ⟨hok, hn, fun e => hok ((RuM.flt_ok hn).1 e)⟩⟩
        · exact Or.inr ih
    rcases key rs.length with h | ⟨n, j, r, h1, h2, h3⟩
    · exact ⟨0, Or.inr ⟨by omega, Or.inl ⟨h, rfl⟩⟩⟩
    · exact ⟨n, Or.inr ⟨by omega, Or.inr ⟨j, r, h1, h2, h3⟩⟩⟩
theorem Ck.zero {rs : List Rl} (h : Ck rs 0) : rs.length ≤ 6 ∧ (∀ r, r ∈ rs → r.ok) := by
  rcases h with ⟨_, h⟩ | ⟨h1, ⟨h2, _⟩ | ⟨j, r, hj, hi, ⟨_, _, h3⟩ | ⟨_, _, h3⟩⟩⟩
  · omega
  · refine ⟨h1, fun r hr => ?_⟩
    obtain ⟨j, hj⟩ := List.mem_iff_getElem?.1 hr
    exact (h2 j (List.getElem?_eq_some_iff.1 hj).1 r hj).1
  · exact absurd rfl h3
  · omega
set_option maxHeartbeats 1000000 in
theorem checkRules_is (rs : List Rl) (q : Option Addr) (cap : Nat) {n : Nat} (hn : Ck rs n) (w : World) (h : RsOn w q rs) (hs : ∀ r, r ∈ rs → r.nm.size ≤ 9223372036854775807) (hc : rs.length ≤ cap) (hl : rs.length ≤ 9223372036854775807) :
    Calls Tryz.prog 35 #[.slice q rs.length cap] w fun e w' => e = .returned (RuA.errV n) ∧ Below w.heap.size w w' := by
  have HN : Hid (Ck rs n) := hn
  have HR : Hid (RsOn w q rs) := h
  have HS : Hid (∀ r, r ∈ rs → r.nm.size ≤ 9223372036854775807) := hs
  obtain ⟨N, hNN⟩ : ∃ N, N = rs.length := ⟨_, rfl⟩
  have HNN : Hid (N = rs.length) := hNN
  by_cases h6 : 6 < rs.length
  case pos =>
    have e2 : n = 2 := Ck.uniq hn (Or.inl ⟨h6, rfl⟩)
    subst e2
    rw [← hNN] at h6 hl ⊢
    have hI : (6 : Int) < N := by omega
    clear hn h hs hNN
    go_enter Tryz.func35, Tryz.ntmps35
    go_wp2
    go_ret
    exact ⟨rfl, Below.refl _ _⟩
  case neg =>
    rw [← hNN] at h6 hc ⊢
    have hI : ¬ (6 : Int) < N := by omega
    clear hn h hs hNN
    go_enter Tryz.func35, Tryz.ntmps35
    go_wp2
    go_loopw [3, 4, 5, 12] (fun _ _ _ i V => ∃ j : Nat, j ≤ N ∧ i = .int .i64 (j : Int) ∧ (∀ i, i < j → Fit rs i) ∧ Below w.heap.size w V) (fun _ _ _ i _ => N - (intOf i).toNat)
    case atStart => exact ⟨0, by omega, rfl, fun i hi => by omega, Below.refl _ _⟩
    case round =>
      obtain ⟨j, hj, rfl, hfit, hbl⟩ := hrel
      have HFIT : Hid (∀ i, i < j → Fit rs i) := hfit
      have HBL : Hid (Below w.heap.size w wr) := hbl
      by_cases hlt : j < N
      case neg =>
        have hII : ¬ (j : Int) < N := by omega
        have e0 : n = 0 := Ck.uniq HN.out (Or.inr ⟨by have := HNN.out; omega, Or.inl ⟨fun i hi => HFIT.out i (by have := HNN.out; omega), rfl⟩⟩)
        subst e0
        clear hfit hbl
        go_wp2
        go_ret
        exact ⟨rfl, HBL.out⟩
      case pos =>
        have hII : (j : Int) < N := by omega
        have hj' : j < rs.length := by rw [← HNN.out]; exact hlt
        have hne : rs ≠ [] := fun e => by rw [e] at hj'; simp at hj'
        obtain ⟨g, o, rfl, hg, hc'⟩ := (HR.out.below hbl).at_ hne
        have hrj := List.getElem?_eq_getElem hj'
        obtain ⟨k0, k1, k2, k3, k4, k5⟩ := hc' j _ hrj
        have hsz := HS.out _ (List.getElem_mem hj')
        have HRJ : Hid (rs[j]? = some rs[j]) := hrj
        have HTL : Hid ((rs.take j).length = j) := by show _ = _; rw [List.length_take]; omega
        generalize rs[j] = r at *
        have hTab : ∀ o, Below w.heap.size w (wr.alloc o) := fun o => hbl.alloc hbl.size o
        have HBA : Hid (∀ o, Below w.heap.size w (wr.alloc o)) := hTab
        obtain ⟨m, hm⟩ := flt_ex r
        have HM : Hid (r.flt m) := hm
        have HCK : Hid (∀ V, Calls Tryz.prog 71 #[RuA.rV r] V fun e w' => e = .returned (RuA.errV m) ∧ Below V.heap.size V w') := fun V => RuA.check_any r V hsz hm
        clear hfit hbl hc' hrj hTab hm
        by_cases hok : r.ok
        case neg =>
          have hmn : m ≠ 0 := fun e => hok ((RuM.flt_ok HM.out).1 e)
          have enm : n = m := Ck.uniq HN.out (Or.inr ⟨by have := HNN.out; omega, Or.inr ⟨j, r, HRJ.out, HFIT.out, Or.inl ⟨hok, HM.out, hmn⟩⟩⟩)
          subst enm
          have ee : RuA.errV n = .iface 105 (.int .i64 (n : Int)) := by unfold RuA.errV; rw [if_neg hmn]
          rw [ee] at HCK
          have HEE : Hid (RuA.errV n = .iface 105 (.int .i64 (n : Int))) := ee
          obtain ⟨rn, rk, rf, rt, rw_, ri⟩ := r
          unfold RuA.rV at HCK
          simp only at k0 k1 k2 k3 k4 k5 HCK
          clear hok hmn ee
          go_wp2_with fail
          refine (HCK.out _).mono ?_
          rintro e w2 ⟨rfl, hb2⟩
          have HB2 : Hid (Below w.heap.size w w2) := (HBA.out _).trans (hb2.mono (HBA.out _).size)
          clear hb2
          go_wp2
          go_ret
          exact ⟨by rw [HEE.out]; rfl, HB2.out⟩
        case pos =>
          have hm0 : m = 0 := (RuM.flt_ok HM.out).2 hok
          subst hm0
          have ee : RuA.errV 0 = .nilIface := rfl
          rw [ee] at HCK
          have HOK : Hid (r.ok) := hok
          obtain ⟨rn, rk, rf, rt, rw_, ri⟩ := r
          unfold RuA.rV at HCK
          simp only at k0 k1 k2 k3 k4 k5 HCK
          clear hok ee
          go_wp2_with fail
          refine (HCK.out _).mono ?_
          rintro e w2 ⟨rfl, hb2⟩
          have HB2 : Hid (Below w.heap.size w w2) := (HBA.out _).trans (hb2.mono (HBA.out _).size)
          have hbx : w2.heap[wr.heap.size]? = some (.cells #[.string rn, .int .i64 rk, .int .i64 rf, .int .i64 rt, .int .i64 rw_, .int .i64 ri] 32) := by
            rw [hb2.block wr.heap.size (by simp)]
            exact Go.heap_alloc_new wr _
          have z0 : w2.cell? ⟨wr.heap.size, 0, none⟩ = some (.string rn) := by simp [World.cell?, hbx]
          have HR2 : Hid (RsOn w2 (some ⟨g, o, none⟩) (rs.take j)) := (HR.out.below HB2.out).take j
          obtain ⟨b, hb⟩ : ∃ b : Bool, b = true ↔ ∃ x, x ∈ rs.take j ∧ x.nm = rn := ⟨(rs.take j).any (fun x => decide (x.nm = rn)), by simp⟩
          have HB : Hid (b = true ↔ ∃ x, x ∈ rs.take j ∧ x.nm = rn) := hb
          have HHN : Hid (∀ V, Below w2.heap.size w2 V → Calls Tryz.prog 72 #[.slice (some ⟨g, o, none⟩) j cap, .string rn] V fun e w' => e = .returned (.bool b) ∧ Below V.heap.size V w') := fun V hV => by
            have h1 := hasName_is (rs.take j) rn (some ⟨g, o, none⟩) cap hb V (HR2.out.below hV) (by rw [HTL.out]; omega)
            rw [HTL.out] at h1
            exact h1
          have HSS : Hid (∀ V, Below w2.heap.size w2 V → V.cell? ⟨wr.heap.size, 0, none⟩ = some (.string rn) ∧ Below w2.heap.size w2 V) := fun V hV => ⟨TagA.keepCell hV z0, hV⟩
          have hWW : Below w2.heap.size w2 w2 := Below.refl _ _
          have hjc : (j : Int) ≤ cap := by omega
          have hj0 : (0 : Int) ≤ j := by omega
          clear hb2 hbx hb
          go_wp2_with fail
          go_region_held3 (fun V => V.cell? ⟨wr.heap.size, 0, none⟩ = some (.string rn) ∧ Below w2.heap.size w2 V)
            (first | exact HSS.out _ (TagA.drewBelow ‹_›) | (go_split_ands; exact HSS.out _ (TagA.keepBelow ‹_› hb5)))
            (first | (go_at_call 72; go_split_ands; refine (HHN.out _ ‹_›).mono ?_; rintro e w5 ⟨rfl, hb5⟩))
          rename_i hH
          have HB5 : Hid (Below w.heap.size w w5) := HB2.out.trans (hH.2.mono HB2.out.size)
          clear hH hb5 hWW z0
          cases b with
          | true =>
            have hx := HB.out.1 rfl
            have e7 : n = 7 := Ck.uniq HN.out (Or.inr ⟨by have := HNN.out; omega, Or.inr ⟨j, _, HRJ.out, HFIT.out, Or.inr ⟨HOK.out, hx, rfl⟩⟩⟩)
            subst e7
            clear hx
            go_wp2
            go_ret
            exact ⟨rfl, HB5.out⟩
          | false =>
            have HF2 : Hid (∀ i, i < j + 1 → Fit rs i) := fun i hi => by
              by_cases hij : i = j
              · intro r hr
                rw [hij, HRJ.out] at hr
                cases hr
                exact ⟨HOK.out, fun x h1 h2 => by
                  have := HB.out.2 ⟨x, by rw [← hij]; exact h1, h2⟩
                  cases this⟩
              · exact HFIT.out i (by omega)
            go_wp2
            go_roundw
            case rel => exact ⟨j + 1, by omega, by go_num, HF2.out, HB5.out⟩
            case measure => simp [intOf]; omega
end Go.Proofs.YtmolafjalaeoaaaGreatDoor.WaB
namespace Go.Proofs.YtmolafjalaeoaaaGreatDoor.FrmA
open Go.RowKit FrmM
set_option maxRecDepth 100000
theorem info24 : (Tryz.prog.info? 93).map (fun i => (i.zero, i.size, i.bytes)) = some (some (.agg #[.int .i64 0, .slice none 0 0, .int .i64 0]), 3, 40) := by kernel_rfl
set_option maxHeartbeats 400000 in
theorem lost_any (lb : Nat) (rest : ByteArray) (lost : Nat) (w : World) {L : Lay} (h : LineAt w lb L rest lost) :
    Calls Tryz.prog 89 #[.pointer (some ⟨lb, L.lo, none⟩)] w fun e w' => e = .returned (.int .i64 (lost : Int)) ∧ w' = w := by
  have c1 := h.c1
  clear h
  go_enter Tryz.func89, Tryz.ntmps89
  go_wp2
  go_ret
  exact ⟨rfl, rfl⟩
/-- What Feed comes to. -/
def FeedPost (S : List UInt8) (lb : Nat) (L : Lay) (lost : Nat) (w : World) (e : Ending) (w' : World) : Prop :=
  ∃ v, e = .returned v ∧ FramesOwn w' w.heap.size w.heap.size v (feed S).1 ∧ LineAt w' lb L (str (feed S).2.2) (lost + (feed S).2.1) ∧ But w.heap.size lb w w'
theorem ne_empty {t : ByteArray} (h : t.data.toList ≠ []) : t.toList.isEmpty = false := by
  rw [ByteArray.toList_eq]; simpa using h
theorem is_empty {t : ByteArray} (h : t.data.toList = []) : t.toList.isEmpty = true := by
  rw [ByteArray.toList_eq, h]; rfl
set_option maxHeartbeats 4000000 in
theorem feed_any (lb : Nat) (rest s : ByteArray) (lost : Nat) (w : World) {L : Lay} (h : LineAt w lb L rest lost) (hs : rest.size + s.size ≤ 100000) (hlo : lost ≤ 10000000) :
    Calls Tryz.prog 45 #[.pointer (some ⟨lb, L.lo, none⟩), .string s] w (FeedPost (rest.data.toList ++ s.data.toList) lb L lost w) := by
  obtain ⟨i0, hi, hz0, hz1, hz2⟩ := info_parts info24
  obtain ⟨S, hS⟩ : ∃ S, S = rest.data.toList ++ s.data.toList := ⟨_, rfl⟩
  rw [← hS]
  have HS : Hid (S = rest.data.toList ++ s.data.toList) := hS
  have HSl : Hid (S.length = rest.size + s.size) := by show _ = _; rw [hS, List.length_append, len_list, len_list]
  have c0 := h.c0
  have hlb := h.lt
  have HL : Hid (LineAt w lb L rest lost) := h
  have o1 : ¬ 9223372036854775807 < rest.size + s.size := by omega
  clear hS h
  go_enter Tryz.func45, Tryz.ntmps45
  go_wp2
  go_loopw [5, 6, 7, 8] (fun u l _ _ V => ∃ (t : ByteArray) (acc : List Fr) (q : Nat), u = .string t ∧ feed S = (acc ++ (feed t.data.toList).1, q + (feed t.data.toList).2.1, (feed t.data.toList).2.2) ∧ acc.length + q + t.size ≤ S.length ∧ FramesOwn V w.heap.size w.heap.size l acc ∧ LineAt V lb L rest (lost + q) ∧ But w.heap.size lb w V) (fun u _ _ _ _ => strSize u)
  case atStart =>
    refine ⟨rest ++ s, [], 0, rfl, ?_, ?_, FramesOwn.nil _ _ _, HL.out, But.refl _ _ _⟩
    · have e : (rest ++ s).data.toList = S := by rw [HS.out]; simp
      rw [e]; simp
    · rw [HSl.out]; simp
  case round =>
    obtain ⟨t, acc, q, rfl, hfd, hle, hfo, hla, hbut⟩ := hrel
    rw [HSl.out] at hle
    have HFD : Hid (feed S = (acc ++ (feed t.data.toList).1, q + (feed t.data.toList).2.1, (feed t.data.toList).2.2)) := hfd
    have HFO : Hid (FramesOwn wr w.heap.size w.heap.size u6 acc) := hfo
    have HLA : Hid (LineAt wr lb L rest (lost + q)) := hla
    have HBUT : Hid (But w.heap.size lb w wr) := hbut
    have hwz : w.heap.size ≤ wr.heap.size := hbut.size
    have hts : t.size ≤ 100000 := by omega
    have hal : acc.length ≤ 100000 := by omega
    have hqq : q ≤ 100000 := by omega
    have HLE : Hid (acc.length + q + t.size ≤ rest.size + s.size) := hle
    clear hfd hfo hla hbut hle
    by_cases hte : t.data.toList = []
    case pos =>
      have hE := is_empty hte
      have HFE : Hid (feed S = (acc, q, t.data.toList)) := by show _ = _; rw [HFD.out, hte, feed_nil]; simp
      clear hte
      have hm0 := HLA.out.c0
      have hmz := HLA.out.fz L.lo
      go_wp2_with fail
      refine (clone_any t _ (by omega)).mono ?_
      rintro e w2 ⟨rfl, hb2⟩
      have hla2 : LineAt w2 lb L rest (lost + q) := HLA.out.keep (hb2.block lb HLA.out.lt)
      have n0 := hla2.c0
      have nz := hla2.fz L.lo
      have HLA2 : Hid (LineAt w2 lb L rest (lost + q)) := hla2
      have HFO2 : Hid (FramesOwn w2 w.heap.size w.heap.size u6 acc) := HFO.out.below hb2
      have HBUT2 : Hid (But w.heap.size lb w w2) := HBUT.out.trans (below_but (hb2.mono HBUT.out.size) lb)
      clear hb2 hla2 hm0 hmz
      go_wp2
      go_ret
      refine ⟨_, rfl, ?_, ?_, HBUT2.out.set L.lo _⟩
      · rw [HFE.out]
        exact HFO2.out.move (by simp [World.setCell]) (fun k h1 h2 => Below.heap_setCell _ _ _ _ (by show k ≠ lb; omega))
      · rw [HFE.out]
        show LineAt _ lb L (str t.data.toList) _
        rw [str_self]
        exact HLA2.out.set0 t
    case neg =>
      have hE := ne_empty hte
      have HNE : Hid (t.data.toList ≠ []) := hte
      have htp : 0 < t.size := by
        have := List.length_pos_iff.2 hte
        rw [len_list] at this
        exact this
      clear hte
      go_wp2_with fail
      refine (front_any t _ hts).mono ?_
      rintro e w1 ⟨v, rfl, hro, hb1⟩
      have HB1 : Hid (Below wr.heap.size wr w1) := hb1
      have hw1 : wr.heap.size ≤ w1.heap.size := hb1.size
      have HLA1 : Hid (LineAt w1 lb L rest (lost + q)) := HLA.out.keep (hb1.block lb HLA.out.lt)
      have HFO1 : Hid (FramesOwn w1 w.heap.size w.heap.size u6 acc) := HFO.out.below hb1
      have HBUT1 : Hid (But w.heap.size lb w w1) := HBUT.out.trans (below_but (hb1.mono hwz) lb)
      cases hfr : front t.data.toList with
      | some f =>
        obtain ⟨hok, tl, htl⟩ := front_some hfr
        have hF : frontF t.data.toList = f := by unfold frontF; rw [hfr]
        have hN : frontN t.data.toList = (enc f).length := by unfold frontN; rw [hfr]
        rw [hF] at hro ⊢
        rw [hN]
        have HFF := feed_frame hfr
        have htag : ∀ r ∈ f.rs, r.t.size ≤ maxLen := fun r hr => by have := hok.tags r hr; unfold maxLen; omega
        obtain ⟨p, cap, rfl, hron⟩ := hro.on htag
        have HRON : Hid (ReadsOn w1 p f.rs) := hron
        have hblk : f.rs ≠ [] → ∃ b o, p = some ⟨b, o, none⟩ ∧ wr.heap.size ≤ b ∧ b < w1.heap.size := by
          intro hne
          obtain ⟨g, cp, hv, h1, h2⟩ := hro.own.form (List.length_pos_iff.2 hne)
          simp at hv
          exact ⟨g, 0, hv.1, h1, h2⟩
        have HBLK : Hid (f.rs ≠ [] → ∃ b o, p = some ⟨b, o, none⟩ ∧ wr.heap.size ≤ b ∧ b < w1.heap.size) := hblk
        obtain ⟨N, hNN⟩ : ∃ N, N = (enc f).length := ⟨_, rfl⟩
        have hNp : 0 < N := by rw [hNN, enc_len]; omega
        have hNt : N ≤ t.size := by
          have := congrArg List.length htl
          rw [len_list, List.length_append] at this
          omega
        have hNI : (0 : Int) < N := by omega
        have hNtI : (N : Int) ≤ t.size := by omega
        have HNN : Hid (N = (enc f).length) := hNN
        have HFFH : Hid (feed t.data.toList = (f :: (feed (t.data.toList.drop (enc f).length)).1, (feed (t.data.toList.drop (enc f).length)).2.1, (feed (t.data.toList.drop (enc f).length)).2.2)) := HFF
        rw [← hNN]
        clear hfr htl hF hN HFF hro hron hblk hNN hb1 hok htag tl
        obtain ⟨ps, hpl, hpo, hpr⟩ := (HFO1.out.alloc (.cells #[.int .i64 f.ty, .slice p f.rs.length cap, .int .i64 f.wm] 93)).alloc (.cells #[.int .i64 f.ty, .slice p f.rs.length cap, .int .i64 f.wm] 93) |>.out
        have HPR : Hid (∀ (k : Nat) (g : Fr) (pc : Option Addr × Nat), acc[k]? = some g → ps[k]? = some pc → ReadsOn ((w1.alloc (.cells #[.int .i64 f.ty, .slice p f.rs.length cap, .int .i64 f.wm] 93)).alloc (.cells #[.int .i64 f.ty, .slice p f.rs.length cap, .int .i64 f.wm] 93)) pc.1 g.rs ∧ (g.rs ≠ [] → ∃ b o, pc.1 = some ⟨b, o, none⟩ ∧ w.heap.size ≤ b ∧ u6.ownBlock ≠ some b)) := hpr
        have HPL : Hid (ps.length = acc.length) := hpl
        have hnew : ∀ k, u6.ownBlock = some k → k < wr.heap.size := fun k hk => by
          obtain ⟨ps', _, ho', _⟩ := HFO.out.out
          exact (ho'.lt k hk).2
        have HNEW : Hid (∀ k, u6.ownBlock = some k → k < wr.heap.size) := hnew
        clear hpl hpr hnew
        go_wp2_with (at_builtin; refine wpList_append_lies _ rfl _ _ 132 rfl w.heap.size 93 i0 (.agg #[.int .i64 0, .slice none 0 0, .int .i64 0]) 3 40 Tryz.underlying132 hi hz0 hz1 hz2 rfl (by decide) _ _ _ rfl hpo ⟨w1.heap.size + 1, 0, none⟩ 1 1 [.int .i64 f.ty, .slice p f.rs.length cap, .int .i64 f.wm] rfl rfl ?q1 ?q2 (by omega) ?q3 ?q4 ?q5 (w1.heap.size + 2) ?q6 ?_)
        case q1 =>
          intro j u hj
          match j, hj with
          | 0, hj => simp at hj; subst hj; simp [Addr.add]
          | 1, hj => simp at hj; subst hj; simp [Addr.add]
          | 2, hj => simp at hj; subst hj; simp [Addr.add]
        case q2 => intro u hu; simp at hu; rcases hu with rfl | rfl | rfl <;> rfl
        case q3 => unfold maxLen; omega
        case q4 => omega
        case q5 => simp; omega
        case q6 => simp
        intro g cap' w3 hown3 hgrow3 hat hlt3
        have hfo3 : FramesOwn w3 w.heap.size w.heap.size (.slice (some ⟨g, 0, none⟩) (acc.length + 1) cap') (acc ++ [f]) := by
          refine FramesOwn.snoc (p := p) (c := cap) HPL.out HPR.out hown3 hgrow3 (by rcases hat with h | h; exact Or.inl h; exact Or.inr (by rw [h]; simp)) ((HRON.out.alloc _).alloc _) ?_
          intro hne
          obtain ⟨b, o, rfl, h1, h2⟩ := HBLK.out hne
          exact ⟨b, o, rfl, by omega, fun e => by have := HNEW.out b e; omega⟩
        have HFO3 : Hid (FramesOwn w3 w.heap.size w.heap.size (.slice (some ⟨g, 0, none⟩) (acc.length + 1) cap') (acc ++ [f])) := hfo3
        have hb3 : Below w1.heap.size w1 w3 ∨ True := Or.inr trivial
        have hbut3 : But w.heap.size lb w w3 := by
          refine HBUT1.out.trans (below_but ?_ lb)
          exact (((Below.refl w.heap.size w1).alloc (by omega) _).alloc (by simp; omega) _).grown hgrow3 (by simp; omega) (fun k hk => (hpo.lt k hk).1)
        have HBUT3 : Hid (But w.heap.size lb w w3) := hbut3
        have hla3 : LineAt w3 lb L rest (lost + q) := HLA1.out.keep (by
          have e1 : w3.heap[lb]? = ((w1.alloc (.cells #[.int .i64 f.ty, .slice p f.rs.length cap, .int .i64 f.wm] 93)).alloc (.cells #[.int .i64 f.ty, .slice p f.rs.length cap, .int .i64 f.wm] 93)).heap[lb]? := hgrow3.block lb (by simp; omega) (fun e => by have := (hpo.lt lb e.symm).1; omega)
          rw [e1, Below.heap_alloc _ _ _ (by simp; omega), Below.heap_alloc _ _ _ (by omega)])
        have HLA3 : Hid (LineAt w3 lb L rest (lost + q)) := hla3
        clear hown3 hgrow3 hat hlt3 hfo3 hb3 hbut3 hla3 hpo
        go_wp2
        go_roundw
        case rel =>
          have hd : (t.extract N t.size).data.toList = t.data.toList.drop (enc f).length := by
            rw [extract_list, HNN.out, List.take_of_length_le]
            rw [List.length_drop, len_list, ← HNN.out]; omega
          refine ⟨t.extract N t.size, acc ++ [f], q, rfl, ?_, ?_, HFO3.out, HLA3.out, HBUT3.out⟩
          · rw [hd, HFD.out, HFFH.out]
            simp
          · have h1 := HLE.out
            rw [HSl.out, ByteArray.size_extract]
            simp
            omega
        case measure => simp [strSize]; omega
      | none =>
        have hF : frontF t.data.toList = ⟨0, [], 0⟩ := by unfold frontF; rw [hfr]; rfl
        have hN : frontN t.data.toList = 0 := by unfold frontN; rw [hfr]
        rw [hF] at hro ⊢
        rw [hN]
        obtain ⟨p, cap, rfl, -⟩ := hro.on (fun r hr => absurd hr List.not_mem_nil)
        have HFR : Hid (front t.data.toList = none) := hfr
        have HLAx : Hid (∀ o, LineAt (w1.alloc o) lb L rest (lost + q)) := fun o => HLA1.out.keep (Below.heap_alloc _ _ _ HLA1.out.lt)
        clear hfr hF hN hro hb1
        go_wp2_with fail
        refine (isBeginning_any t _ hts htp).mono ?_
        rintro e w2 ⟨rfl, rfl⟩
        cases hbg : begins t.data.toList with
        | true =>
          have HFE : Hid (feed S = (acc, q, t.data.toList)) := by show _ = _; rw [HFD.out, feed_wait HNE.out HFR.out hbg]; simp
          clear hbg HLA HFO HBUT
          have HLA := HLAx
          have hla0 : LineAt (w1.alloc (.cells #[.int .i64 0, .slice p 0 cap, .int .i64 0] 93)) lb L rest (lost + q) := HLAx.out _
          have hfo0 : FramesOwn (w1.alloc (.cells #[.int .i64 0, .slice p 0 cap, .int .i64 0] 93)) w.heap.size w.heap.size u6 acc := HFO1.out.alloc _
          have hbu0 : But w.heap.size lb w (w1.alloc (.cells #[.int .i64 0, .slice p 0 cap, .int .i64 0] 93)) := HBUT1.out.trans (below_but ((Below.refl _ _).alloc (by omega) _) lb)
          clear HLA
          have HLA : Hid (LineAt (w1.alloc (.cells #[.int .i64 0, .slice p 0 cap, .int .i64 0] 93)) lb L rest (lost + q)) := hla0
          have HFO : Hid (FramesOwn (w1.alloc (.cells #[.int .i64 0, .slice p 0 cap, .int .i64 0] 93)) w.heap.size w.heap.size u6 acc) := hfo0
          have HBUT : Hid (But w.heap.size lb w (w1.alloc (.cells #[.int .i64 0, .slice p 0 cap, .int .i64 0] 93))) := hbu0
          clear hla0 hfo0 hbu0
          have hm0 := HLA.out.c0
          have hmz := HLA.out.fz L.lo
          go_wp2_with fail
          refine (clone_any t _ (by omega)).mono ?_
          rintro e w2 ⟨rfl, hb2⟩
          have hla2 : LineAt w2 lb L rest (lost + q) := HLA.out.keep (hb2.block lb HLA.out.lt)
          have n0 := hla2.c0
          have nz := hla2.fz L.lo
          have HLA2 : Hid (LineAt w2 lb L rest (lost + q)) := hla2
          have HFO2 : Hid (FramesOwn w2 w.heap.size w.heap.size u6 acc) := HFO.out.below hb2
          have HBUT2 : Hid (But w.heap.size lb w w2) := HBUT.out.trans (below_but (hb2.mono HBUT.out.size) lb)
          clear hb2 hla2 hm0 hmz
          go_wp2
          go_ret
          refine ⟨_, rfl, ?_, ?_, HBUT2.out.set L.lo _⟩
          · rw [HFE.out]
            exact HFO2.out.move (by simp [World.setCell]) (fun k h1 h2 => Below.heap_setCell _ _ _ _ (by show k ≠ lb; omega))
          · rw [HFE.out]
            show LineAt _ lb L (str t.data.toList) _
            rw [str_self]
            exact HLA2.out.set0 t
        | false =>
          have HLO : Hid (feed t.data.toList = ((feed (t.data.toList.drop 1)).1, (feed (t.data.toList.drop 1)).2.1 + 1, (feed (t.data.toList.drop 1)).2.2)) := feed_lose HNE.out HFR.out hbg
          have d1 := (HLAx.out (.cells #[.int .i64 0, .slice p 0 cap, .int .i64 0] 93)).c1
          have dz := (HLAx.out (.cells #[.int .i64 0, .slice p 0 cap, .int .i64 0] 93)).fz (L.lo + 1)
          have htI : (1 : Int) ≤ t.size := by omega
          clear hbg
          go_wp2
          go_roundw
          case rel =>
            have hd : (t.extract 1 t.size).data.toList = t.data.toList.drop 1 := by
              rw [extract_list, List.take_of_length_le]
              rw [List.length_drop, len_list]; omega
            refine ⟨t.extract 1 t.size, acc, q + 1, rfl, ?_, ?_, ?_, ?_, ?_⟩
            · rw [hd, HFD.out, HLO.out]
              simp
              omega
            · have h1 := HLE.out
              rw [HSl.out, ByteArray.size_extract]
              omega
            · exact (HFO1.out.alloc _).move (by simp [World.setCell]) (fun k h1 h2 => Below.heap_setCell _ _ _ _ (by show k ≠ lb; omega))
            · exact (HLAx.out _).set1 (lost + (q + 1)) (by omega)
            · exact (HBUT1.out.trans (below_but ((Below.refl _ _).alloc (by omega) _) lb)).set (L.lo + 1) _
          case measure => simp [strSize]; omega
end Go.Proofs.YtmolafjalaeoaaaGreatDoor.FrmA
