/-
  TopChunks.
-/
import Derived.Test.YtmolafjalaeoaaaGreatDoorPbo
import Derived.Test.YtmolafjalaeoaaaGreatDoorPbp
namespace Go.Proofs.YtmolafjalaeoaaaGreatDoor.WbA
open Go.RowKit TkW WaM WaW WaB Go.Maps
open RuM (Rl)
open TkA (sbeq_true sbeq_false)
set_option maxRecDepth 100000
/-- What holds of rules that are given. -/
structure RsIn (w : World) (q : Option Addr) (cap : Nat) (rs : List Rl) : Prop where
  on : RsOn w q rs
  nil : q = none → rs = [] ∧ cap = 0
  cap : rs.length ≤ cap
  len : rs.length ≤ 9223372036854775807
  names : ∀ r, r ∈ rs → r.nm.size ≤ 9223372036854775807
theorem RsIn.below {w w' : World} {q : Option Addr} {cap : Nat} {rs : List Rl} (h : RsIn w q cap rs) (hb : Below w.heap.size w w') : RsIn w' q cap rs := ⟨h.on.below hb, h.nil, h.cap, h.len, h.names⟩
theorem wpList_load_guard {P : Program} {ops : Array Oper} {rest : List Oper} {op : Oper} {a : Act} {w : World} {Q : Exit → Act → World → Prop} (hw : Region.wanted op (yielded ops a.tmps) = true) (ty : TypeId) (x : Operand) (ho : op.op = .load ty x)
    (b o : Nat) (hx : a.eval x = .pointer (some ⟨b, o, none⟩)) (cs : List Value) (d : TypeDesc) (hc : w.rangeAt b o cs)
    (hu : P.underlying ty = some d) (hd : d.isRow = true) (hi : (P.info? ty).map (·.size) = some cs.length)
    (h : wpList P ops Q rest (a.put op.dst (.agg cs.toArray)) w) : wpList P ops Q (op :: rest) a w := by
  unfold wpList
  rw [if_pos hw]
  exact Or.inl (wp_load_mid ty x ho b o hx cs d hc hu hd hi h)
theorem cut_eq (x : ByteArray) (n : Nat) : x.data.toList = (x.extract 0 n).data.toList ++ (x.extract n x.size).data.toList := by
  have e1 : (x.extract 0 n).data.toList = x.data.toList.take n := by simp
  have e2 : (x.extract n x.size).data.toList = x.data.toList.drop n := by
    simp
    rw [List.take_of_length_le]
    rw [List.length_drop, data_len]
    exact Nat.le_refl _
  rw [e1, e2, List.take_append_drop]
/-- made, when there is none. -/
theorem made_none {x : Ci} {rs : List Rl} {q : Option Addr} {cap : Nat} {w : World} (hr : RsIn w q cap rs) (h : ¬ Good x rs) :
    Calls Tryz.prog 19 #[.agg (cfw x), .slice q rs.length cap] w fun e w' => e = .returned (.tuple #[.pointer none, .bool false]) ∧ Below w.heap.size w w' := by
  by_cases hl : lightR rs
  · obtain ⟨n, hn⟩ := Fl.ex x rs
    exact made_bad x rs q cap w hr.on hr.cap hl hn (fun e => h ⟨hl, by rw [← e]; exact hn⟩)
  · exact made_heavy x rs q cap w hr.on hr.len hr.names hl
/-- made, when there is one. -/
theorem made_some {x : Ci} {rs : List Rl} {q : Option Addr} {cap : Nat} {w : World} (hr : RsIn w q cap rs) (h : Good x rs) : ∃ c : Cf, c.Ok ∧ Cf.ci c = x ∧ ∀ V, Below w.heap.size w V →
    Calls Tryz.prog 19 #[.agg (cfw x), .slice q rs.length cap] V fun e w' => ∃ wb ow, e = .returned (.tuple #[.pointer (some ⟨wb, 0, none⟩), .bool true]) ∧ WaAt w' wb ow c rs St.zero ∧ (∀ b, ow b ≠ 0 → V.heap.size ≤ b) ∧ Below V.heap.size V w' := by
  rcases h.2 with ⟨_, h0⟩ | ⟨h1, h2⟩
  · omega
  · obtain ⟨c, hc, hx⟩ := h1.cf
    refine ⟨c, hc, hx, fun V hV => ?_⟩
    rw [← hx]
    refine (made_ok c rs q cap V (hr.on.below hV) hr.nil hr.cap h.1 hc h2).mono ?_
    rintro e w' ⟨wb, ow, h3, h4, h5, h6⟩
    exact ⟨wb, ow, h3, ⟨by rw [zero_cl]; exact h4⟩, h5, h6⟩
set_option maxHeartbeats 4000000 in
theorem topChunks_none (x : Ci) (rs : List Rl) (q : Option Addr) (cap : Nat) (ac : List Ac) (p : Option Addr) (capA : Nat) (at_ : List Int) (qt : Option Addr) (capT : Nat) (w : World)
    (hr : RsIn w q cap rs) (hA : AcsOn w.heap.size w p ac) (hAl : ac.length ≤ 9223372036854775807) (hTl : at_.length ≤ 9223372036854775807) (hG : ¬ (light ac 50 ∧ at_.length ≤ 100 ∧ Good x rs)) :
    Calls Tryz.prog 4 #[.agg (cfw x), .slice q rs.length cap, .slice p ac.length capA, .slice qt at_.length capT] w fun e w' => e = .returned (.bool true) ∧ Below w.heap.size w w' := by
  obtain ⟨bl, hbl⟩ : ∃ b : Bool, b = true ↔ light ac 50 := by
    by_cases h : light ac 50
    · exact ⟨true, by simp [h]⟩
    · exact ⟨false, by simp [h]⟩
  have HLA : Hid (∀ V, Below w.heap.size w V → Calls Tryz.prog 8 #[.slice p ac.length capA, .int .i64 50] V fun e w' => e = .returned (.bool bl) ∧ Below V.heap.size V w') := fun V hV => (lightActs_is ac p capA 50 w.heap.size hbl V (hA.below hV) (by omega) hAl).mono (fun e w' ⟨h1, qq, h2⟩ => ⟨h1, by rw [h2]; exact below_drewN (Below.refl _ _) qq⟩)
  have HB0 : Hid (∀ o, Below w.heap.size w (w.alloc o)) := fun o => (Below.refl _ _).alloc (Nat.le_refl _) o
  have HCF : Hid (∀ w' : World, Below (w.alloc (.cells (cfw x) 25)).heap.size (w.alloc (.cells (cfw x) 25)) w' → w'.heap[w.heap.size]? = some (.cells (cfw x) 25)) := fun w' hb => (hb.block w.heap.size (by simp)).trans (Go.heap_alloc_new w _)
  obtain ⟨mT, hmT⟩ : ∃ mT, mT = at_.length := ⟨_, rfl⟩
  obtain ⟨mR, hmR⟩ : ∃ mR, mR = rs.length := ⟨_, rfl⟩
  obtain ⟨mA, hmA⟩ : ∃ mA, mA = ac.length := ⟨_, rfl⟩
  have HRS : Hid (RsIn w q cap rs) := hr
  rw [← hmA] at HLA
  have hi' : (Tryz.prog.info? 25).map (·.size) = some (cfw x).toList.length := by kernel_rfl
  cases bl with
  | false =>
    rw [← hmT, ← hmR, ← hmA]
    rw [← hmT] at hTl
    generalize cfw x = C at *
    clear hr hA hG hbl hmT hmR hmA
    go_enter Tryz.func4, Tryz.ntmps4
    go_wp2_with fail
    refine (HLA.out _ (HB0.out _)).mono ?_
    rintro e w1 ⟨rfl, hb1⟩
    have HB1 : Hid (Below w.heap.size w w1) := (HB0.out _).trans (hb1.mono (HB0.out _).size)
    clear hb1
    go_wp2
    go_ret
    exact ⟨rfl, HB1.out⟩
  | true =>
    by_cases hT : 100 < mT
    case pos =>
      have hTI : (100 : Int) < mT := by omega
      rw [← hmT, ← hmR, ← hmA]
      generalize cfw x = C at *
      clear hr hA hG hbl hmT hmR hmA
      go_enter Tryz.func4, Tryz.ntmps4
      go_wp2_with fail
      refine (HLA.out _ (HB0.out _)).mono ?_
      rintro e w1 ⟨rfl, hb1⟩
      have HB1 : Hid (Below w.heap.size w w1) := (HB0.out _).trans (hb1.mono (HB0.out _).size)
      clear hb1
      go_wp2
      go_ret
      exact ⟨rfl, HB1.out⟩
    case neg =>
      have hTI : ¬ (100 : Int) < mT := by omega
      have hng : ¬ Good x rs := fun h => hG ⟨hbl.1 rfl, by omega, h⟩
      have HMA : Hid (∀ V, Below w.heap.size w V → Calls Tryz.prog 19 #[.agg (cfw x), .slice q rs.length cap] V fun e w' => e = .returned (.tuple #[.pointer none, .bool false]) ∧ Below V.heap.size V w') := fun V hV => made_none (hr.below hV) hng
      obtain ⟨n, hn⟩ := Fl.ex x rs
      have HWF : Hid (∀ V, Below w.heap.size w V → Calls Tryz.prog 11 #[.agg (cfw x), .slice q rs.length cap] V fun e w' => e = .returned (.int .i64 (n : Int)) ∧ Below V.heap.size V w') := fun V hV => watchFault_any x rs q cap V hn (hr.on.below hV) hr.len hr.names
      have HLR : Hid (n = 0 → ∀ V, Below w.heap.size w V → Calls Tryz.prog 9 #[.slice q rs.length cap] V fun e w' => e = .returned (.bool false) ∧ w' = V) := fun h0 V hV => lightRules_is rs q cap (b := false) (by constructor <;> intro k; cases k; exact absurd ⟨k, by rw [← h0]; exact hn⟩ hng) V (hr.on.below hV) hr.len hr.names
      rw [← hmT, ← hmR, ← hmA]
      rw [← hmR] at HMA HWF HLR
      have hra : ∀ w' : World, Below (w.alloc (.cells (cfw x) 25)).heap.size (w.alloc (.cells (cfw x) 25)) w' → w'.rangeAt w.heap.size 0 (cfw x).toList := fun w' hb => range_new (HCF.out w' hb)
      have HRA : Hid (∀ w' : World, Below (w.alloc (.cells (cfw x) 25)).heap.size (w.alloc (.cells (cfw x) 25)) w' → w'.rangeAt w.heap.size 0 (cfw x).toList) := hra
      generalize cfw x = C at *
      clear hr hA hG hbl hmT hmR hmA hng hn hra
      go_enter Tryz.func4, Tryz.ntmps4
      go_wp2_with fail
      refine (HLA.out _ (HB0.out _)).mono ?_
      rintro e w1 ⟨rfl, hb1⟩
      have HA1 : Hid (Below (w.alloc (.cells C 25)).heap.size (w.alloc (.cells C 25)) w1) := hb1
      have hra := HRA.out _ hb1
      clear hb1
      go_wp2_with (refine wpList_load_mid rfl 25 (.tmp 4) rfl w.heap.size 0 rfl C.toList _ hra Tryz.underlying25 rfl hi' ?_)
      have HBW : Hid (∀ V, Below (w.alloc (.cells C 25)).heap.size (w.alloc (.cells C 25)) V → Below w.heap.size w V) := fun V hV => (HB0.out _).trans (hV.mono (HB0.out _).size)
      refine (HMA.out _ (HBW.out _ HA1.out)).mono ?_
      rintro e w2 ⟨rfl, hb2⟩
      have HA2 : Hid (Below (w.alloc (.cells C 25)).heap.size (w.alloc (.cells C 25)) w2) := HA1.out.trans (hb2.mono HA1.out.size)
      clear hb2 hra
      have hra := HRA.out _ HA2.out
      go_wp2_with (refine wpList_load_mid rfl 25 (.tmp 4) rfl w.heap.size 0 rfl C.toList _ hra Tryz.underlying25 rfl hi' ?_)
      refine (HMA.out _ (HBW.out _ HA2.out)).mono ?_
      rintro e w3 ⟨rfl, hb3⟩
      have HA3 : Hid (Below (w.alloc (.cells C 25)).heap.size (w.alloc (.cells C 25)) w3) := HA2.out.trans (hb3.mono HA2.out.size)
      clear hb3 hra
      have hra := HRA.out _ HA3.out
      go_wp2_with (refine wpList_load_guard rfl 25 (.tmp 4) rfl w.heap.size 0 rfl C.toList _ hra Tryz.underlying25 rfl hi' ?_)
      refine (HWF.out _ (HBW.out _ HA3.out)).mono ?_
      rintro e w4 ⟨rfl, hb4⟩
      have HA4 : Hid (Below (w.alloc (.cells C 25)).heap.size (w.alloc (.cells C 25)) w4) := HA3.out.trans (hb4.mono HA3.out.size)
      have HB4 : Hid (Below w.heap.size w w4) := HBW.out _ HA4.out
      clear hb4 hra
      by_cases hn0 : n = 0
      · have HL2 : Hid (Calls Tryz.prog 9 #[.slice q mR cap] w4 fun e w' => e = .returned (.bool false) ∧ w' = w4) := HLR.out hn0 _ HB4.out
        have hnI : ¬ (0 : Int) < n := by omega
        go_wp2_with fail
        refine HL2.out.mono ?_
        rintro e w5 ⟨rfl, rfl⟩
        go_wp2
        go_ret
        exact ⟨rfl, HB4.out⟩
      · have hnI : (0 : Int) < n := by omega
        go_wp2
        go_ret
        exact ⟨rfl, HB4.out⟩
set_option maxHeartbeats 4000000 in
theorem topChunks_some (x : Ci) (rs : List Rl) (q : Option Addr) (cap : Nat) (ac : List Ac) (p : Option Addr) (capA : Nat) (at_ : List Int) (qt : Option Addr) (capT : Nat) (w : World)
    (hr : RsIn w q cap rs) (hT : TagA.Tabs w) (hA : AcsOn w.heap.size w p ac) (hI : IsOn w.heap.size w qt at_) (hL : light ac 50) (hTl : at_.length ≤ 100) (hG : Good x rs) :
    Calls Tryz.prog 4 #[.agg (cfw x), .slice q rs.length cap, .slice p ac.length capA, .slice qt at_.length capT] w fun e w' => e = .returned (.bool true) ∧ Below w.heap.size w w' := by
  have HLA : Hid (∀ V, Below w.heap.size w V → Calls Tryz.prog 8 #[.slice p ac.length capA, .int .i64 50] V fun e w' => e = .returned (.bool true) ∧ Below V.heap.size V w') := fun V hV => (lightActs_is ac p capA 50 w.heap.size (r := true) (by simp [hL]) V (hA.below hV) (by omega) (Nat.le_trans hL.1 (by decide))).mono (fun e w' ⟨h1, qq, h2⟩ => ⟨h1, by rw [h2]; exact below_drewN (Below.refl _ _) qq⟩)
  have HB0 : Hid (∀ o, Below w.heap.size w (w.alloc o)) := fun o => (Below.refl _ _).alloc (Nat.le_refl _) o
  have HCF : Hid (∀ w' : World, Below (w.alloc (.cells (cfw x) 25)).heap.size (w.alloc (.cells (cfw x) 25)) w' → w'.heap[w.heap.size]? = some (.cells (cfw x) 25)) := fun w' hb => (hb.block w.heap.size (by simp)).trans (Go.heap_alloc_new w _)
  have HRA : Hid (∀ w' : World, Below (w.alloc (.cells (cfw x) 25)).heap.size (w.alloc (.cells (cfw x) 25)) w' → w'.rangeAt w.heap.size 0 (cfw x).toList) := fun w' hb => range_new (HCF.out w' hb)
  obtain ⟨c, hcok, hci, hmk⟩ := made_some hr hG
  have HMK : Hid (∀ V, Below w.heap.size w V → Calls Tryz.prog 19 #[.agg (cfw x), .slice q rs.length cap] V fun e w' => ∃ wb ow, e = .returned (.tuple #[.pointer (some ⟨wb, 0, none⟩), .bool true]) ∧ WaAt w' wb ow c rs St.zero ∧ (∀ b, ow b ≠ 0 → V.heap.size ≤ b) ∧ Below V.heap.size V w') := hmk
  have HT : Hid (TagA.Tabs w) := hT
  have HA : Hid (AcsOn w.heap.size w p ac) := hA
  have HI : Hid (IsOn w.heap.size w qt at_) := hI
  have HL : Hid (light ac 50) := hL
  have hsz1 : 1 ≤ w.heap.size := hT.size
  have hi' : (Tryz.prog.info? 25).map (·.size) = some (cfw x).toList.length := by kernel_rfl
  obtain ⟨mT, hmT⟩ : ∃ mT, mT = at_.length := ⟨_, rfl⟩
  obtain ⟨mR, hmR⟩ : ∃ mR, mR = rs.length := ⟨_, rfl⟩
  obtain ⟨mA, hmA⟩ : ∃ mA, mA = ac.length := ⟨_, rfl⟩
  have HmT : Hid (mT = at_.length) := hmT
  have HmA : Hid (mA = ac.length) := hmA
  rw [← hmT, ← hmR, ← hmA]
  rw [← hmA] at HLA
  rw [← hmR] at HMK
  rw [← hmT] at hTl
  have hA50 : mA ≤ 50 := by rw [hmA]; exact hL.1
  have HPL : Hid (∀ V wa oa s, WaAt V wa oa c rs s → Below w.heap.size w V → (∀ b, oa b ≠ 0 → w.heap.size ≤ b) → s.sum = 0 → Calls Tryz.prog 20 #[.pointer (some ⟨wa, 0, none⟩), .slice p mA capA] V fun e w' => Pld e V w' wa oa c rs (plays c ac s)) := fun V wa oa s h1 h2 h3 h4 => by
    rw [hmA]
    exact played_any ac p capA h1 (hT.below h2 hsz1) hsz1 h2.size h3 (hA.below h2) hL.2.1 (by omega) (by have := hL.2.2; omega)
  have HTG : Hid (∀ V, Below w.heap.size w V → Calls Tryz.prog 22 #[.slice p mA capA] V fun e w' => (∃ qg cg, e = .returned (.slice qg (tgs ac).out.length cg) ∧ TgOn w' qg (tgs ac).out) ∧ Below V.heap.size V w') := fun V hV => by
    rw [hmA]
    refine (tagsOf_any ac p capA V (hA.below hV) hV.size (by omega) hL.2.1 (by have := hL.2.2; omega)).mono ?_
    rintro e w' ⟨v, rfl, h1⟩
    obtain ⟨qg, cg, rfl, h2⟩ := tq_form h1 (tgs_sizes ac)
    exact ⟨⟨qg, cg, rfl, h2⟩, h1.below⟩
  generalize cfw x = C at *
  clear hr hA hI hL hG hmT hmR hmA hmk hci hcok hT
  go_enter Tryz.func4, Tryz.ntmps4
  go_wp2_with fail
  refine (HLA.out _ (HB0.out _)).mono ?_
  rintro e w1 ⟨rfl, hb1⟩
  have HA1 : Hid (Below (w.alloc (.cells C 25)).heap.size (w.alloc (.cells C 25)) w1) := hb1
  have hra := HRA.out _ hb1
  have HBW : Hid (∀ V, Below (w.alloc (.cells C 25)).heap.size (w.alloc (.cells C 25)) V → Below w.heap.size w V) := fun V hV => (HB0.out _).trans (hV.mono (HB0.out _).size)
  have hTI : ¬ (100 : Int) < mT := by omega
  clear hb1
  go_wp2_with (refine wpList_load_mid rfl 25 (.tmp 4) rfl w.heap.size 0 rfl C.toList _ hra Tryz.underlying25 rfl hi' ?_)
  refine (HMK.out _ (HBW.out _ HA1.out)).mono ?_
  rintro e w2 ⟨wa, oa, rfl, hwa, hoa, hb2⟩
  have HA2 : Hid (Below (w.alloc (.cells C 25)).heap.size (w.alloc (.cells C 25)) w2) := HA1.out.trans (hb2.mono HA1.out.size)
  have HWA : Hid (WaAt w2 wa oa c rs St.zero) := hwa
  have HOA : Hid (∀ b, oa b ≠ 0 → w.heap.size ≤ b) := fun b hb => Nat.le_trans (HBW.out _ HA1.out).size (hoa b hb)
  clear hb2 hra hwa hoa
  have hra := HRA.out _ HA2.out
  go_wp2_with (refine wpList_load_mid rfl 25 (.tmp 4) rfl w.heap.size 0 rfl C.toList _ hra Tryz.underlying25 rfl hi' ?_)
  refine (HMK.out _ (HBW.out _ HA2.out)).mono ?_
  rintro e w3 ⟨wb, ob, rfl, hwb, hob, hb3⟩
  have HTW : Hid (Two w.heap.size w3 wa wb oa ob c rs St.zero St.zero) := ⟨HWA.out.below hb3, hwb, HOA.out, fun b hb => Nat.le_trans (HBW.out _ HA2.out).size (hob b hb), fun i h1 h2 => by
    have := hob i h2
    have := WaAt.lim HWA.out i h1
    omega⟩
  have HB3 : Hid (Below w.heap.size w w3) := (HBW.out _ HA2.out).trans (hb3.mono (HBW.out _ HA2.out).size)
  clear hb3 hra hwb hob HWA HOA
  go_wp2_with fail
  refine (HPL.out _ _ _ _ HTW.out.a HB3.out HTW.out.la rfl).mono ?_
  rintro e w4 ⟨⟨b, rfl, oa', s', hwa, hwp, hbs⟩⟩
  obtain ⟨hT4, hB4⟩ := HTW.out.turnA HB3.out.size hwa hwp
  have HB4 : Hid (Below w.heap.size w w4) := HB3.out.trans hB4
  cases b with
  | false =>
    clear hT4 hB4 hwa hwp hbs
    go_wp2
    go_ret
    exact ⟨rfl, HB4.out⟩
  | true =>
    have HT4 : Hid (Two w.heap.size w4 wa wb oa' ob c rs (plays c ac St.zero) St.zero) := by rw [← hbs rfl]; exact hT4
    clear hT4 hB4 hwa hwp hbs HTW HB3 HA1 HA2
    go_wp2
    go_loopw [14, 15] (fun k i V => ∃ (j kk : Nat) (oB : Nat → Nat), j ≤ mA ∧ kk ≤ mT ∧ i = .int .i64 (j : Int) ∧ k = .int .i64 (kk : Int) ∧ Two w.heap.size V wa wb oa' oB c rs (plays c ac St.zero) (plays c (ac.take j) St.zero) ∧ Below w.heap.size w V) (fun _ i _ => mA - (intOf i).toNat)
    case atStart => exact ⟨0, 0, ob, by omega, by omega, rfl, rfl, HT4.out, HB4.out⟩
    case round =>
      obtain ⟨j, kk, oB, hj, hkk, rfl, rfl, htw, hbl⟩ := hrel
      have HTW : Hid (Two w.heap.size wr wa wb oa' oB c rs (plays c ac St.zero) (plays c (ac.take j) St.zero)) := htw
      have HBL : Hid (Below w.heap.size w wr) := hbl
      clear htw hbl
      by_cases hlt : j < mA
      case neg =>
        have hII : ¬ (j : Int) < mA := by omega
        have HTE : Hid (Two w.heap.size wr wa wb oa' oB c rs (plays c ac St.zero) (plays c ac St.zero)) := by
          have h1 := HTW.out
          rw [List.take_of_length_le (by have := HmA.out; omega)] at h1
          exact h1
        go_wp2_with fail
        refine (HTG.out _ HBL.out).mono ?_
        rintro e w5 ⟨⟨qg, cg, rfl, hgo⟩, hb5⟩
        have HAL : Hid (Calls Tryz.prog 21 #[.pointer (some ⟨wa, 0, none⟩), .pointer (some ⟨wb, 0, none⟩), .slice qg (tgs ac).out.length cg] w5 fun e w' => e = .returned (.bool true) ∧ Below w5.heap.size w5 w') := alike_true (tgs ac).out qg cg (HTE.out.a.below hb5) (HTE.out.b.below hb5) (Ag.refl c _) hgo (by have h1 := tgs_len ac ac.length; rw [List.take_length] at h1; omega)
        have HB5 : Hid (Below w.heap.size w w5) := HBL.out.trans (hb5.mono HBL.out.size)
        clear hgo hb5
        go_wp2_with fail
        refine HAL.out.mono ?_
        rintro e w6 ⟨rfl, hb6⟩
        have HB6 : Hid (Below w.heap.size w w6) := HB5.out.trans (hb6.mono HB5.out.size)
        clear hb6
        go_wp2
        go_ret
        exact ⟨rfl, HB6.out⟩
      case pos =>
        have hII : (j : Int) < mA := by omega
        have hj' : j < ac.length := by rw [← HmA.out]; exact hlt
        have hne : ac ≠ [] := fun e => by rw [e] at hj'; simp at hj'
        obtain ⟨g, o, rfl, hg, hc'⟩ := HA.out.at_ hne
        have hrj := List.getElem?_eq_getElem hj'
        have hsz := HA.out.sizes _ (List.getElem_mem hj')
        have HCE : Hid (∀ V, Below w.heap.size w V → V.cell? ⟨g, o + j * 7, none⟩ = some (.string ac[j].kd) ∧ V.cell? ⟨g, o + j * 7 + 1, none⟩ = some (.int .i64 ac[j].n) ∧ V.cell? ⟨g, o + j * 7 + 1 + 1, none⟩ = some (.string ac[j].st)) := fun V hV => by
          have h1 := (hc' j _ hrj).keep (hV.block g hg)
          exact ⟨h1.c0, h1.c1, h1.c2⟩
        obtain ⟨k0, k1, k2⟩ := HCE.out _ HBL.out
        have HSU : Hid ((plays c (ac.take j) St.zero).sum + awS ac (j + 1) ≤ 6000 + awS ac j) := by
          show _ ≤ _
          have h1 := plays_sum (c := c) (s := St.zero) HL.out.2.1 j (by omega)
          have h2 := awS_all ac (j := j + 1) (by omega)
          have h3 := HL.out.2.2
          have h4 : St.zero.sum = 0 := rfl
          omega
        have hSS := awS_succ hrj
        have HPS : Hid (plays c (ac.take (j + 1)) St.zero = pact c (plays c (ac.take j) St.zero) ac[j]) := plays_succ hrj
        have HAO : Hid (aok ac[j]) := HL.out.2.1 _ (List.getElem_mem hj')
        generalize ac[j] = a at *
        have HUA : Hid (a.st.size ≤ 2000 → (plays c (ac.take j) St.zero).sum + a.st.size ≤ 6000) := fun h2 => by
          have h1 := HSU.out
          have h3 := HAO.out
          unfold aok at h3
          have h4 : aw a = a.st.size := by unfold aw; omega
          show _ ≤ _
          omega
        clear hrj hc' hne hSS
        generalize plays c (ac.take j) St.zero = t0 at *
        by_cases hkd : a.kd = tickW
        case pos =>
          have HPA : Hid (pact c t0 a = pt a.n t0) := by show _ = _; unfold pact; rw [if_pos hkd]
          have HTI : Hid (Calls Tryz.prog 14 #[.pointer (some ⟨wb, 0, none⟩), .int .i64 a.n] wr fun e w' => (∃ u v, e = .returned (.tuple #[u, v])) ∧ ∃ ow2, WaAt w' wb ow2 c rs (pt a.n t0) ∧ Wp wr w' oB ow2) := tick_each a.n HTW.out.b (HT.out.below HBL.out hsz1) (by
            by_cases hz : oB 0 = 0
            · exact hz
            · have := HTW.out.lb 0 hz; omega)
          have hkq := kd_eq hkd
          clear hkd
          go_wp2_with fail
          refine HTI.out.mono ?_
          rintro e w5 ⟨⟨u, v, rfl⟩, oB2, hwb, hwp⟩
          obtain ⟨h1, h2⟩ := HTW.out.turnB HBL.out.size hwb hwp
          have HNX : Hid (Two w.heap.size w5 wa wb oa' oB2 c rs (plays c ac St.zero) (plays c (ac.take (j + 1)) St.zero)) := by rw [HPS.out, HPA.out]; exact h1
          have HB5 : Hid (Below w.heap.size w w5) := HBL.out.trans h2
          clear hwb hwp h1 h2
          go_wp2
          go_roundw
          case rel => exact ⟨j + 1, kk, oB2, by omega, hkk, by go_num, rfl, HNX.out, HB5.out⟩
          case measure => simp [intOf]; omega
        case neg =>
          have HPA : Hid (pact c t0 a = pf c a.n a.st t0) := by show _ = _; unfold pact; rw [if_neg hkd]
          have hkq := kd_ne hkd
          clear hkd
          by_cases hbig : 2000 < a.st.size
          · have hbI : (2000 : Int) < a.st.size := by omega
            have HNX : Hid (Two w.heap.size wr wa wb oa' oB c rs (plays c ac St.zero) (plays c (ac.take (j + 1)) St.zero)) := by rw [HPS.out, HPA.out, pf_sum_long hbig]; exact HTW.out
            go_wp2
            go_roundw
            case rel => exact ⟨j + 1, kk, oB, by omega, hkk, by go_num, rfl, HNX.out, HBL.out⟩
            case measure => simp [intOf]; omega
          · have hbI : ¬ (2000 : Int) < a.st.size := by omega
            have HU0 := HUA.out (by omega)
            have HFG : Hid (∀ (V : World) (y : ByteArray) (oB' : Nat → Nat) (t' : St), Two w.heap.size V wa wb oa' oB' c rs (plays c ac St.zero) t' → Below w.heap.size w V → y.size ≤ 2000 → t'.sum + y.size ≤ 6000 → pf c a.n y t' = pf c a.n a.st t0 → Calls Tryz.prog 16 #[.pointer (some ⟨wb, 0, none⟩), .int .i64 a.n, .string y] V fun e w' => (∃ u v, e = .returned (.tuple #[u, v])) ∧ (∃ oB3, Two w.heap.size w' wa wb oa' oB3 c rs (plays c ac St.zero) (plays c (ac.take (j + 1)) St.zero)) ∧ Below w.heap.size w w') := fun V y oB' t' h1 h2 h3 h4 h5 => by
              refine (feed_each a.n y h1.b (HT.out.below h2 hsz1) (by
                by_cases hz : oB' 0 = 0
                · exact hz
                · have := h1.lb 0 hz; omega) (by omega) (fun _ => h4)).mono ?_
              rintro e w' ⟨k1, ow2, k2, k3⟩
              obtain ⟨k4, k5⟩ := h1.turnB h2.size k2 k3
              exact ⟨k1, ⟨ow2, by rw [HPS.out, HPA.out, ← h5]; exact k4⟩, h2.trans k5⟩
            go_wp2
            go_loopw [14, 16] (fun k sv V => ∃ (kk : Nat) (x : ByteArray) (oB : Nat → Nat) (t : St), kk ≤ mT ∧ k = .int .i64 (kk : Int) ∧ sv = .string x ∧ x.size ≤ 2000 ∧ Two w.heap.size V wa wb oa' oB c rs (plays c ac St.zero) t ∧ pf c a.n x t = pf c a.n a.st t0 ∧ t.sum + x.size ≤ 6000 ∧ Below w.heap.size w V) (fun k _ _ => mT - (intOf k).toNat)
            case atStart => exact ⟨kk, a.st, oB, t0, hkk, rfl, rfl, by omega, HTW.out, rfl, HU0, HBL.out⟩
            case round =>
              obtain ⟨kk, x, oB, t, hkk, rfl, rfl, hx2, htw, hpf, hsm, hbl⟩ := hrel
              have HTX : Hid (Two w.heap.size wr wa wb oa' oB c rs (plays c ac St.zero) t) := htw
              have HPF : Hid (pf c a.n x t = pf c a.n a.st t0) := hpf
              have HBX : Hid (Below w.heap.size w wr) := hbl
              obtain ⟨d0, d1, d2⟩ := HCE.out _ hbl
              clear htw hpf hbl k0 k1 k2
              have HFE : Hid (∀ (V : World) (y : ByteArray), Below wr.heap.size wr V → y.size ≤ x.size → Calls Tryz.prog 16 #[.pointer (some ⟨wb, 0, none⟩), .int .i64 a.n, .string y] V fun e w' => (∃ u v, e = .returned (.tuple #[u, v])) ∧ ∃ ow2, WaAt w' wb ow2 c rs (pf c a.n y t) ∧ Wp wr w' oB ow2) := fun V y hV hy => (feed_each a.n y (HTX.out.b.below hV) ((HT.out.below HBX.out hsz1).below hV (Nat.le_trans hsz1 HBX.out.size)) (by
                by_cases hz : oB 0 = 0
                · exact hz
                · have := HTX.out.lb 0 hz; omega) (by omega) (fun _ => by omega)).mono (fun e w' ⟨h1, ow2, h2, h3⟩ => ⟨h1, ow2, h2, (Wp.below hV oB).trans h3⟩)
              by_cases hgo : kk < mT ∧ 0 < x.size
              case neg =>
                by_cases hkm : kk < mT
                · have hkI : (kk : Int) < mT := by omega
                  have hxI : ¬ (0 : Int) < x.size := by omega
                  clear hgo
                  go_wp2_with fail
                  refine (HFG.out _ _ _ _ HTX.out HBX.out hx2 hsm HPF.out).mono ?_
                  rintro e w6 ⟨⟨u, v, rfl⟩, ⟨oB3, h1⟩, h2⟩
                  have HT6 : Hid (Two w.heap.size w6 wa wb oa' oB3 c rs (plays c ac St.zero) (plays c (ac.take (j + 1)) St.zero)) := h1
                  have HB6 : Hid (Below w.heap.size w w6) := h2
                  clear h1 h2
                  go_wp2
                  go_roundw
                  case rel => exact ⟨j + 1, kk, oB3, by omega, by omega, by go_num, rfl, HT6.out, HB6.out⟩
                  case measure => simp [intOf]; omega
                · have hkI : ¬ (kk : Int) < mT := by omega
                  clear hgo
                  go_wp2_with fail
                  refine (HFG.out _ _ _ _ HTX.out HBX.out hx2 hsm HPF.out).mono ?_
                  rintro e w6 ⟨⟨u, v, rfl⟩, ⟨oB3, h1⟩, h2⟩
                  have HT6 : Hid (Two w.heap.size w6 wa wb oa' oB3 c rs (plays c ac St.zero) (plays c (ac.take (j + 1)) St.zero)) := h1
                  have HB6 : Hid (Below w.heap.size w w6) := h2
                  clear h1 h2
                  go_wp2
                  go_roundw
                  case rel => exact ⟨j + 1, kk, oB3, by omega, by omega, by go_num, rfl, HT6.out, HB6.out⟩
                  case measure => simp [intOf]; omega
              case pos =>
                obtain ⟨hk1, hx1⟩ := hgo
                have hkI : (kk : Int) < mT := by omega
                have hxI : (0 : Int) < x.size := by omega
                have hk' : kk < at_.length := by rw [← HmT.out]; exact hk1
                have hne : at_ ≠ [] := fun e => by rw [e] at hk'; simp at hk'
                obtain ⟨gi, oi, rfl, hgi, hci⟩ := (HI.out.below HBX.out).at_ hne
                have i0 := hci kk _ (List.getElem?_eq_getElem hk')
                generalize at_[kk] = v at *
                clear hci hne
                obtain ⟨nn, hnn⟩ : ∃ nn : Nat, min (max v 0) (x.size : Int) = (nn : Int) := ⟨(min (max v 0) (x.size : Int)).toNat, by omega⟩
                have hnx : nn ≤ x.size := by omega
                have hnI : (nn : Int) ≤ x.size := by omega
                have hn0 : (0 : Int) ≤ nn := by omega
                have HDR : Hid (Below wr.heap.size wr wr.drew) := (Below.refl _ _).drew
                have HNN : Hid (min (max v 0) (x.size : Int) = (nn : Int)) := hnn
                clear hnn
                go_wp2_with fail
                rw [HNN.out]
                have HSX : Hid ((x.extract 0 nn).size ≤ x.size) := by show _ ≤ _; simp; omega
                go_region_with (go_at_call 16; refine (HFE.out wr.drew (x.extract 0 nn) HDR.out HSX.out).mono ?_; rintro e w5 ⟨⟨u, v, rfl⟩, oB2, hwb, hwp⟩)
                all_goals
                  obtain ⟨h1, h2⟩ := HTX.out.turnB HBX.out.size hwb hwp
                  have HT5 : Hid (Two w.heap.size w5 wa wb oa' oB2 c rs (plays c ac St.zero) (pf c a.n (x.extract 0 nn) t)) := h1
                  have HB5 : Hid (Below w.heap.size w w5) := HBX.out.trans h2
                  obtain ⟨d0', d1', d2'⟩ := HCE.out _ HB5.out
                  have HPF2 : Hid (pf c a.n (x.extract nn x.size) (pf c a.n (x.extract 0 nn) t) = pf c a.n a.st t0) := by
                    show _ = _
                    rw [pf_split hx2 (cut_eq x nn)]
                    exact HPF.out
                  have HS2 : Hid ((x.extract nn x.size).size ≤ 2000) := by show _ ≤ _; simp; omega
                  have HS3 : Hid ((pf c a.n (x.extract 0 nn) t).sum + (x.extract nn x.size).size ≤ 6000) := by
                    show _ ≤ _
                    have h3 := pf_sum c a.n (x.extract 0 nn) t
                    have h4 : (x.extract 0 nn).size = nn := by simp; omega
                    have h5 : (x.extract nn x.size).size = x.size - nn := by simp
                    omega
                  clear hwb hwp h1 h2 d0 d1 d2
                  have hz : ((kk : Int) + 1).tmod 3 = ((kk : Int) + 1) % 3 := Int.tmod_eq_emod_of_nonneg (by omega)
                  rcases (show ((kk : Int) + 1).tmod 3 = 0 ∨ ((kk : Int) + 1).tmod 3 = 1 ∨ ((kk : Int) + 1).tmod 3 = 2 by rw [hz]; omega) with h3 | h3 | h3
                  all_goals clear hz
                  · go_wp2_with fail
                    refine (HFG.out _ _ _ _ HT5.out HB5.out HS2.out HS3.out HPF2.out).mono ?_
                    rintro e w6 ⟨⟨u, v, rfl⟩, ⟨oB3, h1⟩, h2⟩
                    have HT6 : Hid (Two w.heap.size w6 wa wb oa' oB3 c rs (plays c ac St.zero) (plays c (ac.take (j + 1)) St.zero)) := h1
                    have HB6 : Hid (Below w.heap.size w w6) := h2
                    clear h1 h2
                    go_wp2
                    go_roundw
                    case rel => exact ⟨j + 1, kk + 1, oB3, by omega, by omega, by go_num, by go_num, HT6.out, HB6.out⟩
                    case measure => simp [intOf]; omega
                  · go_wp2
                    go_roundw
                    case rel => exact ⟨kk + 1, _, oB2, _, by omega, by go_num, rfl, HS2.out, HT5.out, HPF2.out, HS3.out, HB5.out⟩
                    case measure => simp [intOf]; omega
                  · go_wp2
                    go_roundw
                    case rel => exact ⟨kk + 1, _, oB2, _, by omega, by go_num, rfl, HS2.out, HT5.out, HPF2.out, HS3.out, HB5.out⟩
                    case measure => simp [intOf]; omega
end Go.Proofs.YtmolafjalaeoaaaGreatDoor.WbA
