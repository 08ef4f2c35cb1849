/-
  What isOfKind and wasAt do to the world. · What Holds does to the world. · A watch, as mathematics.
-/
import Derived.Test.YtmolafjalaeoaaaGreatDoorPap
import Derived.Test.YtmolafjalaeoaaaGreatDoorPaa
import Derived.Test.YtmolafjalaeoaaaGreatDoorPad
namespace Go.Proofs.YtmolafjalaeoaaaGreatDoor.HlA
open Go.RowKit
set_option maxRecDepth 100000
/-- Is it a tag of that Kind? -/
def ofK (s : ByteArray) (k : Int) : Bool := decide (0 < InA.knd s) && (k == 0 || (InA.knd s : Int) == k)
set_option maxHeartbeats 1000000 in
theorem isOfKind_any (s : ByteArray) (k : Int) (w : World) (hT : TagA.Tabs w) (hs : s.size ≤ 100000) :
    Calls Tryz.prog 114 #[.string s, .int .i64 k] w fun e w' => e = .returned (.bool (ofK s k)) ∧ Below w.heap.size w w' := by
  have HP : Hid (Calls Tryz.prog 24 #[.string s] w fun e w' => e = .returned (TagA.parseV s) ∧ Below w.heap.size w w') := TagA.parse_any s w hT (by unfold maxLen; omega)
  unfold ofK
  rcases InA.parse_knd s with ⟨h0, F, P, C, R, S, hv⟩ | ⟨h0, hv⟩
  · rw [hv] at HP
    have hd : decide (0 < InA.knd s) = true := by simpa using h0
    rw [hd]
    unfold TagA.tagV at HP
    generalize InA.knd s = n at *
    clear hv hd
    simp only [Bool.true_and]
    by_cases hk : k = 0
    · subst hk
      simp only [beq_self_eq_true, Bool.true_or]
      go_enter Tryz.func114, Tryz.ntmps114
      go_wp2_with fail
      refine Calls.mono HP.out ?_
      rintro e w1 ⟨rfl, hb⟩
      have HB : Hid (∀ o, Below w.heap.size w (w1.alloc o)) := fun o => hb.alloc hb.size o
      clear hb
      go_wp2
      go_ret
      exact ⟨rfl, HB.out _⟩
    · have hk' : (k == 0) = false := by simpa using hk
      rw [hk']
      simp only [Bool.false_or]
      go_enter Tryz.func114, Tryz.ntmps114
      go_wp2_with fail
      refine Calls.mono HP.out ?_
      rintro e w1 ⟨rfl, hb⟩
      have HB : Hid (∀ o, Below w.heap.size w (w1.alloc o)) := fun o => hb.alloc hb.size o
      clear hb
      go_wp2
      go_ret
      exact ⟨rfl, HB.out _⟩
  · rw [hv] at HP
    unfold TagA.noTag at HP
    rw [h0]
    clear hv h0
    simp only [Nat.lt_irrefl, decide_false, Bool.false_and]
    go_enter Tryz.func114, Tryz.ntmps114
    go_wp2_with fail
    refine Calls.mono HP.out ?_
    rintro e w1 ⟨rfl, hb⟩
    have HB : Hid (∀ o, Below w.heap.size w (w1.alloc o)) := fun o => hb.alloc hb.size o
    clear hb
    go_wp2
    go_ret
    exact ⟨rfl, HB.out _⟩
section
open TkM TkW TkA
variable {w : World} {tb : Nat} {who : Nat → Nat × ByteArray × Nat} {W need n r : Nat} {ep : Nat → List Sg}
/-- Was it there? -/
def wasB (n : Nat) (t : Bool) (p e v : Int) : Bool := decide ((wv n t e v).2 = 0) && (p != -1) && ((wv n t e v).1 == p)
set_option maxHeartbeats 1000000 in
theorem wasAt_any (g : ByteArray) (p e : Int) {t : Bool} (d : TrAt w tb who W need n r ep) (hW : W ≤ 8) (hn : n ≤ 1000) (hg : g.size ≤ 100000) (ht : t = true ↔ ∃ e, seenG g (ep e) = true) :
    Calls Tryz.prog 116 #[.pointer (some ⟨tb, 0, none⟩), .string g, .int .i64 p, .int .i64 e] w fun x w' => x = .returned (.bool (wasB n t p e (whr g ep W need e.toNat))) ∧ Below w.heap.size w w' := by
  have HC : Hid (Calls Tryz.prog 65 #[.pointer (some ⟨tb, 0, none⟩), .string g, .int .i64 e] w fun x w' => x = .returned (.tuple #[.int .i64 (wv n t e (whr g ep W need e.toNat)).1, errV (wv n t e (whr g ep W need e.toNat)).2]) ∧ Below w.heap.size w w') := where_any g e d hW hn hg ht
  clear d ht
  unfold wasB
  generalize wv n t e (whr g ep W need e.toNat) = a at *
  obtain ⟨q, k⟩ := a
  simp only at *
  by_cases hk : k = 0
  · subst hk
    rw [show errV 0 = .nilIface from rfl] at HC
    by_cases hp : p = -1
    · subst hp
      simp only [decide_true, bne_self_eq_false, Bool.and_false, Bool.false_and]
      go_enter Tryz.func116, Tryz.ntmps116
      go_wp2_with fail
      refine Calls.mono HC.out ?_
      rintro x w1 ⟨rfl, hb1⟩
      have HB1 : Hid (Below w.heap.size w w1) := hb1
      clear hb1
      go_wp2
      go_ret
      exact ⟨rfl, HB1.out⟩
    · have hp' : (p != -1) = true := by simpa using hp
      rw [hp']
      simp only [decide_true, Bool.true_and]
      go_enter Tryz.func116, Tryz.ntmps116
      go_wp2_with fail
      refine Calls.mono HC.out ?_
      rintro x w1 ⟨rfl, hb1⟩
      have HB1 : Hid (Below w.heap.size w w1) := hb1
      clear hb1
      go_wp2
      go_ret
      exact ⟨rfl, HB1.out⟩
  · rw [errV_pos hk] at HC
    have hk' : decide (k = 0) = false := by simpa using hk
    rw [hk']
    simp only [Bool.false_and]
    clear hk'
    go_enter Tryz.func116, Tryz.ntmps116
    go_wp2_with fail
    refine Calls.mono HC.out ?_
    rintro x w1 ⟨rfl, hb1⟩
    have HB1 : Hid (Below w.heap.size w w1) := hb1
    clear hb1
    go_wp2
    go_ret
    exact ⟨rfl, HB1.out⟩
end
end Go.Proofs.YtmolafjalaeoaaaGreatDoor.HlA
namespace Go.Proofs.YtmolafjalaeoaaaGreatDoor.HlA
open Go.RowKit TkM TkW TkA RuM
set_option maxRecDepth 100000
/-- Where it came to, and where it was. -/
def cm (g : ByteArray) (ep : Nat → List Sg) (W need n : Nat) (t : Bool) (p e : Int) : Bool := comesB n t p e (fun e => whr g ep W need e.toNat)
def ws (g : ByteArray) (ep : Nat → List Sg) (W need n : Nat) (t : Bool) (p e : Int) : Bool := wasB n t p e (whr g ep W need e.toNat)
/-- The rule is so of a tag in an epoch. -/
def HoldsP (g : ByteArray) (ep : Nat → List Sg) (W need n : Nat) (t : Bool) (r : Rl) (e : Int) : Prop :=
  r.ok ∧ ofK g r.k = true ∧ cm g ep W need n t r.t e = true ∧ RuN.Back (cm g ep W need n t r.f) (ws g ep W need n t r.wo) (max 0 (e - r.wi)) e
/-- Holds at work. -/
structure HS (w V : World) (tb : Nat) (who : Nat → Nat × ByteArray × Nat) (W need n q : Nat) (ep : Nat → List Sg) (r : Rl) : Prop where
  bl : Below w.heap.size w V
  d : TrAt V tb who W need n q ep
  T : TagA.Tabs V
  box : RuA.Cells6 V w.heap.size (.string r.nm) (.int .i64 r.k) (.int .i64 r.f) (.int .i64 r.t) (.int .i64 r.wo) (.int .i64 r.wi)
section
variable {w : World} {tb : Nat} {who : Nat → Nat × ByteArray × Nat} {W need n q : Nat} {ep : Nat → List Sg}
theorem HS.keep {V V' : World} {r : Rl} (h : HS w V tb who W need n q ep r) (hb : Below V.heap.size V V') : HS w V' tb who W need n q ep r :=
  ⟨h.bl.trans (hb.mono h.bl.size), h.d.below hb, h.T.below hb h.T.size, h.box.move (hb.block _ h.box.lt) hb.size⟩
theorem hs_new (r : Rl) (d : TrAt w tb who W need n q ep) (hT : TagA.Tabs w) : HS w (w.alloc (.cells #[.string r.nm, .int .i64 r.k, .int .i64 r.f, .int .i64 r.t, .int .i64 r.wo, .int .i64 r.wi] 32)) tb who W need n q ep r := by
  have hB : Below w.heap.size w (w.alloc (.cells #[.string r.nm, .int .i64 r.k, .int .i64 r.f, .int .i64 r.t, .int .i64 r.wo, .int .i64 r.wi] 32)) := (Below.refl _ w).alloc (Nat.le_refl _) _
  refine ⟨hB, d.below hB, hT.below hB hT.size, ⟨?_, ?_, ?_, ?_, ?_, ?_, ?_, ?_⟩⟩
  all_goals first | go_simp | (intro i; go_simp)
set_option maxHeartbeats 4000000 in
theorem holds_any (r : Rl) (g : ByteArray) (e : Int) {t b : Bool} (d : TrAt w tb who W need n q ep) (hT : TagA.Tabs w) (hW : W ≤ 8) (hn : n ≤ 1000) (hg : g.size ≤ 100000) (ht : t = true ↔ ∃ e, seenG g (ep e) = true) (he0 : -1 ≤ e) (he1 : e ≤ 1000) (hnm : r.nm.size ≤ 9223372036854775807)
    (hb : b = true ↔ HoldsP g ep W need n t r e) :
    Calls Tryz.prog 79 #[.pointer (some ⟨tb, 0, none⟩), RuA.rV r, .string g, .int .i64 e] w fun x w' => x = .returned (.bool b) ∧ Below w.heap.size w w' := by
  have HB : Hid (b = true ↔ HoldsP g ep W need n t r e) := hb
  have HN : Hid (∃ m, r.flt m) := flt_ex r
  have HC : Hid (∀ (V : World) (p x : Int), TrAt V tb who W need n q ep → -1000 ≤ x → x ≤ 1000 → Calls Tryz.prog 115 #[.pointer (some ⟨tb, 0, none⟩), .string g, .int .i64 p, .int .i64 x] V fun y w' => y = .returned (.bool (cm g ep W need n t p x)) ∧ Below V.heap.size V w') := fun V p x hV h0 h1 => comes_any g p x hV hW (by omega) hg ht h0 h1
  have HWA : Hid (∀ (V : World) (p x : Int), TrAt V tb who W need n q ep → Calls Tryz.prog 116 #[.pointer (some ⟨tb, 0, none⟩), .string g, .int .i64 p, .int .i64 x] V fun y w' => y = .returned (.bool (ws g ep W need n t p x)) ∧ Below V.heap.size V w') := fun V p x hV => wasAt_any g p x hV hW (by omega) hg ht
  have HK : Hid (∀ (V : World) (k : Int), TagA.Tabs V → Calls Tryz.prog 114 #[.string g, .int .i64 k] V fun y w' => y = .returned (.bool (ofK g k)) ∧ Below V.heap.size V w') := fun V k hV => isOfKind_any g k V hV hg
  have HH : Hid _ := hs_new r d hT
  have HCK : Hid (∀ (V : World) (m : Nat), r.flt m → Calls Tryz.prog 71 #[RuA.rV r] V fun y w' => y = .returned (RuA.errV m) ∧ Below V.heap.size V w') := fun V m hm => RuA.check_any r V hnm hm
  clear hb d hT ht hnm
  unfold RuA.rV at HCK ⊢
  by_cases hok : r.ok
  case neg =>
    have hbf : b = false := by rw [← Bool.not_eq_true, HB.out]; exact fun h => hok h.1
    subst hbf
    obtain ⟨m, hm⟩ := HN.out
    have hm0 : m ≠ 0 := fun h => hok ((flt_ok hm).1 h)
    have HX : Hid (∀ V : World, Calls Tryz.prog 71 #[.agg #[.string r.nm, .int .i64 r.k, .int .i64 r.f, .int .i64 r.t, .int .i64 r.wo, .int .i64 r.wi]] V fun y w' => y = .returned (.iface 105 (.int .i64 (m : Int))) ∧ Below V.heap.size V w') := fun V => by
      have h := HCK.out V m hm
      rw [show RuA.errV m = .iface 105 (.int .i64 (m : Int)) from if_neg hm0] at h
      exact h
    clear hok hm hm0 HN HCK
    go_enter Tryz.func79, Tryz.ntmps79
    go_wp2_with fail
    refine (HX.out _).mono ?_
    rintro y V1 ⟨rfl, hb1⟩
    have HB1 : Hid (Below w.heap.size w V1) := (HH.out.keep hb1).bl
    clear hb1
    go_wp2
    go_ret
    exact ⟨rfl, HB1.out⟩
  have HX : Hid (∀ V : World, Calls Tryz.prog 71 #[.agg #[.string r.nm, .int .i64 r.k, .int .i64 r.f, .int .i64 r.t, .int .i64 r.wo, .int .i64 r.wi]] V fun y w' => y = .returned .nilIface ∧ Below V.heap.size V w') := fun V => HCK.out V 0 (Or.inr (Or.inr (Or.inr ⟨hok, rfl⟩)))
  have hF := hok.2.1.2.1
  have hI := hok.2.1.2.2.2.2
  have HOK : Hid r.ok := hok
  clear hok HN HCK
  go_enter Tryz.func79, Tryz.ntmps79
  go_wp2_with fail
  refine (HX.out _).mono ?_
  rintro y V1 ⟨rfl, hb1⟩
  have HH1 : Hid _ := HH.out.keep hb1
  clear hb1 HH HX
  have c1 := HH1.out.box.c1
  go_wp2_with fail
  refine (HK.out _ r.k HH1.out.T).mono ?_
  rintro y V2 ⟨rfl, hb2⟩
  have HH2 : Hid _ := HH1.out.keep hb2
  clear hb2 HH1 c1 HK
  cases hkd : ofK g r.k with
  | false =>
    have hbf : b = false := by rw [← Bool.not_eq_true, HB.out]; exact fun h => by have h2 := h.2.1; rw [hkd] at h2; exact Bool.noConfusion h2
    subst hbf
    go_wp2
    go_ret
    exact ⟨rfl, HH2.out.bl⟩
  | true =>
    have c3 := HH2.out.box.c3
    go_wp2_with fail
    refine (HC.out _ r.t e HH2.out.d (by omega) (by omega)).mono ?_
    rintro y V3 ⟨rfl, hb3⟩
    have HH3 : Hid _ := HH2.out.keep hb3
    clear hb3 HH2 c3
    cases hct : cm g ep W need n t r.t e with
    | false =>
      have hbf : b = false := by rw [← Bool.not_eq_true, HB.out]; exact fun h => by have h2 := h.2.2.1; rw [hct] at h2; exact Bool.noConfusion h2
      subst hbf
      go_wp2
      go_ret
      exact ⟨rfl, HH3.out.bl⟩
    | true =>
      have HBK : Hid (b = true ↔ RuN.Back (cm g ep W need n t r.f) (ws g ep W need n t r.wo) (max 0 (e - r.wi)) e) := ⟨fun h => (HB.out.1 h).2.2.2, fun h => HB.out.2 ⟨HOK.out, hkd, hct, h⟩⟩
      have w1 : IntKind.i64.wrap (e - 1) = e - 1 := by simp [IntKind.wrap, IntKind.bits, IntKind.signed]; omega
      have w2 : IntKind.i64.wrap (e - r.wi) = e - r.wi := by simp [IntKind.wrap, IntKind.bits, IntKind.signed]; omega
      clear hkd hct HB HOK
      go_wp2
      go_loopw [9] (fun i V => ∃ x : Int, -1000 ≤ x ∧ x < e ∧ i = .int .i64 x ∧ RuN.Down (cm g ep W need n t r.f) (ws g ep W need n t r.wo) e x ∧ HS w V tb who W need n q ep r) (fun i _ => ((intOf i) + 1000).toNat)
      case atStart => exact ⟨e - 1, by omega, by omega, rfl, RuN.down_start _ _ _, HH3.out⟩
      case round =>
        obtain ⟨x, hx0, hx1, rfl, hdn, hhs⟩ := hrel
        have HDN : Hid (RuN.Down (cm g ep W need n t r.f) (ws g ep W need n t r.wo) e x) := hdn
        have HHS : Hid (HS w wr tb who W need n q ep r) := hhs
        have c5 := hhs.box.c5
        have c2 := hhs.box.c2
        clear hdn hhs HH3
        by_cases hlo : max 0 (e - r.wi) ≤ x
        case neg =>
          have hl1 : decide (max 0 (e - r.wi) ≤ x) = false := by simpa using hlo
          have hbf : b = false := by rw [← Bool.not_eq_true, HBK.out]; exact RuN.down_end HDN.out (by omega)
          subst hbf
          go_wp2
          go_ret
          exact ⟨rfl, HHS.out.bl⟩
        case pos =>
          have hl1 : decide (max 0 (e - r.wi) ≤ x) = true := by simpa using hlo
          go_wp2_with fail
          refine (HC.out _ r.f x HHS.out.d (by omega) (by omega)).mono ?_
          rintro y V4 ⟨rfl, hb4⟩
          have HH4 : Hid (HS w V4 tb who W need n q ep r) := HHS.out.keep hb4
          clear hb4 HHS c5 c2
          cases hcf : cm g ep W need n t r.f x with
          | true =>
            have hbt : b = true := HBK.out.2 (RuN.down_yes HDN.out hlo hx1 hcf)
            subst hbt
            go_wp2
            go_ret
            exact ⟨rfl, HH4.out.bl⟩
          | false =>
            have c4 := HH4.out.box.c4
            go_wp2_with fail
            refine (HWA.out _ r.wo x HH4.out.d).mono ?_
            rintro y V5 ⟨rfl, hb5⟩
            have HH5 : Hid (HS w V5 tb who W need n q ep r) := HH4.out.keep hb5
            clear hb5 HH4 c4
            cases hwf : ws g ep W need n t r.wo x with
            | true =>
              have hbf : b = false := by rw [← Bool.not_eq_true, HBK.out]; exact RuN.down_no HDN.out hx1 hcf hwf
              subst hbf
              go_wp2
              go_ret
              exact ⟨rfl, HH5.out.bl⟩
            | false =>
              have HDN2 : Hid (RuN.Down (cm g ep W need n t r.f) (ws g ep W need n t r.wo) e (x - 1)) := RuN.down_step HDN.out hcf hwf
              have w3 : IntKind.i64.wrap (x - 1) = x - 1 := by simp [IntKind.wrap, IntKind.bits, IntKind.signed]; omega
              clear hcf hwf HDN
              go_wp2
              go_roundw
              case rel => exact ⟨x - 1, by omega, by omega, rfl, HDN2.out, HH5.out⟩
              case measure => simp [intOf]; omega
end
end Go.Proofs.YtmolafjalaeoaaaGreatDoor.HlA
namespace Go.Proofs.YtmolafjalaeoaaaGreatDoor.WaM
open TkM (Sg seenG epOf whr)
open RuM (Rl)
set_option maxRecDepth 100000
/-- What a watch is told when it is made. -/
structure Cf where
  len : Nat
  late : Nat
  W : Nat
  need : Nat
  span : Nat
  score : Nat
  pl : Nat → Nat → Int
structure Cf.Ok (c : Cf) : Prop where
  l0 : 1 ≤ c.len
  l1 : c.len ≤ 50
  t1 : c.late ≤ 50
  w0 : 1 ≤ c.W
  w1 : c.W ≤ 8
  n0 : 1 ≤ c.need
  n1 : c.need ≤ c.W
  s0 : 1 ≤ c.span
  s1 : c.span ≤ 8
  c0 : 1 ≤ c.score
  c1 : c.score ≤ c.span
  pl : ∀ r a, r < 4 → a < 4 → -1 ≤ c.pl r a ∧ c.pl r a ≤ 7
/-- What it knows. -/
structure St where
  rest : Nat → List UInt8
  lost : Nat → Nat
  warm : Nat → Int
  all : List Sg
  now : Nat
  bad : Nat
  nowh : Nat
  late : Nat
  full : Nat
def St.zero : St := ⟨fun _ => [], fun _ => 0, fun _ => -1, [], 0, 0, 0, 0, 0⟩
def upd {α : Type} (f : Nat → α) (k : Nat) (v : α) (i : Nat) : α := if i = k then v else f i
theorem upd_same {α : Type} (f : Nat → α) (k : Nat) (v : α) : upd f k v k = v := by simp [upd]
theorem upd_other {α : Type} (f : Nat → α) {k i : Nat} (v : α) (h : i ≠ k) : upd f k v i = f i := by simp [upd, h]
theorem upd_upd {α : Type} (f : Nat → α) (k : Nat) (v u : α) : upd (upd f k v) k u = upd f k u := by
  funext i
  unfold upd
  split <;> rfl
/-- Tags, each once, as they came first. -/
def hasT (l : List ByteArray) (g : ByteArray) : Bool := l.any (fun h => decide (h = g))
theorem hasT_iff {l : List ByteArray} {g : ByteArray} : hasT l g = true ↔ g ∈ l := by simp [hasT]
theorem hasT_not {l : List ByteArray} {g : ByteArray} : hasT l g = false ↔ g ∉ l := by rw [← hasT_iff]; simp
def addT (l : List ByteArray) (g : ByteArray) : List ByteArray := if hasT l g = true then l else l ++ [g]
def kn (l : List Sg) : List ByteArray := l.foldl (fun t x => addT t x.g) []
theorem kn_snoc (l : List Sg) (x : Sg) : kn (l ++ [x]) = addT (kn l) x.g := by
  unfold kn
  rw [List.foldl_append]
  rfl
theorem addT_mem (l : List ByteArray) (g h : ByteArray) : h ∈ addT l g ↔ h ∈ l ∨ h = g := by
  unfold addT
  split
  · rename_i hg
    rw [hasT_iff] at hg
    constructor
    · exact Or.inl
    · rintro (h1 | rfl)
      · exact h1
      · exact hg
  · simp
theorem addT_nodup {l : List ByteArray} (h : l.Nodup) (g : ByteArray) : (addT l g).Nodup := by
  unfold addT
  split
  · exact h
  · rename_i hg
    rw [hasT_iff] at hg
    rw [List.nodup_append]
    refine ⟨h, by simp, fun a ha b hb => ?_⟩
    simp at hb
    subst hb
    intro e
    subst e
    exact hg ha
theorem foldT_mem (xs : List Sg) : ∀ (l : List ByteArray) (h : ByteArray), h ∈ xs.foldl (fun t x => addT t x.g) l ↔ h ∈ l ∨ ∃ x, x ∈ xs ∧ x.g = h := by
  induction xs with
  | nil => intro l h; simp
  | cons y xs ih =>
    intro l h
    rw [List.foldl_cons, ih, addT_mem]
    constructor
    · rintro ((h1 | h1) | ⟨x, h1, h2⟩)
      · exact Or.inl h1
      · exact Or.inr ⟨y, by simp, h1.symm⟩
      · exact Or.inr ⟨x, by simp [h1], h2⟩
    · rintro (h1 | ⟨x, h1, h2⟩)
      · exact Or.inl (Or.inl h1)
      · rcases List.mem_cons.1 h1 with rfl | h1
        · exact Or.inl (Or.inr h2.symm)
        · exact Or.inr ⟨x, h1, h2⟩
theorem foldT_nodup (xs : List Sg) : ∀ (l : List ByteArray), l.Nodup → (xs.foldl (fun t x => addT t x.g) l).Nodup := by
  induction xs with
  | nil => intro l h; exact h
  | cons y xs ih => intro l h; exact ih _ (addT_nodup h _)
theorem kn_mem (l : List Sg) (g : ByteArray) : g ∈ kn l ↔ ∃ x, x ∈ l ∧ x.g = g := by
  unfold kn
  rw [foldT_mem]
  simp
theorem kn_nodup (l : List Sg) : (kn l).Nodup := foldT_nodup l [] List.nodup_nil
/-- The sight that a read is. -/
def sight (c : Cf) (r : Nat) (s : St) (x : FrmM.Rd) : Sg := ⟨c.pl r x.a.toNat, x.s, (s.now : Int) - x.g, x.t⟩
/-- G2: a read. -/
def St.read (c : Cf) (r : Nat) (s : St) (x : FrmM.Rd) : St :=
  if InA.knd x.t = 0 then { s with bad := s.bad + 1 }
  else if c.pl r x.a.toNat = -1 then { s with nowh := s.nowh + 1 }
  else if hasT (kn s.all) x.t = false ∧ 12 ≤ (kn s.all).length then { s with full := s.full + 1 }
  else if EpM.addF c.len c.late s.now (sight c r s x) ≠ 0 then { s with late := s.late + 1 }
  else { s with all := s.all ++ [sight c r s x] }
def St.heat (r : Nat) (s : St) (f : FrmM.Fr) : St := if f.ty = 3 then { s with warm := upd s.warm r f.wm } else s
/-- G2: a frame. -/
def St.hear (c : Cf) (r : Nat) (s : St) (f : FrmM.Fr) : St := f.rs.foldl (St.read c r) (s.heat r f)
def St.line (r : Nat) (s : St) (R : List UInt8) (n : Nat) : St := { s with rest := upd s.rest r R, lost := upd s.lost r n }
/-- G2: bytes. -/
def St.feed (c : Cf) (r : Nat) (s : St) (b : List UInt8) : St :=
  (FrmM.feed (s.rest r ++ b)).1.foldl (St.hear c r) (s.line r (FrmM.feed (s.rest r ++ b)).2.2 (s.lost r + (FrmM.feed (s.rest r ++ b)).2.1))
def St.tick (s : St) (n : Nat) : St := { s with now := s.now + n }
/-- How many epochs are closed. -/
def St.cl (c : Cf) (s : St) : Nat := EpM.closedN c.len c.late s.now
theorem read_line (c : Cf) (r r' : Nat) (s : St) (x : FrmM.Rd) (R : List UInt8) (n : Nat) : (s.line r' R n).read c r x = (s.read c r x).line r' R n := by
  unfold St.read St.line sight
  simp only
  repeat' split
  all_goals rfl
theorem reads_line (c : Cf) (r r' : Nat) (R : List UInt8) (n : Nat) : ∀ (l : List FrmM.Rd) (s : St), l.foldl (St.read c r) (s.line r' R n) = (l.foldl (St.read c r) s).line r' R n
  | [], s => rfl
  | x :: l, s => by rw [List.foldl_cons, List.foldl_cons, read_line, reads_line c r r' R n l]
theorem heat_line (r r' : Nat) (s : St) (f : FrmM.Fr) (R : List UInt8) (n : Nat) : (s.line r' R n).heat r f = (s.heat r f).line r' R n := by
  unfold St.heat
  split <;> rfl
theorem hear_line (c : Cf) (r r' : Nat) (s : St) (f : FrmM.Fr) (R : List UInt8) (n : Nat) : (s.line r' R n).hear c r f = (s.hear c r f).line r' R n := by
  unfold St.hear
  rw [heat_line, reads_line]
theorem hears_line (c : Cf) (r r' : Nat) (R : List UInt8) (n : Nat) : ∀ (l : List FrmM.Fr) (s : St), l.foldl (St.hear c r) (s.line r' R n) = (l.foldl (St.hear c r) s).line r' R n
  | [], s => rfl
  | x :: l, s => by rw [List.foldl_cons, List.foldl_cons, hear_line, hears_line c r r' R n l]
theorem line_line (r : Nat) (s : St) (R R' : List UInt8) (n n' : Nat) : (s.line r R n).line r R' n' = s.line r R' n' := by
  unfold St.line
  simp only [upd_upd]
theorem read_rest (c : Cf) (r : Nat) (s : St) (x : FrmM.Rd) : (s.read c r x).rest = s.rest ∧ (s.read c r x).lost = s.lost ∧ (s.read c r x).now = s.now ∧ (s.read c r x).warm = s.warm := by
  unfold St.read
  repeat' split
  all_goals exact ⟨rfl, rfl, rfl, rfl⟩
theorem reads_rest (c : Cf) (r : Nat) : ∀ (l : List FrmM.Rd) (s : St), (l.foldl (St.read c r) s).rest = s.rest ∧ (l.foldl (St.read c r) s).lost = s.lost ∧ (l.foldl (St.read c r) s).now = s.now ∧ (l.foldl (St.read c r) s).warm = s.warm
  | [], s => ⟨rfl, rfl, rfl, rfl⟩
  | x :: l, s => by
    obtain ⟨h1, h2, h3, h4⟩ := reads_rest c r l (s.read c r x)
    obtain ⟨k1, k2, k3, k4⟩ := read_rest c r s x
    rw [List.foldl_cons]
    exact ⟨h1.trans k1, h2.trans k2, h3.trans k3, h4.trans k4⟩
theorem hear_rest (c : Cf) (r : Nat) (s : St) (f : FrmM.Fr) : (s.hear c r f).rest = s.rest ∧ (s.hear c r f).lost = s.lost ∧ (s.hear c r f).now = s.now := by
  unfold St.hear
  obtain ⟨h1, h2, h3, _⟩ := reads_rest c r f.rs (s.heat r f)
  have : (s.heat r f).rest = s.rest ∧ (s.heat r f).lost = s.lost ∧ (s.heat r f).now = s.now := by unfold St.heat; split <;> exact ⟨rfl, rfl, rfl⟩
  exact ⟨h1.trans this.1, h2.trans this.2.1, h3.trans this.2.2⟩
theorem hears_rest (c : Cf) (r : Nat) : ∀ (l : List FrmM.Fr) (s : St), (l.foldl (St.hear c r) s).rest = s.rest ∧ (l.foldl (St.hear c r) s).lost = s.lost ∧ (l.foldl (St.hear c r) s).now = s.now
  | [], s => ⟨rfl, rfl, rfl⟩
  | x :: l, s => by
    obtain ⟨h1, h2, h3⟩ := hears_rest c r l (s.hear c r x)
    obtain ⟨k1, k2, k3⟩ := hear_rest c r s x
    rw [List.foldl_cons]
    exact ⟨h1.trans k1, h2.trans k2, h3.trans k3⟩
theorem feed_now (c : Cf) (r : Nat) (s : St) (b : List UInt8) : (s.feed c r b).now = s.now := (hears_rest c r _ _).2.2
/-- However bytes are cut. -/
theorem feed_feed (c : Cf) (r : Nat) (s : St) (a b : List UInt8) : (s.feed c r a).feed c r b = s.feed c r (a ++ b) := by
  have e1 : (s.feed c r a).rest r = (FrmM.feed (s.rest r ++ a)).2.2 := by
    unfold St.feed
    rw [(hears_rest c r _ _).1]
    exact upd_same _ _ _
  have e2 : (s.feed c r a).lost r = s.lost r + (FrmM.feed (s.rest r ++ a)).2.1 := by
    unfold St.feed
    rw [(hears_rest c r _ _).2.1]
    exact upd_same _ _ _
  have e3 := FrmM.feed_append (s.rest r ++ a) b
  rw [List.append_assoc] at e3
  rw [St.feed, e1, e2]
  unfold St.feed
  rw [e3]
  simp only
  rw [← hears_line, line_line, List.foldl_append, Nat.add_assoc]
/-- How many bytes and reads it took up. -/
def St.cnt (s : St) : Nat := s.all.length + s.bad + s.nowh + s.late + s.full
theorem read_cnt (c : Cf) (r : Nat) (s : St) (x : FrmM.Rd) : (s.read c r x).cnt = s.cnt + 1 := by
  unfold St.read St.cnt
  repeat' split
  all_goals simp; omega
theorem reads_cnt (c : Cf) (r : Nat) : ∀ (l : List FrmM.Rd) (s : St), (l.foldl (St.read c r) s).cnt = s.cnt + l.length
  | [], s => rfl
  | x :: l, s => by rw [List.foldl_cons, reads_cnt c r l, read_cnt, List.length_cons]; omega
theorem hear_cnt (c : Cf) (r : Nat) (s : St) (f : FrmM.Fr) : (s.hear c r f).cnt = s.cnt + f.rs.length := by
  unfold St.hear
  rw [reads_cnt]
  congr 1
  unfold St.heat
  split <;> rfl
def rdsN (l : List FrmM.Fr) : Nat := (l.map (fun f => f.rs.length)).sum
theorem hears_cnt (c : Cf) (r : Nat) : ∀ (l : List FrmM.Fr) (s : St), (l.foldl (St.hear c r) s).cnt = s.cnt + rdsN l
  | [], s => rfl
  | x :: l, s => by
    rw [List.foldl_cons, hears_cnt c r l, hear_cnt]
    have : rdsN (x :: l) = x.rs.length + rdsN l := by simp [rdsN]
    omega
theorem rdsN_le : ∀ (l : List FrmM.Fr), (∀ f ∈ l, FrmM.Ok f) → rdsN l ≤ FrmM.bytesOfAll l
  | [], _ => Nat.le_refl _
  | x :: l, h => by
    have h1 := rdsN_le l (fun f hf => h f (by simp [hf]))
    have h2 := FrmM.enc_len x
    have h3 := FrmM.body_len (h x (by simp))
    have e1 : rdsN (x :: l) = x.rs.length + rdsN l := by simp [rdsN]
    have e2 : FrmM.bytesOfAll (x :: l) = (FrmM.enc x).length + FrmM.bytesOfAll l := by simp [FrmM.bytesOfAll]
    omega
/-- All that was fed, and what came of it. -/
def St.sum (s : St) : Nat := s.cnt + ((s.rest 0).length + (s.rest 1).length + (s.rest 2).length + (s.rest 3).length) + (s.lost 0 + s.lost 1 + s.lost 2 + s.lost 3)
theorem sum_rest {s : St} {r : Nat} (h : r < 4) : s.cnt + (s.rest r).length + s.lost r ≤ s.sum := by
  unfold St.sum
  match r, h with
  | 0, _ => omega
  | 1, _ => omega
  | 2, _ => omega
  | 3, _ => omega
theorem feed_sum (c : Cf) (r : Nat) (s : St) (b : List UInt8) (hr : r < 4) : (s.feed c r b).sum ≤ s.sum + b.length := by
  have h1 := FrmM.feed_sum (s.rest r ++ b)
  have h2 := rdsN_le _ (FrmM.feed_ok (s.rest r ++ b))
  have h3 := hears_cnt c r (FrmM.feed (s.rest r ++ b)).1 (s.line r (FrmM.feed (s.rest r ++ b)).2.2 (s.lost r + (FrmM.feed (s.rest r ++ b)).2.1))
  obtain ⟨k1, k2, _⟩ := hears_rest c r (FrmM.feed (s.rest r ++ b)).1 (s.line r (FrmM.feed (s.rest r ++ b)).2.2 (s.lost r + (FrmM.feed (s.rest r ++ b)).2.1))
  have h4 : (s.line r (FrmM.feed (s.rest r ++ b)).2.2 (s.lost r + (FrmM.feed (s.rest r ++ b)).2.1)).cnt = s.cnt := rfl
  rw [List.length_append] at h1
  unfold St.sum St.feed
  rw [k1, k2, h3, h4]
  unfold St.line upd
  simp only
  match r, hr with
  | 0, _ => simp; omega
  | 1, _ => simp; omega
  | 2, _ => simp; omega
  | 3, _ => simp; omega
end Go.Proofs.YtmolafjalaeoaaaGreatDoor.WaM
