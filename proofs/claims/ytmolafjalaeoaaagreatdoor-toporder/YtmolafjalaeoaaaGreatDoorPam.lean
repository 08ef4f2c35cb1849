/-
  What Where, isAt and Comes do to the world. · What Tell does to the world.
-/
import Derived.Test.YtmolafjalaeoaaaGreatDoorPal
namespace Go.Proofs.YtmolafjalaeoaaaGreatDoor.TkA
open Go.RowKit TkM TkW Go.Maps
set_option maxRecDepth 100000
/-- What Where answers: a place, and an error's number. -/
def wv (n : Nat) (t : Bool) (e : Int) (v : Int) : Int × Nat := if 0 ≤ e ∧ e < (n : Int) then (if t = true then (v, 0) else (0, 5)) else (0, 1)
section
variable {w : World} {tb : Nat} {who : Nat → Nat × ByteArray × Nat} {W need n r : Nat} {ep : Nat → List Sg}
set_option maxHeartbeats 400000 in
theorem where_out (g : ByteArray) (e : Int) (d : TrAt w tb who W need n r ep) (hn : n ≤ 1000) (he : ¬ (0 ≤ e ∧ e < (n : Int))) :
    Calls Tryz.prog 65 #[.pointer (some ⟨tb, 0, none⟩), .string g, .int .i64 e] w fun x w' => x = .returned (.tuple #[.int .i64 0, .iface 105 (.int .i64 1)]) ∧ w' = w := by
  obtain ⟨mb, m, D, tr, sp, d⟩ := d.out
  have c2 := d.c2
  have hnI : (n : Int) ≤ 1000 := by omega
  have b1 : btw e 0 ((n : Int) - 1) = false := by simp [btw]; omega
  clear d he
  go_enter Tryz.func65, Tryz.ntmps65
  go_wp2_with fail
  refine (between_is b1 _).mono ?_
  rintro x w' ⟨rfl, rfl⟩
  go_wp2
  go_ret2
  exact ⟨rfl, rfl⟩
set_option maxHeartbeats 400000 in
theorem where_none (g : ByteArray) (e : Nat) (d : TrAt w tb who W need n r ep) (hn : n ≤ 1000) (he : e < n) (hg : g.size ≤ 100000) (ht : ¬ ∃ e, seenG g (ep e) = true) :
    Calls Tryz.prog 65 #[.pointer (some ⟨tb, 0, none⟩), .string g, .int .i64 (e : Int)] w fun x w' => x = .returned (.tuple #[.int .i64 0, .iface 105 (.int .i64 5)]) ∧ w' = w := by
  obtain ⟨mb, m, D, tr, sp, d⟩ := d.out
  have c2 := d.c2
  have c3 := d.c3
  have hnI : (n : Int) ≤ 1000 := by omega
  have b1 : btw (e : Int) 0 ((n : Int) - 1) = true := by simp [btw]; omega
  have hT : tr g = none := by
    cases h : tr g with
    | none => rfl
    | some b => exact absurd ((d.told g).1 (by rw [h]; rfl)) ht
  have hrun : (Instr.lookup 162 (.map (some mb)) (.string g) false).run Tryz.prog w = .ok (.map none) w := held_run d.own law9 Tryz.underlying162 zero125 (key9 (g := g) (by unfold maxLen; omega)) (fun zd => by rw [d.key g, hT])
  have q1 := eqn125
  clear d he ht hT
  go_enter Tryz.func65, Tryz.ntmps65
  go_wp2_with fail
  refine (between_is b1 _).mono ?_
  rintro x w' ⟨rfl, rfl⟩
  go_wp2
  go_ret2
  exact ⟨rfl, rfl⟩
set_option maxHeartbeats 400000 in
theorem where_told (g : ByteArray) (e : Nat) (d : TrAt w tb who W need n r ep) (hW : W ≤ 8) (hn : n ≤ 1000) (he : e < n) (hg : g.size ≤ 100000) (ht : ∃ e, seenG g (ep e) = true) :
    Calls Tryz.prog 65 #[.pointer (some ⟨tb, 0, none⟩), .string g, .int .i64 (e : Int)] w fun x w' => x = .returned (.tuple #[.int .i64 (whr g ep W need e), .nilIface]) ∧ Below w.heap.size w w' := by
  have HD : Hid (TrAt w tb who W need n r ep) := d
  obtain ⟨mb, m, D, tr, sp, d⟩ := d.out
  have c2 := d.c2
  have c3 := d.c3
  have hnI : (n : Int) ≤ 1000 := by omega
  have b1 : btw (e : Int) 0 ((n : Int) - 1) = true := by simp [btw]; omega
  obtain ⟨T, hT⟩ : ∃ T, tr g = some T := Option.isSome_iff_exists.1 ((d.told g).2 ht)
  have hrun : (Instr.lookup 162 (.map (some mb)) (.string g) false).run Tryz.prog w = .ok (.map (some T)) w := held_run d.own law9 Tryz.underlying162 zero125 (key9 (g := g) (by unfold maxLen; omega)) (fun zd => by rw [d.key g, hT])
  have q1 := eql125 T
  have HC : Hid (Calls Tryz.prog 99 #[.pointer (some ⟨tb, 0, none⟩), .map (some T), .int .i64 (e : Int)] w fun x w' => x = .returned (.agg (tal (cW g ep W e) (sW g ep W e))) ∧ Below w.heap.size w w') := count_any g e d hT hW (by omega)
  clear d he ht hT
  unfold whr
  generalize cW g ep W e = c at HC ⊢
  generalize sW g ep W e = s at HC ⊢
  go_enter Tryz.func65, Tryz.ntmps65
  go_wp2_with fail
  refine (between_is b1 _).mono ?_
  rintro x w' ⟨rfl, rfl⟩
  go_wp2_with fail
  refine HC.out.mono ?_
  rintro x w1 ⟨rfl, hb1⟩
  have HB1 : Hid (Below w'.heap.size w' w1) := hb1
  clear hb1 hrun c2 c3 q1 HC
  go_wp2_with fail
  refine (best_any c s (HD.out.below HB1.out)).mono ?_
  rintro x w2 ⟨rfl, hb2⟩
  have HB2 : Hid (Below w'.heap.size w' w2) := HB1.out.trans (hb2.mono HB1.out.size)
  clear hb2
  go_wp2
  go_ret2
  exact ⟨rfl, HB2.out⟩
theorem where_any (g : ByteArray) (e : Int) {t : Bool} (d : TrAt w tb who W need n r ep) (hW : W ≤ 8) (hn : n ≤ 1000) (hg : g.size ≤ 100000) (ht : t = true ↔ ∃ e, seenG g (ep e) = true) :
    Calls Tryz.prog 65 #[.pointer (some ⟨tb, 0, none⟩), .string g, .int .i64 e] w fun x w' => x = .returned (.tuple #[.int .i64 (wv n t e (whr g ep W need e.toNat)).1, errV (wv n t e (whr g ep W need e.toNat)).2]) ∧ Below w.heap.size w w' := by
  unfold wv
  by_cases he : 0 ≤ e ∧ e < (n : Int)
  · rw [if_pos he]
    obtain ⟨k, rfl⟩ : ∃ k : Nat, e = (k : Int) := ⟨e.toNat, by omega⟩
    rw [Int.toNat_natCast]
    cases t with
    | true => exact where_told g k d hW hn (by omega) hg (ht.1 rfl)
    | false =>
      refine (where_none g k d hn (by omega) hg (fun h => by have := ht.2 h; cases this)).mono ?_
      rintro x w' ⟨rfl, rfl⟩
      exact ⟨rfl, Below.refl _ _⟩
  · rw [if_neg he]
    refine (where_out g e d hn he).mono ?_
    rintro x w' ⟨rfl, rfl⟩
    exact ⟨rfl, Below.refl _ _⟩
/-- Is it at that place? -/
def isA (n : Nat) (t : Bool) (p e v : Int) : Bool := decide ((wv n t e v).2 = 0) && decide (0 ≤ p) && decide ((wv n t e v).1 = p)
set_option maxHeartbeats 400000 in
theorem isAt_any (g : ByteArray) (p e : Int) {t : Bool} (d : TrAt w tb who W need n r ep) (hW : W ≤ 8) (hn : n ≤ 1000) (hg : g.size ≤ 100000) (ht : t = true ↔ ∃ e, seenG g (ep e) = true) :
    Calls Tryz.prog 140 #[.pointer (some ⟨tb, 0, none⟩), .string g, .int .i64 p, .int .i64 e] w fun x w' => x = .returned (.bool (isA n t p e (whr g ep W need e.toNat))) ∧ Below w.heap.size w w' := by
  have HC : Hid (Calls Tryz.prog 65 #[.pointer (some ⟨tb, 0, none⟩), .string g, .int .i64 e] w fun x w' => x = .returned (.tuple #[.int .i64 (wv n t e (whr g ep W need e.toNat)).1, errV (wv n t e (whr g ep W need e.toNat)).2]) ∧ Below w.heap.size w w') := where_any g e d hW hn hg ht
  clear d ht
  unfold isA
  generalize wv n t e (whr g ep W need e.toNat) = a at *
  obtain ⟨q, k⟩ := a
  simp only at *
  by_cases hk : k = 0
  · subst hk
    rw [show errV 0 = .nilIface from rfl] at HC
    by_cases hp : 0 ≤ p
    · have hp' : decide (0 ≤ p) = true := by simpa using hp
      have he : decide (q = p) = (q == p) := by rw [Bool.eq_iff_iff]; simp
      rw [hp', he]
      simp only [decide_true, Bool.true_and]
      clear hp' he
      go_enter Tryz.func140, Tryz.ntmps140
      go_wp2_with fail
      refine HC.out.mono ?_
      rintro x w1 ⟨rfl, hb1⟩
      have HB1 : Hid (Below w.heap.size w w1) := hb1
      clear hb1
      go_wp2
      go_ret
      exact ⟨rfl, HB1.out⟩
    · have hp' : decide (0 ≤ p) = false := by simpa using hp
      rw [hp']
      simp only [Bool.and_false, Bool.false_and]
      clear hp
      go_enter Tryz.func140, Tryz.ntmps140
      go_wp2_with fail
      refine HC.out.mono ?_
      rintro x w1 ⟨rfl, hb1⟩
      have HB1 : Hid (Below w.heap.size w w1) := hb1
      clear hb1
      go_wp2
      go_ret
      exact ⟨rfl, HB1.out⟩
  · rw [errV_pos hk] at HC
    have hk' : decide (k = 0) = false := by simpa using hk
    rw [hk']
    simp only [Bool.false_and]
    clear hk'
    go_enter Tryz.func140, Tryz.ntmps140
    go_wp2_with fail
    refine HC.out.mono ?_
    rintro x w1 ⟨rfl, hb1⟩
    have HB1 : Hid (Below w.heap.size w w1) := hb1
    clear hb1
    go_wp2
    go_ret
    exact ⟨rfl, HB1.out⟩
/-- Does it come there? -/
def comesB (n : Nat) (t : Bool) (p e : Int) (f : Int → Int) : Bool := isA n t p e (f e) && !isA n t p (e - 1) (f (e - 1))
set_option maxHeartbeats 400000 in
theorem comes_any (g : ByteArray) (p e : Int) {t : Bool} (d : TrAt w tb who W need n r ep) (hW : W ≤ 8) (hn : n ≤ 1000) (hg : g.size ≤ 100000) (ht : t = true ↔ ∃ e, seenG g (ep e) = true) (he0 : -1000 ≤ e) (he1 : e ≤ 1000) :
    Calls Tryz.prog 115 #[.pointer (some ⟨tb, 0, none⟩), .string g, .int .i64 p, .int .i64 e] w fun x w' => x = .returned (.bool (comesB n t p e (fun e => whr g ep W need e.toNat))) ∧ Below w.heap.size w w' := by
  have HC : Hid (Calls Tryz.prog 140 #[.pointer (some ⟨tb, 0, none⟩), .string g, .int .i64 p, .int .i64 e] w fun x w' => x = .returned (.bool (isA n t p e (whr g ep W need e.toNat))) ∧ Below w.heap.size w w') := isAt_any g p e d hW hn hg ht
  have HC2 : Hid (∀ V : World, Below w.heap.size w V → Calls Tryz.prog 140 #[.pointer (some ⟨tb, 0, none⟩), .string g, .int .i64 p, .int .i64 (e - 1)] V fun x w' => x = .returned (.bool (isA n t p (e - 1) (whr g ep W need (e - 1).toNat))) ∧ Below V.heap.size V w') := fun V hb => isAt_any g p (e - 1) (d.below hb) hW hn hg ht
  clear d ht
  unfold comesB
  generalize isA n t p e (whr g ep W need e.toNat) = a at *
  generalize isA n t p (e - 1) (whr g ep W need (e - 1).toNat) = b at *
  cases a with
  | false =>
    simp only [Bool.false_and]
    go_enter Tryz.func115, Tryz.ntmps115
    go_wp2_with fail
    refine HC.out.mono ?_
    rintro x w1 ⟨rfl, hb1⟩
    have HB1 : Hid (Below w.heap.size w w1) := hb1
    clear hb1
    go_wp2
    go_ret
    exact ⟨rfl, HB1.out⟩
  | true =>
    simp only [Bool.true_and]
    go_enter Tryz.func115, Tryz.ntmps115
    go_wp2_with fail
    refine HC.out.mono ?_
    rintro x w1 ⟨rfl, hb1⟩
    have HB1 : Hid (Below w.heap.size w w1) := hb1
    clear hb1
    go_wp2_with fail
    refine (HC2.out _ HB1.out).mono ?_
    rintro x w2 ⟨rfl, hb2⟩
    have HB2 : Hid (Below w.heap.size w w2) := HB1.out.trans (hb2.mono HB1.out.size)
    clear hb2
    go_wp2
    go_ret
    exact ⟨rfl, HB2.out⟩
end
end Go.Proofs.YtmolafjalaeoaaaGreatDoor.TkA
namespace Go.Proofs.YtmolafjalaeoaaaGreatDoor.TkA
open Go.RowKit TkM TkW Go.Maps
set_option maxRecDepth 100000
/-- The epochs, and one that is being told. -/
def epc (ep : Nat → List Sg) (n : Nat) (l : List Sg) (e : Nat) : List Sg := if e = n then l else ep e
theorem epc_step {ep : Nat → List Sg} {n : Nat} {l : List Sg} {k : Nat} {x : Sg} (hx : l[k]? = some x) : ep1 (epc ep n (l.take k)) n x = epc ep n (l.take (k + 1)) := by
  funext e
  unfold ep1 epc
  by_cases h : e = n
  · rw [if_pos h, if_pos h, if_pos rfl, List.take_add_one, hx]
    rfl
  · rw [if_neg h, if_neg h, if_neg h]
theorem epc_nil {ep : Nat → List Sg} {n : Nat} (h : ep n = []) (l : List Sg) : epc ep n (l.take 0) = ep := by
  funext e
  unfold epc
  by_cases he : e = n
  · rw [if_pos he, he, h]; rfl
  · rw [if_neg he]
section
variable {w : World} {tb : Nat} {who : Nat → Nat × ByteArray × Nat} {W need n r : Nat} {ep : Nat → List Sg}
set_option maxHeartbeats 1000000 in
theorem tell_ok0 (l : List Sg) (p : Option Addr) (cap : Nat) (d : TrAt w tb who W need n r ep) (hl : l.length ≤ 6000) (hs : SgsOn w p l) (hap : l ≠ [] → ∀ b o, p = some ⟨b, o, none⟩ → ¬ of who b) (hok : ∀ x, x ∈ l → okS x = true) (hg : ∀ x, x ∈ l → x.g.size ≤ 100000) (hn : n ≤ 1000) (hr : r ≤ 90000) (he : ep n = []) :
    Calls Tryz.prog 76 #[.pointer (some ⟨tb, 0, none⟩), .slice p l.length cap] w fun e w' => e = .returned .nilIface ∧ ∃ who', TrAt w' tb who' W need (n + 1) (r + l.length) (epc ep n l) ∧ Kp (of who) w w' ∧ ∀ b, of who' b → of who b ∨ w.heap.size ≤ b := by
  obtain ⟨N, hN⟩ : ∃ N, N = l.length := ⟨_, rfl⟩
  have HN : Hid (N = l.length) := hN
  rw [← hN] at hl ⊢
  have HD : Hid (TrAt w tb who W need n r ep) := d
  have HS : Hid (SgsOn w p l) := hs
  have HAP : Hid (l ≠ [] → ∀ b o, p = some ⟨b, o, none⟩ → ¬ of who b) := hap
  have HOK : Hid (∀ x, x ∈ l → okS x = true) := hok
  have HG : Hid (∀ x, x ∈ l → x.g.size ≤ 100000) := hg
  have HE : Hid (ep n = []) := he
  have hNI : (N : Int) ≤ 6000 := by omega
  clear hN d hs hap hok hg he
  go_enter Tryz.func76, Tryz.ntmps76
  go_wp2
  go_loopw [6, 11] (fun _ i V => ∃ k : Nat, k ≤ N ∧ i = .int .i64 (k : Int) ∧ Below w.heap.size w V) (fun _ i _ => N - (intOf i).toNat)
  case atStart => exact ⟨0, Nat.zero_le _, rfl, Below.refl _ _⟩
  case round =>
    obtain ⟨k, hk, rfl, hbl⟩ := hrel
    by_cases hlt : k < N
    case pos =>
      have hkI : (k : Int) < N := by omega
      have hk' : k < l.length := by rw [← HN.out]; exact hlt
      have hne : l ≠ [] := by intro e; rw [e] at hk'; simp at hk'
      obtain ⟨b, o, rfl, hb, hc⟩ := HS.out.at_ hne
      have hx := HOK.out _ (List.getElem_mem hk')
      obtain ⟨a0, a1, a2, a3⟩ := (hc k _ (List.getElem?_eq_getElem hk')).keep (hbl.block b hb)
      generalize l[k] = x at *
      obtain ⟨xp, xs, xt, xg⟩ := x
      simp only at a0 a1 a2 a3 hx
      obtain ⟨⟨h0, h1⟩, h2, h3⟩ := okS_iff.1 hx
      simp only at h0 h1 h2 h3
      have b1 : btw xp 0 7 = true := by simp [btw]; omega
      have b2 : btw xs 0 255 = true := by simp [btw]; omega
      have HB : Hid (Below w.heap.size w wr) := hbl
      clear hc hbl hx h0 h1 h2 h3
      go_wp2_with fail
      refine (between_is b1 _).mono ?_
      rintro e w' ⟨rfl, rfl⟩
      go_wp2_with fail
      refine (between_is b2 _).mono ?_
      rintro e w' ⟨rfl, rfl⟩
      go_wp2
      go_roundw
      case rel => exact ⟨k + 1, by omega, by go_num, HB.out.alloc HB.out.size _⟩
      case measure => simp [intOf]; omega
    case neg =>
      have hkk : k = N := by omega
      subst hkk
      have HB : Hid (Below w.heap.size w wr) := hbl
      have hI : ¬ (k : Int) < k := by omega
      clear hbl hlt
      obtain ⟨V1, hV1⟩ : ∃ V1, V1 = wr := ⟨_, rfl⟩
      rw [← hV1] at HB ⊢
      clear hV1
      go_wp2
      clear hI
      go_loopw [8, 29] (fun _ i V => ∃ (j : Nat) (who' : Nat → Nat × ByteArray × Nat), j ≤ k ∧ i = .int .i64 (j : Int) ∧ TrAt V tb who' W need n (r + j) (epc ep n (l.take j)) ∧ Kp (of who) w V ∧ ∀ b, of who' b → of who b ∨ w.heap.size ≤ b) (fun _ i _ => k - (intOf i).toNat)
      case atStart => exact ⟨0, who, Nat.zero_le _, rfl, by rw [epc_nil HE.out]; exact HD.out.below HB.out, below_kp HB.out _, fun b h => Or.inl h⟩
      case round =>
        obtain ⟨j, who', hj, rfl, hd, hkp, hsub⟩ := hrel
        by_cases hlt : j < k
        case pos =>
          have hjI : (j : Int) < k := by omega
          have hj' : j < l.length := by rw [← HN.out]; exact hlt
          have hne : l ≠ [] := by intro e; rw [e] at hj'; simp at hj'
          obtain ⟨b, o, rfl, hb, hc⟩ := HS.out.at_ hne
          have hx := HOK.out _ (List.getElem_mem hj')
          have hg := HG.out _ (List.getElem_mem hj')
          have hst := epc_step (ep := ep) (n := n) (List.getElem?_eq_getElem hj')
          obtain ⟨a0, a1, a2, a3⟩ := (hc j _ (List.getElem?_eq_getElem hj')).keep (hkp.block b hb (HAP.out hne b o rfl))
          generalize l[j] = x at *
          obtain ⟨xp, xs, xt, xg⟩ := x
          simp only at a0 a1 a2 a3
          have hlen : (epc ep n (l.take j) n).length < 6000 := by
            unfold epc
            rw [if_pos rfl, List.length_take]
            omega
          have HK : Hid (∀ o, Calls Tryz.prog 108 #[.pointer (some ⟨tb, 0, none⟩), .agg #[.int .i64 xp, .int .i64 xs, .int .i64 xt, .string xg]] (wr.alloc o) fun e w' => e = .returned (.tuple #[]) ∧ ∃ who2, TrAt w' tb who2 W need n (r + (j + 1)) (epc ep n (l.take (j + 1))) ∧ Kp (of who) w w' ∧ ∀ b, of who2 b → of who b ∨ w.heap.size ≤ b) := by
            intro ob
            have hb1 : Below wr.heap.size wr (wr.alloc ob) := (Below.refl _ wr).alloc (Nat.le_refl _) ob
            refine (keep_any ⟨xp, xs, xt, xg⟩ (hd.below hb1) hx hg (by omega) (by omega) hlen).mono ?_
            rintro e w' ⟨rfl, who2, h1, h2, h3⟩
            rw [hst] at h1
            have hz := hkp.size
            refine ⟨rfl, who2, h1, (hkp.trans (below_kp hb1 _)).then h2 (fun i hi h => (hsub i h).resolve_right (by omega)), fun b hb => ?_⟩
            rcases h3 b hb with h | h
            · exact hsub b h
            · right
              have := hb1.size
              omega
          clear hc hd hkp hsub hx hst hlen
          go_wp2_with fail
          refine (HK.out _).mono ?_
          rintro e w2 ⟨rfl, hex⟩
          have HX : Hid (∃ who2, TrAt w2 tb who2 W need n (r + (j + 1)) (epc ep n (l.take (j + 1))) ∧ Kp (of who) w w2 ∧ ∀ b, of who2 b → of who b ∨ w.heap.size ≤ b) := hex
          clear hex
          go_wp2
          go_roundw
          case rel =>
            obtain ⟨who2, h1, h2, h3⟩ := HX.out
            exact ⟨j + 1, who2, by omega, by go_num, h1, h2, h3⟩
          case measure => simp [intOf]; omega
        case neg =>
          have hjj : j = k := by omega
          subst hjj
          have hI : ¬ (j : Int) < j := by omega
          obtain ⟨mb, m, D, tr, sp, d⟩ := hd.out
          have c2 := d.c2
          have f2 := d.fz 2
          have htk : l.take j = l := by rw [HN.out]; exact List.take_length
          rw [htk] at d
          have HF : Hid (∃ who', TrAt (wr.setCell ⟨tb, 2, none⟩ (.int .i64 ((n : Int) + 1))) tb who' W need (n + 1) (r + j) (epc ep n l) ∧ Kp (of who) w (wr.setCell ⟨tb, 2, none⟩ (.int .i64 ((n : Int) + 1))) ∧ ∀ b, of who' b → of who b ∨ w.heap.size ≤ b) := by
            refine ⟨who', ⟨mb, m, D, tr, sp, d.next (by simp)⟩, hkp.trans (set_kp _ _ _ ?_), hsub⟩
            exact (hsub tb d.ft).resolve_right (by have := HD.out.lt; omega)
          have hnI : (n : Int) ≤ 1000 := by omega
          clear d hd hkp hsub hlt htk
          go_wp2
          go_ret
          exact ⟨rfl, HF.out⟩
set_option maxHeartbeats 1000000 in
theorem tell_bad (l : List Sg) (p : Option Addr) (cap : Nat) (hl : l.length ≤ 6000) (hs : SgsOn w p l) (hok : ¬ ∀ x, x ∈ l → okS x = true) :
    Calls Tryz.prog 76 #[.pointer (some ⟨tb, 0, none⟩), .slice p l.length cap] w fun e w' => e = .returned (.iface 105 (.int .i64 1)) ∧ Below w.heap.size w w' := by
  obtain ⟨N, hN⟩ : ∃ N, N = l.length := ⟨_, rfl⟩
  have HN : Hid (N = l.length) := hN
  rw [← hN] at hl ⊢
  have HS : Hid (SgsOn w p l) := hs
  have HOK : Hid (¬ ∀ x, x ∈ l → okS x = true) := hok
  have hNI : (N : Int) ≤ 6000 := by omega
  clear hN hs hok
  go_enter Tryz.func76, Tryz.ntmps76
  go_wp2
  go_loopw [6, 11] (fun _ i V => ∃ k : Nat, k ≤ N ∧ i = .int .i64 (k : Int) ∧ Below w.heap.size w V ∧ ∀ x, x ∈ l.take k → okS x = true) (fun _ i _ => N - (intOf i).toNat)
  case atStart => exact ⟨0, Nat.zero_le _, rfl, Below.refl _ _, fun x hx => by simp at hx⟩
  case round =>
    obtain ⟨k, hk, rfl, hbl, hall⟩ := hrel
    by_cases hlt : k < N
    case pos =>
      have hkI : (k : Int) < N := by omega
      have hk' : k < l.length := by rw [← HN.out]; exact hlt
      have hne : l ≠ [] := by intro e; rw [e] at hk'; simp at hk'
      obtain ⟨b, o, rfl, hb, hc⟩ := HS.out.at_ hne
      obtain ⟨a0, a1, a2, a3⟩ := (hc k _ (List.getElem?_eq_getElem hk')).keep (hbl.block b hb)
      have HA : Hid (okS l[k] = true → ∀ x, x ∈ l.take (k + 1) → okS x = true) := fun h x hx => by
        rw [List.take_add_one, List.getElem?_eq_getElem hk'] at hx
        rcases List.mem_append.1 hx with h' | h'
        · exact hall x h'
        · simp at h'; rw [h']; exact h
      have hokk : ∀ h : Bool, okS l[k] = h → okS ⟨l[k].p, l[k].s, l[k].t, l[k].g⟩ = h := fun h e => e
      generalize l[k] = x at *
      obtain ⟨xp, xs, xt, xg⟩ := x
      simp only at a0 a1 a2 a3
      have HB : Hid (Below w.heap.size w wr) := hbl
      clear hc hbl hall hokk
      cases b1 : btw xp 0 7 with
      | false =>
        go_wp2_with fail
        refine (between_is b1 _).mono ?_
        rintro e w' ⟨rfl, rfl⟩
        go_wp2
        go_ret
        exact ⟨rfl, HB.out.alloc HB.out.size _⟩
      | true =>
        cases b2 : btw xs 0 255 with
        | false =>
          go_wp2_with fail
          refine (between_is b1 _).mono ?_
          rintro e w' ⟨rfl, rfl⟩
          go_wp2_with fail
          refine (between_is b2 _).mono ?_
          rintro e w' ⟨rfl, rfl⟩
          go_wp2
          go_ret
          exact ⟨rfl, HB.out.alloc HB.out.size _⟩
        | true =>
          go_wp2_with fail
          refine (between_is b1 _).mono ?_
          rintro e w' ⟨rfl, rfl⟩
          go_wp2_with fail
          refine (between_is b2 _).mono ?_
          rintro e w' ⟨rfl, rfl⟩
          go_wp2
          go_roundw
          case rel =>
            refine ⟨k + 1, by omega, by go_num, HB.out.alloc HB.out.size _, HA.out (okS_iff.2 ?_)⟩
            simp [btw] at b1 b2
            simp only
            omega
          case measure => simp [intOf]; omega
    case neg =>
      have hkk : k = N := by omega
      subst hkk
      rw [HN.out, List.take_length] at hall
      exact absurd hall HOK.out
theorem tell_ok (l : List Sg) (p : Option Addr) (cap : Nat) (d : TrAt w tb who W need n r ep) (hl : l.length ≤ 6000) (hs : SgsOn w p l) (hap : ∀ b o, p = some ⟨b, o, none⟩ → ¬ of who b) (hok : ∀ x, x ∈ l → okS x = true) (hg : ∀ x, x ∈ l → x.g.size ≤ 100000) (hn : n ≤ 1000) (hr : r ≤ 90000) (he : ep n = []) :
    Calls Tryz.prog 76 #[.pointer (some ⟨tb, 0, none⟩), .slice p l.length cap] w fun e w' => e = .returned .nilIface ∧ ∃ who', TrAt w' tb who' W need (n + 1) (r + l.length) (epc ep n l) ∧ Kp (of who) w w' ∧ ∀ b, of who' b → of who b ∨ w.heap.size ≤ b := tell_ok0 l p cap d hl hs (fun _ => hap) hok hg hn hr he
theorem tell_any (l : List Sg) (p : Option Addr) (cap : Nat) (d : TrAt w tb who W need n r ep) (hl : l.length ≤ 6000) (hs : SgsOn w p l) (hap : ∀ b o, p = some ⟨b, o, none⟩ → ¬ of who b) (hg : ∀ x, x ∈ l → x.g.size ≤ 100000) (hn : n ≤ 1000) (hr : r ≤ 90000) (he : ep n = []) :
    Calls Tryz.prog 76 #[.pointer (some ⟨tb, 0, none⟩), .slice p l.length cap] w fun e w' => e = .returned (errV (if l.all okS = true then 0 else 1)) ∧ ∃ who', TrAt w' tb who' W need (if l.all okS = true then n + 1 else n) (if l.all okS = true then r + l.length else r) (if l.all okS = true then epc ep n l else ep) ∧ Kp (of who) w w' ∧ ∀ b, of who' b → of who b ∨ w.heap.size ≤ b := by
  by_cases h : l.all okS = true
  · simp only [if_pos h]
    exact tell_ok l p cap d hl hs hap (List.all_eq_true.1 h) hg hn hr he
  · simp only [if_neg h]
    refine (tell_bad l p cap hl hs (fun h' => h (List.all_eq_true.2 h'))).mono ?_
    rintro e w' ⟨rfl, hb⟩
    exact ⟨rfl, who, d.below hb, below_kp hb _, fun b h => Or.inl h⟩
end
end Go.Proofs.YtmolafjalaeoaaaGreatDoor.TkA
