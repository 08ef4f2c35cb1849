/-
  What SameEpochs does to the world.
-/
import Derived.Test.YtllhfbnafemoeaaEpK
namespace Go.Proofs.Ytllhfbnafemoeaa.EpA
open Go.RowKit EpM EpW Go.Maps
set_option maxRecDepth 100000

/-- A cell that a block below B holds is held on. -/
theorem keepCell {B : Nat} {w w' : World} {a : Addr} {v : Value} (hb : Below B w w') (ha : a.block < B) (h : w.cell? a = some v) : w'.cell? a = some v := by rw [hb.cell ha]; exact h
theorem EpAt.below {w w' : World} {b o : Nat} {f : Nat × List Sg} {p : Option Addr} {cap : Nat} (h : EpAt w b o f p cap) (hb : Below w.heap.size w w') (hlt : b < w.heap.size) : EpAt w' b o f p cap where
  c0 := keepCell hb hlt h.c0
  c1 := keepCell hb hlt h.c1
  sg := h.sg.move hb.size (fun b' _ _ h' => hb.block b' h')
theorem EpsOn.below {w w' : World} {a : Option Addr} {es : List (Nat × List Sg)} (h : EpsOn w a es) (hb : Below w.heap.size w w') : EpsOn w' a es where
  at_ := fun hne => by
    obtain ⟨b, o, rfl, hlt, hc⟩ := h.at_ hne
    refine ⟨b, o, rfl, Nat.lt_of_lt_of_le hlt hb.size, fun k e he => ?_⟩
    obtain ⟨p, cap, hp⟩ := hc k e he
    exact ⟨p, cap, EpAt.below hp hb hlt⟩
set_option maxHeartbeats 1000000 in
theorem sameEpochs_any (es : List (Nat × List Sg)) (a a' : Option Addr) (c c' : Nat) (w : World) (hl : es.length ≤ 100000) (h : EpsOn w a es) (h' : EpsOn w a' es) (hrl : ∀ f ∈ es, f.2.length ≤ 100000) :
    Calls Try.prog 24 #[.slice a es.length c, .slice a' es.length c'] w fun e w' => e = .returned (.bool true) ∧ Below w.heap.size w w' := by
  obtain ⟨n, hn⟩ : ∃ n, n = es.length := ⟨_, rfl⟩
  have HN : Hid (n = es.length) := hn
  rw [← hn] at hl ⊢
  have HA : Hid (EpsOn w a es) := h
  have HA' : Hid (EpsOn w a' es) := h'
  have HL : Hid (∀ f ∈ es, f.2.length ≤ 100000) := hrl
  clear hn h h' hrl
  go_enter Try.func24, Try.ntmps24
  go_wp2
  go_loopw [5, 6] (fun i _ V => ∃ k : Nat, k ≤ n ∧ i = .int .i64 k ∧ Below w.heap.size w V) (fun i _ _ => n - (intOf i).toNat)
  case atStart => exact ⟨0, Nat.zero_le _, rfl, Below.refl _ _⟩
  case round =>
    obtain ⟨k, hk, rfl, hbl⟩ := hrel
    by_cases hlt : k < n
    case neg =>
      obtain rfl : k = n := by omega
      have HB : Hid (Below w.heap.size w wr) := hbl
      clear hbl
      go_wp2
      go_ret
      exact ⟨rfl, HB.out⟩
    case pos =>
      have hkI : (k : Int) < n := by omega
      have hk' : k < es.length := by rw [← HN.out]; exact hlt
      have hne : es ≠ [] := by intro e; rw [e] at hk'; simp at hk'
      obtain ⟨b, o, rfl, hb, hc⟩ := HA.out.at_ hne
      obtain ⟨b', o', rfl, hb', hc'⟩ := HA'.out.at_ hne
      obtain ⟨p, cap, hp⟩ := hc k _ (List.getElem?_eq_getElem hk')
      obtain ⟨p', cap', hp'⟩ := hc' k _ (List.getElem?_eq_getElem hk')
      have hfl := HL.out _ (List.getElem_mem hk')
      clear hc hc'
      generalize es[k] = f at *
      obtain ⟨T, rs⟩ := f
      obtain ⟨c0, c1, hrs⟩ := EpAt.below hp hbl hb
      obtain ⟨c0', c1', hrs'⟩ := EpAt.below hp' hbl hb'
      simp only at *
      have HRS : Hid (SgsOn wr p rs) := hrs
      have HRS' : Hid (SgsOn wr p' rs) := hrs'
      have HB : Hid (Below w.heap.size w wr) := hbl
      have hT : ((T : Int) == T) = true := by simp
      have hLn : ((rs.length : Int) == rs.length) = true := by simp
      clear hp hp' hrs hrs' hbl
      go_wp2
      go_quiet (fail)
      go_wp2
      have hsz : w.heap.size ≤ wr.heap.size := HB.out.size
      rename World => wo
      go_loopw [6] (fun j V => ∃ m : Nat, m ≤ rs.length ∧ j = .int .i64 m ∧ Below wo.heap.size wo V) (fun j _ => rs.length - (intOf j).toNat)
      case atStart => exact ⟨0, Nat.zero_le _, rfl, drewN_below _ _⟩
      case round =>
        obtain ⟨m, hm, rfl, hbl2⟩ := hrel
        have d1 := keepCell hbl2 (by show b < wo.heap.size; omega) c1
        have d1' := keepCell hbl2 (by show b' < wo.heap.size; omega) c1'
        have HB2 : Hid (Below wo.heap.size wo wr) := hbl2
        by_cases hml : m < rs.length
        case pos =>
          have hmI : (m : Int) < rs.length := by omega
          have hrne : rs ≠ [] := by intro e; rw [e] at hml; simp at hml
          obtain ⟨rb, ro, rfl, hrb, hrc⟩ := HRS.out.at_ hrne
          obtain ⟨rb', ro', rfl, hrb', hrc'⟩ := HRS'.out.at_ hrne
          obtain ⟨e0, e1, e2, e3⟩ := (hrc m _ (List.getElem?_eq_getElem hml)).keep (hbl2.block rb hrb)
          obtain ⟨e0', e1', e2', e3'⟩ := (hrc' m _ (List.getElem?_eq_getElem hml)).keep (hbl2.block rb' hrb')
          generalize rs[m] = r at *
          obtain ⟨ra, rss, rg, rt⟩ := r
          simp only at *
          clear hrc hrc' hbl2
          go_wp2
          go_quiet (fail)
          go_wp2
          go_roundw
          case rel => exact ⟨m + 1, by omega, by go_num, HB2.out.trans ((drewN_below _ _).mono HB2.out.size)⟩
          case measure => simp [intOf]; omega
        case neg =>
          obtain rfl : m = rs.length := by omega
          clear hbl2
          go_wp2
          go_roundw
          case rel => exact ⟨k + 1, by omega, by go_num, HB.out.trans (HB2.out.mono hsz)⟩
          case measure => simp [intOf]; omega
end Go.Proofs.Ytllhfbnafemoeaa.EpA
