/-
  What same and SameFrames do to the world.
-/
import Derived.Test.YtjdfllocngkjpaaFrmF
namespace Go.Proofs.Ytjdfllocngkjpaa.FrmA
open Go.RowKit FrmM
set_option maxRecDepth 100000

/-- A frame in memory. -/
structure FrAt (w : World) (b o : Nat) (f : Fr) (p : Option Addr) (cap : Nat) : Prop where
  c0 : w.cell? ⟨b, o, none⟩ = some (.int .i64 f.ty)
  c1 : w.cell? ⟨b, o + 1, none⟩ = some (.slice p f.rs.length cap)
  c2 : w.cell? ⟨b, o + 2, none⟩ = some (.int .i64 f.wm)
  rs : ReadsOn w p f.rs
/-- A list of frames, wherever it lies: of its slice's address. -/
structure FramesOn (w : World) (a : Option Addr) (fs : List Fr) : Prop where
  at_ : fs ≠ [] → ∃ b o, a = some ⟨b, o, none⟩ ∧ b < w.heap.size ∧ ∀ k f, fs[k]? = some f → ∃ p cap, FrAt w b (o + k * 3) f p cap
theorem FrAt.below {B : Nat} {w w' : World} {b o : Nat} {f : Fr} {p : Option Addr} {cap : Nat} (h : FrAt w b o f p cap) (hb : Below B w w') (hB : w.heap.size ≤ B) (hlt : b < w.heap.size) : FrAt w' b o f p cap where
  c0 := keepCell hb (by show b < B; omega) h.c0
  c1 := keepCell hb (by show b < B; omega) h.c1
  c2 := keepCell hb (by show b < B; omega) h.c2
  rs := h.rs.below hb hB
theorem FramesOn.below {B : Nat} {w w' : World} {a : Option Addr} {fs : List Fr} (h : FramesOn w a fs) (hb : Below B w w') (hB : w.heap.size ≤ B) : FramesOn w' a fs where
  at_ := fun hne => by
    obtain ⟨b, o, rfl, hlt, hc⟩ := h.at_ hne
    refine ⟨b, o, rfl, Nat.lt_of_lt_of_le hlt hb.size, fun k f hf => ?_⟩
    obtain ⟨p, cap, hp⟩ := hc k f hf
    exact ⟨p, cap, hp.below hb hB hlt⟩

theorem drewN_below (w : World) (n : Nat) : Below w.heap.size w (w.drewN n) := ⟨rfl, rfl, rfl, Nat.le_refl _, fun _ _ => rfl⟩

set_option maxHeartbeats 1000000 in
theorem sameFrames_any (fs : List Fr) (a a' : Option Addr) (c c' : Nat) (w : World) (hl : fs.length ≤ 100000) (h : FramesOn w a fs) (h' : FramesOn w a' fs) (hrl : ∀ f ∈ fs, f.rs.length ≤ 100000) :
    Calls Try.prog 11 #[.slice a fs.length c, .slice a' fs.length c'] w fun e w' => e = .returned (.bool true) ∧ Below w.heap.size w w' := by
  obtain ⟨n, hn⟩ : ∃ n, n = fs.length := ⟨_, rfl⟩
  have HN : Hid (n = fs.length) := hn
  rw [← hn] at hl ⊢
  have HA : Hid (FramesOn w a fs) := h
  have HA' : Hid (FramesOn w a' fs) := h'
  have HL : Hid (∀ f ∈ fs, f.rs.length ≤ 100000) := hrl
  clear hn h h' hrl
  go_enter Try.func11, Try.ntmps11
  go_wp2
  go_loopw [5, 6] (fun i _ V => ∃ k : Nat, k ≤ n ∧ i = .int .i64 k ∧ Below w.heap.size w V) (fun i _ _ => n - (intOf i).toNat)
  case atStart => exact ⟨0, Nat.zero_le _, rfl, Below.refl _ _⟩
  case round =>
    obtain ⟨k, hk, rfl, hbl⟩ := hrel
    by_cases hlt : k < n
    case neg =>
      obtain rfl : k = n := by omega
      have HB : Hid (Below w.heap.size w wr) := hbl
      clear hbl
      go_wp2
      go_ret
      exact ⟨rfl, HB.out⟩
    case pos =>
      have hkI : (k : Int) < n := by omega
      have hk' : k < fs.length := by rw [← HN.out]; exact hlt
      have hne : fs ≠ [] := by intro e; rw [e] at hk'; simp at hk'
      obtain ⟨b, o, rfl, hb, hc⟩ := HA.out.at_ hne
      obtain ⟨b', o', rfl, hb', hc'⟩ := HA'.out.at_ hne
      obtain ⟨p, cap, hp⟩ := hc k _ (List.getElem?_eq_getElem hk')
      obtain ⟨p', cap', hp'⟩ := hc' k _ (List.getElem?_eq_getElem hk')
      have hfl := HL.out _ (List.getElem_mem hk')
      clear hc hc'
      generalize fs[k] = f at *
      obtain ⟨T, rs, W⟩ := f
      obtain ⟨c0, c1, c2, hrs⟩ := hp.below hbl (Nat.le_refl _) hb
      obtain ⟨c0', c1', c2', hrs'⟩ := hp'.below hbl (Nat.le_refl _) hb'
      simp only at *
      have HRS : Hid (ReadsOn wr p rs) := hrs
      have HRS' : Hid (ReadsOn wr p' rs) := hrs'
      have HB : Hid (Below w.heap.size w wr) := hbl
      have hT : (T == T) = true := by simp
      have hW : (W == W) = true := by simp
      have hLn : ((rs.length : Int) == rs.length) = true := by simp
      clear hp hp' hrs hrs' hbl
      go_wp2
      go_quiet (fail)
      go_wp2
      have hsz : w.heap.size ≤ wr.heap.size := HB.out.size
      rename World => wo
      go_loopw [6] (fun j V => ∃ m : Nat, m ≤ rs.length ∧ j = .int .i64 m ∧ Below wo.heap.size wo V) (fun j _ => rs.length - (intOf j).toNat)
      case atStart => exact ⟨0, Nat.zero_le _, rfl, drewN_below _ _⟩
      case round =>
        obtain ⟨m, hm, rfl, hbl2⟩ := hrel
        have d1 := keepCell hbl2 (by show b < wo.heap.size; omega) c1
        have d1' := keepCell hbl2 (by show b' < wo.heap.size; omega) c1'
        have HB2 : Hid (Below wo.heap.size wo wr) := hbl2
        by_cases hml : m < rs.length
        case pos =>
          have hmI : (m : Int) < rs.length := by omega
          have hrne : rs ≠ [] := by intro e; rw [e] at hml; simp at hml
          obtain ⟨rb, ro, rfl, hrb, hrc⟩ := HRS.out.at_ hrne
          obtain ⟨rb', ro', rfl, hrb', hrc'⟩ := HRS'.out.at_ hrne
          obtain ⟨e0, e1, e2, e3⟩ := (hrc m _ (List.getElem?_eq_getElem hml)).keep (hbl2.block rb hrb)
          obtain ⟨e0', e1', e2', e3'⟩ := (hrc' m _ (List.getElem?_eq_getElem hml)).keep (hbl2.block rb' hrb')
          generalize rs[m] = r at *
          obtain ⟨ra, rss, rg, rt⟩ := r
          simp only at *
          clear hrc hrc' hbl2
          go_wp2
          go_quiet (fail)
          go_wp2
          go_roundw
          case rel => exact ⟨m + 1, by omega, by go_num, HB2.out.trans ((drewN_below _ _).mono HB2.out.size)⟩
          case measure => simp [intOf]; omega
        case neg =>
          obtain rfl : m = rs.length := by omega
          clear hbl2
          go_wp2
          go_roundw
          case rel => exact ⟨k + 1, by omega, by go_num, HB.out.trans (HB2.out.mono hsz)⟩
          case measure => simp [intOf]; omega
set_option maxHeartbeats 400000 in
theorem same_nil (w : World) :
    Calls Try.prog 9 #[.nilIface, .int .i64 0] w fun e w' => e = .returned (.bool true) ∧ w' = w := by
  go_enter Try.func9, Try.ntmps9
  go_wp2
  go_ret
  exact ⟨rfl, rfl⟩
theorem assert_errno (n : Int) (w : World) : (Instr.typeAssert (.iface 55 (.int .i64 n)) 30 55 true).run Try.prog w = .ok (.tuple #[.int .i64 n, .bool true]) w := by kernel_rfl
set_option maxHeartbeats 400000 in
theorem same_err (n : Nat) (w : World) (hn : 0 < n) :
    Calls Try.prog 9 #[.iface 55 (.int .i64 n), .int .i64 n] w fun e w' => e = .returned (.bool true) ∧ w' = w := by
  have hta := assert_errno n
  have hI : decide ((0 : Int) < n) = true := by simp; omega
  have hE : ((n : Int) == n) = true := by simp
  go_enter Try.func9, Try.ntmps9
  go_wp2
  go_ret
  exact ⟨rfl, rfl⟩
theorem same_any (n : Nat) (w : World) :
    Calls Try.prog 9 #[errV n, .int .i64 n] w fun e w' => e = .returned (.bool true) ∧ w' = w := by
  by_cases h : n = 0
  · subst h
    exact same_nil w
  · rw [errV_pos h]
    exact same_err n w (by omega)
end Go.Proofs.Ytjdfllocngkjpaa.FrmA
