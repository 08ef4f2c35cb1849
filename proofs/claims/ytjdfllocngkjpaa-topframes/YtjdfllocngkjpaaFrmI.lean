/-
  What readsOf does to the world.
-/
import Derived.Test.YtjdfllocngkjpaaFrmH
import Derived.Test.YtjdfllocngkjpaaFrmG
import Derived.Deep.RegionHeld3
import Derived.BigRegion
import Derived.Deep.Cut
import Derived.Deep.DrawnRows
namespace Go.Proofs.Ytjdfllocngkjpaa.FrmA
open Go.RowKit FrmM
set_option maxRecDepth 100000

def rdCells (r : Rd) : List Value := [.int .i64 r.a, .int .i64 r.s, .int .i64 r.g, .string r.t]
/-- A list of reads that the call has made. -/
structure ReadsOwn (V : World) (base : Nat) (v : Value) (rs : List Rd) : Prop where
  own : V.ownsRow base 27 4 v rs.length (rs.flatMap rdCells)
theorem ReadsOwn.nil (V : World) (base : Nat) : ReadsOwn V base (.slice none 0 0) [] := ⟨World.ownsRow_nil _ _ _ _⟩
theorem flat_at (rs : List Rd) : ∀ (k : Nat) (r : Rd) (j : Nat), rs[k]? = some r → j < 4 → (rs.flatMap rdCells)[k * 4 + j]? = (rdCells r)[j]? := by
  induction rs with
  | nil => intro k r j h; simp at h
  | cons x rs ih =>
    intro k r j h hj
    have e : (x :: rs).flatMap rdCells = rdCells x ++ rs.flatMap rdCells := rfl
    have hl : (rdCells x).length = 4 := rfl
    rw [e]
    cases k with
    | zero =>
      simp at h
      subst h
      rw [List.getElem?_append_left (by rw [hl]; omega)]
      congr 1
      omega
    | succ k =>
      rw [List.getElem?_append_right (by rw [hl]; omega), hl, show (k + 1) * 4 + j - 4 = k * 4 + j by omega]
      exact ih k r j (by simpa using h) hj
theorem ReadsOwn.on {V : World} {base : Nat} {v : Value} {rs : List Rd} (h : ReadsOwn V base v rs) (ht : ∀ r ∈ rs, r.t.size ≤ maxLen) : ∃ p cap, v = .slice p rs.length cap ∧ ReadsOn V p rs := by
  by_cases hne : rs = []
  · subst hne
    rcases h.own.2 with ⟨rfl, h0⟩ | ⟨g, cap, cur, hv, _⟩
    · exact ⟨none, 0, rfl, ht, fun hn => absurd rfl hn⟩
    · exact ⟨_, cap, hv, ht, fun hn => absurd rfl hn⟩
  · obtain ⟨g, cap, rfl, h1, h2⟩ := h.own.form (List.length_pos_iff.2 hne)
    refine ⟨_, cap, rfl, ht, fun _ => ⟨g, 0, rfl, h2, fun k r hr => ?_⟩⟩
    have hc : ∀ j u, j < 4 → (rdCells r)[j]? = some u → V.cell? ⟨g, 0 + k * 4 + j, none⟩ = some u := by
      intro j u hj hu
      have := h.own.cells (g := g) rfl (k * 4 + j) u (by rw [flat_at rs k r j hr hj]; exact hu)
      rw [addr_add] at this
      rw [Nat.zero_add]
      exact this
    exact ⟨hc 0 _ (by omega) rfl, hc 1 _ (by omega) rfl, hc 2 _ (by omega) rfl, hc 3 _ (by omega) rfl⟩
theorem info27 : (Try.prog.info? 27).map (fun i => (i.zero, i.size, i.bytes)) = some (some (.agg #[.int .i64 0, .int .i64 0, .int .i64 0, .string ⟨#[]⟩]), 4, 40) := by kernel_rfl
theorem extract_list (s : ByteArray) (a b : Nat) : (s.extract a b).data.toList = (s.data.toList.drop a).take (b - a) := by
  rw [ByteArray.data_extract, Array.toList_extract, List.extract_eq_take_drop]
theorem extract_str (s : ByteArray) (a b : Nat) : s.extract a b = str ((s.data.toList.drop a).take (b - a)) := by rw [← extract_list, str_self]
theorem ReadsOwn.snoc {V : World} {base : Nat} {v : Value} {rs : List Rd} {r : Rd} {ys : List Value} (h : V.ownsRow base 27 4 v (rs.length + 1) (rs.flatMap rdCells ++ ys)) (hy : ys = rdCells r) : ReadsOwn V base v (rs ++ [r]) := by
  subst hy
  refine ⟨?_⟩
  rw [List.length_append, List.flatMap_append]
  simpa using h

theorem wrapU (x : UInt8) : IntKind.i64.wrap (x.toNat : Int) = (x.toNat : Int) := by
  have := x.toNat_lt
  simp [IntKind.wrap, IntKind.bits, IntKind.signed]; omega
/-- How long a text is. -/
def strSize : Value → Nat | .string t => t.size | _ => 0

set_option maxHeartbeats 2000000 in
theorem readsOf_any (s0 : ByteArray) (w : World) (hs : s0.size ≤ 100) :
    Calls Try.prog 30 #[.string s0] w fun e w' => ∃ v, e = .returned v ∧ ReadsOwn w' w.heap.size v (gReads s0.data.toList) ∧ Below w.heap.size w w' := by
  obtain ⟨i0, hi, hz0, hz1, hz2⟩ := info_parts info27
  obtain ⟨R, hR⟩ : ∃ R, R = gReads s0.data.toList := ⟨_, rfl⟩
  rw [← hR]
  have HR : Hid (R = gReads s0.data.toList) := hR
  clear hR
  go_enter Try.func30, Try.ntmps30
  go_wp2
  go_loopw [0, 3] (fun u l V => ∃ (k : Nat) (t : ByteArray), 11 * k ≤ s0.size ∧ u = .string t ∧ t.data.toList = s0.data.toList.drop (11 * k) ∧ ReadsOwn V w.heap.size l ((List.range k).map (rdAt s0.data.toList)) ∧ Below w.heap.size w V) (fun u _ _ => strSize u)
  case atStart => exact ⟨0, s0, by omega, rfl, rfl, ReadsOwn.nil _ _, Below.refl _ _⟩
  case round =>
    obtain ⟨k, t, hk, rfl, htl, hown0, hbl⟩ := hrel
    have hts : t.size = s0.size - 11 * k := by
      have := congrArg List.length htl
      rw [List.length_drop, len_list, len_list] at this
      exact this
    have HTS : Hid (t.size = s0.size - 11 * k) := hts
    have h100 : t.size ≤ 100 := by omega
    have hk9 : k ≤ 9 := by omega
    clear hts
    by_cases hlt : 11 ≤ t.size
    case pos =>
      have hI : (11 : Int) ≤ t.size := by omega
      have i0I : (0 : Int) < t.size := by omega
      have i1I : (1 : Int) < t.size := by omega
      have i2I : (2 : Int) < t.size := by omega
      have HRD : Hid (rdCells (rdAt s0.data.toList k) = [.int .i64 (t[0].toNat : Int), .int .i64 (t[1].toNat : Int), .int .i64 (t[2].toNat : Int), .string (t.extract 3 11)]) := by
        show _ = _
        unfold rdAt rdOf rdCells
        rw [← htl, byte_at (by omega), byte_at (by omega), byte_at (by omega), extract_str]
        rfl
      have hown := hown0.own
      have HBL : Hid (Below w.heap.size w wr) := hbl
      have HTL : Hid (t.data.toList = s0.data.toList.drop (11 * k)) := htl
      have hsz : w.heap.size ≤ wr.heap.size := hbl.size
      clear hown0 hbl htl
      have j0 : 0 < t.size := by omega
      have j1 : 1 < t.size := by omega
      have j2 : 2 < t.size := by omega
      obtain ⟨O, hO⟩ : ∃ O : Obj, O = .cells #[.int .i64 (IntKind.i64.wrap (t[0].toNat : Int)), .int .i64 (IntKind.i64.wrap (t[1].toNat : Int)), .int .i64 (IntKind.i64.wrap (t[2].toNat : Int)), .string (t.extract 3 11)] 27 := ⟨_, rfl⟩
      obtain ⟨ys, hys⟩ : ∃ ys : List Value, ys = [.int .i64 (IntKind.i64.wrap (t[0].toNat : Int)), .int .i64 (IntKind.i64.wrap (t[1].toNat : Int)), .int .i64 (IntKind.i64.wrap (t[2].toNat : Int)), .string (t.extract 3 11)] := ⟨_, rfl⟩
      have HW : Hid (∀ j u, ys[j]? = some u → ((wr.alloc O).drew).cell? ((⟨wr.heap.size, 0, none⟩ : Addr).add j) = some u) := by
        intro j u hj
        subst hys hO
        rw [addr_add]
        match j, hj with
        | 0, hj => simp at hj; subst hj; simp
        | 1, hj => simp at hj; subst hj; simp
        | 2, hj => simp at hj; subst hj; simp
        | 3, hj => simp at hj; subst hj; simp
      have H1 : Hid (∀ u ∈ ys, u.oneCell' = true) := by
        intro u hu
        subst hys
        simp at hu
        rcases hu with rfl | rfl | rfl | rfl <;> rfl
      have HL : Hid (((List.range k).map (rdAt s0.data.toList)).length = k) := by show _ = _; simp
      have HOW : Hid (((wr.alloc O).drew).ownsRow w.heap.size 27 4 u3 ((List.range k).map (rdAt s0.data.toList)).length (((List.range k).map (rdAt s0.data.toList)).flatMap rdCells)) := hown.alloc O
      have HYL : Hid (ys.length = 1 * 4) := by show _ = _; rw [hys]; rfl
      have HML : Hid (((List.range k).map (rdAt s0.data.toList)).length + 1 ≤ maxLen) := by show _ ≤ _; rw [HL.out]; unfold maxLen; omega
      have HBY : Hid ((((List.range k).map (rdAt s0.data.toList)).length + 1) * 40 ≤ 140737488355328) := by show _ ≤ _; rw [HL.out]; omega
      have HBS : Hid (w.heap.size ≤ ((wr.alloc O).drew).heap.size) := by show _ ≤ _; simp; omega
      have HHS : Hid (((wr.alloc O).drew).heap.size = wr.heap.size + 1) := by show _ = _; simp
      have HOO : Hid (O = .cells #[.int .i64 (IntKind.i64.wrap (t[0].toNat : Int)), .int .i64 (IntKind.i64.wrap (t[1].toNat : Int)), .int .i64 (IntKind.i64.wrap (t[2].toNat : Int)), .string (t.extract 3 11)] 27) := hO
      have HYY : Hid (ys = [.int .i64 (IntKind.i64.wrap (t[0].toNat : Int)), .int .i64 (IntKind.i64.wrap (t[1].toNat : Int)), .int .i64 (IntKind.i64.wrap (t[2].toNat : Int)), .string (t.extract 3 11)]) := hys
      subst hO
      clear hys hown
      go_upto_region 3 with fail
      go_region_held3 (fun _ => True) (trivial)
        ((refine step_append_lies _ (by rfl) (.tmp 7) (.tmp 20) 22 (by rfl) w.heap.size 27 i0 (.agg #[.int .i64 0, .int .i64 0, .int .i64 0, .string ⟨#[]⟩]) 4 40 Try.underlying22 hi hz0 hz1 hz2 rfl (by omega) u3 _ _ (by rfl) HOW.out ⟨wr.heap.size, 0, none⟩ 1 1 ys (by rfl) HYL.out HW.out H1.out (by omega) HML.out HBY.out HBS.out (wr.heap.size + 1) HHS.out ?_; intro g cap w1 hown1 hgrow hat hlt1))
      all_goals
        have hrd : ReadsOwn w1 w.heap.size (.slice (some ⟨g, 0, none⟩) (((List.range k).map (rdAt s0.data.toList)).length + 1) cap) ((List.range (k + 1)).map (rdAt s0.data.toList)) := by
          rw [List.range_succ, List.map_append]
          exact ReadsOwn.snoc hown1 (by rw [HYY.out, HRD.out, wrapU, wrapU, wrapU])
        have hB' : Below w.heap.size w w1 := ((HBL.out.alloc hsz _).drew).grown hgrow (by simp; omega) (fun k hk => (HOW.out.lt k hk).1)
        have HRO : Hid (ReadsOwn w1 w.heap.size (.slice (some ⟨g, 0, none⟩) (((List.range k).map (rdAt s0.data.toList)).length + 1) cap) ((List.range (k + 1)).map (rdAt s0.data.toList))) := hrd
        have HB' : Hid (Below w.heap.size w w1) := hB'
        clear hown1 hgrow hat hrd hB' HOW HW H1 HYL HML HBY HBS HHS HOO HYY HRD
        go_wp2
        go_roundw
        case rel =>
          have hts := HTS.out
          refine ⟨k + 1, t.extract 11 t.size, by omega, rfl, ?_, by have h := HRO.out; rw [HL.out] at h; exact h, HB'.out⟩
          rw [extract_list, HTL.out, List.drop_drop, List.take_of_length_le]
          · congr 1
          · rw [List.length_drop, len_list]; omega
        case measure => simp [strSize]; omega
    case neg =>
      have hI : ¬ (11 : Int) ≤ t.size := by omega
      have HRO : Hid (ReadsOwn wr w.heap.size u3 ((List.range k).map (rdAt s0.data.toList))) := hown0
      have HB' : Hid (Below w.heap.size w wr) := hbl
      have HK : Hid (R = (List.range k).map (rdAt s0.data.toList)) := by
        show _ = _
        rw [HR.out]
        unfold gReads
        rw [len_list, show s0.size / 11 = k by have := HTS.out; omega]
      clear hown0 hbl htl
      go_wp2
      go_ret
      exact ⟨_, rfl, by rw [HK.out]; exact HRO.out, HB'.out⟩
end Go.Proofs.Ytjdfllocngkjpaa.FrmA
