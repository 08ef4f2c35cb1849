/-
  What Bytes does to the world.
-/
import Derived.Test.YtjdfllocngkjpaaFrmC
import Derived.Deep.AppendSrc
namespace Go.Proofs.Ytjdfllocngkjpaa.FrmA
open Go.RowKit FrmM
set_option maxRecDepth 100000

/-- A text of bytes. -/
def str (l : List UInt8) : ByteArray := ⟨l.toArray⟩
theorem str_size (l : List UInt8) : (str l).size = l.length := by simp [str, ByteArray.size]
theorem str_list (l : List UInt8) : (str l).data.toList = l := rfl
/-- What Bytes answers. -/
def bytesV (f : Fr) : ByteArray := if fault f = 0 then str (enc f) else ⟨#[]⟩

theorem ReadsOn.alloc {w : World} {p : Option Addr} {rs : List Rd} (h : ReadsOn w p rs) (o : Obj) : ReadsOn (w.alloc o) p rs := h.below ((Below.refl _ w).alloc (Nat.le_refl _) o) (Nat.le_refl _)

set_option maxHeartbeats 1000000 in
theorem bytes_bad (f : Fr) (p : Option Addr) (cap : Nat) (w : World) (hr : ReadsOn w p f.rs) (hf : fault f ≠ 0) :
    Calls Try.prog 8 #[.agg #[.int .i64 f.ty, .slice p f.rs.length cap, .int .i64 f.wm]] w fun e w' => e = .returned (.tuple #[.string ⟨#[]⟩, errV (fault f)]) ∧ Below w.heap.size w w' := by
  have he := errV_pos hf
  have HR : Hid (ReadsOn w p f.rs) := hr
  clear hr hf
  go_enter Try.func8, Try.ntmps8
  go_wp2_with fail
  refine (check_any f p cap _ (HR.out.alloc _)).mono ?_
  rintro e w1 ⟨rfl, hb1⟩
  have HB : Hid (Below w.heap.size w w1) := ((Below.refl _ w).alloc (Nat.le_refl _) _).trans (hb1.mono (by simp))
  rw [he]
  clear hb1
  go_wp2
  go_ret2
  exact ⟨by rw [he]; rfl, HB.out⟩

theorem getD_cells {l : List UInt8} {i : Nat} (h : i < l.length) : (l.map fun x => (x.toNat : Int)).getD i 0 = (l[i].toNat : Int) := by
  rw [List.getD_eq_getElem?_getD, List.getElem?_map, List.getElem?_eq_getElem h]; rfl
theorem strOfNums_str (l : List UInt8) : strOfNums (l.map fun x => (x.toNat : Int)) = str l := by
  unfold strOfNums str
  congr 2
  rw [List.map_map]
  conv => rhs; rw [← List.map_id l]
  apply List.map_congr_left
  intro x _
  simp
/-- Bytes are made a text. -/
theorem conv_bytes {V : World} {l : List UInt8} {g cap n : Nat} (hn : n = l.length) (hc : ∀ j x, l[j]? = some x → V.cell? ⟨g, j, none⟩ = some (.int .u8 (x.toNat : Int))) :
    (convert 52 9 (.slice (some ⟨g, 0, none⟩) n cap)).run Try.prog V = .ok (.string (str l)) V := by
  subst hn
  rw [← strOfNums_str]
  exact run_convert_bytes_arg (P := Try.prog) V 52 5 Try.underlying52 Try.underlying5 g 0 l.length cap _ (by simp) (fun i hi => by rw [Nat.zero_add, getD_cells hi]; exact hc i _ (List.getElem?_eq_getElem hi)) 9 Try.underlying9

/-- A literal of bytes. -/
theorem own_lit (w : World) (l : List UInt8) (base n : Nat) (hb : base ≤ w.heap.size) (hl : l.length ≤ 100) (hn : n = l.length) (cur : Array Value) (hc : cur.toList = cellsU l) : BytesAt (w.alloc (.cells cur 5)) base (.slice (some ⟨w.heap.size, 0, none⟩) n n) l := by
  subst hn
  refine ⟨by rw [cellsU_len]; omega, .inr ⟨w.heap.size, l.length, cur, rfl, hb, Go.heap_alloc_new w _, Nat.le_refl _, by unfold maxLen; omega, ?_, ?_⟩⟩
  · rw [← Array.length_toList, hc, cellsU_len]; omega
  · rw [hc, List.take_of_length_le]; rw [cellsU_len]; omega

set_option maxHeartbeats 2000000 in
theorem bytes_ok (f : Fr) (p : Option Addr) (cap : Nat) (w : World) (hr : ReadsOn w p f.rs) (hok : Ok f) :
    Calls Try.prog 8 #[.agg #[.int .i64 f.ty, .slice p f.rs.length cap, .int .i64 f.wm]] w fun e w' => e = .returned (.tuple #[.string (str (enc f)), .nilIface]) ∧ Below w.heap.size w w' := by
  have he : errV (fault f) = .nilIface := by rw [fault_zero.2 hok]; rfl
  have HR : Hid (ReadsOn w p f.rs) := hr
  have HO : Hid (Ok f) := hok
  have hbl : (body f).length ≤ 44 := body_le hok
  clear hr hok
  obtain ⟨i0, hi, hz0, hz1, hz2⟩ := info_parts info5
  go_enter Try.func8, Try.ntmps8
  go_wp2_with fail
  refine (check_any f p cap _ (HR.out.alloc _)).mono ?_
  rintro e w1 ⟨rfl, hb1⟩
  rw [he]
  clear he
  have c0 : w1.cell? ⟨w.heap.size, 0, none⟩ = some (.int .i64 f.ty) := keepCell hb1 (by simp) (by simp)
  have c1 : w1.cell? ⟨w.heap.size, 1, none⟩ = some (.slice p f.rs.length cap) := keepCell hb1 (by simp) (by simp)
  have c2 : w1.cell? ⟨w.heap.size, 2, none⟩ = some (.int .i64 f.wm) := keepCell hb1 (by simp) (by simp)
  have HR1 : Hid (ReadsOn w1 p f.rs) := (HR.out.alloc _).below hb1 (Nat.le_refl _)
  have HB1 : Hid (Below w.heap.size w w1) := ((Below.refl _ w).alloc (Nat.le_refl _) _).trans (hb1.mono (by simp))
  have hs1 : w.heap.size < w1.heap.size := by have := hb1.size; simp at this; omega
  clear hb1
  go_wp2_with fail
  refine (bodyOf_any f p cap _ HR1.out HO.out).mono ?_
  rintro e w2 ⟨v, rfl, hby, hnil, hb2⟩
  have d0 : w2.cell? ⟨w.heap.size, 0, none⟩ = some (.int .i64 f.ty) := keepCell hb2 hs1 c0
  have HB2 : Hid (Below w.heap.size w w2) := HB1.out.trans (hb2.mono (by omega))
  have hs2 : w1.heap.size ≤ w2.heap.size := hb2.size
  have hHd : Hid (head f = [165, u8 (body f).length, u8 f.ty] ++ body f) := rfl
  have hU : Hid ((((u8 (body f).length).toNat : Int) = (body f).length) ∧ (((u8 f.ty).toNat : Int) = f.ty % 256)) := ⟨u8_small (by omega) (by omega), u8_toNat _⟩
  clear c0 c1 c2 hb2
  have hvl : ∃ a c, v = .slice a (body f).length c := by
    rcases hby.own.2 with ⟨h, h0⟩ | ⟨g, cp, cur, h, _⟩
    · rw [h, h0]; exact ⟨none, 0, rfl⟩
    · exact ⟨_, _, h⟩
  obtain ⟨va, vc, rfl⟩ := hvl
  by_cases hb0 : body f = []
  case pos =>
    obtain ⟨rfl, rfl⟩ : va = none ∧ vc = 0 := by have := hnil hb0; simp at this; exact ⟨this.1, this.2.2⟩
    have hl0 : (body f).length = 0 := by rw [hb0]; rfl
    rw [hl0]
    clear hby hnil
    have hby : BytesAt (w2.alloc (.cells #[.int .u8 165, .int .u8 0, .int .u8 (f.ty % 256)] 5)) w2.heap.size (.slice (some ⟨w2.heap.size, 0, none⟩) 3 3) [165, u8 0, u8 f.ty] :=
      own_lit w2 _ _ 3 (Nat.le_refl _) (by simp) rfl _ (by simp [cellsU, hU.out.2]; rfl)
    have hEnc : Hid (enc f = [165, u8 0, u8 f.ty] ++ [clo [165, u8 0, u8 f.ty]]) := by
      show _ = _
      unfold enc
      rw [hHd.out, hb0]
      rfl
    have hown := hby.own
    go_wp2_with fail
    refine (closing_any [165, u8 0, u8 f.ty] w2.heap.size 3 _ (by simp) ?_).mono ?_
    · intro j x hx
      have := hown.cells (g := w2.heap.size) rfl j (.int .u8 (x.toNat : Int)) (by unfold cellsU; rw [List.getElem?_map, hx]; rfl)
      rwa [addr_add] at this
    rintro e w4 ⟨rfl, rfl⟩
    generalize clo [165, u8 0, u8 f.ty] = c at *
    go_wp2_with (at_builtin; refine wpList_append_own _ rfl _ _ 52 rfl w2.heap.size 5 i0 (.int .u8 0) 1 1 Try.underlying52 hi hz0 hz1 hz2 rfl (by decide) _ _ _ rfl (hown.alloc _) ⟨w2.heap.size + 1, 0, none⟩ 1 1 [.int .u8 (c.toNat : Int)] rfl rfl ?q1 ?q2 ?q3 ?q4 ?q5 ?_)
    case q1 =>
      intro j u hj
      match j, hj with
      | 0, hj => simp at hj; subst hj; simp [Addr.add]
    case q2 => intro u hu; simp at hu; subst hu; rfl
    case q3 => unfold maxLen; simp
    case q4 => simp
    case q5 => simp; omega
    intro v5 w5 hown5 hgrow5 _
    have hby5 : BytesAt w5 w2.heap.size v5 ([165, u8 0, u8 f.ty] ++ [c]) := BytesAt.snoc (m := 1) hown5 rfl rfl rfl
    have hB5 : Below w.heap.size w w5 := ((HB2.out.alloc (by omega) _).alloc (by simp; omega) _).grown hgrow5 (by simp; omega) (fun k hk => by have := (hown.lt k hk).1; omega)
    rw [← hEnc.out] at hby5
    obtain ⟨g5, c5, rfl, _, _, hc5⟩ := hby5.form (by rw [hEnc.out]; simp)
    have hcv := conv_bytes (cap := c5) rfl hc5
    have HB5 : Hid (Below w.heap.size w w5) := hB5
    clear hown hown5 hgrow5 hby hby5 hB5 hc5
    go_wp2
    go_ret2
    exact ⟨rfl, HB5.out⟩
  case neg =>
    obtain ⟨g, vc', hv, hg1, hg2, hcg⟩ := hby.form hb0
    obtain ⟨rfl, rfl⟩ : va = some ⟨g, 0, none⟩ ∧ vc = vc' := by simp at hv; exact ⟨hv.1, hv.2⟩
    clear hv hnil hby
    have hby : BytesAt (w2.alloc (.cells #[.int .u8 165, .int .u8 (body f).length, .int .u8 (f.ty % 256)] 5)) w2.heap.size (.slice (some ⟨w2.heap.size, 0, none⟩) 3 3) [165, u8 (body f).length, u8 f.ty] :=
      own_lit w2 _ _ 3 (Nat.le_refl _) (by simp) rfl _ (by simp [cellsU, hU.out.2, hU.out.1])
    have hown := hby.own
    have hBL : Hid (cellsU (body f) = cellsU (body f)) := rfl
    have hlen : (cellsU (body f)).length = (body f).length * 1 := by rw [cellsU_len]; omega
    have hcg' : ∀ j u, (cellsU (body f))[j]? = some u → (w2.alloc (.cells #[.int .u8 165, .int .u8 (body f).length, .int .u8 (f.ty % 256)] 5)).cell? ((⟨g, 0, none⟩ : Addr).add j) = some u := by
      intro j u hj
      rw [addr_add]
      unfold cellsU at hj
      rw [List.getElem?_map] at hj
      cases hx : (body f)[j]? with
      | none => rw [hx] at hj; cases hj
      | some x =>
        rw [hx] at hj
        simp at hj
        subst hj
        rw [World.cell?_of_block (w := w2) (Below.heap_alloc w2 _ g hg2)]
        exact hcg j x hx
    have HC : Hid (∀ j u, (cellsU (body f))[j]? = some u → (w2.alloc (.cells #[.int .u8 165, .int .u8 (body f).length, .int .u8 (f.ty % 256)] 5)).cell? ((⟨g, 0, none⟩ : Addr).add j) = some u) := hcg'
    have HLE : Hid ((cellsU (body f)).length = (body f).length * 1) := hlen
    have HONE : Hid (∀ u ∈ cellsU (body f), u.oneCell' = true) := by
      intro u hu
      obtain ⟨x, _, rfl⟩ := List.mem_map.1 hu
      rfl
    clear hcg' hcg hlen
    go_wp2_with (at_builtin; refine wpList_append_own _ rfl _ _ 52 rfl w2.heap.size 5 i0 (.int .u8 0) 1 1 Try.underlying52 hi hz0 hz1 hz2 rfl (by decide) _ _ _ rfl hown ⟨g, 0, none⟩ (body f).length vc (cellsU (body f)) rfl HLE.out HC.out HONE.out ?q3 ?q4 ?q5 ?_)
    case q3 => unfold maxLen; simp; omega
    case q4 => simp; omega
    case q5 => simp
    intro v3 w3 hown3 hgrow3 _
    have hby3 : BytesAt w3 w2.heap.size v3 (head f) := by
      rw [hHd.out]
      exact BytesAt.snoc (m := (body f).length) hown3 rfl rfl rfl
    have hB3 : Below w.heap.size w w3 := (HB2.out.alloc (by omega) _).grown hgrow3 (by simp; omega) (fun k hk => by have := (hown.lt k hk).1; omega)
    have HB3 : Hid (Below w.heap.size w w3) := hB3
    have hs3 : w2.heap.size ≤ w3.heap.size := by have := hgrow3.size; simp at this; omega
    have hhl : Hid ((head f).length = 3 + (body f).length) := by show _ = _; rw [hHd.out]; simp; omega
    have hh0 : Hid (head f ≠ []) := by show _ ≠ _; rw [hHd.out]; simp
    obtain ⟨g3, c3, rfl, _, _, hc3⟩ := hby3.form hh0.out
    have HC3 : Hid (∀ j x, (head f)[j]? = some x → w3.cell? ⟨g3, j, none⟩ = some (.int .u8 (x.toNat : Int))) := hc3
    have hown4 := hby3.own
    clear hc3 hby3 hown hown3 hgrow3 hB3 hby
    go_wp2_with fail
    refine (closing_any (head f) g3 c3 _ (by have := hhl.out; omega) HC3.out).mono ?_
    rintro e w4 ⟨rfl, rfl⟩
    have hEnc : Hid (enc f = head f ++ [clo (head f)]) := rfl
    generalize clo (head f) = c at *
    go_wp2_with (at_builtin; refine wpList_append_own _ rfl _ _ 52 rfl w2.heap.size 5 i0 (.int .u8 0) 1 1 Try.underlying52 hi hz0 hz1 hz2 rfl (by decide) _ _ _ rfl (hown4.alloc _) ⟨w4.heap.size, 0, none⟩ 1 1 [.int .u8 (c.toNat : Int)] rfl rfl ?r1 ?r2 ?r3 ?r4 ?r5 ?_)
    case r1 =>
      intro j u hj
      match j, hj with
      | 0, hj => simp at hj; subst hj; simp [Addr.add]
    case r2 => intro u hu; simp at hu; subst hu; rfl
    case r3 => have := hhl.out; unfold maxLen; omega
    case r4 => have := hhl.out; omega
    case r5 => simp; omega
    intro v5 w5 hown5 hgrow5 _
    have hby5 : BytesAt w5 w2.heap.size v5 (head f ++ [c]) := BytesAt.snoc (m := 1) hown5 rfl rfl rfl
    have hB5 : Below w.heap.size w w5 := (HB3.out.alloc (by omega) _).grown hgrow5 (by simp; omega) (fun k hk => by have := (hown4.lt k hk).1; omega)
    rw [← hEnc.out] at hby5
    obtain ⟨g5, c5, rfl, _, _, hc5⟩ := hby5.form (by rw [hEnc.out]; simp)
    have hcv := conv_bytes (cap := c5) rfl hc5
    have HB5 : Hid (Below w.heap.size w w5) := hB5
    clear hown4 hown5 hgrow5 hby5 hB5 hc5
    go_wp2
    go_ret2
    exact ⟨rfl, HB5.out⟩
theorem bytes_any (f : Fr) (p : Option Addr) (cap : Nat) (w : World) (hr : ReadsOn w p f.rs) :
    Calls Try.prog 8 #[.agg #[.int .i64 f.ty, .slice p f.rs.length cap, .int .i64 f.wm]] w fun e w' => e = .returned (.tuple #[.string (bytesV f), errV (fault f)]) ∧ Below w.heap.size w w' := by
  by_cases hf : fault f = 0
  · have e1 : bytesV f = str (enc f) := by unfold bytesV; rw [if_pos hf]
    have e2 : errV (fault f) = .nilIface := by rw [hf]; rfl
    rw [e1, e2]
    exact bytes_ok f p cap w hr (fault_zero.1 hf)
  · have e1 : bytesV f = ⟨#[]⟩ := by unfold bytesV; rw [if_neg hf]
    rw [e1]
    exact bytes_bad f p cap w hr hf
end Go.Proofs.Ytjdfllocngkjpaa.FrmA
