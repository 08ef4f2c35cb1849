/-
  What Bytes does to the world. · What the document's own answer does to the world: FrameFault. · What the document's own answer does to the world: FrameBytes. · Contracts of the library at this program: each one application of a theorem of the kit. · What Clone, span, isBeginning and Beginning do to the world. · What same and SameFrames do to the world.
-/
import Derived.Test.YtmolafjalaeoaaaGreatDoorPae
import Derived.Deep.AppendSrc
import Derived.Shelf.Small.Bits
import Derived.Shelf.Small.Strs
import Derived.Shelf.Small.Wraps
import Derived.Shelf.Strconv.Itoa0
import Derived.Shelf.LaysM
import Derived.Shelf.Strconv.Clone
import Derived.Shelf.Sort.Plain
import Derived.Shelf.Slices.In.SortNone
import Derived.Test.YtmolafjalaeoaaaGreatDoorProg
namespace Go.Proofs.YtmolafjalaeoaaaGreatDoor.FrmA
open Go.RowKit FrmM
set_option maxRecDepth 100000
/-- A text of bytes. -/
def str (l : List UInt8) : ByteArray := ⟨l.toArray⟩
theorem str_list (l : List UInt8) : (str l).data.toList = l := rfl
/-- What Bytes answers. -/
def bytesV (f : Fr) : ByteArray := if fault f = 0 then str (enc f) else ⟨#[]⟩
theorem ReadsOn.alloc {w : World} {p : Option Addr} {rs : List Rd} (h : ReadsOn w p rs) (o : Obj) : ReadsOn (w.alloc o) p rs := h.below ((Below.refl _ w).alloc (Nat.le_refl _) o) (Nat.le_refl _)
set_option maxHeartbeats 1000000 in
theorem bytes_bad (f : Fr) (p : Option Addr) (cap : Nat) (w : World) (hr : ReadsOn w p f.rs) (hf : fault f ≠ 0) :
    Calls Tryz.prog 120 #[.agg #[.int .i64 f.ty, .slice p f.rs.length cap, .int .i64 f.wm]] w fun e w' => e = .returned (.tuple #[.string ⟨#[]⟩, errV (fault f)]) ∧ Below w.heap.size w w' := by
  have he := errV_pos hf
  have HR : Hid (ReadsOn w p f.rs) := hr
  clear hr hf
  go_enter Tryz.func120, Tryz.ntmps120
  go_wp2_with fail
  refine (check_any f p cap _ (HR.out.alloc _)).mono ?_
  rintro e w1 ⟨rfl, hb1⟩
  have HB : Hid (Below w.heap.size w w1) := ((Below.refl _ w).alloc (Nat.le_refl _) _).trans (hb1.mono (by simp))
  rw [he]
  clear hb1
  go_wp2
  go_ret2
  exact ⟨by rw [he]; rfl, HB.out⟩
theorem getD_cells {l : List UInt8} {i : Nat} (h : i < l.length) : (l.map fun x => (x.toNat : Int)).getD i 0 = (l[i].toNat : Int) := by
  rw [List.getD_eq_getElem?_getD, List.getElem?_map, List.getElem?_eq_getElem h]; rfl
theorem strOfNums_str (l : List UInt8) : strOfNums (l.map fun x => (x.toNat : Int)) = str l := by
  unfold strOfNums str
  congr 2
  rw [List.map_map]
  conv => rhs; rw [← List.map_id l]
  apply List.map_congr_left
  intro x _
  simp
/-- Bytes are made a text. -/
theorem conv_bytes {V : World} {l : List UInt8} {g cap n : Nat} (hn : n = l.length) (hc : ∀ j x, l[j]? = some x → V.cell? ⟨g, j, none⟩ = some (.int .u8 (x.toNat : Int))) :
    (convert 157 9 (.slice (some ⟨g, 0, none⟩) n cap)).run Tryz.prog V = .ok (.string (str l)) V := by
  subst hn
  rw [← strOfNums_str]
  exact run_convert_bytes_arg (P := Tryz.prog) V 157 5 Tryz.underlying157 Tryz.underlying5 g 0 l.length cap _ (by simp) (fun i hi => by rw [Nat.zero_add, getD_cells hi]; exact hc i _ (List.getElem?_eq_getElem hi)) 9 Tryz.underlying9
/-- A literal of bytes. -/
theorem own_lit (w : World) (l : List UInt8) (base n : Nat) (hb : base ≤ w.heap.size) (hl : l.length ≤ 100) (hn : n = l.length) (cur : Array Value) (hc : cur.toList = cellsU l) : BytesAt (w.alloc (.cells cur 5)) base (.slice (some ⟨w.heap.size, 0, none⟩) n n) l := by
  subst hn
  refine ⟨by rw [cellsU_len]; omega, .inr ⟨w.heap.size, l.length, cur, rfl, hb, Go.heap_alloc_new w _, Nat.le_refl _, by unfold maxLen; omega, ?_, ?_⟩⟩
  · rw [← Array.length_toList, hc, cellsU_len]; omega
  · rw [hc, List.take_of_length_le]; rw [cellsU_len]; omega
set_option maxHeartbeats 2000000 in
theorem bytes_ok (f : Fr) (p : Option Addr) (cap : Nat) (w : World) (hr : ReadsOn w p f.rs) (hok : Ok f) :
    Calls Tryz.prog 120 #[.agg #[.int .i64 f.ty, .slice p f.rs.length cap, .int .i64 f.wm]] w fun e w' => e = .returned (.tuple #[.string (str (enc f)), .nilIface]) ∧ Below w.heap.size w w' := by
  have he : errV (fault f) = .nilIface := by rw [fault_zero.2 hok]; rfl
  have HR : Hid (ReadsOn w p f.rs) := hr
  have HO : Hid (Ok f) := hok
  have hbl : (body f).length ≤ 44 := body_le hok
  clear hr hok
  obtain ⟨i0, hi, hz0, hz1, hz2⟩ := info_parts info5
  go_enter Tryz.func120, Tryz.ntmps120
  go_wp2_with fail
  refine (check_any f p cap _ (HR.out.alloc _)).mono ?_
  rintro e w1 ⟨rfl, hb1⟩
  rw [he]
  clear he
  have c0 : w1.cell? ⟨w.heap.size, 0, none⟩ = some (.int .i64 f.ty) := keepCell hb1 (by simp) (by simp)
  have c1 : w1.cell? ⟨w.heap.size, 1, none⟩ = some (.slice p f.rs.length cap) := keepCell hb1 (by simp) (by simp)
  have c2 : w1.cell? ⟨w.heap.size, 2, none⟩ = some (.int .i64 f.wm) := keepCell hb1 (by simp) (by simp)
  have HR1 : Hid (ReadsOn w1 p f.rs) := (HR.out.alloc _).below hb1 (Nat.le_refl _)
  have HB1 : Hid (Below w.heap.size w w1) := ((Below.refl _ w).alloc (Nat.le_refl _) _).trans (hb1.mono (by simp))
  have hs1 : w.heap.size < w1.heap.size := by have := hb1.size; simp at this; omega
  clear hb1
  go_wp2_with fail
  refine (bodyOf_any f p cap _ HR1.out HO.out).mono ?_
  rintro e w2 ⟨v, rfl, hby, hnil, hb2⟩
  have d0 : w2.cell? ⟨w.heap.size, 0, none⟩ = some (.int .i64 f.ty) := keepCell hb2 hs1 c0
  have HB2 : Hid (Below w.heap.size w w2) := HB1.out.trans (hb2.mono (by omega))
  have hs2 : w1.heap.size ≤ w2.heap.size := hb2.size
  have hHd : Hid (head f = [165, u8 (body f).length, u8 f.ty] ++ body f) := rfl
  have hU : Hid ((((u8 (body f).length).toNat : Int) = (body f).length) ∧ (((u8 f.ty).toNat : Int) = f.ty % 256)) := ⟨u8_small (by omega) (by omega), u8_toNat _⟩
  clear c0 c1 c2 hb2
  have hvl : ∃ a c, v = .slice a (body f).length c := by
    rcases hby.own.2 with ⟨h, h0⟩ | ⟨g, cp, cur, h, _⟩
    · rw [h, h0]; exact ⟨none, 0, rfl⟩
    · exact ⟨_, _, h⟩
  obtain ⟨va, vc, rfl⟩ := hvl
  by_cases hb0 : body f = []
  case pos =>
    obtain ⟨rfl, rfl⟩ : va = none ∧ vc = 0 := by have := hnil hb0; simp at this; exact ⟨this.1, this.2.2⟩
    have hl0 : (body f).length = 0 := by rw [hb0]; rfl
    rw [hl0]
    clear hby hnil
    have hby : BytesAt (w2.alloc (.cells #[.int .u8 165, .int .u8 0, .int .u8 (f.ty % 256)] 5)) w2.heap.size (.slice (some ⟨w2.heap.size, 0, none⟩) 3 3) [165, u8 0, u8 f.ty] :=
      own_lit w2 _ _ 3 (Nat.le_refl _) (by simp) rfl _ (by simp [cellsU, hU.out.2]; rfl)
    have hEnc : Hid (enc f = [165, u8 0, u8 f.ty] ++ [clo [165, u8 0, u8 f.ty]]) := by
      show _ = _
      unfold enc
      rw [hHd.out, hb0]
      rfl
    have hown := hby.own
    go_wp2_with fail
    refine (closing_any [165, u8 0, u8 f.ty] w2.heap.size 3 _ (by simp) ?_).mono ?_
    · intro j x hx
      have := hown.cells (g := w2.heap.size) rfl j (.int .u8 (x.toNat : Int)) (by unfold cellsU; rw [List.getElem?_map, hx]; rfl)
      rwa [addr_add] at this
    rintro e w4 ⟨rfl, rfl⟩
    generalize clo [165, u8 0, u8 f.ty] = c at *
    go_wp2_with (at_builtin; refine wpList_append_own _ rfl _ _ 157 rfl w2.heap.size 5 i0 (.int .u8 0) 1 1 Tryz.underlying157 hi hz0 hz1 hz2 rfl (by decide) _ _ _ rfl (hown.alloc _) ⟨w2.heap.size + 1, 0, none⟩ 1 1 [.int .u8 (c.toNat : Int)] rfl rfl ?q1 ?q2 ?q3 ?q4 ?q5 ?_)
    case q1 =>
      intro j u hj
      match j, hj with
      | 0, hj => simp at hj; subst hj; simp [Addr.add]
    case q2 => intro u hu; simp at hu; subst hu; rfl
    case q3 => unfold maxLen; simp
    case q4 => simp
    case q5 => simp; omega
    intro v5 w5 hown5 hgrow5 _
    have hby5 : BytesAt w5 w2.heap.size v5 ([165, u8 0, u8 f.ty] ++ [c]) := BytesAt.snoc (m := 1) hown5 rfl rfl rfl
    have hB5 : Below w.heap.size w w5 := ((HB2.out.alloc (by omega) _).alloc (by simp; omega) _).grown hgrow5 (by simp; omega) (fun k hk => by have := (hown.lt k hk).1; omega)
    rw [← hEnc.out] at hby5
    obtain ⟨g5, c5, rfl, _, _, hc5⟩ := hby5.form (by rw [hEnc.out]; simp)
    have hcv := conv_bytes (cap := c5) rfl hc5
    have HB5 : Hid (Below w.heap.size w w5) := hB5
    clear hown hown5 hgrow5 hby hby5 hB5 hc5
    go_wp2
    go_ret2
    exact ⟨rfl, HB5.out⟩
  case neg =>
    obtain ⟨g, vc', hv, hg1, hg2, hcg⟩ := hby.form hb0
    obtain ⟨rfl, rfl⟩ : va = some ⟨g, 0, none⟩ ∧ vc = vc' := by simp at hv; exact ⟨hv.1, hv.2⟩
    clear hv hnil hby
    have hby : BytesAt (w2.alloc (.cells #[.int .u8 165, .int .u8 (body f).length, .int .u8 (f.ty % 256)] 5)) w2.heap.size (.slice (some ⟨w2.heap.size, 0, none⟩) 3 3) [165, u8 (body f).length, u8 f.ty] :=
      own_lit w2 _ _ 3 (Nat.le_refl _) (by simp) rfl _ (by simp [cellsU, hU.out.2, hU.out.1])
    have hown := hby.own
    have hBL : Hid (cellsU (body f) = cellsU (body f)) := rfl
    have hlen : (cellsU (body f)).length = (body f).length * 1 := by rw [cellsU_len]; omega
    have hcg' : ∀ j u, (cellsU (body f))[j]? = some u → (w2.alloc (.cells #[.int .u8 165, .int .u8 (body f).length, .int .u8 (f.ty % 256)] 5)).cell? ((⟨g, 0, none⟩ : Addr).add j) = some u := by
      intro j u hj
      rw [addr_add]
      unfold cellsU at hj
      rw [List.getElem?_map] at hj
      cases hx : (body f)[j]? with
      | none => rw [hx] at hj; cases hj
      | some x =>
        rw [hx] at hj
        simp at hj
        subst hj
        rw [World.cell?_of_block (w := w2) (Below.heap_alloc w2 _ g hg2)]
        exact hcg j x hx
    have HC : Hid (∀ j u, (cellsU (body f))[j]? = some u → (w2.alloc (.cells #[.int .u8 165, .int .u8 (body f).length, .int .u8 (f.ty % 256)] 5)).cell? ((⟨g, 0, none⟩ : Addr).add j) = some u) := hcg'
    have HLE : Hid ((cellsU (body f)).length = (body f).length * 1) := hlen
    have HONE : Hid (∀ u ∈ cellsU (body f), u.oneCell' = true) := by
      intro u hu
      obtain ⟨x, _, rfl⟩ := List.mem_map.1 hu
      rfl
    clear hcg' hcg hlen
    go_wp2_with (at_builtin; refine wpList_append_own _ rfl _ _ 157 rfl w2.heap.size 5 i0 (.int .u8 0) 1 1 Tryz.underlying157 hi hz0 hz1 hz2 rfl (by decide) _ _ _ rfl hown ⟨g, 0, none⟩ (body f).length vc (cellsU (body f)) rfl HLE.out HC.out HONE.out ?q3 ?q4 ?q5 ?_)
    case q3 => unfold maxLen; simp; omega
    case q4 => simp; omega
    case q5 => simp
    intro v3 w3 hown3 hgrow3 _
    have hby3 : BytesAt w3 w2.heap.size v3 (head f) := by
      rw [hHd.out]
      exact BytesAt.snoc (m := (body f).length) hown3 rfl rfl rfl
    have hB3 : Below w.heap.size w w3 := (HB2.out.alloc (by omega) _).grown hgrow3 (by simp; omega) (fun k hk => by have := (hown.lt k hk).1; omega)
    have HB3 : Hid (Below w.heap.size w w3) := hB3
    have hs3 : w2.heap.size ≤ w3.heap.size := by have := hgrow3.size; simp at this; omega
    have hhl : Hid ((head f).length = 3 + (body f).length) := by show _ = _; rw [hHd.out]; simp; omega
    have hh0 : Hid (head f ≠ []) := by show _ ≠ _; rw [hHd.out]; simp
    obtain ⟨g3, c3, rfl, _, _, hc3⟩ := hby3.form hh0.out
    have HC3 : Hid (∀ j x, (head f)[j]? = some x → w3.cell? ⟨g3, j, none⟩ = some (.int .u8 (x.toNat : Int))) := hc3
    have hown4 := hby3.own
    clear hc3 hby3 hown hown3 hgrow3 hB3 hby
    go_wp2_with fail
    refine (closing_any (head f) g3 c3 _ (by have := hhl.out; omega) HC3.out).mono ?_
    rintro e w4 ⟨rfl, rfl⟩
    have hEnc : Hid (enc f = head f ++ [clo (head f)]) := rfl
    generalize clo (head f) = c at *
    go_wp2_with (at_builtin; refine wpList_append_own _ rfl _ _ 157 rfl w2.heap.size 5 i0 (.int .u8 0) 1 1 Tryz.underlying157 hi hz0 hz1 hz2 rfl (by decide) _ _ _ rfl (hown4.alloc _) ⟨w4.heap.size, 0, none⟩ 1 1 [.int .u8 (c.toNat : Int)] rfl rfl ?r1 ?r2 ?r3 ?r4 ?r5 ?_)
    case r1 =>
      intro j u hj
      match j, hj with
      | 0, hj => simp at hj; subst hj; simp [Addr.add]
    case r2 => intro u hu; simp at hu; subst hu; rfl
    case r3 => have := hhl.out; unfold maxLen; omega
    case r4 => have := hhl.out; omega
    case r5 => simp; omega
    intro v5 w5 hown5 hgrow5 _
    have hby5 : BytesAt w5 w2.heap.size v5 (head f ++ [c]) := BytesAt.snoc (m := 1) hown5 rfl rfl rfl
    have hB5 : Below w.heap.size w w5 := (HB3.out.alloc (by omega) _).grown hgrow5 (by simp; omega) (fun k hk => by have := (hown4.lt k hk).1; omega)
    rw [← hEnc.out] at hby5
    obtain ⟨g5, c5, rfl, _, _, hc5⟩ := hby5.form (by rw [hEnc.out]; simp)
    have hcv := conv_bytes (cap := c5) rfl hc5
    have HB5 : Hid (Below w.heap.size w w5) := hB5
    clear hown4 hown5 hgrow5 hby5 hB5 hc5
    go_wp2
    go_ret2
    exact ⟨rfl, HB5.out⟩
theorem bytes_any (f : Fr) (p : Option Addr) (cap : Nat) (w : World) (hr : ReadsOn w p f.rs) :
    Calls Tryz.prog 120 #[.agg #[.int .i64 f.ty, .slice p f.rs.length cap, .int .i64 f.wm]] w fun e w' => e = .returned (.tuple #[.string (bytesV f), errV (fault f)]) ∧ Below w.heap.size w w' := by
  by_cases hf : fault f = 0
  · have e1 : bytesV f = str (enc f) := by unfold bytesV; rw [if_pos hf]
    have e2 : errV (fault f) = .nilIface := by rw [hf]; rfl
    rw [e1, e2]
    exact bytes_ok f p cap w hr (fault_zero.1 hf)
  · have e1 : bytesV f = ⟨#[]⟩ := by unfold bytesV; rw [if_neg hf]
    rw [e1]
    exact bytes_bad f p cap w hr hf
end Go.Proofs.YtmolafjalaeoaaaGreatDoor.FrmA
namespace Go.Proofs.YtmolafjalaeoaaaGreatDoor.FrmA
open Go.RowKit FrmM
set_option maxRecDepth 100000
/-- Where a read falls. -/
def RdBad (r : Rd) : Prop :=
  decide (r.a < 0) = true
  ∨ (decide (r.a < 0) = false ∧ decide (3 < r.a) = true)
  ∨ (decide (r.a < 0) = false ∧ decide (3 < r.a) = false ∧ decide (r.s < 0) = true)
  ∨ (decide (r.a < 0) = false ∧ decide (3 < r.a) = false ∧ decide (r.s < 0) = false ∧ decide (255 < r.s) = true)
  ∨ (decide (r.a < 0) = false ∧ decide (3 < r.a) = false ∧ decide (r.s < 0) = false ∧ decide (255 < r.s) = false ∧ decide (r.g < 0) = true)
  ∨ (decide (r.a < 0) = false ∧ decide (3 < r.a) = false ∧ decide (r.s < 0) = false ∧ decide (255 < r.s) = false ∧ decide (r.g < 0) = false ∧ decide (255 < r.g) = true)
  ∨ (decide (r.a < 0) = false ∧ decide (3 < r.a) = false ∧ decide (r.s < 0) = false ∧ decide (255 < r.s) = false ∧ decide (r.g < 0) = false ∧ decide (255 < r.g) = false ∧ ((r.t.size : Int) != 8) = true)
end Go.Proofs.YtmolafjalaeoaaaGreatDoor.FrmA
namespace Go.Proofs.YtmolafjalaeoaaaGreatDoor.FrmA
open Go.RowKit FrmM
set_option maxRecDepth 100000
theorem str_self (t : ByteArray) : str t.data.toList = t := by simp [str]
end Go.Proofs.YtmolafjalaeoaaaGreatDoor.FrmA
namespace Go.Proofs
open Go.Shelf Go.RowKit Go.Sort
def Tryz.laysM316_ren : Go.Shelf.Ren := ⟨fun | 316 => 102 | n => n, fun | 9 => 9 | 3 => 3 | 4 => 4 | 37 => 157 | 0 => 0 | 127 => 236 | 5 => 5 | n => n, fun | n => n⟩
theorem Tryz.laysM316 : Go.Proofs.LaysM.n316 Tryz.prog Tryz.laysM316_ren := {
  mixed := by kernel_rfl
  f316 := Tryz.func102.trans (congrArg some (by kernel_rfl))
  t0 := Tryz.underlying0
  a0 := Tryz.isAgg0
  z0 := Tryz.sizeOf0
  v0 := Tryz.zeroValue0
  t3 := Tryz.underlying3
  a3 := Tryz.isAgg3
  z3 := Tryz.sizeOf3
  v3 := Tryz.zeroValue3
  t4 := Tryz.underlying4
  a4 := Tryz.isAgg4
  z4 := Tryz.sizeOf4
  v4 := Tryz.zeroValue4
  t9 := Tryz.underlying9
  a9 := Tryz.isAgg9
  z9 := Tryz.sizeOf9
  v9 := Tryz.zeroValue9
  t37 := Tryz.underlying157
  a37 := Tryz.isAgg157
  z37 := Tryz.sizeOf157
  v37 := Tryz.zeroValue157
  t127 := Tryz.underlying236
  a127 := Tryz.isAgg236
  z127 := Tryz.sizeOf236
  v127 := Tryz.zeroValue236
  t5 := Tryz.underlying5
  a5 := Tryz.isAgg5
  z5 := Tryz.sizeOf5
  v5 := Tryz.zeroValue5
  i0 := by kernel_rfl
  i3 := by kernel_rfl
  i4 := by kernel_rfl
  i5 := by kernel_rfl
  i9 := by kernel_rfl
  i37 := by kernel_rfl
  i127 := by kernel_rfl }
theorem Tryz.stringslite_Clone (s : ByteArray) (w : World) (hlim : s.size ≤ 281474976710656) :
    Calls Tryz.prog 102 #[.string s] w fun e w' => e = .returned (.string s) ∧ Below w.heap.size w w' := Any.stringslite_Clone Tryz.laysM316 s w hlim
def Tryz.lays190_ren : Go.Shelf.Ren := ⟨fun | 190 => 113 | 125 => 132 | 258 => 139 | 128 => 158 | 129 => 159 | 302 => 161 | 303 => 162 | 304 => 163 | 305 => 164 | 306 => 165 | 307 => 166 | 308 => 167 | 309 => 168 | 310 => 169 | 333 => 177 | 329 => 173 | 330 => 174 | 334 => 178 | 335 => 179 | 336 => 180 | 344 => 182 | n => n, fun | 31 => 63 | 9 => 9 | 3 => 3 | 46 => 189 | 0 => 0 | 51 => 260 | 53 => 145 | 4 => 4 | 183 => 254 | 182 => 253 | 131 => 231 | 5 => 5 | 218 => 269 | 222 => 273 | 228 => 277 | 229 => 48 | n => n, fun | n => n⟩
theorem Tryz.lays190 : Go.Proofs.Lays.n190 Tryz.prog Tryz.lays190_ren := {
  mixed := by kernel_rfl
  f125 := Tryz.func132.trans (congrArg some (by kernel_rfl))
  f128 := Tryz.func158.trans (congrArg some (by kernel_rfl))
  f129 := Tryz.func159.trans (congrArg some (by kernel_rfl))
  f190 := Tryz.func113.trans (congrArg some (by kernel_rfl))
  f258 := Tryz.func139.trans (congrArg some (by kernel_rfl))
  f302 := Tryz.func161.trans (congrArg some (by kernel_rfl))
  f303 := Tryz.func162.trans (congrArg some (by kernel_rfl))
  f304 := Tryz.func163.trans (congrArg some (by kernel_rfl))
  f305 := Tryz.func164.trans (congrArg some (by kernel_rfl))
  f306 := Tryz.func165.trans (congrArg some (by kernel_rfl))
  f307 := Tryz.func166.trans (congrArg some (by kernel_rfl))
  f308 := Tryz.func167.trans (congrArg some (by kernel_rfl))
  f309 := Tryz.func168.trans (congrArg some (by kernel_rfl))
  f310 := Tryz.func169.trans (congrArg some (by kernel_rfl))
  f329 := Tryz.func173.trans (congrArg some (by kernel_rfl))
  f330 := Tryz.func174.trans (congrArg some (by kernel_rfl))
  f333 := Tryz.func177.trans (congrArg some (by kernel_rfl))
  f334 := Tryz.func178.trans (congrArg some (by kernel_rfl))
  f335 := Tryz.func179.trans (congrArg some (by kernel_rfl))
  f336 := Tryz.func180.trans (congrArg some (by kernel_rfl))
  f344 := Tryz.func182.trans (congrArg some (by kernel_rfl))
  t0 := Tryz.underlying0
  a0 := Tryz.isAgg0
  z0 := Tryz.sizeOf0
  v0 := Tryz.zeroValue0
  t3 := Tryz.underlying3
  a3 := Tryz.isAgg3
  z3 := Tryz.sizeOf3
  v3 := Tryz.zeroValue3
  t4 := Tryz.underlying4
  a4 := Tryz.isAgg4
  z4 := Tryz.sizeOf4
  v4 := Tryz.zeroValue4
  t5 := Tryz.underlying5
  a5 := Tryz.isAgg5
  z5 := Tryz.sizeOf5
  v5 := Tryz.zeroValue5
  t9 := Tryz.underlying9
  a9 := Tryz.isAgg9
  z9 := Tryz.sizeOf9
  v9 := Tryz.zeroValue9
  t31 := Tryz.underlying63
  a31 := Tryz.isAgg63
  z31 := Tryz.sizeOf63
  v31 := Tryz.zeroValue63
  t46 := Tryz.underlying189
  a46 := Tryz.isAgg189
  z46 := Tryz.sizeOf189
  v46 := Tryz.zeroValue189
  t51 := Tryz.underlying260
  a51 := Tryz.isAgg260
  z51 := Tryz.sizeOf260
  v51 := Tryz.zeroValue260
  t53 := Tryz.underlying145
  a53 := Tryz.isAgg145
  z53 := Tryz.sizeOf145
  v53 := Tryz.zeroValue145
  t131 := Tryz.underlying231
  a131 := Tryz.isAgg231
  z131 := Tryz.sizeOf231
  v131 := Tryz.zeroValue231
  t182 := Tryz.underlying253
  a182 := Tryz.isAgg253
  z182 := Tryz.sizeOf253
  v182 := Tryz.zeroValue253
  t183 := Tryz.underlying254
  a183 := Tryz.isAgg254
  z183 := Tryz.sizeOf254
  v183 := Tryz.zeroValue254
  t218 := Tryz.underlying269
  a218 := Tryz.isAgg269
  z218 := Tryz.sizeOf269
  v218 := Tryz.zeroValue269
  t222 := Tryz.underlying273
  a222 := Tryz.isAgg273
  z222 := Tryz.sizeOf273
  v222 := Tryz.zeroValue273
  t228 := Tryz.underlying277
  a228 := Tryz.isAgg277
  z228 := Tryz.sizeOf277
  v228 := Tryz.zeroValue277
  t229 := Tryz.underlying48
  a229 := Tryz.isAgg48
  z229 := Tryz.sizeOf48
  v229 := Tryz.zeroValue48 }
theorem Tryz.slices_Sort_string (blk off cap : Nat) (ss : List (List UInt8)) (w : World) (hH : Holds encStr w blk off ss.toArray) (hblk : blk < w.heap.size) (hsz : ss.length < 4611686018427387904) :
    Calls Tryz.prog 113 #[.slice (some ⟨blk, off, none⟩) ss.length cap] w fun e w' =>
      e = .returned (.tuple #[]) ∧ ∃ n os, w' = grow (putRow encStr (Sort.ahead w n) blk off (ss.mergeSort fun x y => decide (x ≤ y)).toArray) os := Any.slices_Sort_string Tryz.lays190 blk off cap ss w hH hblk hsz
theorem Tryz.slices_Sort_string_none (p : Option Addr) (cap : Nat) (w : World) :
    Calls Tryz.prog 113 #[.slice p 0 cap] w fun e w' => e = .returned (.tuple #[]) ∧ w' = w := Any.slices_Sort_string_none Tryz.lays190 p cap w
end Go.Proofs
namespace Go.Proofs.YtmolafjalaeoaaaGreatDoor.FrmA
open Go.RowKit FrmM
set_option maxRecDepth 100000
set_option maxHeartbeats 400000 in
theorem clone_any (s : ByteArray) (w : World) (h : s.size ≤ 100000) :
    Calls Tryz.prog 74 #[.string s] w fun e w' => e = .returned (.string s) ∧ Below w.heap.size w w' := by
  go_enter Tryz.func74, Tryz.ntmps74
  go_wp2_with fail
  refine (Tryz.stringslite_Clone s w (by omega)).mono ?_
  rintro e w' ⟨rfl, hb⟩
  have HB : Hid (Below w.heap.size w w') := hb
  clear hb
  go_wp2
  go_ret
  exact ⟨rfl, HB.out⟩
theorem byte_at {s : ByteArray} {i : Nat} (h : i < s.size) : s.data.toList.getD i 0 = s[i] := by
  have hl : i < s.data.toList.length := by simpa using h
  rw [List.getD_eq_getElem?_getD, List.getElem?_eq_getElem hl]; rfl
theorem len_list (s : ByteArray) : s.data.toList.length = s.size := by simp
set_option maxHeartbeats 1000000 in
theorem span_any (s : ByteArray) (w : World) (hs : s.size ≤ 100000) :
    Calls Tryz.prog 118 #[.string s] w fun e w' => e = .returned (.int .i64 (span s.data.toList : Int)) ∧ w' = w := by
  obtain ⟨R, hR⟩ : ∃ R : Int, R = (span s.data.toList : Int) := ⟨_, rfl⟩
  rw [← hR]
  have HR : Hid (R = (span s.data.toList : Int)) := hR
  clear hR
  by_cases h2 : s.size < 2
  · have h2I : (s.size : Int) < 2 := by omega
    go_enter Tryz.func118, Tryz.ntmps118
    go_wp2
    go_ret
    refine ⟨?_, rfl⟩
    rw [HR.out]; unfold span; rw [len_list, if_pos (Or.inl h2)]; rfl
  · have h0s : 0 < s.size := by omega
    have h1s : 1 < s.size := by omega
    have h0I : (0 : Int) < s.size := by omega
    have h1I : (1 : Int) < s.size := by omega
    have h2I : decide ((s.size : Int) < 2) = false := by simp; omega
    have HS : Hid (span s.data.toList = if s.data.toList.length < 2 ∨ s[0] ≠ 165 ∨ 44 < s[1].toNat then 0 else 4 + s[1].toNat) := by
      show _ = _
      unfold span
      rw [byte_at h0s, byte_at h1s]
    by_cases h0 : s[0] = 165
    · have h0e : ((s[0].toNat : Int) != 165) = false := by rw [h0]; rfl
      by_cases h1 : 44 < s[1].toNat
      · have h1e : (44 : Int) < s[1].toNat := by omega
        clear h0
        go_enter Tryz.func118, Tryz.ntmps118
        go_wp2
        go_ret
        refine ⟨?_, rfl⟩
        rw [HR.out, HS.out, if_pos (Or.inr (Or.inr h1))]; rfl
      · have h1e : decide ((44 : Int) < s[1].toNat) = false := by simp; omega
        have h1b : (s[1].toNat : Int) ≤ 44 := by omega
        have HF : Hid (span s.data.toList = 4 + s[1].toNat) := by
          show _ = _
          rw [HS.out, if_neg]
          rw [len_list]
          rintro (h | h | h)
          · omega
          · exact h h0
          · omega
        clear h0
        go_enter Tryz.func118, Tryz.ntmps118
        go_wp2
        go_ret
        refine ⟨?_, rfl⟩
        rw [HR.out, HF.out]
        show Ending.returned (.int .i64 (3 + (s[1].toNat : Int) + 1)) = _
        congr 2
        omega
    · have h0e : ((s[0].toNat : Int) != 165) = true := by
        have : s[0].toNat ≠ 165 := fun h => h0 (UInt8.toNat_inj.1 h)
        simp; omega
      have H0 : Hid (s[0] ≠ 165) := h0
      clear h0
      go_enter Tryz.func118, Tryz.ntmps118
      go_wp2
      go_ret
      refine ⟨?_, rfl⟩
      rw [HR.out, HS.out, if_pos (Or.inr (Or.inl H0.out))]; rfl
theorem span_le (l : List UInt8) : span l ≤ 48 := by
  unfold span
  split <;> omega
theorem begins_one {s : ByteArray} (h1 : s.size = 1) : begins s.data.toList = (s[0]'(by omega) == 165) := by
  have h0 : 0 < s.size := by omega
  have e : span s.data.toList = 0 := by unfold span; rw [len_list, if_pos (Or.inl (by omega))]
  unfold begins
  rw [e, len_list, byte_at h0]
  simp [h1]
theorem begins_more {s : ByteArray} (h1 : s.size ≠ 1) : begins s.data.toList = decide (s.size < span s.data.toList) := by
  unfold begins
  rw [len_list]
  simp [h1]
set_option maxHeartbeats 1000000 in
theorem isBeginning_any (s : ByteArray) (w : World) (hs : s.size ≤ 100000) (hp : 0 < s.size) :
    Calls Tryz.prog 83 #[.string s] w fun e w' => e = .returned (.bool (begins s.data.toList)) ∧ w' = w := by
  obtain ⟨R, hR⟩ : ∃ R, R = begins s.data.toList := ⟨_, rfl⟩
  rw [← hR]
  have HR : Hid (R = begins s.data.toList) := hR
  clear hR
  have hpI : (0 : Int) < s.size := by omega
  have HS48 : Hid (span s.data.toList ≤ 48) := span_le _
  by_cases h1 : s.size = 1
  · have h1I : (s.size : Int) = 1 := by omega
    have hB := begins_one h1
    by_cases h0 : s[0] = 165
    · have h0e : ((s[0].toNat : Int) == 165) = true := by rw [h0]; rfl
      have hR1 : R = true := by rw [HR.out, hB]; simp [h0]
      subst hR1
      clear h0 hB
      go_enter Tryz.func83, Tryz.ntmps83
      go_wp2
      go_ret
      exact ⟨rfl, rfl⟩
    · have h0e : ((s[0].toNat : Int) == 165) = false := by
        have : s[0].toNat ≠ 165 := fun h => h0 (UInt8.toNat_inj.1 h)
        simp; omega
      have hR1 : R = false := by rw [HR.out, hB]; simpa using h0
      subst hR1
      have e : span s.data.toList = 0 := by unfold span; rw [len_list, if_pos (Or.inl (by omega))]
      clear h0 hB
      go_enter Tryz.func83, Tryz.ntmps83
      go_wp2_with (go_at_call 118; refine (span_any _ _ hs).mono ?_; rintro e w' ⟨rfl, rfl⟩)
      go_ret
      exact ⟨rfl, rfl⟩
  · have h1I : ((s.size : Int) == 1) = false := by simp; omega
    have hB := begins_more h1
    have HB : Hid (begins s.data.toList = decide (s.size < span s.data.toList)) := hB
    clear hB
    go_enter Tryz.func83, Tryz.ntmps83
    go_wp2_with (go_at_call 118; refine (span_any _ _ hs).mono ?_; rintro e w' ⟨rfl, rfl⟩)
    go_ret
    refine ⟨?_, rfl⟩
    rw [HR.out, HB.out]
    simp
end Go.Proofs.YtmolafjalaeoaaaGreatDoor.FrmA
namespace Go.Proofs.YtmolafjalaeoaaaGreatDoor.FrmA
open Go.RowKit FrmM
set_option maxRecDepth 100000
/-- A frame in memory. -/
structure FrAt (w : World) (b o : Nat) (f : Fr) (p : Option Addr) (cap : Nat) : Prop where
  c0 : w.cell? ⟨b, o, none⟩ = some (.int .i64 f.ty)
  c1 : w.cell? ⟨b, o + 1, none⟩ = some (.slice p f.rs.length cap)
  c2 : w.cell? ⟨b, o + 2, none⟩ = some (.int .i64 f.wm)
  rs : ReadsOn w p f.rs
/-- A list of frames, wherever it lies: of its slice's address. -/
structure FramesOn (w : World) (a : Option Addr) (fs : List Fr) : Prop where
  at_ : fs ≠ [] → ∃ b o, a = some ⟨b, o, none⟩ ∧ b < w.heap.size ∧ ∀ k f, fs[k]? = some f → ∃ p cap, FrAt w b (o + k * 3) f p cap
theorem drewN_below (w : World) (n : Nat) : Below w.heap.size w (w.drewN n) := ⟨rfl, rfl, rfl, Nat.le_refl _, fun _ _ => rfl⟩
end Go.Proofs.YtmolafjalaeoaaaGreatDoor.FrmA
