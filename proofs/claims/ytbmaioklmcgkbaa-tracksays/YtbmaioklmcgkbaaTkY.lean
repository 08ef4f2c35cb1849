/-
  What TrackSays does to the world.
-/
import Derived.Test.YtbmaioklmcgkbaaTkX
import Derived.Test.YtbmaioklmcgkbaaTkR2
namespace Go.Proofs.Ytbmaioklmcgkbaa.TkA
open Go.RowKit TkM TkW Go.Maps
set_option maxRecDepth 100000

theorem told_small {g : ByteArray} {E : List (List Sg)} (hl : light E = true) (h : told g E = true) : g.size ≤ 20 := by
  simp only [told, List.any_eq_true, seenG] at h
  obtain ⟨l, hE, x, hx, e⟩ := h
  have := (goodL_iff.1 ((light_iff.1 hl).2 l hE)).2 x hx
  have e : x.g = g := by simpa using e
  rw [← e]
  exact this
theorem new1 {V : World} {g : Nat} {s : ByteArray} (h : V.heap[g]? = some (.cells #[.string s] 9)) : ∀ (j : Nat) (u : Value), ([.string s] : List Value)[j]? = some u → V.cell? ((⟨g, 0, none⟩ : Addr).add j) = some u := by
  intro j u hj
  rw [addr_add]
  match j, hj with
  | 0, hj => simp at hj; subst hj; simp [World.cell?, h]
theorem ts_of {V w3 : World} {B g c : Nat} {F : Nat → Prop} {L : List ByteArray} {s : ByteArray} (ho : V.ownsRow B 9 1 (.slice (some ⟨g, 0, none⟩) (L.length + 1) c) (L.length + 1) (L.map sv ++ [.string s])) (hB : w3.heap.size ≤ B) (hF : ∀ b, F b → b < w3.heap.size) : TsOn V F (some ⟨g, 0, none⟩) (L ++ [s]) where
  at_ := fun i x hx => by
    have hlt := ho.lt g rfl
    refine ⟨g, 0, rfl, ?_, fun h => by have := hF g h; omega, hlt.2⟩
    have hi : i < L.length + 1 := by
      rcases Nat.lt_or_ge i (L ++ [s]).length with h | h
      · simpa using h
      · rw [List.getElem?_eq_none h] at hx; cases hx
    rw [Nat.zero_add, ho.cellAt i (by omega)]
    have e : L.map sv ++ [.string s] = (L ++ [s]).map sv := by simp [sv]
    rw [e, List.getElem?_map, hx]
    rfl
theorem light_bounds {E : List (List Sg)} (hl : light E = true) : ∀ l, l ∈ E → l.length ≤ 9223372036854775807 ∧ ∀ x, x ∈ l → x.g.size ≤ 9223372036854775807 := fun l hlE => by
  have h := goodL_iff.1 ((light_iff.1 hl).2 l hlE)
  exact ⟨by omega, fun x hx => by have := h.2 x hx; omega⟩
section
variable (E : List (List Sg)) (a : Option Addr) (cap : Nat) (other : ByteArray) (w : World)
set_option maxHeartbeats 1000000 in
theorem track_long (W need : Int) (hE : EsOn w a E) (hb : ∀ l, l ∈ E → l.length ≤ 9223372036854775807 ∧ ∀ x, x ∈ l → x.g.size ≤ 9223372036854775807) (ho : other.size ≤ 9223372036854775807) (h : light E = false ∨ (light E = true ∧ 20 < other.size)) :
    Calls Try.prog 8 #[.int .i64 W, .int .i64 need, .slice a E.length cap, .string other] w fun e w' => e = .returned (.bool true) ∧ Below w.heap.size w w' := by
  have HB : Hid (∀ l, l ∈ E → l.length ≤ 9223372036854775807 ∧ ∀ x, x ∈ l → x.g.size ≤ 9223372036854775807) := hb
  have HE : Hid (EsOn w a E) := hE
  clear hb hE
  go_enter Try.func8, Try.ntmps8
  go_wp2_with fail
  refine (tracks_any w).mono ?_
  rintro e w1 ⟨rfl, hb1⟩
  have HB1 : Hid (Below w.heap.size w w1) := hb1
  clear hb1
  go_wp2_with fail
  refine (light_any E a cap _ (HE.out.below HB1.out) HB.out).mono ?_
  rintro e w2 ⟨rfl, hw2⟩
  subst hw2
  rcases h with h | ⟨h, h20⟩
  · rw [h]
    go_wp2
    exact bodyPost_ret (v := .bool true) (by simp [results, Try.results8, go_sem]) rfl ⟨rfl, HB1.out⟩
  · rw [h]
    have h20I : (20 : Int) < other.size := by omega
    go_wp2
    exact bodyPost_ret (v := .bool true) (by simp [results, Try.results8, go_sem]) rfl ⟨rfl, HB1.out⟩
set_option maxHeartbeats 1000000 in
theorem track_bad (W need : Int) (hE : EsOn w a E) (hl : light E = true) (ho : other.size ≤ 20) (hn : ¬ (1 ≤ W ∧ W ≤ 8 ∧ 1 ≤ need ∧ need ≤ W)) :
    Calls Try.prog 8 #[.int .i64 W, .int .i64 need, .slice a E.length cap, .string other] w fun e w' => e = .returned (.bool true) ∧ Below w.heap.size w w' := by
  have HB : Hid (∀ l, l ∈ E → l.length ≤ 9223372036854775807 ∧ ∀ x, x ∈ l → x.g.size ≤ 9223372036854775807) := light_bounds hl
  have HE : Hid (EsOn w a E) := hE
  have HN : Hid (¬ (1 ≤ W ∧ W ≤ 8 ∧ 1 ≤ need ∧ need ≤ W)) := hn
  clear hE hn
  go_enter Try.func8, Try.ntmps8
  go_wp2_with fail
  refine (tracks_any w).mono ?_
  rintro e w1 ⟨rfl, hb1⟩
  have HB1 : Hid (Below w.heap.size w w1) := hb1
  clear hb1
  go_wp2_with fail
  refine (light_any E a cap _ (HE.out.below HB1.out) HB.out).mono ?_
  rintro e w2 ⟨rfl, hw2⟩
  subst hw2
  rw [hl]
  have h20I : ¬ (20 : Int) < other.size := by omega
  go_wp2_with fail
  refine (tracked_bad W need a E.length cap _ HN.out).mono ?_
  rintro e w3 ⟨rfl, hw3⟩
  subst hw3
  go_wp2
  exact bodyPost_ret (v := .bool true) (by simp [results, Try.results8, go_sem]) rfl ⟨rfl, HB1.out⟩
set_option maxHeartbeats 2000000 in
theorem track_ok (W need : Nat) (hE : EsOn w a E) (hl : light E = true) (ho : other.size ≤ 20) (h0 : 1 ≤ W) (h1 : W ≤ 8) (h2 : 1 ≤ need) (h3 : need ≤ W) :
    Calls Try.prog 8 #[.int .i64 (W : Int), .int .i64 (need : Int), .slice a E.length cap, .string other] w fun e w' => e = .returned (.bool true) ∧ Below w.heap.size w w' := by
  have mixed : Try.prog.follows .mixedOrders = true := by kernel_rfl
  obtain ⟨i9, hi9, hz9, hs9, hb9⟩ := info_parts info9
  have HB : Hid (∀ l, l ∈ E → l.length ≤ 9223372036854775807 ∧ ∀ x, x ∈ l → x.g.size ≤ 9223372036854775807) := light_bounds hl
  have HE : Hid (EsOn w a E) := hE
  clear hE
  go_enter Try.func8, Try.ntmps8
  go_wp2_with fail
  refine (tracks_any w).mono ?_
  rintro e w1 ⟨rfl, hb1⟩
  have HB1 : Hid (Below w.heap.size w w1) := hb1
  clear hb1
  go_wp2_with fail
  refine (light_any E a cap _ (HE.out.below HB1.out) HB.out).mono ?_
  rintro e w2 ⟨rfl, hw2⟩
  subst hw2
  rw [hl]
  have h20I : ¬ (20 : Int) < other.size := by omega
  go_wp2_with fail
  refine (tracked_ok W need E a cap _ h0 h1 h2 h3 (HE.out.below HB1.out) hl).mono ?_
  rintro e w3 ⟨tb, rb, rfl, who, F, r, hbt, hr, hb3⟩
  have hok : (oks E).length ≤ 25 := by
    have h1 := List.length_filter_le (fun l => l.all okS) E
    have h2 := (light_iff.1 hl).1
    unfold oks
    omega
  generalize oks E = T at *
  obtain ⟨p4, c4, hv4⟩ := hbt.m.view
  have HBT : Hid (Bth w2.heap.size w3 tb rb who F W need r 0 T) := hbt
  have HB3 : Hid (Below w.heap.size w w3) := HB1.out.trans (hb3.mono HB1.out.size)
  have HLE : Hid (w.heap.size ≤ w2.heap.size) := HB1.out.size
  have HV : Hid (∀ V, Below w3.heap.size w3 V → RfV V rb W need p4 c4 T) := fun V hV => hv4.below hV
  have HS0 : Hid (∀ V, Below w3.heap.size w3 V → V.cell? ⟨rb, 2, none⟩ = some (.slice p4 T.length c4)) := fun V hV => (hv4.below hV).c2
  have HF : Hid (∀ b, F b → b < w3.heap.size) := fun b hb => hbt.m.lim hb
  have HFIN : Hid (∀ V B g c (L : List ByteArray), V.ownsRow B 9 1 (.slice (some ⟨g, 0, none⟩) (L.length + 1) c) (L.length + 1) (L.map sv ++ [.string other]) → w3.heap.size ≤ B → Below w3.heap.size w3 V → L.length ≤ 625 → (∀ g, g ∈ L ↔ told g T = true) → Calls Try.prog 36 #[.pointer (some ⟨tb, 0, none⟩), .pointer (some ⟨rb, 0, none⟩), .slice (some ⟨g, 0, none⟩) (L.length + 1) c] V fun e w' => e = .returned (.bool true) ∧ Below w.heap.size w w') := fun V B g c L ho' hB hV hL hm => by
    have h := asTrack_any (some ⟨g, 0, none⟩) c (L ++ [other]) (HBT.out.below hV) h1 hr hok (by simp; omega) (ts_of ho' hB HF.out) (fun s hs => by
      rcases List.mem_append.1 hs with h | h
      · have := told_small (HV.out V hV).good ((hm s).1 h); omega
      · simp at h; rw [h]; omega)
    rw [List.length_append] at h
    refine h.mono ?_
    rintro e w' ⟨rfl, hk⟩
    refine ⟨rfl, (HB3.out.trans (hV.mono HB3.out.size)).trans (hk.below ?_ (fun b hb hF => ?_))⟩
    · have := HB3.out.size; have := hV.size; omega
    · have := HBT.out.lf b hF; have := HLE.out; omega
  have hS0 : w3.cell? ⟨rb, 2, none⟩ = some (.slice p4 T.length c4) := HS0.out w3 (Below.refl _ _)
  clear hbt hb3 hv4 HB HE hl
  obtain ⟨tl, htl⟩ : ∃ tl, tl = T.length := ⟨_, rfl⟩
  have HRT : Hid (∀ V, Below w3.heap.size w3 V → Calls Try.prog 35 #[.pointer (some ⟨rb, 0, none⟩), .int .i64 (tl : Int)] V fun e w' => ∃ v, e = .returned v ∧ ∃ L, TgsAt w' V.heap.size v L ∧ L.length ≤ 625 ∧ (∀ g, g ∈ L ↔ told g T = true) ∧ Below V.heap.size V w') := fun V hV => by
    have h := rtags_any (HV.out V hV)
    rw [← htl] at h
    exact h
  rw [← htl] at hS0 HS0
  clear htl
  go_wp2_with fail
  refine (HRT.out w3 (Below.refl _ _)).mono ?_
  rintro e V4 ⟨v, rfl, L, hT, hL, hm, hb⟩
  have HT : Hid (TgsAt V4 w3.heap.size v L) := hT
  have HM : Hid (L.length ≤ 625 ∧ ∀ g, g ∈ L ↔ told g T = true) := ⟨hL, hm⟩
  have HBV4 : Hid (Below w3.heap.size w3 V4) := hb
  have hpo : (V4.alloc (.cells #[.string other] 9)).ownsRow w3.heap.size 9 1 v L.length (L.map sv) := hT.own.alloc (.cells #[.string other] 9)
  clear hT hm hb hS0
  go_wp2_with (at_builtin; refine wpList_append_lies _ rfl _ _ 39 rfl w3.heap.size 9 i9 (.string ⟨#[]⟩) 1 16 Try.underlying39 hi9 hz9 hs9 hb9 rfl (by decide) _ _ _ rfl hpo ⟨V4.heap.size, 0, none⟩ 1 1 [.string other] rfl rfl ?q1 ?q2 (by omega) ?q3 ?q4 ?q5 (V4.heap.size + 1) ?q6 ?_)
  case q1 => exact new1 (Go.heap_alloc_new V4 _)
  case q2 => intro u hu; simp at hu; subst hu; rfl
  case q3 => unfold maxLen; omega
  case q4 => omega
  case q5 => exact (HBV4.out.alloc HBV4.out.size (.cells #[.string other] 9)).size
  case q6 => simp
  intro g3 c3 V5 hown3 hgrow3 hat3 hlt3
  have HB5 : Hid (Below w3.heap.size w3 V5) := (HBV4.out.alloc HBV4.out.size (.cells #[.string other] 9)).trans ⟨hgrow3.os, hgrow3.tape, hgrow3.output, hgrow3.size, fun j hj => hgrow3.block j (Nat.lt_of_lt_of_le hj (HBV4.out.alloc HBV4.out.size (.cells #[.string other] 9)).size) (fun e => by have h := (World.ownsRow.lt hpo j e.symm).1; omega)⟩
  have HCL := HFIN.out V5 w3.heap.size g3 c3 L hown3 (Nat.le_refl _) HB5.out HM.out.1 HM.out.2
  clear hown3 hgrow3 hat3 hlt3 hpo HM HT hL
  generalize L.length = Ln at *
  have HCALL : Hid (Calls Try.prog 36 #[.pointer (some ⟨tb, 0, none⟩), .pointer (some ⟨rb, 0, none⟩), .slice (some ⟨g3, 0, none⟩) (Ln + 1) c3] V5 fun e w' => e = .returned (.bool true) ∧ Below w.heap.size w w') := HCL
  clear HCL
  go_wp2_with fail
  refine HCALL.out.mono ?_
  rintro e V6 ⟨rfl, hb6⟩
  have HB6 : Hid (Below w.heap.size w V6) := hb6
  clear hb6
  go_wp2
  exact bodyPost_ret (v := .bool true) (by simp [results, Try.results8, go_sem]) rfl ⟨rfl, HB6.out⟩
end
end Go.Proofs.Ytbmaioklmcgkbaa.TkA
