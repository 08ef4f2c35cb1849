/-
  What Text does to the world.
-/
import Derived.Test.YtnahkonklkcbeabGreatDoorRuZ
import Derived.Deep.DeepCutAuto
import Derived.Deep.RegionHeld3
import Derived.Deep.DrawnRows
import Derived.Deep.AppendLies
namespace Go.Proofs.YtnahkonklkcbeabGreatDoor.RuA
open Go.RowKit RuM
set_option maxRecDepth 100000

theorem info9 : (Tryz.prog.info? 9).map (fun i => (i.zero, i.size, i.bytes)) = some (some (.string ⟨#[]⟩), 1, 16) := by kernel_rfl
theorem itoa_any (n : Int) (w : World) (hT : RTab w) (h0 : 0 ≤ n) (h1 : n < 1000) :
    Calls Tryz.prog 17 #[.int .i64 n] w fun e w' => e = .returned (.string (bt (dec n.toNat))) ∧ Below w.heap.size w w' := by
  refine (Tryz.strconv_Itoa n (by omega) (by omega) w hT.pow).mono ?_
  rintro e w' ⟨he, k, os, rfl⟩
  have hi : Lib.itoa n = dec n.toNat := by
    unfold Lib.itoa dec
    rw [if_neg (by omega)]
  rw [hi] at he
  exact ⟨he, Lib.below_grow _ _ (Nat.le_refl _) _ _⟩
theorem itoaN (n : Nat) (w : World) (hT : RTab w) (h1 : n < 1000) :
    Calls Tryz.prog 17 #[.int .i64 (n : Int)] w fun e w' => e = .returned (.string (bt (dec n))) ∧ Below w.heap.size w w' := itoa_any (n : Int) w hT (by omega) (by omega)
theorem app_bt (a b : List UInt8) : bt a ++ bt b = bt (a ++ b) := by
  apply ByteArray.ext
  simp [bt, ByteArray.data_append]
def sv (l : List UInt8) : Value := .string (bt l)
/-- Text at work: the rule's box at w.heap.size, the words above it. -/
structure WS (w V : World) (r : Rl) (v : Value) (xs : List (List UInt8)) : Prop where
  own : V.ownsRow (w.heap.size + 1) 9 1 v xs.length (xs.map sv)
  T : RTab V
  bl : Below w.heap.size w V
  box : Cells6 V w.heap.size (.string r.nm) (.int .i64 r.k) (.int .i64 r.f) (.int .i64 r.t) (.int .i64 r.wo) (.int .i64 r.wi)
theorem own_below {V V' : World} {base : Nat} {e : TypeId} {size : Nat} {v : Value} {n : Nat} {xs : List Value} (h : V.ownsRow base e size v n xs) (hb : Below V.heap.size V V') : V'.ownsRow base e size v n xs := by
  refine ⟨h.1, ?_⟩
  rcases h.2 with h | ⟨g, cap, cur, h1, h2, h3, h4⟩
  · exact Or.inl h
  · exact Or.inr ⟨g, cap, cur, h1, h2, (hb.block g (Array.getElem?_eq_some_iff.1 h3).1).trans h3, h4⟩
theorem WS.keep {w V V' : World} {r : Rl} {v : Value} {xs : List (List UInt8)} (h : WS w V r v xs) (hb : Below V.heap.size V V') : WS w V' r v xs :=
  ⟨own_below h.own hb, h.T.keep hb, h.bl.trans (hb.mono h.bl.size), h.box.move (hb.block _ h.box.lt) hb.size⟩
theorem WS.grow {w V V' : World} {r : Rl} {v v' : Value} {xs ys : List (List UInt8)} (h : WS w V r v xs) (hw : 7 ≤ w.heap.size) (ho : V'.ownsRow (w.heap.size + 1) 9 1 v' (xs ++ ys).length ((xs ++ ys).map sv)) (hg : V.grownBy V' v.ownBlock) : WS w V' r v' (xs ++ ys) := by
  have hB : Below (w.heap.size + 1) V V' := ⟨hg.os, hg.tape, hg.output, hg.size, fun j hj => hg.block j (by have := h.box.lt; omega) (fun e => by have := (World.ownsRow.lt h.own j e.symm).1; omega)⟩
  exact ⟨ho, h.T.below hB (by omega), h.bl.trans (hB.mono (by omega)), h.box.move (hB.block _ (by omega)) hB.size⟩
theorem drewCell {w : World} {a : Addr} {v : Value} (h : w.cell? a = some v) : w.drew.cell? a = some v := h
theorem keepCell {w w' : World} {a : Addr} {v : Value} (hb : Below w.heap.size w w') (h : w.cell? a = some v) : w'.cell? a = some v := by
  rw [hb.cell (World.block_lt_of_cell? _ _ h)]; exact h
theorem keepBelow {W w w' : World} (h : Below W.heap.size W w) (hb : Below w.heap.size w w') : Below W.heap.size W w' := h.trans (hb.mono h.size)
theorem allocCell {w : World} {a : Addr} {v : Value} (o : Obj) (h : w.cell? a = some v) : (w.alloc o).cell? a = some v := keepCell ((Below.refl _ _).alloc (Nat.le_refl _) o) h
theorem allocBelow {W w : World} (o : Obj) (h : Below W.heap.size W w) : Below W.heap.size W (w.alloc o) := keepBelow h ((Below.refl _ _).alloc (Nat.le_refl _) o)
/-- What is held over a region. -/
structure Hold (w V : World) (r : Rl) : Prop where
  T : RTab V
  bl : Below w.heap.size w V
  box : Cells6 V w.heap.size (.string r.nm) (.int .i64 r.k) (.int .i64 r.f) (.int .i64 r.t) (.int .i64 r.wo) (.int .i64 r.wi)
theorem Hold.keep {w V V' : World} {r : Rl} (h : Hold w V r) (hb : Below V.heap.size V V') : Hold w V' r :=
  ⟨h.T.keep hb, h.bl.trans (hb.mono h.bl.size), h.box.move (hb.block _ h.box.lt) hb.size⟩
theorem Hold.drew {w V : World} {r : Rl} (h : Hold w V r) : Hold w V.drew r := h.keep (Below.refl V.heap.size V).drew
theorem Hold.alloc {w V : World} {r : Rl} (o : Obj) (h : Hold w V r) : Hold w (V.alloc o) r := h.keep ((Below.refl V.heap.size V).alloc (Nat.le_refl _) o)
theorem hold_new (r : Rl) {w w1 : World} (hT : RTab w) (hb : Below (w.alloc (.cells #[.string r.nm, .int .i64 r.k, .int .i64 r.f, .int .i64 r.t, .int .i64 r.wo, .int .i64 r.wi] 23)).heap.size (w.alloc (.cells #[.string r.nm, .int .i64 r.k, .int .i64 r.f, .int .i64 r.t, .int .i64 r.wo, .int .i64 r.wi] 23)) w1) : Hold w w1 r := by
  have hB : Below w.heap.size w (w.alloc (.cells #[.string r.nm, .int .i64 r.k, .int .i64 r.f, .int .i64 r.t, .int .i64 r.wo, .int .i64 r.wi] 23)) := (Below.refl _ w).alloc (Nat.le_refl _) _
  have h0 : Hold w (w.alloc (.cells #[.string r.nm, .int .i64 r.k, .int .i64 r.f, .int .i64 r.t, .int .i64 r.wo, .int .i64 r.wi] 23)) r := by
    refine ⟨hT.keep hB, hB, ⟨?_, ?_, ?_, ?_, ?_, ?_, ?_, ?_⟩⟩
    all_goals first | go_simp | (intro i; go_simp)
  exact h0.keep hb
def w5 (nm : ByteArray) (k f t : Nat) : List (List UInt8) := [nm.data.toList ++ [58], kwL k, dec f, thenL, dec t]

theorem five1 (V : World) (a b c d e : Value) : (V.alloc (.cells #[a, b, c, d, e] 9)).cell? ⟨V.heap.size, 1, none⟩ = some b := by go_simp
theorem new2 (V : World) (a b : Value) : ∀ (j : Nat) (u : Value), ([a, b] : List Value)[j]? = some u → (V.alloc (.cells #[a, b] 9)).cell? ((⟨V.heap.size, 0, none⟩ : Addr).add j) = some u := by
  intro j u h
  match j, h with
  | 0, h => simp at h; subst h; unfold Addr.add; go_simp
  | 1, h => simp at h; subst h; unfold Addr.add; go_simp
theorem join_ws {w V : World} {r : Rl} {g n c : Nat} {xs : List (List UInt8)} (h : WS w V r (.slice (some ⟨g, 0, none⟩) n c) xs) (hl : (Lib.join xs [32]).length ≤ 60) (hxl : xs.length ≤ 100) :
    Calls Tryz.prog 18 #[.slice (some ⟨g, 0, none⟩) n c, .string ⟨#[32]⟩] V fun e w' => e = .returned (.string (bt (Lib.join xs [32]))) ∧ Below V.heap.size V w' := by
  have h2 : n = xs.length ∧ n ≤ c ∧ g < V.heap.size := by
    rcases h.own.2 with ⟨h1, _⟩ | ⟨g', cap, cur, h1, _, h3, h4, _⟩
    · cases h1
    · cases h1
      exact ⟨rfl, h4, (Array.getElem?_eq_some_iff.1 h3).1⟩
  obtain ⟨rfl, h3, h4⟩ := h2
  have hmap : (xs.map bt).map (·.data.toList) = xs := by
    rw [List.map_map]
    conv => rhs; rw [← List.map_id xs]
    exact List.map_congr_left (fun x _ => bt_list x)
  have hj := Tryz.strings_Join g 0 c (xs.map bt) ⟨#[32]⟩ V (by
    intro j x hx
    rw [List.getElem?_map] at hx
    obtain ⟨y, hy, rfl⟩ := Option.map_eq_some_iff.1 hx
    have hjl : j < xs.length := (List.getElem?_eq_some_iff.1 hy).1
    rw [Nat.zero_add, h.own.cellAt j (by omega), List.getElem?_map, hy]
    rfl) h4 (by rw [List.length_map]; omega) (by rw [List.length_map]; exact h3) (by rw [hmap]; show (Lib.join xs [32]).length ≤ _; omega)
  rw [hmap, List.length_map] at hj
  exact hj
theorem ws_new {nm : ByteArray} {k f t : Nat} {wo wi : Int} {w w' : World} (gH : Hold w (w'.alloc (.cells #[.string (nm ++ ⟨#[58]⟩), .string (kwB k), .string (bt (dec f)), .string ⟨#[116, 104, 101, 110]⟩, .string (bt (dec t))] 9)) (Rl.mk nm k f t wo wi)) :
    WS w (w'.alloc (.cells #[.string (nm ++ ⟨#[58]⟩), .string (kwB k), .string (bt (dec f)), .string ⟨#[116, 104, 101, 110]⟩, .string (bt (dec t))] 9)) (Rl.mk nm k f t wo wi) (.slice (some ⟨w'.heap.size, 0, none⟩) 5 5) (w5 nm k f t) := by
  have hlt : w.heap.size < w'.heap.size := by
    have h1 := gH.box.lt
    have h2 := gH.box.c1
    by_cases e : w.heap.size = w'.heap.size
    · rw [e] at h2
      rw [five1] at h2
      cases h2
    · simp at h1; omega
  refine ⟨⟨rfl, Or.inr ⟨w'.heap.size, 5, _, rfl, by omega, Go.heap_alloc_new w' _, by show 5 ≤ 5; omega, by decide, rfl, ?_⟩⟩, gH.T, gH.bl, gH.box⟩
  have e1 : nm ++ ⟨#[58]⟩ = bt (nm.data.toList ++ [58]) := by
    rw [← app_bt, bt_data]; rfl
  rw [e1]
  rfl
set_option maxHeartbeats 4000000 in
theorem text_cut (nm : ByteArray) (k f t : Nat) (wo wi : Int) (w : World) (hT : RTab w) (hok : (Rl.mk nm k f t wo wi).ok) :
    Calls Tryz.prog 7 #[rV (Rl.mk nm k f t wo wi)] w fun e w' => e = .returned (.tuple #[.string (textB (Rl.mk nm k f t wo wi)), .nilIface]) ∧ Below w.heap.size w w' := by
  obtain ⟨h1, ⟨h2, h3, h4, h5, h6⟩, h7⟩ := hok
  simp only at h2 h3 h4 h5 h6
  have hnl : nm.size ≤ 12 := by have := h1.2.1; simpa [Rl.named] using this
  have hkN : k < 4 := by omega
  have HFL : Hid ((Rl.mk nm k f t wo wi).flt 0) := Or.inr (Or.inr (Or.inr ⟨⟨h1, ⟨h2, h3, h4, h5, h6⟩, h7⟩, rfl⟩))
  have hkI : (k : Int) < 4 := by omega
  have hk0 : (0 : Int) ≤ (k : Int) := by omega
  have HT : Hid _ := hT
  have HW8 : Hid (7 ≤ w.heap.size) := hT.size
  have HL : Hid ((textL (Rl.mk nm k f t wo wi)).length ≤ 60) := textL_len ⟨h1, ⟨h2, h3, h4, h5, h6⟩, h7⟩
  have mixed : Tryz.prog.follows .mixedOrders = true := by kernel_rfl
  obtain ⟨i9, hi9, hz9, hs9, hb9⟩ := info_parts info9
  clear hT h1 h7
  unfold rV
  simp only
  go_enter Tryz.func7, Tryz.ntmps7
  go_wp2_with fail
  refine (check_any (Rl.mk nm k f t wo wi) _ (by show nm.size ≤ _; omega) HFL.out).mono ?_
  rintro e w1 ⟨rfl, hb1⟩
  rw [show errV 0 = .nilIface from rfl]
  have HH : Hid (Hold w w1 (Rl.mk nm k f t wo wi)) := hold_new (Rl.mk nm k f t wo wi) HT.out hb1
  clear hb1 HFL
  go_upto_region 4 with fail
  have c0 := HH.out.box.c0
  have c1 := HH.out.box.c1
  have c2 := HH.out.box.c2
  have c3 := HH.out.box.c3
  have kk := HH.out.T.kws k hkN
  have hHo := HH.out
  have hWW : Below w1.heap.size w1 w1 := Below.refl _ _
  have hs1 : ¬ 9223372036854775807 < nm.size + (⟨#[58]⟩ : ByteArray).size := by show ¬ _ < nm.size + 1; omega
  have hs2 : ¬ 9223372036854775807 < nm.size + 1 := by omega
  go_cut [5] from 11 to 24 (fun v V => WS w V (Rl.mk nm k f t wo wi) v (w5 nm k f t))
  case first =>
    go_region_held3 (fun V => V.cell? ⟨w.heap.size, 0, none⟩ = some (.string nm) ∧ V.cell? ⟨w.heap.size, 1, none⟩ = some (.int .i64 k) ∧ V.cell? ⟨w.heap.size, 2, none⟩ = some (.int .i64 f) ∧ V.cell? ⟨w.heap.size, 3, none⟩ = some (.int .i64 t) ∧ V.cell? ⟨0, k, none⟩ = some (.string (kwB k)) ∧ Hold w V (Rl.mk nm k f t wo wi) ∧ Below w1.heap.size w1 V)
      (first | exact ⟨drewCell ‹_›, drewCell ‹_›, drewCell ‹_›, drewCell ‹_›, drewCell ‹_›, Hold.drew ‹_›, Below.drew ‹_›⟩ | (go_split_ands; exact ⟨allocCell _ ‹_›, allocCell _ ‹_›, allocCell _ ‹_›, allocCell _ ‹_›, allocCell _ ‹_›, Hold.alloc _ ‹_›, allocBelow _ ‹_›⟩) | (go_split_ands; exact ⟨keepCell hb ‹_›, keepCell hb ‹_›, keepCell hb ‹_›, keepCell hb ‹_›, keepCell hb ‹_›, Hold.keep ‹_› hb, keepBelow ‹_› hb⟩))
      (first | (go_at_call 17; go_split_ands; refine (itoaN _ _ (Hold.T ‹_›) (by omega)).mono ?_; rintro e w' ⟨rfl, hb⟩))
    rename_i hH
    go_wp2
    go_meet
    case rel =>
      obtain ⟨-, -, -, -, -, gH, gB⟩ := hH
      exact ws_new gH
  case rest =>
    have HW : Hid (WS w wc (Rl.mk nm k f t wo wi) u5 (w5 nm k f t)) := hcut
    have d4 := hcut.box.c4
    have d5 := hcut.box.c5
    clear hcut c0 c1 c2 c3 kk hHo hWW hs1 hs2 HH
    clear d4 d5
    have d4 := HW.out.box.c4
    have d5 := HW.out.box.c5
    by_cases hwo : wo = -1
    case pos =>
      have hwo' : (wo != -1) = false := by simpa using hwo
      have HX : Hid (textB (Rl.mk nm k f t wo wi) = bt (Lib.join (w5 nm k f t ++ [withinL, dec wi.toNat]) [32])) := by
        show textB (Rl.mk nm k f t wo wi) = _
        unfold textB textL wordsR tailW endW
        rw [if_pos hwo]
        rfl
      have HL2 : Hid ((Lib.join (w5 nm k f t ++ [withinL, dec wi.toNat]) [32]).length ≤ 60) := by
        have h := congrArg (fun b : ByteArray => b.data.toList) HX.out
        simp only [textB_list, bt_list] at h
        have h2 := HL.out
        rw [h] at h2
        exact h2
      go_wp2_with fail
      refine (itoa_any wi _ HW.out.T (by omega) (by omega)).mono ?_
      rintro e V1 ⟨rfl, hb⟩
      have HK : Hid (WS w V1 (Rl.mk nm k f t wo wi) u5 (w5 nm k f t)) := HW.out.keep hb
      clear HW hb
      have hpo : (V1.alloc (.cells #[.string ⟨#[119, 105, 116, 104, 105, 110]⟩, .string (bt (dec (wi).toNat))] 9)).ownsRow (w.heap.size + 1) 9 1 u5 5 (((w5 nm k f t)).map sv) := HK.out.own.alloc _
      have HKA : Hid (WS w (V1.alloc (.cells #[.string ⟨#[119, 105, 116, 104, 105, 110]⟩, .string (bt (dec (wi).toNat))] 9)) (Rl.mk nm k f t wo wi) u5 (w5 nm k f t)) := HK.out.keep ((Below.refl _ _).alloc (Nat.le_refl _) _)
      have hsz : w.heap.size + 1 ≤ (V1.alloc (.cells #[.string ⟨#[119, 105, 116, 104, 105, 110]⟩, .string (bt (dec (wi).toNat))] 9)).heap.size := HKA.out.box.lt
      go_wp2_with (at_builtin; refine wpList_append_lies _ rfl _ _ 43 rfl (w.heap.size + 1) 9 i9 (.string ⟨#[]⟩) 1 16 Tryz.underlying43 hi9 hz9 hs9 hb9 rfl (by decide) _ _ _ rfl hpo ⟨V1.heap.size, 0, none⟩ 2 2 [.string ⟨#[119, 105, 116, 104, 105, 110]⟩, .string (bt (dec (wi).toNat))] rfl rfl ?q1 ?q2 (by omega) ?q3 ?q4 ?q5 (V1.heap.size + 1) ?q6 ?_)
      case q1 => exact new2 V1 _ _
      case q2 => intro u hu; simp at hu; rcases hu with rfl | rfl <;> rfl
      case q3 => unfold maxLen; omega
      case q4 => omega
      case q5 => exact hsz
      case q6 => simp
      intro g3 c3 V2 hown3 hgrow3 hat3 hlt3
      have HW2 : Hid (WS w V2 (Rl.mk nm k f t wo wi) (.slice (some ⟨g3, 0, none⟩) 7 c3) ((w5 nm k f t) ++ [withinL, dec (wi).toNat])) := HKA.out.grow HW8.out hown3 hgrow3
      clear HK HKA hpo hsz hown3 hgrow3 hat3 hlt3
      have d4 := HW2.out.box.c4
      have d5 := HW2.out.box.c5
      go_wp2_with fail
      refine (join_ws HW2.out HL2.out (by simp [w5])).mono ?_
      rintro e V3 ⟨rfl, hb⟩
      have HB : Hid (Below w.heap.size w V3) := HW2.out.bl.trans (hb.mono HW2.out.bl.size)
      clear hb HW2
      go_wp2
      go_ret2
      refine ⟨?_, HB.out⟩
      rw [HX.out]
      rfl
    case neg =>
      have hwo' : (wo != -1) = true := by simpa using hwo
      have HX : Hid (textB (Rl.mk nm k f t wo wi) = bt (Lib.join ((w5 nm k f t ++ [withoutL, dec wo.toNat]) ++ [withinL, dec wi.toNat]) [32])) := by
        show textB (Rl.mk nm k f t wo wi) = _
        unfold textB textL wordsR tailW endW
        rw [if_neg hwo]
        rfl
      have HL2 : Hid ((Lib.join ((w5 nm k f t ++ [withoutL, dec wo.toNat]) ++ [withinL, dec wi.toNat]) [32]).length ≤ 60) := by
        have h := congrArg (fun b : ByteArray => b.data.toList) HX.out
        simp only [textB_list, bt_list] at h
        have h2 := HL.out
        rw [h] at h2
        exact h2
      go_wp2_with fail
      refine (itoa_any wo _ HW.out.T (by omega) (by omega)).mono ?_
      rintro e V1 ⟨rfl, hb⟩
      have HK : Hid (WS w V1 (Rl.mk nm k f t wo wi) u5 (w5 nm k f t)) := HW.out.keep hb
      clear HW hb
      have hpo : (V1.alloc (.cells #[.string ⟨#[119, 105, 116, 104, 111, 117, 116]⟩, .string (bt (dec (wo).toNat))] 9)).ownsRow (w.heap.size + 1) 9 1 u5 5 (((w5 nm k f t)).map sv) := HK.out.own.alloc _
      have HKA : Hid (WS w (V1.alloc (.cells #[.string ⟨#[119, 105, 116, 104, 111, 117, 116]⟩, .string (bt (dec (wo).toNat))] 9)) (Rl.mk nm k f t wo wi) u5 (w5 nm k f t)) := HK.out.keep ((Below.refl _ _).alloc (Nat.le_refl _) _)
      have hsz : w.heap.size + 1 ≤ (V1.alloc (.cells #[.string ⟨#[119, 105, 116, 104, 111, 117, 116]⟩, .string (bt (dec (wo).toNat))] 9)).heap.size := HKA.out.box.lt
      go_wp2_with (at_builtin; refine wpList_append_lies _ rfl _ _ 43 rfl (w.heap.size + 1) 9 i9 (.string ⟨#[]⟩) 1 16 Tryz.underlying43 hi9 hz9 hs9 hb9 rfl (by decide) _ _ _ rfl hpo ⟨V1.heap.size, 0, none⟩ 2 2 [.string ⟨#[119, 105, 116, 104, 111, 117, 116]⟩, .string (bt (dec (wo).toNat))] rfl rfl ?q1 ?q2 (by omega) ?q3 ?q4 ?q5 (V1.heap.size + 1) ?q6 ?_)
      case q1 => exact new2 V1 _ _
      case q2 => intro u hu; simp at hu; rcases hu with rfl | rfl <;> rfl
      case q3 => unfold maxLen; omega
      case q4 => omega
      case q5 => exact hsz
      case q6 => simp
      intro g3 c3 V2 hown3 hgrow3 hat3 hlt3
      have HW2 : Hid (WS w V2 (Rl.mk nm k f t wo wi) (.slice (some ⟨g3, 0, none⟩) 7 c3) ((w5 nm k f t) ++ [withoutL, dec (wo).toNat])) := HKA.out.grow HW8.out hown3 hgrow3
      clear HK HKA hpo hsz hown3 hgrow3 hat3 hlt3
      have d4 := HW2.out.box.c4
      have d5 := HW2.out.box.c5
      go_wp2_with fail
      refine (itoa_any wi _ HW2.out.T (by omega) (by omega)).mono ?_
      rintro e V1 ⟨rfl, hb⟩
      have HK : Hid (WS w V1 (Rl.mk nm k f t wo wi) (.slice (some ⟨g3, 0, none⟩) 7 c3) (w5 nm k f t ++ [withoutL, dec wo.toNat])) := HW2.out.keep hb
      clear HW2 hb
      have hpo : (V1.alloc (.cells #[.string ⟨#[119, 105, 116, 104, 105, 110]⟩, .string (bt (dec (wi).toNat))] 9)).ownsRow (w.heap.size + 1) 9 1 (.slice (some ⟨g3, 0, none⟩) 7 c3) 7 (((w5 nm k f t ++ [withoutL, dec wo.toNat])).map sv) := HK.out.own.alloc _
      have HKA : Hid (WS w (V1.alloc (.cells #[.string ⟨#[119, 105, 116, 104, 105, 110]⟩, .string (bt (dec (wi).toNat))] 9)) (Rl.mk nm k f t wo wi) (.slice (some ⟨g3, 0, none⟩) 7 c3) (w5 nm k f t ++ [withoutL, dec wo.toNat])) := HK.out.keep ((Below.refl _ _).alloc (Nat.le_refl _) _)
      have hsz : w.heap.size + 1 ≤ (V1.alloc (.cells #[.string ⟨#[119, 105, 116, 104, 105, 110]⟩, .string (bt (dec (wi).toNat))] 9)).heap.size := HKA.out.box.lt
      go_wp2_with (at_builtin; refine wpList_append_lies _ rfl _ _ 43 rfl (w.heap.size + 1) 9 i9 (.string ⟨#[]⟩) 1 16 Tryz.underlying43 hi9 hz9 hs9 hb9 rfl (by decide) _ _ _ rfl hpo ⟨V1.heap.size, 0, none⟩ 2 2 [.string ⟨#[119, 105, 116, 104, 105, 110]⟩, .string (bt (dec (wi).toNat))] rfl rfl ?q1 ?q2 (by omega) ?q3 ?q4 ?q5 (V1.heap.size + 1) ?q6 ?_)
      case q1 => exact new2 V1 _ _
      case q2 => intro u hu; simp at hu; rcases hu with rfl | rfl <;> rfl
      case q3 => unfold maxLen; omega
      case q4 => omega
      case q5 => exact hsz
      case q6 => simp
      intro g3 c3 V2 hown3 hgrow3 hat3 hlt3
      have HW4 : Hid (WS w V2 (Rl.mk nm k f t wo wi) (.slice (some ⟨g3, 0, none⟩) 9 c3) ((w5 nm k f t ++ [withoutL, dec wo.toNat]) ++ [withinL, dec (wi).toNat])) := HKA.out.grow HW8.out hown3 hgrow3
      clear HK HKA hpo hsz hown3 hgrow3 hat3 hlt3
      have d4 := HW4.out.box.c4
      have d5 := HW4.out.box.c5
      go_wp2_with fail
      refine (join_ws HW4.out HL2.out (by simp [w5])).mono ?_
      rintro e V3 ⟨rfl, hb⟩
      have HB : Hid (Below w.heap.size w V3) := HW4.out.bl.trans (hb.mono HW4.out.bl.size)
      clear hb HW4
      go_wp2
      go_ret2
      refine ⟨?_, HB.out⟩
      rw [HX.out]
      rfl
set_option maxHeartbeats 1000000 in
theorem text_no (r : Rl) {n : Nat} (w : World) (hs : r.nm.size ≤ 9223372036854775807) (hn : r.flt n) (h0 : n ≠ 0) :
    Calls Tryz.prog 7 #[rV r] w fun e w' => e = .returned (.tuple #[.string ⟨#[]⟩, errV n]) ∧ Below w.heap.size w w' := by
  have HC : Hid (∀ V : World, Calls Tryz.prog 9 #[rV r] V fun e w' => e = .returned (errV n) ∧ Below V.heap.size V w') := fun V => check_any r V hs hn
  have he : errV n = .iface 57 (.int .i64 (n : Int)) := if_neg h0
  rw [he] at HC ⊢
  clear hn hs he
  unfold rV at *
  go_enter Tryz.func7, Tryz.ntmps7
  go_wp2_with fail
  refine (HC.out _).mono ?_
  rintro e w1 ⟨rfl, hb1⟩
  have HB : Hid (Below w.heap.size w w1) := ((Below.refl _ w).alloc (Nat.le_refl _) _).trans (hb1.mono (by simp))
  clear hb1
  go_wp2
  go_ret2
  exact ⟨rfl, HB.out⟩
/-- What Text answers. -/
theorem text_yes (r : Rl) (w : World) (hT : RTab w) (hok : r.ok) :
    Calls Tryz.prog 7 #[rV r] w fun e w' => e = .returned (.tuple #[.string (textB r), .nilIface]) ∧ Below w.heap.size w w' := by
  have h := hok.2.1
  obtain ⟨nm, K, F, T, O, I⟩ := r
  obtain ⟨⟨a1, a2⟩, ⟨b1, b2⟩, ⟨c1, c2⟩, _⟩ := h
  simp only at a1 b1 c1
  obtain ⟨k, rfl⟩ : ∃ k : Nat, K = k := ⟨K.toNat, by omega⟩
  obtain ⟨f, rfl⟩ : ∃ k : Nat, F = k := ⟨F.toNat, by omega⟩
  obtain ⟨t, rfl⟩ : ∃ k : Nat, T = k := ⟨T.toNat, by omega⟩
  exact text_cut nm k f t O I w hT hok
end Go.Proofs.YtnahkonklkcbeabGreatDoor.RuA
