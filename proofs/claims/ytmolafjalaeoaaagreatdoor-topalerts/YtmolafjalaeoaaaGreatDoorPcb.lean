/-
  TopAlerts: where there is no watch; and in every case.
-/
import Derived.Test.YtmolafjalaeoaaaGreatDoorPca
namespace Go.Proofs.YtmolafjalaeoaaaGreatDoor.WbA
open Go.RowKit TkW WaM WaW WaB WbO Go.Maps
open RuM (Rl)
set_option maxRecDepth 100000
set_option maxHeartbeats 4000000 in
theorem topAlerts_none (x : Ci) (rs : List Rl) (q : Option Addr) (cap : Nat) (ac : List Ac) (p : Option Addr) (capA : Nat) (w : World)
    (hr : RsIn w q cap rs) (hA : AcsOn w.heap.size w p ac) (hAl : ac.length ≤ 9223372036854775807) (hG : ¬ (light ac 50 ∧ Good x rs)) :
    Calls Tryz.prog 6 #[.agg (cfw x), .slice q rs.length cap, .slice p ac.length capA] w fun e w' => e = .returned (.bool true) ∧ Below w.heap.size w w' := by
  obtain ⟨bl, hbl⟩ : ∃ b : Bool, b = true ↔ light ac 50 := by
    by_cases h : light ac 50
    · exact ⟨true, by simp [h]⟩
    · exact ⟨false, by simp [h]⟩
  have HLA : Hid (∀ V, Below w.heap.size w V → Calls Tryz.prog 8 #[.slice p ac.length capA, .int .i64 50] V fun e w' => e = .returned (.bool bl) ∧ Below V.heap.size V w') := fun V hV => (lightActs_is ac p capA 50 w.heap.size hbl V (hA.below hV) (by omega) hAl).mono (fun e w' ⟨h1, qq, h2⟩ => ⟨h1, by rw [h2]; exact below_drewN (Below.refl _ _) qq⟩)
  have HB0 : Hid (∀ o, Below w.heap.size w (w.alloc o)) := fun o => (Below.refl _ _).alloc (Nat.le_refl _) o
  have HCF : Hid (∀ w' : World, Below (w.alloc (.cells (cfw x) 25)).heap.size (w.alloc (.cells (cfw x) 25)) w' → w'.heap[w.heap.size]? = some (.cells (cfw x) 25)) := fun w' hb => (hb.block w.heap.size (by simp)).trans (Go.heap_alloc_new w _)
  obtain ⟨mR, hmR⟩ : ∃ mR, mR = rs.length := ⟨_, rfl⟩
  obtain ⟨mA, hmA⟩ : ∃ mA, mA = ac.length := ⟨_, rfl⟩
  have HRS : Hid (RsIn w q cap rs) := hr
  rw [← hmA] at HLA
  have hi' : (Tryz.prog.info? 25).map (·.size) = some (cfw x).toList.length := by kernel_rfl
  cases bl with
  | false =>
    rw [← hmR, ← hmA]
    generalize cfw x = C at *
    clear hr hA hG hbl hmR hmA
    go_enter Tryz.func6, Tryz.ntmps6
    go_wp2_with fail
    refine (HLA.out _ (HB0.out _)).mono ?_
    rintro e w1 ⟨rfl, hb1⟩
    have HB1 : Hid (Below w.heap.size w w1) := (HB0.out _).trans (hb1.mono (HB0.out _).size)
    clear hb1
    go_wp2
    go_ret
    exact ⟨rfl, HB1.out⟩
  | true =>
      have hng : ¬ Good x rs := fun h => hG ⟨hbl.1 rfl, h⟩
      have HMA : Hid (∀ V, Below w.heap.size w V → Calls Tryz.prog 19 #[.agg (cfw x), .slice q rs.length cap] V fun e w' => e = .returned (.tuple #[.pointer none, .bool false]) ∧ Below V.heap.size V w') := fun V hV => made_none (hr.below hV) hng
      obtain ⟨n, hn⟩ := Fl.ex x rs
      have HWF : Hid (∀ V, Below w.heap.size w V → Calls Tryz.prog 11 #[.agg (cfw x), .slice q rs.length cap] V fun e w' => e = .returned (.int .i64 (n : Int)) ∧ Below V.heap.size V w') := fun V hV => watchFault_any x rs q cap V hn (hr.on.below hV) hr.len hr.names
      have HLR : Hid (n = 0 → ∀ V, Below w.heap.size w V → Calls Tryz.prog 9 #[.slice q rs.length cap] V fun e w' => e = .returned (.bool false) ∧ w' = V) := fun h0 V hV => lightRules_is rs q cap (b := false) (by constructor <;> intro k; cases k; exact absurd ⟨k, by rw [← h0]; exact hn⟩ hng) V (hr.on.below hV) hr.len hr.names
      rw [← hmR, ← hmA]
      rw [← hmR] at HMA HWF HLR
      have hra : ∀ w' : World, Below (w.alloc (.cells (cfw x) 25)).heap.size (w.alloc (.cells (cfw x) 25)) w' → w'.rangeAt w.heap.size 0 (cfw x).toList := fun w' hb => range_new (HCF.out w' hb)
      have HRA : Hid (∀ w' : World, Below (w.alloc (.cells (cfw x) 25)).heap.size (w.alloc (.cells (cfw x) 25)) w' → w'.rangeAt w.heap.size 0 (cfw x).toList) := hra
      generalize cfw x = C at *
      clear hr hA hG hbl hmR hmA hng hn hra
      go_enter Tryz.func6, Tryz.ntmps6
      go_wp2_with fail
      refine (HLA.out _ (HB0.out _)).mono ?_
      rintro e w1 ⟨rfl, hb1⟩
      have HA1 : Hid (Below (w.alloc (.cells C 25)).heap.size (w.alloc (.cells C 25)) w1) := hb1
      have hra := HRA.out _ hb1
      clear hb1
      go_wp2_with (refine wpList_load_mid rfl 25 (.tmp 3) rfl w.heap.size 0 rfl C.toList _ hra Tryz.underlying25 rfl hi' ?_)
      have HBW : Hid (∀ V, Below (w.alloc (.cells C 25)).heap.size (w.alloc (.cells C 25)) V → Below w.heap.size w V) := fun V hV => (HB0.out _).trans (hV.mono (HB0.out _).size)
      refine (HMA.out _ (HBW.out _ HA1.out)).mono ?_
      rintro e w2 ⟨rfl, hb2⟩
      have HA2 : Hid (Below (w.alloc (.cells C 25)).heap.size (w.alloc (.cells C 25)) w2) := HA1.out.trans (hb2.mono HA1.out.size)
      clear hb2 hra
      have hra := HRA.out _ HA2.out
      go_wp2_with (refine wpList_load_mid rfl 25 (.tmp 3) rfl w.heap.size 0 rfl C.toList _ hra Tryz.underlying25 rfl hi' ?_)
      refine (HWF.out _ (HBW.out _ HA2.out)).mono ?_
      rintro e w4 ⟨rfl, hb4⟩
      have HA4 : Hid (Below (w.alloc (.cells C 25)).heap.size (w.alloc (.cells C 25)) w4) := HA2.out.trans (hb4.mono HA2.out.size)
      have HB4 : Hid (Below w.heap.size w w4) := HBW.out _ HA4.out
      clear hb4 hra
      by_cases hn0 : n = 0
      · have HL2 : Hid (Calls Tryz.prog 9 #[.slice q mR cap] w4 fun e w' => e = .returned (.bool false) ∧ w' = w4) := HLR.out hn0 _ HB4.out
        have hnI : ¬ (0 : Int) < n := by omega
        go_wp2_with fail
        refine HL2.out.mono ?_
        rintro e w5 ⟨rfl, rfl⟩
        go_wp2
        go_ret
        exact ⟨rfl, HB4.out⟩
      · have hnI : (0 : Int) < n := by omega
        go_wp2
        go_ret
        exact ⟨rfl, HB4.out⟩
theorem topAlerts_any (x : Ci) (rs : List Rl) (q : Option Addr) (cap : Nat) (ac : List Ac) (p : Option Addr) (capA : Nat) (w : World)
    (hr : RsIn w q cap rs) (hT : TagA.Tabs w) (hA : AcsOn w.heap.size w p ac) (hAl : ac.length ≤ 9223372036854775807) :
    Calls Tryz.prog 6 #[.agg (cfw x), .slice q rs.length cap, .slice p ac.length capA] w fun e w' => e = .returned (.bool true) ∧ Below w.heap.size w w' := by
  by_cases h : light ac 50 ∧ Good x rs
  · exact topAlerts_some x rs q cap ac p capA w hr hT hA h.1 h.2
  · exact topAlerts_none x rs q cap ac p capA w hr hA hAl h
end Go.Proofs.YtmolafjalaeoaaaGreatDoor.WbA
