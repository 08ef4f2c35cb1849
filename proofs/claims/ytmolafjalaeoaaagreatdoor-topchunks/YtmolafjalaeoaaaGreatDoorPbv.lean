/-
  TopChunks and TopOrder return true in every case.
-/
import Derived.Test.YtmolafjalaeoaaaGreatDoorPbr
import Derived.Test.YtmolafjalaeoaaaGreatDoorPbu
namespace Go.Proofs.YtmolafjalaeoaaaGreatDoor.WbA
open Go.RowKit Go.Deep TkW WaM WaW WaB
open RuM (Rl)
theorem topChunks_any (x : Ci) (rs : List Rl) (q : Option Addr) (cap : Nat) (ac : List Ac) (p : Option Addr) (capA : Nat) (at_ : List Int) (qt : Option Addr) (capT : Nat) (w : World)
    (hr : RsIn w q cap rs) (hT : TagA.Tabs w) (hA : AcsOn w.heap.size w p ac) (hAl : ac.length ≤ 9223372036854775807) (hI : IsOn w.heap.size w qt at_) (hTl : at_.length ≤ 9223372036854775807) :
    Calls Tryz.prog 4 #[.agg (cfw x), .slice q rs.length cap, .slice p ac.length capA, .slice qt at_.length capT] w fun e w' => e = .returned (.bool true) ∧ Below w.heap.size w w' := by
  by_cases h : light ac 50 ∧ at_.length ≤ 100 ∧ Good x rs
  · exact topChunks_some x rs q cap ac p capA at_ qt capT w hr hT hA hI h.1 h.2.1 h.2.2
  · exact topChunks_none x rs q cap ac p capA at_ qt capT w hr hA hAl hTl h
theorem topOrder_any (x : Ci) (rs : List Rl) (q : Option Addr) (cap : Nat) (ac : List Ac) (p : Option Addr) (capA : Nat) (w : World)
    (hr : RsIn w q cap rs) (hT : TagA.Tabs w) (hA : AcsOn w.heap.size w p ac) (hAl : ac.length ≤ 9223372036854775807) :
    Calls Tryz.prog 5 #[.agg (cfw x), .slice q rs.length cap, .slice p ac.length capA] w fun e w' => e = .returned (.bool true) ∧ Below w.heap.size w w' := by
  by_cases h : light ac 50 ∧ Good x rs
  · exact topOrder_some x rs q cap ac p capA w hr hT hA h.1 h.2
  · exact topOrder_none x rs q cap ac p capA w hr hA hAl h
end Go.Proofs.YtmolafjalaeoaaaGreatDoor.WbA
