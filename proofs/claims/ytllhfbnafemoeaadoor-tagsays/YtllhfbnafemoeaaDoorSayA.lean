/-
  What TagSays calls: same, tags; what the program and the document's own answer read, side by side.
-/
import Derived.Test.YtllhfbnafemoeaaDoorRefL
import Derived.Test.YtllhfbnafemoeaaDoorTopA
import Derived.Test.YtllhfbnafemoeaaDoorNamesW
namespace Go.Proofs.YtllhfbnafemoeaaDoor.TagA
open Go.RowKit TagM
set_option maxRecDepth 100000

set_option maxHeartbeats 400000 in
theorem same_nil (w : World) :
    Calls Tryd.prog 6 #[.nilIface, .int .i64 0] w fun e w' => e = .returned (.bool true) ∧ w' = w := by
  go_enter Tryd.func6, Tryd.ntmps6
  go_wp2
  go_ret
  exact ⟨rfl, rfl⟩
set_option maxHeartbeats 400000 in
theorem same_err0 (n : Int) (w : World) :
    Calls Tryd.prog 6 #[.iface 23 (.int .i64 n), .int .i64 0] w fun e w' => e = .returned (.bool false) ∧ w' = w := by
  have hta := NamesW.assert_errno
  go_enter Tryd.func6, Tryd.ntmps6
  go_wp2
  go_ret
  exact ⟨rfl, rfl⟩
theorem case17 : textI 2 1 3 7 12 5 = ⟨#[99, 97, 115, 101, 58, 49, 46, 48, 48, 55, 46, 48, 48, 49, 50, 46, 53]⟩ := by
  refine bytes_inj ?_
  unfold textI
  rw [text_list]
  have d1 : dec 1 = [49] := dec_one (by decide)
  have d5 : dec 5 = [53] := dec_one (by decide)
  have d7 : dec 7 = [55] := dec_one (by decide)
  have d12 : dec 12 = [49, 50] := by rw [dec_step (by decide)]; show dec 1 ++ [50] = _; rw [d1]; rfl
  show kwL 1 ++ 58 :: (dec 1 ++ 46 :: ((zer (3 - (dec 7).length) ++ dec 7) ++ 46 :: ((zer (4 - (dec 12).length) ++ dec 12) ++ 46 :: dec 5))) = _
  rw [d1, d5, d7, d12]
  rfl
theorem case17L : ((textI 2 1 3 7 12 5).toList == [99, 97, 115, 101, 58, 49, 46, 48, 48, 55, 46, 48, 48, 49, 50, 46, 53]) = true := by
  rw [case17, ByteArray.toList_eq]
  decide
set_option maxHeartbeats 1000000 in
theorem tags_any (w : World) (hT : Tabs2 w) :
    Calls Tryd.prog 9 #[] w fun e w' => e = .returned (.bool true) ∧ Below w.heap.size w w' := by
  have HT : Hid (Tabs2 w) := hT
  have h17 := case17L
  clear hT
  go_enter Tryd.func9, Tryd.ntmps9
  go_wp2_with fail
  refine (text_yes 2 1 3 7 12 5 _ HT.out (by decide)).mono ?_
  rintro e w1 ⟨rfl, hb1⟩
  have HB : Hid (Below w.heap.size w w1) := hb1
  clear hb1
  go_wp2_with fail
  refine (same_nil _).mono ?_
  rintro e w2 ⟨rfl, rfl⟩
  go_wp2
  go_ret
  exact ⟨rfl, HB.out⟩

/-- What TagOf answers. -/
def ofbV (s : ByteArray) : Value :=
  if s.size = 8 ∧ okP (numU s.data.toList) = true then .tuple #[tagV ((Kf (numU s.data.toList) : Int) - 47) (Ff (numU s.data.toList)) (Pf (numU s.data.toList)) (Cf (numU s.data.toList) (Pf (numU s.data.toList))) (Rf (numU s.data.toList) (Pf (numU s.data.toList))) (Sf (numU s.data.toList)), .bool true]
  else refNo
theorem tagof_any (s : ByteArray) (w : World) (hm : s.size ≤ maxLen) :
    Calls Tryd.prog 17 #[.string s] w fun e w' => e = .returned (ofbV s) ∧ Below w.heap.size w w' := by
  by_cases h8 : s.size = 8
  case neg =>
    have e : ofbV s = refNo := by unfold ofbV; rw [if_neg (fun h => h8 h.1)]
    rw [e]
    exact tagof_len s w h8 hm
  refine tagof_8 s w h8 _ rfl _ ?_
  unfold ofbV
  simp only [h8, true_and]
theorem both_parse (b : ByteArray) : (∃ K F P C R S : Int, parseV b = .tuple #[.agg #[.int .i64 K, .int .i64 F, .int .i64 P, .int .i64 C, .int .i64 R, .int .i64 S], .nilIface] ∧ ofbV b = .tuple #[.agg #[.int .i64 K, .int .i64 F, .int .i64 P, .int .i64 C, .int .i64 R, .int .i64 S], .bool true])
    ∨ (parseV b = .tuple #[noTag, .iface 23 (.int .i64 3)] ∧ ofbV b = .tuple #[noTag, .bool false]) := by
  unfold parseV ofbV
  split
  · exact Or.inl ⟨_, _, _, _, _, _, rfl, rfl⟩
  · exact Or.inr ⟨rfl, rfl⟩
theorem tagread_yes {K F P C R S : Int} (s : ByteArray) (w : World) (hs : s.size ≤ 200) (hok : okB K F P C R S = true) (ht : textI K F P C R S = s) :
    Calls Tryd.prog 19 #[.string s] w fun e w' => e = .returned (.tuple #[.agg #[.int .i64 K, .int .i64 F, .int .i64 P, .int .i64 C, .int .i64 R, .int .i64 S], .bool true]) ∧ Below w.heap.size w w' := by
  refine (tagread_any s w hs).mono ?_
  rintro e w' ⟨hp, hb⟩
  refine ⟨?_, hb⟩
  rcases hp with ⟨K', F', P', C', R', S', hok', ht', rfl⟩ | ⟨hn, -⟩
  · subst ht'
    have h1 := of_textI hok'
    rw [← ht, of_textI hok] at h1
    obtain ⟨rfl, rfl, rfl, rfl, rfl, rfl⟩ := teq_true.1 (tag_inj h1)
    rfl
  · exact absurd ht (hn _ _ _ _ _ _ hok)
theorem tagread_no (s : ByteArray) (w : World) (hs : s.size ≤ 200) (hn : NoText s) :
    Calls Tryd.prog 19 #[.string s] w fun e w' => e = .returned (.tuple #[noTag, .bool false]) ∧ Below w.heap.size w w' := by
  refine (tagread_any s w hs).mono ?_
  rintro e w' ⟨hp, hb⟩
  refine ⟨?_, hb⟩
  rcases hp with ⟨K', F', P', C', R', S', hok', ht', rfl⟩ | ⟨-, rfl⟩
  · exact absurd ht' (hn _ _ _ _ _ _ hok')
  · rfl
end Go.Proofs.YtllhfbnafemoeaaDoor.TagA
