/-
  PROVED: TopFrames returns true, whatever the frames, the bytes and the cuts; they read as before. No condition.
-/
import Derived.Test.YtjdfllocngkjpaaFedP
import Derived.Test.YtjdfllocngkjpaaTopB
namespace Go.Proofs.Ytjdfllocngkjpaa.FrmA
open Go.ChangeShapes Go.WideShapes Go.ChangeAt Go.RowKit Go.Deep FrmM
open Go.ChangeMaps (open_string)
set_option maxRecDepth 100000

section
variable {H : Type} {enc : TypeId × Value → H} {w : World} {base : Nat} {spare : Nat → Bool} {held : Bool}
theorem open_frames {fuel : Nat} {cs : List Value} {x : DataW H × List MemPlace} (h : DataW.trod enc Try.prog w base spare held fuel 36 cs = some x) : ∃ p cap fs, cs = [.slice p (List.length fs) cap] ∧ FramesOn w p fs := by
  rcases open_slice Try.underlying36 h with ⟨rfl, _⟩ | ⟨a, len, cap, m, n, D, Pl, rfl, hb, hle, hcap, hm, _, hel⟩
  · exact ⟨none, 0, [], rfl, ⟨fun hn => absurd rfl hn⟩⟩
  · have hml : len ≤ m := by rw [hm]; split <;> omega
    obtain ⟨fs, hfl, hfs⟩ := list_of (Q := fun i (f : Fr) => ∃ (q : Option Addr) (c : Nat), ReadsOn w q f.rs ∧ ∀ j u, ([.int .i64 f.ty, .slice q f.rs.length c, .int .i64 f.wm] : List Value)[j]? = some u → w.cell? ((a.add (i * 3)).add j) = some u) len (fun i hi => by
      obtain ⟨cs', hc, ht⟩ := hel i (by omega)
      rw [cells24] at hc
      obtain ⟨_, hlen, hcell⟩ := World.cells?_some hc
      obtain ⟨f, q, c, rfl, hr⟩ := open_frame hlen ht
      refine ⟨f, q, c, hr, fun j u hj => ?_⟩
      have hj3 : j < 3 := by
        rcases Nat.lt_or_ge j 3 with h | h
        · exact h
        · rw [List.getElem?_eq_none (by show 3 ≤ j; exact h)] at hj; cases hj
      rw [hcell j hj3]
      exact hj)
    refine ⟨some a, cap, fs, by rw [hfl], ⟨fun hne => ?_⟩⟩
    have h0 : 0 < fs.length := List.length_pos_iff.2 hne
    obtain ⟨q0, c0, _, hf0⟩ := hfs 0 _ (List.getElem?_eq_getElem h0)
    have hf := hf0 0 _ rfl
    rw [Nat.zero_mul, add_zero, add_zero] at hf
    obtain ⟨b, o, rfl, hlt⟩ := plain_addr hf
    refine ⟨b, o, rfl, hlt, fun k f hk => ?_⟩
    obtain ⟨q, c, hr, hc⟩ := hfs k f hk
    have e1 : (⟨b, o, none⟩ : Addr).add (k * 3) = ⟨b, o + k * 3, none⟩ := by unfold Addr.add; split <;> simp_all
    have e2 : ∀ j, (⟨b, o + k * 3, none⟩ : Addr).add j = ⟨b, o + k * 3 + j, none⟩ := fun j => by unfold Addr.add; split <;> simp_all
    rw [e1] at hc
    have k0 := hc 0 _ rfl
    have k1 := hc 1 _ rfl
    have k2 := hc 2 _ rfl
    rw [e2] at k0 k1 k2
    exact ⟨q, c, k0, k1, k2, hr⟩
theorem open_nums {fuel : Nat} {cs : List Value} {x : DataW H × List MemPlace} (h : DataW.trod enc Try.prog w base spare held fuel 50 cs = some x) : ∃ p cap zs, cs = [.slice p (List.length zs) cap] ∧ IntsOn w p zs := by
  rcases open_slice Try.underlying50 h with ⟨rfl, _⟩ | ⟨a, len, cap, m, n, D, Pl, rfl, hb, hle, hcap, hm, _, hel⟩
  · exact ⟨none, 0, [], rfl, ⟨fun hn => absurd rfl hn⟩⟩
  · have hml : len ≤ m := by rw [hm]; split <;> omega
    obtain ⟨zs, hzl, hzs⟩ := list_of (Q := fun i (z : Int) => w.cell? (a.add i) = some (.int .i64 z)) len (fun i hi => by
      obtain ⟨cs', hc, ht⟩ := hel i (by omega)
      rw [cells3] at hc
      obtain ⟨_, hlen, hcell⟩ := World.cells?_some hc
      obtain ⟨z, rfl, _, _⟩ := DataW.trod_int Try.underlying3 ht
      refine ⟨z, ?_⟩
      have := hcell 0 (by omega)
      rw [add_zero, Nat.mul_one] at this
      exact this)
    refine ⟨some a, cap, zs, by rw [hzl], ⟨fun hne => ?_⟩⟩
    have h0 : 0 < zs.length := List.length_pos_iff.2 hne
    have hf := hzs 0 _ (List.getElem?_eq_getElem h0)
    rw [add_zero] at hf
    obtain ⟨b, o, rfl, hlt⟩ := plain_addr hf
    refine ⟨b, o, rfl, hlt, fun k z hk => ?_⟩
    have hc := hzs k z hk
    have e1 : (⟨b, o, none⟩ : Addr).add k = ⟨b, o + k, none⟩ := by unfold Addr.add; split <;> simp_all
    rw [e1] at hc
    exact hc
end
theorem top_any (fs : List Fr) (zs : List Int) (pl pa : Option Addr) (cl ca : Nat) (raw : ByteArray) (w : World) (hf : FramesOn w pl fs) (hz : IntsOn w pa zs) :
    Calls Try.prog 5 #[.slice pl fs.length cl, .string raw, .slice pa zs.length ca] w fun e w' => e = .returned (.bool true) ∧ Below w.heap.size w w' := by
  by_cases h1 : 12 < fs.length
  · exact top_large pl pa _ cl _ ca raw w (Or.inl h1)
  by_cases h2 : 600 < raw.size
  · exact top_large pl pa _ cl _ ca raw w (Or.inr (Or.inl ⟨by omega, h2⟩))
  by_cases h3 : 40 < zs.length
  · exact top_large pl pa _ cl _ ca raw w (Or.inr (Or.inr ⟨by omega, by omega, h3⟩))
  exact top_small fs zs pl pa cl ca raw w hf hz (by omega) (by omega) (by omega)
theorem top_lifted (os : Os) (started : os.Started) (H : Type) (enc : TypeId × Value → H) :
    ReturnsInHanded {} Try.checked os 5 .any (Rows.topFramesSpec.pre6 enc Try.prog Try.f5 Rows.topFramesRow.domain false) (Rows.topFramesSpec.post enc Try.prog Try.f5 false true false false) := by
  refine returnsInHanded_of_change (C := Try.checked) own started (by kernel_rfl) Try.func5
    (ChangeSpec.witness6 (enc := enc) (C := Try.checked) false ⟨#[], #[.slice none 0 0, .string ⟨#[]⟩, .slice none 0 0], []⟩ 8 (by kernel_rfl) (by kernel_rfl) (by kernel_rfl) (by kernel_rfl)) ?_
  intro W base args ds gs before hval0 hW hcnd _
  have hval : ∀ (j : Nat) t v, Try.f5.params[j]? = some t → args[j]? = some v → Value.okWide Try.prog W .any base t v := hval0
  have hW' := hW
  obtain ⟨p, q, hA0, hV, rfl, hfz, hnd⟩ := hW
  have hA : DataW.TrodAll enc Try.prog W 0 (fun _ => true) true Try.f5.params.toList args.toList ds p := hA0
  rw [Try.params5] at hA hval
  obtain ⟨v0, v1, v2, d0, d1, d2, p0, p1, p2, hargs, rfl, rfl, h0, h1, h2⟩ := trodAll_three hA
  obtain rfl : args = #[v0, v1, v2] := by cases args; simp_all
  obtain ⟨rfl, rfl⟩ := trodVars_none hV
  simp only [List.append_nil] at hW'
  have hlt := hW'.lt
  have hlt0 : ∀ x ∈ p0, x.block < W.heap.size := fun x hx => hlt x (by simp [hx])
  have hlt1 : ∀ x ∈ p1, x.block < W.heap.size := fun x hx => hlt x (by simp [hx])
  have hlt2 : ∀ x ∈ p2, x.block < W.heap.size := fun x hx => hlt x (by simp [hx])
  have k0 := h0
  have k1 := h1
  have k2 := h2
  obtain ⟨fuel0, hf0⟩ := h0
  obtain ⟨fuel2, hf2⟩ := h2
  obtain ⟨pl, cl, fs, hcs0, hr0⟩ := open_frames hf0
  obtain ⟨pa, ca, zs, hcs2, hr2⟩ := open_nums hf2
  obtain rfl := cells_slice (okWide_slice Try.underlying36 (hval 0 36 _ rfl rfl)) hcs0
  obtain rfl := cells_slice (okWide_slice Try.underlying50 (hval 2 50 _ rfl rfl)) hcs2
  obtain ⟨raw, rfl, _, _, _⟩ := open_string Try.underlying9 (hval 1 9 _ rfl rfl) h1
  refine (top_any fs zs pl pa cl ca raw W hr0 hr2).mono fun e W' ⟨he, hbel⟩ => ?_
  subst he
  exact ⟨_, rfl, _, _, _, [], p0 ++ (p1 ++ (p2 ++ [])), [], hW', trodAll_mk1 (shut_bool Try.underlying4 _),
    trodAll_cons_mk (Below.trod laidOut (by kernel_rfl) (of_decide_eq_true (by kernel_rfl)) k0 hbel hlt0) (trodAll_cons_mk (Below.trod laidOut (by kernel_rfl) (of_decide_eq_true (by kernel_rfl)) k1 hbel hlt1) (trodAll_cons_mk (Below.trod laidOut (by kernel_rfl) (of_decide_eq_true (by kernel_rfl)) k2 hbel hlt2) trodAll_mk0)), rfl, hbel.frame _, fun h => by cases h⟩
end Go.Proofs.Ytjdfllocngkjpaa.FrmA
namespace Go.Proofs.Ytjdfllocngkjpaa
set_option maxRecDepth 100000
theorem topFrames_holds : Rows.TopFramesSaid :=
  OpenClaim.holds_of_wide 5 Try.f5 rfl rfl rfl rfl rfl rfl rfl ⟨rfl, rfl, rfl, rfl, rfl⟩ rfl rfl rfl rfl rfl (by kernel_rfl) Try.func5 (by kernel_rfl)
    (of_decide_eq_true (by kernel_rfl)) (by unfold Func.isWrapper; first | (rw [if_pos (by decide +kernel)]; kernel_rfl) | (rw [if_neg (by decide +kernel)]; exact ⟨rfl, rfl⟩))
    (fun os started H enc _ => FrmA.top_lifted os started H enc)
#print axioms topFrames_holds
end Go.Proofs.Ytjdfllocngkjpaa
