/-
  What the document's Comes does to the world.
-/
import Derived.Test.YtnahkonklkcbeabGreatDoorTkO
namespace Go.Proofs.YtnahkonklkcbeabGreatDoor.TkA
open Go.RowKit TkM TkW Go.Maps
set_option maxRecDepth 100000

theorem isA_true {n : Nat} {t : Bool} {p e v : Int} (h : isA n t p e v = true) : (0 ≤ e ∧ e < (n : Int)) ∧ t = true ∧ 0 ≤ p ∧ v = p := by
  unfold isA wv at h
  simp only [Bool.and_eq_true, decide_eq_true_eq] at h
  obtain ⟨⟨h1, h2⟩, h3⟩ := h
  by_cases he : 0 ≤ e ∧ e < (n : Int)
  · simp only [if_pos he] at h1 h3
    cases t with
    | false => simp at h1
    | true => simp at h3; exact ⟨he, rfl, h2, h3⟩
  · simp only [if_neg he] at h1
    cases h1
theorem isA_mk {n : Nat} {p e v : Int} (he : 0 ≤ e ∧ e < (n : Int)) (hp : 0 ≤ p) : isA n true p e v = decide (v = p) := by
  unfold isA wv
  simp [he, hp]
theorem isA_out {n : Nat} {t : Bool} {p e v : Int} (he : ¬ (0 ≤ e ∧ e < (n : Int))) : isA n t p e v = false := by
  unfold isA wv
  rw [if_neg he]
  simp
section
variable {w : World} {rb : Nat} {F : Nat → Prop} {W need q : Nat} {E : List (List Sg)}
set_option maxHeartbeats 1000000 in
theorem rcomes_any (g : ByteArray) (p e : Int) (d : RfAt w rb F W need q E) (hW : W ≤ 8) (hg : g.size ≤ 100000) (hq : q ≤ 9000000000) :
    Calls Tryz.prog 36 #[.pointer (some ⟨rb, 0, none⟩), .string g, .int .i64 p, .int .i64 e] w fun x w' => x = .returned (.bool (comesB E.length (told g E) p e (fun e => whr g (epOf E) W need e.toNat))) ∧ RfAt w' rb F W need (q + 2) E ∧ Kp F w w' := by
  have h25 := (light_iff.1 d.good).1
  have HW : Hid (Calls Tryz.prog 55 #[.pointer (some ⟨rb, 0, none⟩), .string g, .int .i64 e] w fun x w' => x = .returned (.tuple #[.int .i64 (wv E.length (told g E) e (whr g (epOf E) W need e.toNat)).1, .int .i64 ((wv E.length (told g E) e (whr g (epOf E) W need e.toNat)).2 : Int)]) ∧ RfAt w' rb F W need (q + 1) E ∧ Kp F w w') := rwhere_any g e d hW hg (by omega)
  have HA : Hid (∀ (V : World) (k : Nat), RfAt V rb F W need (q + 1) E → k < E.length → Calls Tryz.prog 37 #[.pointer (some ⟨rb, 0, none⟩), .string g, .int .i64 (k : Int)] V fun x w' => x = .returned (.int .i64 (whr g (epOf E) W need k)) ∧ RfAt w' rb F W need (q + 2) E ∧ Kp F V w') := fun V k hV hk => rat_any g k hV hk hW hg (by omega)
  clear d
  obtain ⟨f, hf⟩ : ∃ f : Int → Int, f = fun e => whr g (epOf E) W need e.toNat := ⟨_, rfl⟩
  have HF : Hid (∀ k : Nat, whr g (epOf E) W need k = f (k : Int)) := fun k => by rw [hf]; simp
  have e1 : whr g (epOf E) W need e.toNat = f e := by rw [hf]
  rw [e1] at HW
  rw [← hf]
  clear hf e1
  cases hA : isA E.length (told g E) p e (f e) with
  | true =>
    obtain ⟨he, ht, hp, hv⟩ := isA_true hA
    have hwv : wv E.length (told g E) e (f e) = (p, 0) := by unfold wv; rw [if_pos he, ht, if_pos rfl, hv]
    rw [hwv] at HW
    simp only at HW
    have hpd : decide (p < 0) = false := by simp; omega
    have hpe : (p != p) = false := by simp
    by_cases h0 : e = 0
    · subst h0
      have hr : comesB E.length (told g E) p 0 f = true := by unfold comesB; rw [hA, isA_out (by omega)]; rfl
      rw [hr]
      clear hr hA hwv
      go_enter Tryz.func36, Tryz.ntmps36
      go_wp2_with fail
      refine HW.out.mono ?_
      rintro x w1 ⟨rfl, h1, h2⟩
      have HR : Hid (RfAt w1 rb F W need (q + 2) E ∧ Kp F w w1) := ⟨h1.more (by omega), h2⟩
      clear h1 h2
      go_wp2
      go_ret
      exact ⟨rfl, HR.out⟩
    · obtain ⟨k, hk⟩ : ∃ k : Nat, e - 1 = (k : Int) := ⟨(e - 1).toNat, by omega⟩
      have hk2 : k < E.length := by omega
      have h0d : (e == 0) = false := by simpa using h0
      have hr : comesB E.length (told g E) p e f = !(f (k : Int) == p) := by
        unfold comesB
        rw [hA, ht, hk, isA_mk (by omega) hp, Bool.true_and]
        congr 1
      have HAK : Hid (∀ (V : World), RfAt V rb F W need (q + 1) E → Calls Tryz.prog 37 #[.pointer (some ⟨rb, 0, none⟩), .string g, .int .i64 (e - 1)] V fun x w' => x = .returned (.int .i64 (f (k : Int))) ∧ RfAt w' rb F W need (q + 2) E ∧ Kp F V w') := fun V hV => by
        rw [hk, ← HF.out k]
        exact HA.out V k hV hk2
      rw [hr]
      have heI : e ≤ 25 := by omega
      have heJ : 0 ≤ e := he.1
      clear hr hA hwv ht hv HA HF hk hk2 he
      generalize f (k : Int) = fk at *
      have hbn : (fk != p) = !(fk == p) := rfl
      go_enter Tryz.func36, Tryz.ntmps36
      go_wp2_with fail
      refine HW.out.mono ?_
      rintro x w1 ⟨rfl, h1, h2⟩
      have HR1 : Hid (RfAt w1 rb F W need (q + 1) E ∧ Kp F w w1) := ⟨h1, h2⟩
      clear h1 h2
      go_wp2_with fail
      refine (HAK.out _ HR1.out.1).mono ?_
      rintro x w2 ⟨rfl, h1, h2⟩
      have HR2 : Hid (RfAt w2 rb F W need (q + 2) E ∧ Kp F w w2) := ⟨h1, HR1.out.2.trans h2⟩
      clear h1 h2
      go_wp2
      go_ret
      exact ⟨rfl, HR2.out⟩
  | false =>
    have hr : comesB E.length (told g E) p e f = false := by unfold comesB; rw [hA]; rfl
    rw [hr]
    have hcs : 0 < (wv E.length (told g E) e (f e)).2 ∨ ((wv E.length (told g E) e (f e)).2 = 0 ∧ p < 0) ∨ ((wv E.length (told g E) e (f e)).2 = 0 ∧ 0 ≤ p ∧ (wv E.length (told g E) e (f e)).1 ≠ p) := by
      unfold isA at hA
      by_cases h1 : (wv E.length (told g E) e (f e)).2 = 0
      · by_cases h2 : 0 ≤ p
        · have h3 : ¬ (wv E.length (told g E) e (f e)).1 = p := fun h => by simp [h1, h2, h] at hA
          exact Or.inr (Or.inr ⟨h1, h2, h3⟩)
        · exact Or.inr (Or.inl ⟨h1, by omega⟩)
      · exact Or.inl (by omega)
    clear hr hA HA HF
    generalize wv E.length (told g E) e (f e) = a at *
    obtain ⟨x, k⟩ := a
    simp only at HW hcs
    rcases hcs with h | ⟨rfl, h⟩ | ⟨rfl, h, h'⟩
    · have hI : (0 : Int) < (k : Int) := by omega
      go_enter Tryz.func36, Tryz.ntmps36
      go_wp2_with fail
      refine HW.out.mono ?_
      rintro x w1 ⟨rfl, h1, h2⟩
      have HR : Hid (RfAt w1 rb F W need (q + 2) E ∧ Kp F w w1) := ⟨h1.more (by omega), h2⟩
      clear h1 h2
      go_wp2
      go_ret
      exact ⟨rfl, HR.out⟩
    · have hd : decide (p < 0) = true := by simpa using h
      go_enter Tryz.func36, Tryz.ntmps36
      go_wp2_with fail
      refine HW.out.mono ?_
      rintro x w1 ⟨rfl, h1, h2⟩
      have HR : Hid (RfAt w1 rb F W need (q + 2) E ∧ Kp F w w1) := ⟨h1.more (by omega), h2⟩
      clear h1 h2
      go_wp2
      go_ret
      exact ⟨rfl, HR.out⟩
    · have hd : decide (p < 0) = false := by simpa using h
      have hd2 : (x != p) = true := by simpa using h'
      clear h'
      go_enter Tryz.func36, Tryz.ntmps36
      go_wp2_with fail
      refine HW.out.mono ?_
      rintro x w1 ⟨rfl, h1, h2⟩
      have HR : Hid (RfAt w1 rb F W need (q + 2) E ∧ Kp F w w1) := ⟨h1.more (by omega), h2⟩
      clear h1 h2
      go_wp2
      go_ret
      exact ⟨rfl, HR.out⟩
end
end Go.Proofs.YtnahkonklkcbeabGreatDoor.TkA
