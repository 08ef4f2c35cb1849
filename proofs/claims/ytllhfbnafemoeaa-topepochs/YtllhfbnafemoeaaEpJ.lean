/-
  What the document's Of does to the world.
-/
import Derived.Test.YtllhfbnafemoeaaEpI
import Derived.Lib.QuietBelow
import Derived.Laws.OwnMore
namespace Go.Proofs.Ytllhfbnafemoeaa.EpA
open Go.RowKit EpM EpW Go.Maps
set_option maxRecDepth 100000

/-- The cells of a sight with its epoch. -/
structure RsAt (w : World) (b o : Nat) (x : Sg) (k : Nat) : Prop where
  c0 : w.cell? ⟨b, o, none⟩ = some (.int .i64 x.p)
  c1 : w.cell? ⟨b, o + 1, none⟩ = some (.int .i64 x.s)
  c2 : w.cell? ⟨b, o + 1 + 1, none⟩ = some (.int .i64 x.t)
  c3 : w.cell? ⟨b, o + 1 + 1 + 1, none⟩ = some (.string x.g)
  c4 : w.cell? ⟨b, o + 4, none⟩ = some (.int .i64 (k : Int))
theorem RsAt.keep {w w' : World} {b o : Nat} {x : Sg} {k : Nat} (h : RsAt w b o x k) (e : w'.heap[b]? = w.heap[b]?) : RsAt w' b o x k where
  c0 := by rw [World.cell?_of_block (w := w) e]; exact h.c0
  c1 := by rw [World.cell?_of_block (w := w) e]; exact h.c1
  c2 := by rw [World.cell?_of_block (w := w) e]; exact h.c2
  c3 := by rw [World.cell?_of_block (w := w) e]; exact h.c3
  c4 := by rw [World.cell?_of_block (w := w) e]; exact h.c4
theorem own_rs {V : World} {v : Value} {size : Nat} {xs : List Sg} (h : V.ownsRow 0 93 5 v xs.length (rscs size xs)) : ∃ p cap, v = .slice p xs.length cap ∧ (xs ≠ [] → ∃ b, p = some ⟨b, 0, none⟩ ∧ b < V.heap.size ∧ ∀ k x, xs[k]? = some x → RsAt V b (k * 5) x (epo size x)) := by
  by_cases hne : xs = []
  · subst hne
    rcases h.2 with ⟨rfl, h0⟩ | ⟨g, cap, cur, hv, _⟩
    · exact ⟨none, 0, rfl, fun h => absurd rfl h⟩
    · exact ⟨_, cap, hv, fun h => absurd rfl h⟩
  · obtain ⟨g, cap, rfl, h1, h2⟩ := h.form (List.length_pos_iff.2 hne)
    refine ⟨_, cap, rfl, fun _ => ⟨g, rfl, h2, fun k x hx => ?_⟩⟩
    have hc : ∀ j u, j < 5 → (rsc size x)[j]? = some u → V.cell? ⟨g, k * 5 + j, none⟩ = some u := by
      intro j u hj hu
      have := h.cells (g := g) rfl (k * 5 + j) u (by rw [rscs_at size xs k j x hx hj]; exact hu)
      rw [addr_add] at this
      exact this
    exact ⟨hc 0 _ (by omega) rfl, hc 1 _ (by omega) rfl, hc 2 _ (by omega) rfl, hc 3 _ (by omega) rfl, hc 4 _ (by omega) rfl⟩

/-- A sight is stored into a row of them. -/
theorem own_put {V : World} {base g n cap j : Nat} {A B : List Sg} {y : Sg} (x : Sg) (h : V.ownsRow base 61 4 (.slice (some ⟨g, 0, none⟩) n cap) n (sgcs (A ++ y :: B))) (hA : A.length = j) :
    ((((V.setCell ⟨g, j * 4, none⟩ (.int .i64 x.p)).setCell ⟨g, j * 4 + 1, none⟩ (.int .i64 x.s)).setCell ⟨g, j * 4 + 1 + 1, none⟩ (.int .i64 x.t)).setCell ⟨g, j * 4 + 1 + 1 + 1, none⟩ (.string x.g)).ownsRow base 61 4 (.slice (some ⟨g, 0, none⟩) n cap) n (sgcs (A ++ x :: B)) := by
  have h4 := ((((h.stored (j * 4) (.int .i64 x.p)).1.stored (j * 4 + 1) (.int .i64 x.s)).1.stored (j * 4 + 1 + 1) (.int .i64 x.t)).1.stored (j * 4 + 1 + 1 + 1) (.string x.g)).1
  have e : ((((sgcs (A ++ y :: B)).set (j * 4) (.int .i64 x.p)).set (j * 4 + 1) (.int .i64 x.s)).set (j * 4 + 1 + 1) (.int .i64 x.t)).set (j * 4 + 1 + 1 + 1) (.string x.g) = sgcs (A ++ x :: B) := by
    have hl : (sgcs A).length = j * 4 := by rw [sgcs_len, hA]
    rw [sgcs_append, sgcs_append]
    show (((((sgcs A ++ (sgc y ++ sgcs B)).set _ _).set _ _).set _ _).set _ _) = sgcs A ++ (sgc x ++ sgcs B)
    rw [List.set_append_right _ _ (by omega), List.set_append_right _ _ (by omega), List.set_append_right _ _ (by omega), List.set_append_right _ _ (by omega), hl]
    rw [show j * 4 - j * 4 = 0 by omega, show j * 4 + 1 - j * 4 = 1 by omega, show j * 4 + 1 + 1 - j * 4 = 2 by omega, show j * 4 + 1 + 1 + 1 - j * 4 = 3 by omega]
    rfl
  rw [e] at h4
  exact h4
section
variable {w : World} {rb : Nat} {F : Nat → Prop} {size late now : Nat} {all : List Sg}
set_option maxHeartbeats 1000000 in
theorem of_any (e : Nat) (d : RefAt w rb F size late now all) (hal : all.length ≤ 100000) (hT : ∀ x ∈ all, epo size x ≤ 1000) :
    Calls Try.prog 41 #[.pointer (some ⟨rb, 0, none⟩), .int .i64 (e : Int)] w fun r w' => ∃ v, r = .returned v ∧ w'.ownsRow w.heap.size 61 4 v (grp size all e).length (sgcs (sorted (grp size all e))) ∧ Below w.heap.size w w' := by
  have mixed : Try.prog.follows .mixedOrders = true := by kernel_rfl
  obtain ⟨i0, hi, hz0, hz1, hz2⟩ := info_parts info61
  obtain ⟨v, d⟩ := d.out
  have c3 := d.c3
  have hrb := d.lt
  obtain ⟨p, cap, rfl, hrs⟩ := own_rs d.own
  have HRS : Hid (all ≠ [] → ∃ b, p = some ⟨b, 0, none⟩ ∧ b < w.heap.size ∧ ∀ k x, all[k]? = some x → RsAt w b (k * 5) x (epo size x)) := hrs
  have HT : Hid (∀ x ∈ all, epo size x ≤ 1000) := hT
  clear d hrs hT
  obtain ⟨n, hn⟩ : ∃ n, n = all.length := ⟨_, rfl⟩
  rw [← hn] at hal c3
  have HN : Hid (n = all.length) := hn
  clear hn
  go_enter Try.func41, Try.ntmps41
  go_wp2
  go_loopw [5, 6, 7, 8] (fun l i _ _ V => ∃ k : Nat, k ≤ n ∧ i = .int .i64 (k : Int) ∧ V.ownsRow w.heap.size 61 4 l (grp size (all.take k) e).length (sgcs (sorted (grp size (all.take k) e))) ∧ Below w.heap.size w V) (fun _ i _ _ _ => n - (intOf i).toNat)
  case atStart => exact ⟨0, Nat.zero_le _, rfl, by rw [List.take_zero, show grp size [] e = [] from rfl, show sorted [] = [] by unfold sorted; simp]; exact World.ownsRow_nil _ _ _ _, Below.refl _ _⟩
  case round =>
    obtain ⟨k, hk, rfl, hown, hbel⟩ := hrel
    have HOWN : Hid (wr.ownsRow w.heap.size 61 4 u5 (grp size (all.take k) e).length (sgcs (sorted (grp size (all.take k) e)))) := hown
    have HBEL : Hid (Below w.heap.size w wr) := hbel
    have r3 : wr.cell? ⟨rb, 3, none⟩ = some (.slice p n cap) := by rw [hbel.cell hrb]; exact c3
    have hsz : w.heap.size ≤ wr.heap.size := hbel.size
    by_cases hlt : k < n
    case neg =>
      have hkk : k = n := by omega
      subst hkk
      have HF : Hid (all.take k = all) := by show _ = _; rw [HN.out]; exact List.take_length
      have hI : ¬ (k : Int) < k := by omega
      clear hown hbel hlt
      go_wp2
      go_ret
      refine ⟨_, rfl, ?_, HBEL.out⟩
      have := HOWN.out
      rw [HF.out] at this
      exact this
    case pos =>
      have hkI : (k : Int) < n := by omega
      have hk' : k < all.length := by rw [← HN.out]; exact hlt
      obtain ⟨b, rfl, hb, hc⟩ := HRS.out (by intro e; rw [e] at hk'; simp at hk')
      obtain ⟨x, hx⟩ : ∃ x, x = all[k] := ⟨_, rfl⟩
      obtain ⟨a0, a1, a2, a3, a4⟩ := (hc k x (by rw [hx]; exact List.getElem?_eq_getElem hk')).keep (hbel.block b hb)
      have HTK : Hid (all.take (k + 1) = all.take k ++ [x]) := by show _ = _; rw [hx]; exact List.take_succ_eq_append_getElem hk'
      have hex : epo size x ≤ 1000 := HT.out x (by rw [hx]; exact List.getElem_mem hk')
      clear hc hbel hown hx
      by_cases hee : epo size x = e
      case neg =>
        have hne : ((epo size x : Int) != (e : Int)) = true := by simp; omega
        have HG : Hid (grp size (all.take (k + 1)) e = grp size (all.take k) e) := by show _ = _; rw [HTK.out, grp_snoc_other _ _ (fun h => hee h.symm)]
        clear hee
        go_wp2
        go_roundw
        case rel => exact ⟨k + 1, by omega, by go_num, by rw [HG.out]; exact HOWN.out, HBEL.out⟩
        case measure => simp [intOf]; omega
      case pos =>
        have hne : ((epo size x : Int) != (e : Int)) = false := by simp; omega
        have HG : Hid (grp size (all.take (k + 1)) e = grp size (all.take k) e ++ [x]) := by show _ = _; rw [HTK.out, ← hee, grp_snoc_same]
        obtain ⟨xp, xs, xt, xg⟩ := x
        simp only at a0 a1 a2 a3
        obtain ⟨E, hE⟩ : ∃ E, E = epo size ⟨xp, xs, xt, xg⟩ := ⟨_, rfl⟩
        rw [← hE] at a4 hne hex
        clear hee hE
        obtain ⟨G, hGG⟩ : ∃ G, G = grp size (all.take k) e := ⟨_, rfl⟩
        rw [← hGG] at HOWN HG
        have hGl : G.length ≤ 100000 := by
          rw [hGG]
          have := grp_length size (all.take k) e
          have := List.length_take_le k all
          omega
        clear hGG
        have hown1 : ((wr.alloc (.cells #[.int .i64 xp, .int .i64 xs, .int .i64 xt, .string xg] 61)).alloc (.cells #[.int .i64 xp, .int .i64 xs, .int .i64 xt, .string xg] 61)).ownsRow w.heap.size 61 4 u5 G.length (sgcs (sorted G)) := (HOWN.out.alloc _).alloc _
        rw [← sorted_length G] at hown1 hGl
        obtain ⟨pL, capL, hu5, -⟩ := own_sgs hown1
        rw [hu5] at hown1
        subst hu5
        go_wp2_with (at_builtin; refine wpList_append_lies _ rfl _ _ 73 rfl w.heap.size 61 i0 (.agg #[.int .i64 0, .int .i64 0, .int .i64 0, .string ⟨#[]⟩]) 4 40 Try.underlying73 hi hz0 hz1 hz2 rfl (by decide) _ _ _ rfl hown1 ⟨wr.heap.size + 1, 0, none⟩ 1 1 [.int .i64 xp, .int .i64 xs, .int .i64 xt, .string xg] rfl rfl ?q1 ?q2 (by omega) ?q3 ?q4 ?q5 (wr.heap.size + 2) ?q6 ?_)
        case q1 =>
          intro j u hj
          match j, hj with
          | 0, hj => simp at hj; subst hj; simp [Addr.add]
          | 1, hj => simp at hj; subst hj; simp [Addr.add]
          | 2, hj => simp at hj; subst hj; simp [Addr.add]
          | 3, hj => simp at hj; subst hj; simp [Addr.add]
        case q2 => intro u hu; simp at hu; rcases hu with rfl | rfl | rfl | rfl <;> rfl
        case q3 => unfold maxLen; omega
        case q4 => omega
        case q5 => simp; omega
        case q6 => simp
        intro g capg V hownV hgrow hat hltV
        have hnew : ∀ q, (Value.slice pL (sorted G).length capL).ownBlock = some q → q < wr.heap.size := fun q hq => (HOWN.out.lt q hq).2
        have hgsb : g ≠ wr.heap.size := by
          rcases hat with hat | hat
          · have := hnew g hat; omega
          · omega
        have HSB : Hid (g ≠ wr.heap.size) := hgsb
        have hbV : Below w.heap.size w V := (((HBEL.out.alloc (by omega) _).alloc (by simp; omega) _).grown hgrow (by simp; omega) (fun q hq => (HOWN.out.lt q hq).1))
        have hboxV : V.heap[wr.heap.size]? = some (.cells #[.int .i64 xp, .int .i64 xs, .int .i64 xt, .string xg] 61) := by
          rw [hgrow.block _ (by simp; omega) (fun e => by have := hnew _ e.symm; omega), Below.heap_alloc _ _ _ (by simp)]
          exact Go.heap_alloc_new wr _
        have HBV : Hid (Below w.heap.size w V) := hbV
        have HBX : Hid (V.heap[wr.heap.size]? = some (.cells #[.int .i64 xp, .int .i64 xs, .int .i64 xt, .string xg] 61)) := hboxV
        obtain ⟨L, hL⟩ : ∃ L, L = sorted G := ⟨_, rfl⟩
        have HL : Hid (L = sorted G) := hL
        rw [← hL] at hownV hGl ⊢
        obtain ⟨m, hm⟩ : ∃ m, m = L.length := ⟨_, rfl⟩
        have HM : Hid (m = L.length) := hm
        rw [← hm] at hownV hGl ⊢
        have HOV : Hid (V.ownsRow w.heap.size 61 4 (.slice (some ⟨g, 0, none⟩) (m + 1) capg) (m + 1) (sgcs (L ++ [⟨xp, xs, xt, xg⟩]))) := by show World.ownsRow _ _ _ _ _ _ _; rw [sgcs_snoc]; exact hownV
        have HST : Hid (V.ownsRow w.heap.size 61 4 (.slice (some ⟨g, 0, none⟩) (m + 1) capg) (m + 1) (sgcs (L.take m ++ ⟨xp, xs, xt, xg⟩ :: L.drop m))) := by
          have h1 : L.take m = L := by rw [HM.out]; exact List.take_length
          have h2 : L.drop m = [] := by rw [HM.out]; exact List.drop_length
          show World.ownsRow _ _ _ _ _ _ _
          rw [h1, h2]
          exact HOV.out
        have HST : Hid (V.ownsRow w.heap.size 61 4 (.slice (some ⟨g, 0, none⟩) (m + 1) capg) (m + 1) (sgcs (L.take m ++ ⟨xp, xs, xt, xg⟩ :: L.drop m))) := by
          have h1 : L.take m = L := by rw [HM.out]; exact List.take_length
          have h2 : L.drop m = [] := by rw [HM.out]; exact List.drop_length
          show World.ownsRow _ _ _ _ _ _ _
          rw [h1, h2]
          exact HOV.out
        have hBs : wr.heap.size < V.heap.size := (Array.getElem?_eq_some_iff.1 hboxV).1
        clear hownV hgrow hat hltV hown1 hnew hgsb hbV hboxV hL hm a0 a1 a2 a3 a4 r3
        obtain ⟨sb, hsb⟩ : ∃ sb, sb = wr.heap.size := ⟨_, rfl⟩
        rw [← hsb] at HSB HBX hBs ⊢
        clear hsb
        go_wp2_with fail
        go_loopw [8] (fun kk V' => ∃ (j : Nat) (y : Sg), j ≤ m ∧ kk = .int .i64 (j : Int) ∧ (∀ z ∈ L.drop j, lt ⟨xp, xs, xt, xg⟩ z = true) ∧ V'.ownsRow w.heap.size 61 4 (.slice (some ⟨g, 0, none⟩) (m + 1) capg) (m + 1) (sgcs (L.take j ++ y :: L.drop j)) ∧ V'.heap[sb]? = some (.cells #[.int .i64 xp, .int .i64 xs, .int .i64 xt, .string xg] 61) ∧ Below w.heap.size w V') (fun kk _ => (intOf kk).toNat)
        case atStart => exact ⟨m, ⟨xp, xs, xt, xg⟩, Nat.le_refl _, rfl, by rw [HM.out]; simp, HST.out, HBX.out, HBV.out⟩
        case round =>
          obtain ⟨j, y, hj, rfl, hah, hov, hbx, hbe⟩ := hrel
          have hml : (L.take j).length = j := by rw [List.length_take, ← HM.out]; omega
          have HML : Hid ((L.take j).length = j) := hml
          have HAH : Hid (∀ z ∈ L.drop j, lt ⟨xp, xs, xt, xg⟩ z = true) := hah
          have HOV2 : Hid (wr.ownsRow w.heap.size 61 4 (.slice (some ⟨g, 0, none⟩) (m + 1) capg) (m + 1) (sgcs (L.take j ++ y :: L.drop j))) := hov
          have HBX2 : Hid (wr.heap[sb]? = some (.cells #[.int .i64 xp, .int .i64 xs, .int .i64 xt, .string xg] 61)) := hbx
          have HBE : Hid (Below w.heap.size w wr) := hbe
          have s0 : wr.cell? ⟨sb, 0, none⟩ = some (.int .i64 xp) := by simp [World.cell?, hbx]
          have s1 : wr.cell? ⟨sb, 1, none⟩ = some (.int .i64 xs) := by simp [World.cell?, hbx]
          have s2 : wr.cell? ⟨sb, 2, none⟩ = some (.int .i64 xt) := by simp [World.cell?, hbx]
          have s3 : wr.cell? ⟨sb, 3, none⟩ = some (.string xg) := by simp [World.cell?, hbx]
          have hyc : SgAt wr g (j * 4) y := by
            obtain ⟨p', cap', hv, hon⟩ := own_sgs (xs := L.take j ++ y :: L.drop j) (by rw [List.length_append, hml, List.length_cons, List.length_drop, ← HM.out, show j + (m - j + 1) = m + 1 by omega]; exact hov)
            obtain ⟨b', o', hp, _, hc⟩ := hon.at_ (by simp)
            simp at hv
            obtain ⟨hv1, _⟩ := hv
            rw [← hv1] at hp
            simp at hp
            obtain ⟨rfl, rfl⟩ := hp
            have := hc j y (by rw [List.getElem?_append_right (by omega), hml]; simp)
            rw [Nat.zero_add] at this
            exact this
          have HYC : Hid (SgAt wr g (j * 4) y) := hyc
          clear hml hah hov hbx hbe hyc
          by_cases hj0 : j = 0
          case pos =>
            subst hj0
            have hmI : (0 : Int) < m + 1 := by omega
            go_wp2
            go_quiet (fail)
            obtain ⟨V2, hV2⟩ : ∃ V2, V2 = wr.drewN nq := ⟨_, rfl⟩
            show Exit.then _ _ _ _ (wr.drewN nq)
            rw [← hV2]
            have hb2 : Below wr.heap.size wr V2 := by rw [hV2]; exact drewN_below _ _
            clear hV2
            have HOV3 : Hid (V2.ownsRow w.heap.size 61 4 (.slice (some ⟨g, 0, none⟩) (m + 1) capg) (m + 1) (sgcs (L.take 0 ++ y :: L.drop 0))) := own_keep HOV2.out (fun b hb => hb2.block b (own_lt HOV2.out hb))
            have HBX3 : Hid (V2.heap[sb]? = some (.cells #[.int .i64 xp, .int .i64 xs, .int .i64 xt, .string xg] 61)) := by
              show _ = _
              rw [hb2.block sb (Array.getElem?_eq_some_iff.1 HBX2.out).1]
              exact HBX2.out
            have HBE3 : Hid (Below w.heap.size w V2) := HBE.out.trans (hb2.mono HBE.out.size)
            have t0 : V2.cell? ⟨sb, 0, none⟩ = some (.int .i64 xp) := by simp [World.cell?, HBX3.out]
            have t1 : V2.cell? ⟨sb, 1, none⟩ = some (.int .i64 xs) := by simp [World.cell?, HBX3.out]
            have t2 : V2.cell? ⟨sb, 2, none⟩ = some (.int .i64 xt) := by simp [World.cell?, HBX3.out]
            have t3 : V2.cell? ⟨sb, 3, none⟩ = some (.string xg) := by simp [World.cell?, HBX3.out]
            obtain ⟨y0, y1, y2, y3⟩ := HYC.out.keep (hb2.block g (own_lt HOV2.out rfl))
            have z0 := HOV3.out.frozenAt (0 * 4)
            have z1 := HOV3.out.frozenAt (0 * 4 + 1)
            have z2 := HOV3.out.frozenAt (0 * 4 + 1 + 1)
            have z3 := HOV3.out.frozenAt (0 * 4 + 1 + 1 + 1)
            simp only [Nat.zero_mul, Nat.zero_add] at y0 y1 y2 y3 z0 z1 z2 z3
            have HSO : Hid (L.take 0 ++ (⟨xp, xs, xt, xg⟩ : Sg) :: L.drop 0 = sorted (G ++ [(⟨xp, xs, xt, xg⟩ : Sg)])) := by
              show _ = _
              have hh := HAH.out
              rw [HL.out] at hh ⊢
              exact ins_step G (⟨xp, xs, xt, xg⟩ : Sg) 0 hh (Or.inl rfl)
            have HPUT := own_put (⟨xp, xs, xt, xg⟩ : Sg) HOV3.out HML.out
            have HPT : Hid (((((V2.setCell ⟨g, 0 * 4, none⟩ (.int .i64 xp)).setCell ⟨g, 0 * 4 + 1, none⟩ (.int .i64 xs)).setCell ⟨g, 0 * 4 + 1 + 1, none⟩ (.int .i64 xt)).setCell ⟨g, 0 * 4 + 1 + 1 + 1, none⟩ (.string xg)).ownsRow w.heap.size 61 4 (.slice (some ⟨g, 0, none⟩) (m + 1) capg) (m + 1) (sgcs (sorted (G ++ [(⟨xp, xs, xt, xg⟩ : Sg)])))) := by
              show World.ownsRow _ _ _ _ _ _ _
              rw [← HSO.out]
              exact HPUT
            simp only [Nat.zero_mul, Nat.zero_add] at HPT
            have hg0 : w.heap.size ≤ g := (HOV2.out.lt g rfl).1
            have hGm : (G ++ [(⟨xp, xs, xt, xg⟩ : Sg)]).length = m + 1 := by rw [List.length_append, HM.out, HL.out, sorted_length]; rfl
            have HGM : Hid ((G ++ [(⟨xp, xs, xt, xg⟩ : Sg)]).length = m + 1) := hGm
            clear hb2 HPUT hGm s0 s1 s2 s3
            go_wp2
            go_roundw
            case rel =>
              refine ⟨k + 1, by omega, by go_num, ?_, ?_⟩
              · rw [HG.out, HGM.out]
                exact HPT.out
              · exact (((HBE3.out.setCell hg0 _).setCell hg0 _).setCell hg0 _).setCell hg0 _
            case measure => simp [intOf]; omega
          case neg =>
            obtain ⟨i, rfl⟩ : ∃ i, j = i + 1 := ⟨j - 1, by omega⟩
            have hiL : i < L.length := by rw [← HM.out]; omega
            obtain ⟨u, hu⟩ : ∃ u, u = L[i] := ⟨_, rfl⟩
            have hLu : L[i]? = some u := by rw [hu]; exact List.getElem?_eq_getElem hiL
            have huc : SgAt wr g (i * 4) u := by
              obtain ⟨p', cap', hv, hon⟩ := own_sgs (xs := L.take (i + 1) ++ y :: L.drop (i + 1)) (by rw [List.length_append, HML.out, List.length_cons, List.length_drop, ← HM.out, show i + 1 + (m - (i + 1) + 1) = m + 1 by omega]; exact HOV2.out)
              obtain ⟨b', o', hp, _, hc⟩ := hon.at_ (by simp)
              simp at hv
              obtain ⟨hv1, _⟩ := hv
              rw [← hv1] at hp
              simp at hp
              obtain ⟨rfl, rfl⟩ := hp
              have := hc i u (by rw [List.getElem?_append_left (by rw [HML.out]; omega), List.getElem?_take_of_lt (by omega)]; exact hLu)
              rw [Nat.zero_add] at this
              exact this
            have HLU : Hid (L[i]? = some u) := hLu
            have HUC : Hid (SgAt wr g (i * 4) u) := huc
            obtain ⟨e0, e1, e2, e3⟩ := huc
            obtain ⟨up, us, ut, ug⟩ := u
            simp only at e0 e1 e2 e3
            have k0 := cell_regrown s0
            have k1 := cell_regrown s1
            have k2 := cell_regrown s2
            have k3 := cell_regrown s3
            have l0 := cell_regrown e0
            have l1 := cell_regrown e1
            have l2 := cell_regrown e2
            have l3 := cell_regrown e3
            have hI0 : (0 : Int) < (i : Int) + 1 := by omega
            have hI1 : (i : Int) < (m : Int) + 1 := by omega
            have hcast : (((i + 1 : Nat)) : Int) = (i : Int) + 1 := by omega
            rw [hcast]
            clear hLu hu hj0 hcast
            go_wp2
            refine wp_region_quiet_below (by kernel_rfl) (by kernel_rfl) ?_
            repeat (go_big_quiet_step (with_reducible exact Calls.regrown_of (ahead_any ⟨xp, xs, xt, xg⟩ ⟨up, us, ut, ug⟩ _)))
            refine wpQuiet_nil ?_
            intro _ hw'
            obtain ⟨⟨dq, osq⟩, hw''⟩ := hw'
            subst hw''
            clear k0 k1 k2 k3 l0 l1 l2 l3
            obtain ⟨V2, hV2⟩ : ∃ V2, V2 = Go.Sort.grow (redrawn wr dq) osq := ⟨_, rfl⟩
            have hb2 : Below wr.heap.size wr V2 := by rw [hV2]; exact below_regrown _ _ _
            show Exit.then _ _ _ _ (Go.Sort.grow (redrawn wr dq) osq)
            rw [← hV2]
            clear hV2 e0 e1 e2 e3
            cases hlt2 : lt ⟨xp, xs, xt, xg⟩ ⟨up, us, ut, ug⟩ with
            | false =>
              have HLT2 : Hid (lt ⟨xp, xs, xt, xg⟩ ⟨up, us, ut, ug⟩ = false) := hlt2
              clear hlt2
              have HOV3 : Hid (V2.ownsRow w.heap.size 61 4 (.slice (some ⟨g, 0, none⟩) (m + 1) capg) (m + 1) (sgcs (L.take (i + 1) ++ y :: L.drop (i + 1)))) := own_keep HOV2.out (fun b hb => hb2.block b (own_lt HOV2.out hb))
              have HBX3 : Hid (V2.heap[sb]? = some (.cells #[.int .i64 xp, .int .i64 xs, .int .i64 xt, .string xg] 61)) := by
                show _ = _
                rw [hb2.block sb (Array.getElem?_eq_some_iff.1 HBX2.out).1]
                exact HBX2.out
              have HBE3 : Hid (Below w.heap.size w V2) := HBE.out.trans (hb2.mono HBE.out.size)
              have t0 : V2.cell? ⟨sb, 0, none⟩ = some (.int .i64 xp) := by simp [World.cell?, HBX3.out]
              have t1 : V2.cell? ⟨sb, 1, none⟩ = some (.int .i64 xs) := by simp [World.cell?, HBX3.out]
              have t2 : V2.cell? ⟨sb, 2, none⟩ = some (.int .i64 xt) := by simp [World.cell?, HBX3.out]
              have t3 : V2.cell? ⟨sb, 3, none⟩ = some (.string xg) := by simp [World.cell?, HBX3.out]
              obtain ⟨y0, y1, y2, y3⟩ := HYC.out.keep (hb2.block g (own_lt HOV2.out rfl))
              have z0 := HOV3.out.frozenAt ((i + 1) * 4)
              have z1 := HOV3.out.frozenAt ((i + 1) * 4 + 1)
              have z2 := HOV3.out.frozenAt ((i + 1) * 4 + 1 + 1)
              have z3 := HOV3.out.frozenAt ((i + 1) * 4 + 1 + 1 + 1)
              have HSO : Hid (L.take (i + 1) ++ (⟨xp, xs, xt, xg⟩ : Sg) :: L.drop (i + 1) = sorted (G ++ [(⟨xp, xs, xt, xg⟩ : Sg)])) := by
                show _ = _
                have hh := HAH.out
                rw [HL.out] at hh ⊢
                exact ins_step G (⟨xp, xs, xt, xg⟩ : Sg) (i + 1) hh (Or.inr ⟨⟨up, us, ut, ug⟩, by have h := HLU.out; rw [HL.out] at h; rw [Nat.add_sub_cancel]; exact h, HLT2.out⟩)
              have HPUT := own_put (⟨xp, xs, xt, xg⟩ : Sg) HOV3.out HML.out
              have HPT : Hid (((((V2.setCell ⟨g, (i + 1) * 4, none⟩ (.int .i64 xp)).setCell ⟨g, (i + 1) * 4 + 1, none⟩ (.int .i64 xs)).setCell ⟨g, (i + 1) * 4 + 1 + 1, none⟩ (.int .i64 xt)).setCell ⟨g, (i + 1) * 4 + 1 + 1 + 1, none⟩ (.string xg)).ownsRow w.heap.size 61 4 (.slice (some ⟨g, 0, none⟩) (m + 1) capg) (m + 1) (sgcs (sorted (G ++ [(⟨xp, xs, xt, xg⟩ : Sg)])))) := by
                show World.ownsRow _ _ _ _ _ _ _
                rw [← HSO.out]
                exact HPUT
              have hg0 : w.heap.size ≤ g := (HOV2.out.lt g rfl).1
              have hGm : (G ++ [(⟨xp, xs, xt, xg⟩ : Sg)]).length = m + 1 := by rw [List.length_append, HM.out, HL.out, sorted_length]; rfl
              have HGM : Hid ((G ++ [(⟨xp, xs, xt, xg⟩ : Sg)]).length = m + 1) := hGm
              clear hb2 HPUT hGm s0 s1 s2 s3
              go_wp2
              go_roundw
              case rel =>
                refine ⟨k + 1, by omega, by go_num, ?_, ?_⟩
                · rw [HG.out, HGM.out]
                  exact HPT.out
                · exact (((HBE3.out.setCell hg0 _).setCell hg0 _).setCell hg0 _).setCell hg0 _
              case measure => simp [intOf]; omega
            | true =>
              have HLT2 : Hid (lt ⟨xp, xs, xt, xg⟩ ⟨up, us, ut, ug⟩ = true) := hlt2
              clear hlt2
              have HOV3 : Hid (V2.ownsRow w.heap.size 61 4 (.slice (some ⟨g, 0, none⟩) (m + 1) capg) (m + 1) (sgcs (L.take (i + 1) ++ y :: L.drop (i + 1)))) := own_keep HOV2.out (fun b hb => hb2.block b (own_lt HOV2.out hb))
              have HBX3 : Hid (V2.heap[sb]? = some (.cells #[.int .i64 xp, .int .i64 xs, .int .i64 xt, .string xg] 61)) := by
                show _ = _
                rw [hb2.block sb (Array.getElem?_eq_some_iff.1 HBX2.out).1]
                exact HBX2.out
              have HBE3 : Hid (Below w.heap.size w V2) := HBE.out.trans (hb2.mono HBE.out.size)
              obtain ⟨y0, y1, y2, y3⟩ := HYC.out.keep (hb2.block g (own_lt HOV2.out rfl))
              obtain ⟨e0, e1, e2, e3⟩ := HUC.out.keep (hb2.block g (own_lt HOV2.out rfl))
              simp only at e0 e1 e2 e3
              have z0 := HOV3.out.frozenAt ((i + 1) * 4)
              have z1 := HOV3.out.frozenAt ((i + 1) * 4 + 1)
              have z2 := HOV3.out.frozenAt ((i + 1) * 4 + 1 + 1)
              have z3 := HOV3.out.frozenAt ((i + 1) * 4 + 1 + 1 + 1)
              have hdr : L.drop i = ⟨up, us, ut, ug⟩ :: L.drop (i + 1) := by
                obtain ⟨h1, h2⟩ := List.getElem?_eq_some_iff.1 HLU.out
                rw [← h2]
                exact List.drop_eq_getElem_cons h1
              have htk : L.take (i + 1) = L.take i ++ [⟨up, us, ut, ug⟩] := by
                obtain ⟨h1, h2⟩ := List.getElem?_eq_some_iff.1 HLU.out
                rw [← h2]
                exact List.take_succ_eq_append_getElem h1
              have HDR : Hid (L.drop i = ⟨up, us, ut, ug⟩ :: L.drop (i + 1)) := hdr
              have HPUT := own_put ⟨up, us, ut, ug⟩ HOV3.out HML.out
              have HPT : Hid (((((V2.setCell ⟨g, (i + 1) * 4, none⟩ (.int .i64 up)).setCell ⟨g, (i + 1) * 4 + 1, none⟩ (.int .i64 us)).setCell ⟨g, (i + 1) * 4 + 1 + 1, none⟩ (.int .i64 ut)).setCell ⟨g, (i + 1) * 4 + 1 + 1 + 1, none⟩ (.string ug)).ownsRow w.heap.size 61 4 (.slice (some ⟨g, 0, none⟩) (m + 1) capg) (m + 1) (sgcs (L.take i ++ ⟨up, us, ut, ug⟩ :: L.drop i))) := by
                show World.ownsRow _ _ _ _ _ _ _
                rw [htk] at HPUT
                rw [hdr]
                simpa using HPUT
              have hg0 : w.heap.size ≤ g := (HOV2.out.lt g rfl).1
              clear hb2 HPUT s0 s1 s2 s3 hdr htk
              go_wp2
              go_roundw
              case rel =>
                refine ⟨i, ⟨up, us, ut, ug⟩, by omega, by go_num, ?_, HPT.out, ?_, ?_⟩
                · rw [HDR.out]
                  intro z hz
                  rcases List.mem_cons.1 hz with rfl | hz
                  · exact HLT2.out
                  · exact HAH.out z hz
                · have hn := HSB.out
                  rw [Below.heap_setCell _ _ _ _ (by show sb ≠ g; omega), Below.heap_setCell _ _ _ _ (by show sb ≠ g; omega), Below.heap_setCell _ _ _ _ (by show sb ≠ g; omega), Below.heap_setCell _ _ _ _ (by show sb ≠ g; omega)]
                  exact HBX3.out
                · exact (((HBE3.out.setCell hg0 _).setCell hg0 _).setCell hg0 _).setCell hg0 _
              case measure => simp [intOf]
end
end Go.Proofs.Ytllhfbnafemoeaa.EpA
