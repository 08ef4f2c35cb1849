/-
  What the document's own answer does to the world: FrameBytes.
-/
import Derived.Test.YtjdfllocngkjpaaFrmE
namespace Go.Proofs.Ytjdfllocngkjpaa.FrmA
open Go.RowKit FrmM
set_option maxRecDepth 100000

theorem str_append (l m : List UInt8) : str l ++ str m = str (l ++ m) := by
  apply ByteArray.ext
  simp [str]
theorem conv_lit (w : World) (l : List UInt8) (n g : Nat) (cur : Array Value) (hg : g = w.heap.size) (hl : l.length ≤ 100) (hn : n = l.length) (h0 : l ≠ []) (hc : cur.toList = cellsU l) :
    (convert 52 9 (.slice (some ⟨g, 0, none⟩) n n)).run Try.prog (w.alloc (.cells cur 5)) = .ok (.string (str l)) (w.alloc (.cells cur 5)) := by
  subst hg
  obtain ⟨g5, c5, hv, _, _, hc5⟩ := (own_lit w l 0 n (Nat.zero_le _) hl hn cur hc).form h0
  simp at hv
  obtain ⟨rfl, rfl, rfl⟩ := hv
  exact conv_bytes rfl hc5
theorem sumL_take_le (l : List UInt8) (k : Nat) : sumL (l.take k) ≤ 255 * k := by
  induction k with
  | zero => simp [sumL]
  | succ k ih =>
    rcases Nat.lt_or_ge k l.length with h | h
    · rw [List.take_succ_eq_append_getElem h, sumL_snoc]
      have := l[k].toNat_lt
      omega
    · rw [List.take_of_length_le (by omega)]
      rw [List.take_of_length_le h] at ih
      omega
theorem clo_val (l : List UInt8) : ((clo l).toNat : Int) = 255 - (sumL l : Int) % 256 := by
  unfold clo
  rw [UInt8.toNat_ofNat']
  omega
theorem str_self (t : ByteArray) : str t.data.toList = t := by simp [str]

set_option maxHeartbeats 2000000 in
theorem fb_any (f : Fr) (p : Option Addr) (cap : Nat) (w : World) (hr : ReadsOn w p f.rs) (hok : Ok f) :
    Calls Try.prog 12 #[.agg #[.int .i64 f.ty, .slice p f.rs.length cap, .int .i64 f.wm]] w fun e w' => e = .returned (.string (str (enc f))) ∧ Below w.heap.size w w' := by
  obtain ⟨E, hE⟩ : ∃ E, E = str (enc f) := ⟨_, rfl⟩
  rw [← hE]
  have HE : Hid (E = str (enc f)) := hE
  have HR : Hid (ReadsOn w p f.rs) := hr
  have HO : Hid (Ok f) := hok
  clear hE hr hok
  obtain ⟨T, rs, W⟩ := f
  simp only at HR ⊢
  obtain ⟨n, hn⟩ : ∃ n, n = rs.length := ⟨_, rfl⟩
  have h4 : n ≤ 4 := by rw [hn]; exact HO.out.len
  rw [← hn]
  have HN : Hid (n = rs.length) := hn
  clear hn
  go_enter Try.func12, Try.ntmps12
  go_wp2
  go_loopw [3, 4, 5] (fun u i _ V => ∃ k : Nat, k ≤ n ∧ i = .int .i64 k ∧ u = .string (str (encRs (rs.take k))) ∧ Below (w.heap.size + 1) (w.alloc (.cells #[.int .i64 T, .slice p n cap, .int .i64 W] 24)) V) (fun _ i _ _ => n - (intOf i).toNat)
  case atStart => exact ⟨0, Nat.zero_le _, rfl, rfl, Below.refl _ _⟩
  case round =>
    obtain ⟨k, hk, rfl, rfl, hbl⟩ := hrel
    have bx0 : wr.cell? ⟨w.heap.size, 0, none⟩ = some (.int .i64 T) := keepCell hbl (by simp) (by simp)
    have bx1 : wr.cell? ⟨w.heap.size, 1, none⟩ = some (.slice p n cap) := keepCell hbl (by simp) (by simp)
    have bx2 : wr.cell? ⟨w.heap.size, 2, none⟩ = some (.int .i64 W) := keepCell hbl (by simp) (by simp)
    have hsz : w.heap.size + 1 ≤ wr.heap.size := by have := hbl.size; simpa using this
    by_cases hlt : k < n
    · have hkI : (k : Int) < n := by omega
      have hk' : k < rs.length := by rw [← HN.out]; exact hlt
      obtain ⟨b, o, rfl, hb, hc⟩ := HR.out.at_ (by intro e; rw [e] at hk'; simp at hk')
      have hrd := (hc k _ (List.getElem?_eq_getElem hk')).keep ((hbl.block b (by omega)).trans (Below.heap_alloc w _ b hb))
      have hrk := HO.out.all _ (List.getElem_mem hk')
      have HT : Hid (encRs (rs.take (k + 1)) = encRs (rs.take k) ++ [u8 rs[k].a, u8 rs[k].s, u8 rs[k].g] ++ rs[k].t.data.toList) := by
        show _ = _
        unfold encRs
        rw [List.take_succ_eq_append_getElem hk', List.flatMap_append]
        simp [encR]
      have HU : Hid (((u8 rs[k].a).toNat : Int) = rs[k].a % 256 ∧ ((u8 rs[k].s).toNat : Int) = rs[k].s % 256 ∧ ((u8 rs[k].g).toNat : Int) = rs[k].g % 256) := ⟨u8_toNat _, u8_toNat _, u8_toNat _⟩
      have hl0 : (str (encRs (rs.take k))).size ≤ 44 := by
        rw [str_size, encRs_len (fun r hr => HO.out.tags r (List.mem_of_mem_take hr)), List.length_take, Nat.min_eq_left (Nat.le_of_lt hk')]; omega
      have h8 : rs[k].t.size ≤ 8 := by omega
      have HBL : Hid (Below (w.heap.size + 1) (w.alloc (.cells #[.int .i64 T, .slice (some ⟨b, o, none⟩) n cap, .int .i64 W] 24)) wr) := hbl
      obtain ⟨c0, c1, c2, c3⟩ := hrd
      generalize rs[k] = r at *
      obtain ⟨a, s, g, t⟩ := r
      simp only at *
      clear hc hbl hrk hb
      have hcv := conv_lit (wr.alloc (.cells #[.int .i64 a, .int .i64 s, .int .i64 g, .string t] 27)) [u8 a, u8 s, u8 g] 3 (wr.heap.size + 1) #[.int .u8 (a % 256), .int .u8 (s % 256), .int .u8 (g % 256)] (by simp) (by simp) rfl (by simp) (by simp [cellsU, HU.out.1, HU.out.2.1, HU.out.2.2])
      have hs3 : (str [u8 a, u8 s, u8 g]).size = 3 := by rw [str_size]; rfl
      have HS3 : Hid (str (encRs (rs.take (k + 1))) = str (encRs (rs.take k)) ++ str [u8 a, u8 s, u8 g] ++ t) := by show _ = _; rw [HT.out, ← str_append, ← str_append, str_self]
      have o1 : ¬ 9223372036854775807 < (str (encRs (rs.take k))).size + 3 := by omega
      have o2 : ¬ 9223372036854775807 < (str (encRs (rs.take k))).size + 3 + t.size := by omega
      generalize str (encRs (rs.take k)) = S at *
      generalize str [u8 a, u8 s, u8 g] = S3 at *
      go_wp2
      go_roundw
      case rel =>
        refine ⟨k + 1, by omega, by go_num, ?_, (HBL.out.alloc (by omega) _).alloc (by simp; omega) _⟩
        rw [HS3.out]
      case measure => simp [intOf]; omega
    · obtain rfl : k = n := by omega
      have hT : Hid (rs.take k = rs) := by show _ = _; rw [HN.out, List.take_length]
      rw [hT.out]
      have HB0 : Hid (Below w.heap.size w wr) := ((Below.refl _ w).alloc (Nat.le_refl _) _).trans (hbl.mono (by omega))
      have HBO : Hid ((body ⟨T, rs, W⟩).length ≤ 44) := body_le HO.out
      clear hbl
      by_cases h3 : T = 3
      · subst h3
        have bx0' : ∀ o, (wr.alloc o).cell? ⟨w.heap.size, 0, none⟩ = some (.int .i64 3) := fun o => keepCell ((Below.refl _ wr).alloc (Nat.le_refl _) o) (by show w.heap.size < wr.heap.size; omega) bx0
        have hrs : rs = [] := HO.out.rs (by show (3 : Int) ≠ 1; decide)
        have hbd : body ⟨3, rs, W⟩ = [u8 W] := by rw [hrs]; rfl
        have HH : Hid (head ⟨3, rs, W⟩ = [165, 1, 3] ++ [u8 W]) := by show _ = _; unfold head; rw [hbd]; rfl
        have HU : Hid (((u8 W).toNat : Int) = W % 256) := u8_toNat _
        clear hrs hbd
        have hcv := conv_lit wr [u8 W] 1 wr.heap.size #[.int .u8 (W % 256)] rfl (by simp) rfl (by simp) (by simp [cellsU, HU.out])
        have hsW : (str [u8 W]).size = 1 := by rw [str_size]; rfl
        have hcv2 := conv_lit (wr.alloc (.cells #[.int .u8 (W % 256)] 5)) [165, 1, 3] 3 (wr.heap.size + 1) #[.int .u8 165, .int .u8 1, .int .u8 3] (by simp) (by simp) rfl (by simp) (by simp [cellsU])
        have hs3 : (str [165, 1, 3]).size = 3 := by rw [str_size]; rfl
        have HST : Hid (str [165, 1, 3] ++ str [u8 W] = str (head ⟨3, rs, W⟩)) := by show _ = _; rw [str_append, HH.out]
        generalize str [u8 W] = SW at *
        generalize str [165, 1, 3] = S3 at *
        go_wp2
        rw [HST.out]
        obtain ⟨H, hH⟩ : ∃ H, H = str (head ⟨3, rs, W⟩) := ⟨_, rfl⟩
        rw [← hH]
        have HHd : Hid (H = str (head ⟨3, rs, W⟩)) := hH
        have hHs : H.size ≤ 47 := by rw [hH, str_size]; have := HBO.out; simp [head]; omega
        have HHl : Hid (H.data.toList = head ⟨3, rs, W⟩) := by show _ = _; rw [hH, str_list]
        clear hH hcv hcv2
        generalize hWD : (wr.alloc (.cells #[.int .u8 (W % 256)] 5)).alloc (.cells #[.int .u8 165, .int .u8 1, .int .u8 3] 5) = V0
        have HV0 : Hid (Below w.heap.size w V0) := by rw [← hWD]; exact (HB0.out.alloc (by omega) _).alloc (by simp; omega) _
        clear hWD
        go_loopw [7, 8] (fun m i V => ∃ k : Nat, k ≤ H.size ∧ i = .int .i64 k ∧ m = .int .i64 (sumL (H.data.toList.take k) : Int) ∧ V = V0) (fun _ i _ => H.size - (intOf i).toNat)
        case atStart => exact ⟨0, Nat.zero_le _, rfl, rfl, rfl⟩
        case round =>
          obtain ⟨q, hq, rfl, rfl, rfl⟩ := hrel
          by_cases hqt : q < H.size
          · have hqI : (q : Int) < H.size := by omega
            have hq' : q < H.data.toList.length := by simpa using hqt
            have HS : Hid (sumL (H.data.toList.take (q + 1)) = sumL (H.data.toList.take q) + H[q].toNat) := by show _ = _; rw [List.take_succ_eq_append_getElem hq', sumL_snoc]; rfl
            have hsl := sumL_take_le H.data.toList q
            have hx := H[q].toNat_lt
            have hs2 : sumL (H.data.toList.take q) ≤ 12000 := by omega
            clear hsl
            generalize sumL (H.data.toList.take q) = S at *
            go_wp2
            go_roundw
            case rel => exact ⟨q + 1, by omega, by go_num, by rw [HS.out]; simp, trivial⟩
            case measure => simp [intOf]; omega
          · obtain rfl : q = H.size := by omega
            have HTK : Hid (H.data.toList.take H.size = head ⟨3, rs, W⟩) := by show _ = _; rw [← HHl.out]; apply List.take_of_length_le; simp
            rw [HTK.out]
            have hcl := clo_val (head ⟨3, rs, W⟩)
            have hsl := sumL_take_le H.data.toList H.size
            rw [HTK.out] at hsl
            have HEN : Hid (str (enc ⟨3, rs, W⟩) = H ++ str [clo (head ⟨3, rs, W⟩)]) := by show _ = _; unfold enc; rw [← str_append, HHd.out]
            have hs1 : (str [clo (head ⟨3, rs, W⟩)]).size = 1 := by rw [str_size]; rfl
            have hsb : sumL (head ⟨3, rs, W⟩) ≤ 12000 := by omega
            have hcv3 := conv_lit wr [clo (head ⟨3, rs, W⟩)] 1 wr.heap.size #[.int .u8 ((clo (head ⟨3, rs, W⟩)).toNat : Int)] rfl (by simp) rfl (by simp) (by simp [cellsU])
            rw [hcl] at hcv3
            clear hsl hcl
            generalize sumL (head ⟨3, rs, W⟩) = S at *
            generalize str [clo (head ⟨3, rs, W⟩)] = C at *
            go_wp2
            go_ret
            exact ⟨by rw [HE.out, HEN.out]; rfl, HV0.out.alloc (by have := HV0.out.size; omega) _⟩
      · have hT3 : (T == 3) = false := by simpa using h3
        have hbd : body ⟨T, rs, W⟩ = encRs rs := by simp [body, h3]
        have HH : Hid (head ⟨T, rs, W⟩ = [165, u8 (encRs rs).length, u8 T] ++ encRs rs) := by show _ = _; unfold head; rw [hbd]; rfl
        have hel : (encRs rs).length ≤ 44 := by have := HBO.out; rw [hbd] at this; exact this
        have HU : Hid (((u8 (encRs rs).length).toNat : Int) = (encRs rs).length ∧ ((u8 T).toNat : Int) = T % 256) := ⟨u8_small (by omega) (by omega), u8_toNat _⟩
        clear hbd
        obtain ⟨S0, hS0⟩ : ∃ S0, S0 = str (encRs rs) := ⟨_, rfl⟩
        rw [← hS0]
        have hS0s : S0.size ≤ 44 := by rw [hS0, str_size]; exact hel
        have HS0 : Hid (((u8 (encRs rs).length).toNat : Int) = S0.size) := by show _ = _; rw [hS0, str_size]; exact HU.out.1
        have hcv2 := conv_lit wr [165, u8 (encRs rs).length, u8 T] 3 wr.heap.size #[.int .u8 165, .int .u8 S0.size, .int .u8 (T % 256)] rfl (by simp) rfl (by simp) (by simp [cellsU, HS0.out, HU.out.2])
        have hs3 : (str [165, u8 (encRs rs).length, u8 T]).size = 3 := by rw [str_size]; rfl
        have HST : Hid (str [165, u8 (encRs rs).length, u8 T] ++ S0 = str (head ⟨T, rs, W⟩)) := by show _ = _; rw [hS0, str_append, HH.out]
        clear hS0 hel
        generalize str [165, u8 (encRs rs).length, u8 T] = S3 at *
        go_wp2
        rw [HST.out]
        obtain ⟨H, hH⟩ : ∃ H, H = str (head ⟨T, rs, W⟩) := ⟨_, rfl⟩
        rw [← hH]
        have HHd : Hid (H = str (head ⟨T, rs, W⟩)) := hH
        have hHs : H.size ≤ 47 := by rw [hH, str_size]; have := HBO.out; simp [head]; omega
        have HHl : Hid (H.data.toList = head ⟨T, rs, W⟩) := by show _ = _; rw [hH, str_list]
        clear hH hcv2
        generalize hWD : wr.alloc (.cells #[.int .u8 165, .int .u8 S0.size, .int .u8 (T % 256)] 5) = V0
        have HV0 : Hid (Below w.heap.size w V0) := by rw [← hWD]; exact HB0.out.alloc (by omega) _
        clear hWD
        go_loopw [7, 8] (fun m i V => ∃ k : Nat, k ≤ H.size ∧ i = .int .i64 k ∧ m = .int .i64 (sumL (H.data.toList.take k) : Int) ∧ V = V0) (fun _ i _ => H.size - (intOf i).toNat)
        case atStart => exact ⟨0, Nat.zero_le _, rfl, rfl, rfl⟩
        case round =>
          obtain ⟨q, hq, rfl, rfl, rfl⟩ := hrel
          by_cases hqt : q < H.size
          · have hqI : (q : Int) < H.size := by omega
            have hq' : q < H.data.toList.length := by simpa using hqt
            have HS : Hid (sumL (H.data.toList.take (q + 1)) = sumL (H.data.toList.take q) + H[q].toNat) := by show _ = _; rw [List.take_succ_eq_append_getElem hq', sumL_snoc]; rfl
            have hsl := sumL_take_le H.data.toList q
            have hx := H[q].toNat_lt
            have hs2 : sumL (H.data.toList.take q) ≤ 12000 := by omega
            clear hsl
            generalize sumL (H.data.toList.take q) = S at *
            go_wp2
            go_roundw
            case rel => exact ⟨q + 1, by omega, by go_num, by rw [HS.out]; simp, trivial⟩
            case measure => simp [intOf]; omega
          · obtain rfl : q = H.size := by omega
            have HTK : Hid (H.data.toList.take H.size = head ⟨T, rs, W⟩) := by show _ = _; rw [← HHl.out]; apply List.take_of_length_le; simp
            rw [HTK.out]
            have hcl := clo_val (head ⟨T, rs, W⟩)
            have hsl := sumL_take_le H.data.toList H.size
            rw [HTK.out] at hsl
            have HEN : Hid (str (enc ⟨T, rs, W⟩) = H ++ str [clo (head ⟨T, rs, W⟩)]) := by show _ = _; unfold enc; rw [← str_append, HHd.out]
            have hs1 : (str [clo (head ⟨T, rs, W⟩)]).size = 1 := by rw [str_size]; rfl
            have hsb : sumL (head ⟨T, rs, W⟩) ≤ 12000 := by omega
            have hcv3 := conv_lit wr [clo (head ⟨T, rs, W⟩)] 1 wr.heap.size #[.int .u8 ((clo (head ⟨T, rs, W⟩)).toNat : Int)] rfl (by simp) rfl (by simp) (by simp [cellsU])
            rw [hcl] at hcv3
            clear hsl hcl
            generalize sumL (head ⟨T, rs, W⟩) = S at *
            generalize str [clo (head ⟨T, rs, W⟩)] = C at *
            go_wp2
            go_ret
            exact ⟨by rw [HE.out, HEN.out]; rfl, HV0.out.alloc (by have := HV0.out.size; omega) _⟩
end Go.Proofs.Ytjdfllocngkjpaa.FrmA
