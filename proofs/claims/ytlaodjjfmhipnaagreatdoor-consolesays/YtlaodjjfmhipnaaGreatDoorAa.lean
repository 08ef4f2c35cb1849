/-
  Small laws that save words.
-/
import Derived.BigQuiet
import Derived.Deep.AppendLies
import Derived.Deep.AppendSrc
import Derived.Deep.DeepCutAuto
import Derived.Deep.DeepWitnessRowRef
import Derived.Deep.DrawnRows
import Derived.Deep.OwnRows
import Derived.Deep.RegionHeld3
import Derived.Deep.Slices
import Derived.LaidMore
import Derived.Laws.AppendOwnNone
import Derived.LoopIn
import Derived.LoopNIn
import Derived.Maps.OwnIn
import Derived.OpenShut
import Derived.ProofKit
import Derived.RangeFuncBound
import Derived.RangeFuncNested
import Derived.TacticsInMore
import Derived.WalkLawsBesides
import Derived.WalkSpells
namespace Go.RowKit.Hid
theorem o {p : Prop} (h : Hid p) : p := h
end Go.RowKit.Hid
namespace Go.RowKit.Below
theorem c:type_of% @Below.setCell:=@Below.setCell
theorem l:type_of% @Below.alloc:=@Below.alloc
theorem t:type_of% @Below.trans:=@Below.trans
theorem m:type_of% @Below.mono:=@Below.mono
end Go.RowKit.Below
theorem Go.Calls.m:type_of% @Go.Calls.mono:=@Go.Calls.mono
namespace Go.Proofs.YtlaodjjfmhipnaaGreatDoor
theorem hid {p : Prop} (h : p) : Go.RowKit.Hid p := h
theorem om {p : Prop} (h : p := by omega) : p := h
theorem kr {p : Prop} (h : p := by kernel_rfl) : p := h
theorem dc {p : Prop} (h : p := by decide) : p := h
theorem sm {p : Prop} (h : p := by simp) : p := h
theorem nl {n : Nat} : n ≤ n := Nat.le_refl n
theorem br {n : Nat} {w : World} : Go.RowKit.Below n w w := Go.RowKit.Below.refl n w
theorem ba {w : World} {o : Obj} : Go.RowKit.Below w.heap.size w (w.alloc o) := (Go.RowKit.Below.refl _ _).alloc (Nat.le_refl _) o
theorem aa:type_of% @Nat.le_refl:=@Nat.le_refl
theorem ac:type_of% @Go.Calls.mono:=@Go.Calls.mono
theorem af:type_of% @Or.inl:=@Or.inl
theorem ag:type_of% @if_neg:=@if_neg
theorem ah:type_of% @Or.inr:=@Or.inr
theorem aj:type_of% @Go.RowKit.Below.refl:=@Go.RowKit.Below.refl
theorem ak:type_of% @if_pos:=@if_pos
theorem aN:type_of% @trivial:=@trivial
theorem aP:type_of% @Nat.le_trans:=@Nat.le_trans
theorem aQ:type_of% @Go.AllReadyH.cons:=@Go.AllReadyH.cons
theorem aX:type_of% @Nat.zero_le:=@Nat.zero_le
theorem aZ:type_of% @Go.AllReadyH.nil:=@Go.AllReadyH.nil
theorem a9:type_of% @Go.wpAnyH_ready:=@Go.wpAnyH_ready
theorem bc:type_of% @List.getElem?_eq_getElem:=@List.getElem?_eq_getElem
theorem bg:type_of% @Nat.lt_of_lt_of_le:=@Nat.lt_of_lt_of_le
theorem bn:type_of% @Go.heap_alloc_new:=@Go.heap_alloc_new
theorem bG:type_of% @Go.World.ownsRow.lt:=@Go.World.ownsRow.lt
theorem bK:type_of% @Go.bodyPost_ret:=@Go.bodyPost_ret
theorem bN:type_of% @Go.RowKit.Below.heap_setCell:=@Go.RowKit.Below.heap_setCell
theorem bP:type_of% @Array.getElem?_eq_some_iff:=@Array.getElem?_eq_some_iff
theorem bU:type_of% @List.length_append:=@List.length_append
theorem bW:type_of% @Go.World.cell?_of_block:=@Go.World.cell?_of_block
theorem cX:type_of% @Go.RowKit.Below.heap_alloc:=@Go.RowKit.Below.heap_alloc
theorem cY:type_of% @Go.ByteArray.toList_eq:=@Go.ByteArray.toList_eq
theorem dj:type_of% @Nat.zero_add:=@Nat.zero_add
theorem dB:type_of% @Go.World.cell?_setCell_other:=@Go.World.cell?_setCell_other
theorem dP:type_of% @List.mem_append:=@List.mem_append
theorem dT:type_of% @Go.World.cell?_setCell_far:=@Go.World.cell?_setCell_far
theorem dU:type_of% @Array.getElem?_modify:=@Array.getElem?_modify
theorem ea:type_of% @Go.wpAnyH_done:=@Go.wpAnyH_done
theorem eb:type_of% @Go.info_parts:=@Go.info_parts
theorem en:type_of% @List.getD_eq_getElem?_getD:=@List.getD_eq_getElem?_getD
theorem eE:type_of% @List.getElem?_map:=@List.getElem?_map
theorem eF:type_of% @List.length_cons:=@List.length_cons
theorem eG:type_of% @List.getElem_mem:=@List.getElem_mem
theorem eL:type_of% @List.take_length:=@List.take_length
theorem fi:type_of% @Go.World.size_alloc:=@Go.World.size_alloc
theorem fj:type_of% @List.length_take:=@List.length_take
theorem fG:type_of% @Go.wp_region_held_drew:=@Go.wp_region_held_drew
theorem fH:type_of% @Go.World.ownsRow_nil:=@Go.World.ownsRow_nil
theorem fL:type_of% @if_false:=@if_false
theorem gq:type_of% @Go.wpQuiet_nil:=@Go.wpQuiet_nil
theorem gv:type_of% @Nat.le_of_lt:=@Nat.le_of_lt
theorem gD:type_of% @List.getElem?_eq_some_iff:=@List.getElem?_eq_some_iff
theorem gE:type_of% @UInt8.toNat_lt:=@UInt8.toNat_lt
theorem gO:type_of% @List.getElem?_append_left:=@List.getElem?_append_left
theorem gQ:type_of% @Nat.lt_or_ge:=@Nat.lt_or_ge
theorem ie:type_of% @Option.isSome_none:=@Option.isSome_none
theorem ip:type_of% @List.take_of_length_le:=@List.take_of_length_le
theorem iq:type_of% @Bool.false_eq_true:=@Bool.false_eq_true
theorem ir:type_of% @Int.toNat_natCast:=@Int.toNat_natCast
theorem iA:type_of% @List.take_succ_eq_append_getElem:=@List.take_succ_eq_append_getElem
theorem iB:type_of% @Go.wpList_append_lies:=@Go.wpList_append_lies
theorem iG:type_of% @List.length_eq_zero_iff:=@List.length_eq_zero_iff
theorem iH:type_of% @List.mem_map:=@List.mem_map
theorem iP:type_of% @if_true:=@if_true
theorem iV:type_of% @List.getElem?_eq_none:=@List.getElem?_eq_none
theorem iW:type_of% @List.mem_of_getElem?:=@List.mem_of_getElem?
theorem iX:type_of% @Go.step_append_lies:=@Go.step_append_lies
theorem iY:type_of% @List.map_append:=@List.map_append
theorem jb:type_of% @List.getElem?_append_right:=@List.getElem?_append_right
theorem jk:type_of% @List.setIfInBounds_toArray:=@List.setIfInBounds_toArray
theorem jl:type_of% @List.length_pos_iff:=@List.length_pos_iff
theorem jm:type_of% @List.length_drop:=@List.length_drop
theorem jo:type_of% @Bool.and_eq_true:=@Bool.and_eq_true
theorem jp:type_of% @List.length_map:=@List.length_map
theorem jq:type_of% @Bool.eq_iff_iff:=@Bool.eq_iff_iff
theorem jI:type_of% @Nat.pow_le_pow_right:=@Nat.pow_le_pow_right
theorem jJ:type_of% @List.set_cons_succ:=@List.set_cons_succ
theorem jK:type_of% @List.set_cons_zero:=@List.set_cons_zero
theorem jL:type_of% @List.take_add_one:=@List.take_add_one
theorem jN:type_of% @List.mem_cons:=@List.mem_cons
theorem j8:type_of% @Array.getElem?_eq_none:=@Array.getElem?_eq_none
theorem j9:type_of% @List.nil_append:=@List.nil_append
theorem ka:type_of% @List.foldl_cons:=@List.foldl_cons
theorem kc:type_of% @Go.wpAnyH_take:=@Go.wpAnyH_take
theorem ke:type_of% @ByteArray.ext:=@ByteArray.ext
theorem kO:type_of% @decide_eq_true_eq:=@decide_eq_true_eq
theorem kQ:type_of% @List.all_eq_true:=@List.all_eq_true
theorem kR:type_of% @Bool.not_eq_true:=@Bool.not_eq_true
theorem kS:type_of% @Option.map_some:=@Option.map_some
theorem kT:type_of% @Go.below_drewN:=@Go.below_drewN
theorem lJ:type_of% @Nat.le_succ:=@Nat.le_succ
theorem lX:type_of% @Decidable.byContradiction:=@Decidable.byContradiction
theorem lY:type_of% @List.append_assoc:=@List.append_assoc
theorem l8:type_of% @List.range_succ:=@List.range_succ
theorem mH:type_of% @List.length_nil:=@List.length_nil
theorem nc:type_of% @Nat.lt_of_le_of_lt:=@Nat.lt_of_le_of_lt
theorem ni:type_of% @List.cons_append:=@List.cons_append
theorem nj:type_of% @List.not_mem_nil:=@List.not_mem_nil
theorem np:type_of% @Option.some.inj:=@Option.some.inj
theorem nR:type_of% @Go.World.cell?_setCell_same':=@Go.World.cell?_setCell_same'
theorem nU:type_of% @Array.toList_inj:=@Array.toList_inj
theorem oP:type_of% @Array.getElem?_setIfInBounds:=@Array.getElem?_setIfInBounds
theorem oQ:type_of% @Array.getElem?_eq_getElem:=@Array.getElem?_eq_getElem
theorem oR:type_of% @Go.World.frozen?_setCell:=@Go.World.frozen?_setCell
theorem oU:type_of% @Go.World.ownsMap_made:=@Go.World.ownsMap_made
theorem oV:type_of% @beq_eq_false_iff_ne:=@beq_eq_false_iff_ne
theorem oW:type_of% @List.mem_filter:=@List.mem_filter
theorem pM:type_of% @ByteArray.size_extract:=@ByteArray.size_extract
theorem pN:type_of% @Go.wpList_append_own:=@Go.wpList_append_own
theorem pO:type_of% @Go.WalkArith.wf_i64:=@Go.WalkArith.wf_i64
theorem pP:type_of% @List.mem_singleton:=@List.mem_singleton
theorem pQ:type_of% @Array.ext_getElem?:=@Array.ext_getElem?
theorem pR:type_of% @List.getElem?_drop:=@List.getElem?_drop
theorem pT:type_of% @Nat.mul_le_mul:=@Nat.mul_le_mul
theorem qV:type_of% @Go.Maps.atKey_put_other:=@Go.Maps.atKey_put_other
theorem qW:type_of% @ByteArray.size_append:=@ByteArray.size_append
theorem qX:type_of% @List.foldl_append:=@List.foldl_append
theorem rJ:type_of% @Go.World.block_lt_of_cell?:=@Go.World.block_lt_of_cell?
theorem rK:type_of% @List.getElem?_take_of_lt:=@List.getElem?_take_of_lt
theorem rL:type_of% @Go.Maps.atKey_put_same:=@Go.Maps.atKey_put_same
theorem rM:type_of% @Array.getElem?_toList:=@Array.getElem?_toList
theorem rN:type_of% @List.take_append_drop:=@List.take_append_drop
theorem rO:type_of% @Array.toArray_toList:=@Array.toArray_toList
theorem rP:type_of% @List.mem_cons_of_mem:=@List.mem_cons_of_mem
theorem rQ:type_of% @List.mem_append_left:=@List.mem_append_left
theorem rR:type_of% @List.getElem?_range:=@List.getElem?_range
theorem tu:type_of% @List.mergeSort_perm:=@List.mergeSort_perm
theorem tw:type_of% @List.map_congr_left:=@List.map_congr_left
end Go.Proofs.YtlaodjjfmhipnaaGreatDoor
