/-
  What the claimed theorem reaches, part Q01.
-/
import Derived.Test.YtnogmjekhjldcaaGreatDoorQ00
import Derived.Below
import Derived.ChangeArms
import Derived.Deep.QuietTactic
import Derived.Deep.RegionHeld
import Derived.Deep.WholeRow
import Derived.FnData
import Derived.Laws.Append
import Derived.Laws.AppendOwn
import Derived.Laws.BitsLemmas
import Derived.Laws.BytesArg
import Derived.Laws.CopyRow
import Derived.Laws.Entries
import Derived.Laws.NewBlocks
import Derived.Laws.Rows
import Derived.Laws.Sem
import Derived.Laws.Strings
import Derived.Laws.Tables
import Derived.Laws.World
import Derived.Lib.SliceRun
import Derived.LoopN
import Derived.MapKept
import Derived.Maps.AppendAt
import Derived.Orders
import Derived.OrdersHeld
import Derived.OwnWalk
import Derived.RegionTactic
import Derived.Tactics
namespace Go.Proofs.YtnogmjekhjldcaaGreatDoor
open Go.RowKit
set_option maxRecDepth 100000
set_option maxHeartbeats 8000000
abbrev aj := @if_pos
abbrev ak := @if_neg
abbrev eP := @Array.getElem?_eq_none
abbrev aH := @Below.refl
abbrev bV := @heap_setCell_same
abbrev fD := @List.getElem?_eq_getElem
abbrev dG := @beq_eq_false_iff_ne
abbrev aP := @cell_of_row
abbrev bf := @bodyPost_ret
abbrev dV := @World.cell?_of_block
abbrev dh := @heap_alloc_new
abbrev bJ := @Nat.le_refl
abbrev fJ := @Int.toNat_natCast
abbrev dI := @List.mem_cons
abbrev eY := @List.not_mem_nil
abbrev bM := @rounds_succ
abbrev lT := @World.cell?_setCell_other
abbrev jw := @List.length_append
abbrev dL := @Nat.le_trans
abbrev ji := @Nat.lt_of_lt_of_le
abbrev iI := @IntKind.wrap_i64
abbrev gQ := @decide_eq_false
abbrev jA := @List.mem_singleton
abbrev gG := @decide_eq_true
abbrev kW := @List.mem_of_getElem?
abbrev dX := @Nat.lt_or_ge
abbrev kG := @List.getElem?_take
abbrev fE := @Nat.zero_add
abbrev qj := @List.getD_eq_getElem?_getD
abbrev kK := @List.getElem?_map
abbrev qW := @List.getElem?_append_left
abbrev WM := @ByteArray.data_append
abbrev iY := @AllReady.cons
abbrev jk := @frozen_of_row
abbrev jB := @ByteArray.ext
abbrev lU := @List.mem_append
abbrev xA := @List.getElem?_append_right
abbrev Ap := @List.length_insertIdx_of_le_length
abbrev dP := @congrArg
abbrev lq := @wp_loop_rounds
abbrev vV := @List.length_eraseIdx_of_lt
abbrev iJ := @wpAny_take
abbrev jX := @AllReady.nil
abbrev sO := @World.frozen?_of_block
abbrev pR := @Result.andThen_ok
abbrev jY := @Nat.zero_le
abbrev sQ := @Array.getElem?_toList
abbrev fA := @or_false
abbrev ql := @World.ownsRow_nil
abbrev vk := @List.take_of_length_le
abbrev nX := @Option.map_some
abbrev jZ := @wpAny_ready
abbrev qE := @List.length_take
abbrev vW := @List.getElem?_toArray
abbrev BN := @Array.getElem?_setIfInBounds
abbrev vX := @List.length_cons
abbrev xB := @World.frozen?_setCell
abbrev nM := @Sem.run_bind
abbrev sS := @Option.some.inj
abbrev vw := @wpList_append_own
abbrev lu := @info_parts
abbrev vY := @Array.ext_getElem?
abbrev xC := @Array.length_toList
abbrev oV := @Nat.add_zero
abbrev BP := @World.cell?_setCell_same
abbrev sH := @AllReadyH.cons
abbrev yN := @List.getElem?_range
abbrev BQ := @World.frozen?_alloc_at
abbrev Aq := @List.getElem?_of_mem
abbrev Ar := @List.cons_append
abbrev vZ := @Int.natCast_ediv
abbrev vC := @List.length_map
abbrev xE := @List.take_add_one
abbrev Ig := @Nat.mod_two_eq_zero_or_one
abbrev qF := @wpAnyH_ready
abbrev Au := @Calls.quiet_of_same
abbrev xG := @List.length_nil
abbrev xH := @List.take_length
abbrev qX := @Sem.run_pure
abbrev Oi := @run_underlying
abbrev BU := @List.mem_of_mem_take
abbrev Aw := @Option.isSome_some
abbrev Az := @Option.isSome_none
abbrev JC := @List.exists_mem_of_ne_nil
abbrev wo := @Below.setCell
abbrev wu := @AllReadyH.nil
abbrev BX := @run_append_own_at
abbrev Tz := @List.take_succ_eq_append_getElem
abbrev Oj := @List.getElem?_cons_succ
abbrev JD := @Int.eq_ofNat_of_zero_le
abbrev qY := @bne_iff_ne
abbrev qZ := @Below.drew
abbrev BZ := @Option.getD_some
abbrev Cb := @Option.getD_none
abbrev Ih := @wp_region_held_drew
abbrev Fa := @List.size_toArray
abbrev Ol := @UInt8.toNat_ofNat_of_lt'
abbrev wz := @Nat.le_succ
abbrev Fb := @Nat.le_add_right
abbrev Oo := @List.mem_cons_of_mem
abbrev mV := @if_true
abbrev Ii := @run_storeCells_at
abbrev Fe := @Value.slice.inj
abbrev Fg := @List.nil_append
abbrev JE := @List.getElem?_drop
abbrev yO := @Int.le_refl
abbrev Fh := @DataW.trod_int
abbrev xI := @beq_iff_eq
abbrev af5 := @ByteArray.toList_eq
abbrev JF := @List.length_drop
abbrev JG := @Bool.and_eq_true
abbrev WO := @World.cell?_setCell_same'
abbrev JH := @List.append_nil
abbrev Cc := @setRow_heap
abbrev WQ := @List.append_assoc
abbrev Oq := @Array.size_append
abbrev TD := @List.mem_append_left
abbrev WS := @List.mem_of_mem_eraseIdx
abbrev WT := @decide_eq_false_iff_not
abbrev Ci := @Array.ext'
abbrev ag4 := @ByteArray.data_extract
abbrev JI := @Nat.add_assoc
abbrev abR := @List.getElem?_zipWith
abbrev WU := @List.getElem?_eq_none
abbrev TF := @wp_region_noPanic
abbrev WV := @List.flatten_cons
abbrev Ij := @wpAnyH_done
abbrev TG := @World.size_alloc
abbrev abS := @List.drop_eq_getElem_cons
abbrev WW := @List.map_cons
abbrev TI := @World.var?_cell
abbrev TL := @List.map_append
abbrev WX := @Nat.xor_lt_two_pow
abbrev WY := @List.filter_append
abbrev abT := @Nat.add_sub_cancel_left
abbrev TM := @NoPanic.normal
abbrev abU := @of_decide_eq_true
abbrev WZ := @decide_eq_true_eq
abbrev abV := @Option.some.injEq
abbrev abW := @List.getElem?_eraseIdx
abbrev abX := @List.take_append_drop
abbrev abY := @List.mem_append_right
abbrev abZ := @Lib.run_eql_slice_nil
abbrev ab1 := @ByteArray.size_append
abbrev ab2 := @Array.getElem?_modify
abbrev JJ := @wpAny_done
abbrev Xa := @wpList_store_row
abbrev Xb := @List.drop_length
abbrev Ot := @Nat.mul_one
abbrev ab3 := @List.mem_of_mem_drop
abbrev Xc := @heap_alloc2_new
abbrev ab4 := @run_firstCells_some
abbrev ab5 := @List.take_succ_cons
abbrev TN := @Nat.sub_self
abbrev TP := @List.map_nil
abbrev JK := @wpOp_step
abbrev Ik := @if_false
abbrev aeE := @List.mem_cons_self
abbrev ab6 := @Bool.false_eq_true
abbrev aeF := @Int.tmod_eq_emod_of_nonneg
abbrev aeG := @Array.toList_setIfInBounds
abbrev aeH := @Array.getElem?_eq_getElem
abbrev ab7 := @yieldsIf_load_mid
abbrev ab8 := @not_false_eq_true
abbrev aeI := @List.find?_range_eq_some
abbrev aeJ := @Array.getElem?_replicate
abbrev ab9 := @World.ownsRow.lt
abbrev acd := @Int.natCast_emod
abbrev TQ := @Nat.mod_lt
abbrev Xd := @wpList_plain
abbrev Xe := @Int.le_of_lt
abbrev aeK := @World.setRow_alloc_new
abbrev aeL := @List.zipWith_cons_cons
abbrev ace := @List.range_succ
abbrev acf := @Bool.eq_iff_iff
abbrev aeM := @run_convert_bytes_arg
end Go.Proofs.YtnogmjekhjldcaaGreatDoor
