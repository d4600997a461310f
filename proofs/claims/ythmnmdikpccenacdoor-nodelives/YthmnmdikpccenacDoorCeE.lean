/-
  '!=' of two arrays of sixteen bytes.
-/
import Derived.Test.YthmnmdikpccenacDoorCeI
import Derived.DeepKeys
namespace Go.Proofs.YthmnmdikpccenacDoor
open Go.RowKit

def litB (v : UInt8) : Lit := .int .u8 v.toNat
theorem litB_inj : ∀ {L M : List UInt8}, L.map litB = M.map litB → L = M
  | [], [], _ => rfl
  | [], _ :: _, h => by simp at h
  | _ :: _, [], h => by simp at h
  | a :: L, b :: M, h => by
    simp only [List.map_cons, List.cons.injEq, litB, Lit.int.injEq, true_and] at h
    have e : a.toNat = b.toNat := by exact_mod_cast h.1
    rw [UInt8.toNat_inj.1 e, litB_inj h.2]
theorem litB_key (n : Nat) (v : UInt8) : Tryd.prog.keyLits (n + 1) 5 [.int .u8 v.toNat] = some [litB v] := by
  unfold Program.keyLits
  rw [Tryd.underlying5]
  have h := v.toNat_lt
  have hw : (Lit.int .u8 (v.toNat : Int)).wf = true := by
    simp only [Lit.wf]
    rw [Bool.and_eq_true, decide_eq_true_eq, decide_eq_true_eq]
    have e1 : IntKind.u8.min = 0 := by decide
    have e2 : IntKind.u8.max = 255 := by decide
    omega
  simp [hw, litB]
theorem key16 (L : List UInt8) (h : L.length = 16) : Tryd.prog.keyLits 2 116 (L.map u8v) = some (L.map litB) := by
  have c16 : Tryd.prog.cellsOf 116 = 16 := by kernel_rfl
  have c1 : Tryd.prog.cellsOf 5 = 1 := by kernel_rfl
  have hr : List.range 16 = [0, 1, 2, 3, 4, 5, 6, 7, 8, 9, 10, 11, 12, 13, 14, 15] := by decide
  unfold Program.keyLits
  rw [Tryd.underlying116]
  match L, h with
  | [a0, a1, a2, a3, a4, a5, a6, a7, a8, a9, a10, a11, a12, a13, a14, a15], _ =>
    simp only [c16, c1, hr, List.map_cons, List.map_nil, List.length_cons, List.length_nil, Nat.reduceAdd, if_true, List.mapM_cons, List.mapM_nil, Nat.mul_one, List.drop_zero, List.drop_succ_cons, List.take_succ_cons, List.take_zero, u8v, litB_key, Option.bind_eq_bind, Option.bind_some, Option.pure_def, Option.map_some, List.flatten_cons, List.flatten_nil, List.append_nil, List.cons_append, List.nil_append]
theorem neq16 (L M : List UInt8) (hl : L.length = 16) (hm : M.length = 16) (w : World) : (binOp .neq 116 (.agg (arrV L)) (.agg (arrV M))).run Tryd.prog w = .ok (.bool (!(L == M))) w := by
  have hk : Tryd.prog.keyTypeAt 2 116 = true := by kernel_rfl
  obtain ⟨r, hr, hiff⟩ := run_equalIn_deep (P := Tryd.prog) 9998 2 116 hk w 2 2 (.agg (arrV L)) (.agg (arrV M)) (L.map litB) (M.map litB) (by
    simp only [Value.formed, Tryd.underlying116]; rw [arrV_size, hl]; kernel_rfl) (by simp only [Value.formed, Tryd.underlying116]; rw [arrV_size, hm]; kernel_rfl) (key16 L hl) (key16 M hm)
  rw [run_neq_struct, hr]
  simp only [Result.andThen_ok]
  have e : r = (L == M) := by
    rw [Bool.eq_iff_iff, hiff, beq_iff_eq]
    exact ⟨litB_inj, fun h => by rw [h]⟩
  rw [e]
end Go.Proofs.YthmnmdikpccenacDoor
