/-
  The document's SameRules, of rules that are the same.
-/
import Derived.Test.YtpmoamfhppmicaaGreatDoorPoG
import Derived.DeepKeys
import Derived.Deep.RegionHeld3
namespace Go.Proofs.YtpmoamfhppmicaaGreatDoor
open Go.RowKit

abbrev ruleV (r : Rl) : Value := .agg #[.bool r.al, .bool r.ou, .int .i64 r.pr, .int .i64 r.lo, .int .i64 r.tp]
theorem rlK : Tryz.prog.keyTypeAt 5 42 = true := by kernel_rfl
theorem rlF (r : Rl) : Value.formed Tryz.prog 42 (ruleV r) = true := by kernel_rfl
theorem wfn {n : Int} (h0 : -9223372036854775808 ≤ n) (h1 : n ≤ 9223372036854775807) : (Lit.int .i64 n).wf = true := by
  have e1 : IntKind.i64.min = -9223372036854775808 := by decide
  have e2 : IntKind.i64.max = 9223372036854775807 := by decide
  simp [Lit.wf, e1, e2]; omega
theorem rlLits {r : Rl} (h : r.ok) : ∃ l, Tryz.prog.keyLits 5 42 (ruleV r).cells.toList = some l := by
  obtain ⟨h0, h1, h2, h3⟩ := h
  have k1 : ∀ (n : Nat) x, (Lit.int .i64 x).wf = true → Tryz.prog.keyLits (n + 1) 3 [.int .i64 x] = some [.int .i64 x] := fun n x hx => by
    unfold Program.keyLits; rw [Tryz.underlying3]; simp [hx]
  have k0 : ∀ (n : Nat) x, Tryz.prog.keyLits (n + 1) 4 [.bool x] = some [.bool x] := fun n x => by
    unfold Program.keyLits; rw [Tryz.underlying4]
  have c3 : Tryz.prog.cellsOf 3 = 1 := by kernel_rfl
  have c4 : Tryz.prog.cellsOf 4 = 1 := by kernel_rfl
  have c5 : Tryz.prog.cellsOf 42 = 5 := by kernel_rfl
  refine ⟨[.bool r.al, .bool r.ou, .int .i64 r.pr, .int .i64 r.lo, .int .i64 r.tp], ?_⟩
  unfold Program.keyLits; rw [Tryz.underlying42]
  simp [Value.cells, c3, c4, c5, k0, k1, wfn (show -9223372036854775808 ≤ r.pr by omega) (by omega), wfn (show -9223372036854775808 ≤ r.lo by omega) (by omega), wfn (show -9223372036854775808 ≤ r.tp by omega) (by omega)]
theorem neq_rl {r : Rl} (h : r.ok) (w : World) : (binOp .neq 42 (ruleV r) (ruleV r)).run Tryz.prog w = .ok (.bool false) w := by
  obtain ⟨l, hl⟩ := rlLits h
  obtain ⟨q, hr, hi⟩ := run_equalIn_deep (P := Tryz.prog) 9995 5 42 rlK w 5 5 _ _ _ _ (rlF r) (rlF r) hl hl
  have : q = true := hi.2 rfl
  subst this
  simp only [binOp]
  simp [Op.equal, Op.maxDepth]
  rw [show (10000 : Nat) = 9995 + 5 from rfl, hr]
  rfl
set_option maxRecDepth 100000 in
set_option maxHeartbeats 2000000 in
theorem sameRules_any (p q : Option Addr) (l : List Rl) (k m : Nat) (w : World) (P : Rul w p l) (Q : Rul w q l) (hl : l.length ≤ 1000) (hk : ∀ r ∈ l, r.ok) :
    Calls Tryz.prog 12 #[.slice p l.length k, .slice q l.length m] w fun e w' => e = .returned (.bool true) ∧ Below w.heap.size w w' := by
  have HP : Hid (Rul w p l) := P
  have HQ : Hid (Rul w q l) := Q
  have HK : Hid (∀ r ∈ l, r.ok) := hk
  clear P Q hk
  go_enter Tryz.func12, Tryz.ntmps12
  go_wp2_with fail
  go_loopw [5] (fun t wr => ∃ j : Nat, j ≤ l.length ∧ t = .int .i64 j ∧ Below w.heap.size w wr) (fun t _ => l.length - (intOf t).toNat)
  case atStart => exact ⟨0, Nat.zero_le _, rfl, Below.refl _ _⟩
  case round =>
    obtain ⟨j, hj, rfl, hb⟩ := hrel
    have HB : Hid (Below w.heap.size w wr) := hb
    clear hb
    by_cases hlt : j < l.length
    · have hr : l[j]? = some l[j] := List.getElem?_eq_getElem hlt
      have hok := HK.out _ (List.getElem_mem hlt)
      generalize l[j] = r at hr hok
      obtain ⟨x, o, rfl, g0, g1, g2, g3, g4⟩ := HP.out j r hr
      obtain ⟨x', o', rfl, e0, e1, e2, e3, e4⟩ := HQ.out j r hr
      have k0 := Below.keeps HB.out g0
      have k1 := Below.keeps HB.out g1
      have k2 := Below.keeps HB.out g2
      have k3 := Below.keeps HB.out g3
      have k4 := Below.keeps HB.out g4
      have n0 := Below.keeps HB.out e0
      have n1 := Below.keeps HB.out e1
      have n2 := Below.keeps HB.out e2
      have n3 := Below.keeps HB.out e3
      have n4 := Below.keeps HB.out e4
      have heq := neq_rl hok
      have bj0 : (0 : Int) ≤ (j : Int) := by omega
      have bj1 : (j : Int) < l.length := by omega
      clear g0 g1 g2 g3 g4 e0 e1 e2 e3 e4 hr hok
      go_wp2_with fail
      go_quiet (fail)
      go_wp2_with fail
      go_roundw
      case rel => exact ⟨j + 1, by omega, by go_num, ⟨HB.out.os, HB.out.tape, HB.out.output, HB.out.size, HB.out.block⟩⟩
      case measure => simp [intOf]; omega
    · go_wp2_with fail
      go_ret
      exact ⟨rfl, HB.out⟩
end Go.Proofs.YtpmoamfhppmicaaGreatDoor
