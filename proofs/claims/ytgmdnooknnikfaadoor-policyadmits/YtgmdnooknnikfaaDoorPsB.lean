/-
  The library's slices.Grow of a nil slice, and slices.Concat of two.
-/
import Derived.Test.YtgmdnooknnikfaaDoorPsA
import Derived.Lib.AppendZerosOnto
namespace Go.Proofs.YtgmdnooknnikfaaDoor
open Go.RowKit

set_option maxRecDepth 100000 in
set_option maxHeartbeats 2000000 in
theorem grow_any (n : Nat) (hn : n ≤ 10000) (w : World) :
    Calls Tryd.prog 55 #[.slice none 0 0, .int .i64 n] w fun e w' => (∃ v, e = .returned v ∧ w'.ownsRow w.heap.size 3 1 v 0 []) ∧ Below w.heap.size w w' := by
  obtain ⟨i0, hi, hz0, hz1, hz2⟩ := info_parts Tryd.infoI
  by_cases h0 : n = 0
  · subst h0
    go_enter Tryd.func55, Tryd.ntmps55
    go_wp2_with fail
    go_ret
    exact ⟨⟨_, rfl, World.ownsRow_nil _ _ _ _⟩, Below.refl _ _⟩
  · have hp : 0 < n := by omega
    have hby : Tryd.t3.bytes = 8 := by kernel_rfl
    have hb1 : ¬ (281474976710656 < (n : Int) * (Tryd.t3.bytes : Int)) := by rw [hby]; omega
    have hb2 : ¬ (281474976710656 < Builtin.nextslicecap n 0 * Tryd.t3.bytes) := by
      have := growslice_fits (need := n) (old := 0) (bytes := 8) hp (by omega)
      rw [hby]; omega
    have hG1 := grownCap_ge w n 0 3
    have hG2 := grownCap_le_maxLen w n 0 3 (by unfold maxLen; omega)
    unfold grownCap at hG1 hG2
    have hG3 : (Question.appendCap n 0 3).cut (w.tape w.drawn (Question.appendCap n 0 3)) ≤ 9223372036854775807 := hG2
    clear hby hG2
    go_enter Tryd.func55, Tryd.ntmps55
    go_wp2_with fail
    generalize (Question.appendCap n 0 3).cut (w.tape w.drawn (Question.appendCap n 0 3)) = G at *
    go_ret
    refine ⟨⟨_, rfl, rfl, .inr ⟨w.heap.size, G, Builtin.zeroCells #[Value.int IntKind.i64 0] n ++ Builtin.zeroCells #[Value.int IntKind.i64 0] (G - n), rfl, Nat.le_refl _, ?_, Nat.zero_le _, hG3, ?_, rfl⟩⟩, ((Below.refl _ _).alloc (Nat.le_refl _) _).drew⟩
    · show (w.heap.push _)[w.heap.size]? = some (.cells (Builtin.zeroCells #[Value.int IntKind.i64 0] n ++ Builtin.zeroCells #[Value.int IntKind.i64 0] (G - n)) 3 (0, 0))
      rw [Array.getElem?_push_size]
    · rw [Array.size_append, size_zeroCells, size_zeroCells]
      show n * 1 + (G - n) * 1 = G * 1
      omega
theorem ints_one (xs : List Int) (u : Value) (h : u ∈ xs.map intVq) : u.oneCell' = true := by
  obtain ⟨x, _, rfl⟩ := List.mem_map.1 h
  rfl
/-- 'append(own, v...)', v a slice of numbers, nil too. -/
theorem wpList_append_ints {w : World} {ops : Array Oper} {rest : List Oper} {o : Oper} {a : Act} {Q : Exit → Act → World → Prop} (hgd : o.guard = none) (s x : Operand)
    (ho : o.op = .call { callee := .builtin .append, args := #[s, x], argTypes := #[22, 22] })
    (base : Nat) (v : Value) (n : Nat) (ys : List Value) (hs : a.eval s = v) (hown : w.ownsRow base 3 1 v n ys)
    (vx : Value) (xs : List Int) (hx : a.eval x = vx) (hI : Ints w vx xs) (h63 : n + xs.length ≤ 1000000) (hbase : base ≤ w.heap.size)
    (h : ∀ v' w', w'.ownsRow base 3 1 v' (n + xs.length) (ys ++ xs.map intVq) → Below base w w' → wpList Tryd.prog ops Q rest (a.put o.dst v') w') : wpList Tryd.prog ops Q (o :: rest) a w := by
  obtain ⟨i0, hi, hz0, hz1, hz2⟩ := info_parts Tryd.infoI
  rcases hI with ⟨rfl, rfl⟩ | ⟨g, cap, rfl, hc⟩
  · exact wpList_append_own_none hgd s x 22 ho base 3 i0 1 Tryd.underlying22 hi v n ys hs hown hx (h v w (by simpa using hown) ⟨rfl, rfl, rfl, Nat.le_refl _, fun _ _ => rfl⟩)
  · refine wpList_append_own w hgd s x 22 ho base 3 i0 (.int .i64 0) 1 8 Tryd.underlying22 hi hz0 hz1 hz2 rfl (by decide) v n ys hs hown ⟨g, 0, none⟩ xs.length cap (xs.map intVq) hx (by simp) ?_ (ints_one xs) (by unfold maxLen; omega) (by omega) hbase ?_
    · intro j u hu
      rw [addr_add, Nat.zero_add]
      rw [List.getElem?_map] at hu
      obtain ⟨x, hx, rfl⟩ := Option.map_eq_some_iff.1 hu
      exact hc j x hx
    · intro v' w' h1 h2 _
      have hb : Below base w w' := Below.grown ⟨rfl, rfl, rfl, Nat.le_refl _, fun _ _ => rfl⟩ h2 hbase (fun j hj => (hown.lt _ hj).1)
      exact h v' w' h1 hb
theorem Ints.open {w : World} {v : Value} {xs : List Int} (h : Ints w v xs) : ∃ p cap, v = .slice p xs.length cap := by
  rcases h with ⟨rfl, rfl⟩ | ⟨g, cap, h1, _⟩
  · exact ⟨none, 0, rfl⟩
  · exact ⟨_, _, h1⟩
set_option maxRecDepth 100000 in
set_option maxHeartbeats 2000000 in
theorem concat_any (blk : Nat) (va vb : Value) (xa xb : List Int) (w : World) (ha : Ints w va xa) (hb : Ints w vb xb) (c0 : w.cell? ⟨blk, 0, none⟩ = some va) (c1 : w.cell? ⟨blk, 1, none⟩ = some vb) (la : xa.length ≤ 2000) (lb : xb.length ≤ 2000) :
    Calls Tryd.prog 36 #[.slice (some ⟨blk, 0, none⟩) 2 2] w fun e w' => (∃ v, e = .returned v ∧ Ints w' v (xa ++ xb)) ∧ Below w.heap.size w w' := by
  have HA : Hid (Ints w va xa) := ha
  have HB : Hid (Ints w vb xb) := hb
  have C0 : Hid (w.cell? ⟨blk, 0, none⟩ = some va) := c0
  have C1 : Hid (w.cell? ⟨blk, 1, none⟩ = some vb) := c1
  obtain ⟨pa, ka, rfl⟩ := ha.open
  obtain ⟨pb, kb, rfl⟩ := hb.open
  clear ha hb
  go_enter Tryd.func36, Tryd.ntmps36
  go_wp2_with fail
  refine wp_loop_rounds 3 ?_
  rw [rounds_succ]
  go_wp2_with fail
  rw [rounds_succ]
  go_wp2_with fail
  rw [rounds_succ]
  go_wp2_with fail
  clear c0 c1
  have hg := grow_any (xa.length + xb.length) (by omega) w
  rw [show (((xa.length + xb.length : Nat)) : Int) = (xa.length : Int) + xb.length from by omega] at hg
  refine hg.mono ?_
  clear hg
  rintro e w1 ⟨⟨v1, rfl, hO⟩, hb1⟩
  have O1 : Hid (w1.ownsRow w.heap.size 3 1 v1 0 []) := hO
  have B1 : Hid (Below w.heap.size w w1) := hb1
  have c0 := Below.keeps B1.out C0.out
  have c1 := Below.keeps B1.out C1.out
  clear hO hb1
  go_wp2_with fail
  refine wp_loop_rounds 3 ?_
  rw [rounds_succ]
  go_wp2_with (at_builtin; refine wpList_append_ints rfl _ _ rfl w.heap.size v1 0 [] rfl O1.out _ xa rfl (HA.out.below B1.out) (by omega) B1.out.size ?_)
  intro v2 w2 hO hb2
  have O2 : Hid (w2.ownsRow w.heap.size 3 1 v2 xa.length (xa.map intVq)) := by
    show w2.ownsRow _ _ _ _ _ _
    simpa using hO
  have B2 : Hid (Below w.heap.size w w2) := B1.out.trans hb2
  clear hO hb2 c0 c1
  have c0 := Below.keeps B2.out C0.out
  have c1 := Below.keeps B2.out C1.out
  go_wp2_with fail
  rw [rounds_succ]
  go_wp2_with (at_builtin; refine wpList_append_ints rfl _ _ rfl w.heap.size v2 xa.length (xa.map intVq) rfl O2.out _ xb rfl (HB.out.below B2.out) (by omega) B2.out.size ?_)
  intro v3 w3 hO hb3
  have I3 : Hid (Ints w3 v3 (xa ++ xb)) := Ints.of_own (base := w.heap.size) (n := xa.length + xb.length) (by rw [List.map_append]; exact hO)
  have B3 : Hid (Below w.heap.size w w3) := B2.out.trans hb3
  clear hO hb3 c0 c1
  go_wp2_with fail
  rw [rounds_succ]
  go_wp2_with fail
  go_ret
  exact ⟨⟨_, rfl, I3.out⟩, B3.out⟩
end Go.Proofs.YtgmdnooknnikfaaDoor
