/-
  What expires, the program's own: its loop.
-/
import Derived.Test.YthmnmdikpccenacDoorTbF
import Derived.Test.YthmnmdikpccenacDoorGeB
import Derived.OwnWalk
namespace Go.Proofs.YthmnmdikpccenacDoor
open Go.RowKit

def goneQ (now : Int) (c : Ce) : Bool := (c.pr != 0) && decide (c.un ≤ now)
/-- the first n slots gone through. -/
def expT (T : Tb) (now : Int) (n : Nat) : Tb := fun j => if j < n ∧ goneQ now (T j) = true then ⟨(T j).ve + 1, 0, 0, 0, 0, 0, 0, 0, 0⟩ else T j
def expL (T : Tb) (now : Int) : Nat → List Int
  | 0 => []
  | n + 1 => if goneQ now (T n) = true then expL T now n ++ [(n : Int)] else expL T now n
theorem expL_len (T : Tb) (now : Int) : ∀ n, (expL T now n).length ≤ n
  | 0 => by simp [expL]
  | n + 1 => by
    have := expL_len T now n
    unfold expL
    split
    · simp; omega
    · omega
theorem expT_zero (T : Tb) (now : Int) : expT T now 0 = T := by funext j; simp [expT]
theorem expT_here (T : Tb) (now : Int) (n : Nat) : expT T now n n = T n := by simp [expT]
theorem expT_no {T : Tb} {now : Int} {n : Nat} (h : goneQ now (T n) = false) : expT T now (n + 1) = expT T now n := by
  funext j
  unfold expT
  by_cases e : j = n
  · subst e; simp [h]
  · by_cases h2 : j < n
    · simp [h2, show j < n + 1 by omega]
    · simp [h2, show ¬ j < n + 1 by omega]
theorem expT_yes {T : Tb} {now : Int} {n : Nat} (h : goneQ now (T n) = true) : layT (expT T now n) n 0 0 0 0 0 0 0 0 = expT T now (n + 1) := by
  funext j
  unfold layT upd
  rw [expT_here]
  unfold expT
  by_cases e : j = n
  · subst e; simp [h]
  · rw [if_neg e]
    by_cases h2 : j < n
    · simp [h2, show j < n + 1 by omega]
    · simp [h2, show ¬ j < n + 1 by omega]
theorem expT_ve {T : Tb} {m : Nat} (h : Vers T m) (now : Int) (n : Nat) : Vers (expT T now n) (m + 1) := fun j hj => by
  have := h j hj
  unfold expT
  split
  · simp only; omega
  · omega
theorem expT_drop {T : Tb} {now : Int} {n : Nat} (hn : n < 32) (h : goneQ now (T n) = true) : dropT (expT T now n) (n : Int) = expT T now (n + 1) := by
  have hp : (T n).pr ≠ 0 := by
    unfold goneQ at h
    simp at h
    exact h.1
  have hs : slotE (expT T now n) (n : Int) = 0 := by
    unfold slotE
    rw [if_neg (by omega), Int.toNat_natCast, expT_here, if_neg hp]
  unfold dropT
  rw [if_pos hs, Int.toNat_natCast, expT_yes h]
def intVx (n : Int) : Value := .int .i64 n
theorem Tryd.infoInt : (Tryd.prog.info? 3).map (fun i => (i.zero, i.size, i.bytes)) = some (some (.int .i64 0), 1, 8) := by kernel_rfl
/-- numbers in a slice. -/
def IntS (w : World) (v : Value) (xs : List Int) : Prop := ∃ p cap, v = .slice p xs.length cap ∧ ∀ (j : Nat) x, xs[j]? = some x → ∃ g, p = some ⟨g, 0, none⟩ ∧ w.cell? ⟨g, j, none⟩ = some (.int .i64 x)
theorem IntS.of_own {w : World} {base : Nat} {v : Value} {n : Nat} {xs : List Int} (h : w.ownsRow base 3 1 v n (xs.map intVx)) : IntS w v xs := by
  obtain ⟨h1, h2⟩ := h
  have hn : n = xs.length := by simpa using h1.symm
  subst hn
  rcases h2 with ⟨rfl, h0⟩ | ⟨g, cap, cur, rfl, _, hh, _, _, _, ht⟩
  · refine ⟨none, 0, by rw [h0], fun j x hx => ?_⟩
    obtain ⟨hlt, _⟩ := List.getElem?_eq_some_iff.1 hx
    omega
  · refine ⟨some ⟨g, 0, none⟩, cap, rfl, fun j x hx => ⟨g, rfl, ?_⟩⟩
    obtain ⟨hlt, _⟩ := List.getElem?_eq_some_iff.1 hx
    have h3 : (xs.map intVx)[j]? = some (intVx x) := by rw [List.getElem?_map, hx]; rfl
    rw [← ht, List.getElem?_take, if_pos (by omega), Array.getElem?_toList] at h3
    rw [cell_of_row w g j _ _ _ hh]
    exact h3
theorem IntS.below {w w' : World} {v : Value} {xs : List Int} (h : IntS w v xs) (hb : Below w.heap.size w w') : IntS w' v xs := by
  obtain ⟨p, cap, h1, h2⟩ := h
  refine ⟨p, cap, h1, fun j x hx => ?_⟩
  obtain ⟨g, e, hc⟩ := h2 j x hx
  exact ⟨g, e, tk hb hc⟩
theorem owns_chg {w w' : World} {base n b : Nat} {v : Value} {cs : List Value} (h : w.ownsRow base 3 1 v n cs) (hc : Chg b w w') (hb : b < base) : w'.ownsRow base 3 1 v n cs := by
  refine h.kept (row := some b) ⟨hc.os, hc.tape, hc.output, hc.size, fun k hk hn => hc.block k hk (fun e => hn (by rw [e]))⟩ ?_
  rcases hv : v.ownBlock with _ | q
  · exact .inl rfl
  · refine .inr fun e => ?_
    have := (h.lt q hv).1
    obtain rfl := Option.some.inj e
    omega
theorem chg_grow2 {b : Nat} {w u u' : World} {row : Option Nat} (h : Chg b w u) (hg : u.grownBy u' row) (hr : ∀ k, row = some k → w.heap.size ≤ k) : Chg b w u' :=
  ⟨hg.os.trans h.os, hg.tape.trans h.tape, hg.output.trans h.output, Nat.le_trans h.size hg.size, fun k hk hn => (hg.block k (Nat.lt_of_lt_of_le hk h.size) (fun e => by have := hr k e.symm; omega)).trans (h.block k hk hn)⟩
theorem tab_grown {b N : Nat} {low : Int} {T : Tb} {u u' : World} {row : Option Nat} (h : Tab u b low T) (hg : u.grownBy u' row) (hr : ∀ k, row = some k → N ≤ k) (hb : b < N) : Tab u' b low T := by
  unfold Tab; rw [hg.block b h.lt (fun e => by have := hr b e.symm; omega)]; exact h
theorem expL_yes {T : Tb} {now : Int} {n : Nat} (h : goneQ now (T n) = true) : expL T now (n + 1) = expL T now n ++ [(n : Int)] := by
  rw [expL, if_pos h]
theorem expL_no {T : Tb} {now : Int} {n : Nat} (h : goneQ now (T n) = false) : expL T now (n + 1) = expL T now n := by
  rw [expL, if_neg (by rw [h]; simp)]
set_option maxRecDepth 100000 in
set_option maxHeartbeats 4000000 in
theorem expire_any (b : Nat) (low : Int) (T : Tb) (now : Int) (n : Nat) (w : World) (t : Tab w b low T) (hv : Vers T n) (hn : n ≤ 100000) :
    Calls Tryd.prog 27 #[.pointer (some ⟨b, 0, none⟩), .int .i64 now] w fun e w' => ∃ v, e = .returned v ∧ IntS w' v (expL T now 32) ∧ (∀ q, v.ownBlock = some q → w.heap.size ≤ q) ∧ Tab w' b low (expT T now 32) ∧ Chg b w w' := by
  obtain ⟨i0, hi, hz0, hz1, hz2⟩ := info_parts Tryd.infoInt
  have HT : Hid (Tab w b low T) := t
  have HV : Hid (Vers T n) := hv
  have hld := arr_load t
  have HBL : Hid (b < w.heap.size) := t.lt
  clear t hv
  go_enter Tryd.func27, Tryd.ntmps27
  go_wp2_with (refine wpList_load_at rfl 86 _ rfl _ _ rfl hld ?_)
  clear hld
  go_loopw [5, 12] (fun v t wr => ∃ j : Nat, j ≤ 32 ∧ t = .int .i64 j ∧ wr.ownsRow w.heap.size 3 1 v (expL T now j).length ((expL T now j).map intVx) ∧ Tab wr b low (expT T now j) ∧ Chg b w wr) (fun _ t _ => 32 - (intOf t).toNat)
  case atStart => exact ⟨0, by omega, rfl, World.ownsRow_nil _ _ _ _, by rw [expT_zero]; exact HT.out, Chg.refl _ _⟩
  case round =>
    obtain ⟨j, hj, rfl, hown, htb, hcg⟩ := hrel
    have HO : Hid (wr.ownsRow w.heap.size 3 1 u5 (expL T now j).length ((expL T now j).map intVx)) := hown
    have T1 : Hid (Tab wr b low (expT T now j)) := htb
    have C1 : Hid (Chg b w wr) := hcg
    clear hown htb hcg
    by_cases hlt : j < 32
    · obtain ⟨c, hc⟩ : ∃ c, c = T j := ⟨_, rfl⟩
      have HCj : Hid (c = T j) := hc
      have hix : (Instr.index 86 (.agg (slotsArr T)) (.int .i64 j)).run Tryd.prog wr = .ok (.agg #[.int .i64 j, .int .i64 c.ve, .int .i64 c.pr, .int .i64 c.ia, .int .i64 c.ip, .int .i64 c.fa, .int .i64 c.fp, .int .i64 c.po, .int .i64 c.st, .int .i64 c.un]) wr := by
        rw [hc]; exact arr_index T j hlt wr
      clear hc
      go_wp2_with fail
      have D0 : Hid ((wr.alloc (.cells #[.int .i64 j, .int .i64 c.ve, .int .i64 c.pr, .int .i64 c.ia, .int .i64 c.ip, .int .i64 c.fa, .int .i64 c.fp, .int .i64 c.po, .int .i64 c.st, .int .i64 c.un] 49)).cell? ⟨wr.heap.size, 9, none⟩ = some (.int .i64 c.un)) := (nw _ _ _ _).trans rfl
      refine (isFlow_any c _).mono ?_
      rintro e w2 ⟨rfl, hb2⟩
      have d9 := tk hb2 D0.out
      have X2 : Hid (Below wr.heap.size wr w2) := t2 (aB _ _) hb2
      have O2 : Hid (w2.ownsRow w.heap.size 3 1 u5 (expL T now j).length ((expL T now j).map intVx)) := HO.out.kept (row := none) ⟨X2.out.os, X2.out.tape, X2.out.output, X2.out.size, fun k hk _ => X2.out.block k hk⟩ (Classical.em _)
      have T2 : Hid (Tab w2 b low (expT T now j)) := T1.out.below X2.out
      have C2 : Hid (Chg b w w2) := C1.out.then X2.out
      clear hb2 hix D0 HO T1 C1 X2
      have HG : Hid (goneQ now (T j) = ((c.pr != 0) && decide (c.un ≤ now))) := by show _ = _; rw [← HCj.out]; rfl
      rcases h1 : (c.pr != 0) with _ | _
      · have HN : Hid (goneQ now (T j) = false) := by show _ = _; rw [HG.out, h1]; rfl
        go_wp2_with fail
        go_roundw
        case rel => exact ⟨j + 1, by omega, by go_num, by rw [expL_no HN.out]; exact O2.out, by rw [expT_no HN.out]; exact T2.out, C2.out⟩
        case measure => simp [intOf]; omega
      by_cases h2 : c.un ≤ now
      · have HY : Hid (goneQ now (T j) = true) := by show _ = _; rw [HG.out, h1, decide_eq_true h2]; rfl
        go_wp2_with fail
        have hve := HV.out j hlt
        have he : expT T now j j = T j := expT_here T now j
        refine (lay_any b low (expT T now j) j noC _ T2.out hlt (by rw [he]; exact hve.1) (by rw [he]; omega)).mono ?_
        rintro e w3 ⟨rfl, t3, c3⟩
        have T3 : Hid (Tab w3 b low (expT T now (j + 1))) := by
          show Tab _ _ _ _
          rw [← expT_yes HY.out]
          exact t3
        have O3 : Hid (w3.ownsRow w.heap.size 3 1 u5 (expL T now j).length ((expL T now j).map intVx)) := owns_chg O2.out c3 HBL.out
        have C3 : Hid (Chg b w w3) := C2.out.trans c3
        have HLn : Hid ((expL T now j).length ≤ j) := expL_len T now j
        have hLn := HLn.out
        clear t3 c3 hve he T2 O2 C2 d9
        go_wp2_with (at_builtin; refine wpList_append_own _ rfl _ _ 24 rfl w.heap.size 3 i0 (.int .i64 0) 1 8 Tryd.underlying24 hi hz0 hz1 hz2 rfl (by decide) u5 _ _ rfl (O3.out.alloc _) ⟨w3.heap.size, 0, none⟩ 1 1 [intVx j] rfl rfl ?c1 ?c2 ?c3 ?c4 ?c5 ?_)
        case c1 =>
          intro q u hu
          rw [tadd, Nat.zero_add, nw]
          simpa [intVx] using hu
        case c2 =>
          intro u hu
          obtain rfl := List.mem_singleton.1 hu
          rfl
        case c3 => unfold maxLen; omega
        case c4 => omega
        case c5 => have := C3.out.size; simp; omega
        intro v4 w4 hO4 hg4 _
        have hrow : ∀ q, u5.ownBlock = some q → w.heap.size ≤ q := fun q hq => (O3.out.lt _ hq).1
        have O4 : Hid (w4.ownsRow w.heap.size 3 1 v4 (expL T now (j + 1)).length ((expL T now (j + 1)).map intVx)) := by
          show w4.ownsRow _ _ _ _ _ _
          rw [expL_yes HY.out, List.length_append, List.map_append]
          exact hO4
        have T4 : Hid (Tab w4 b low (expT T now (j + 1))) := tab_grown (T3.out.alloc _) hg4 hrow HBL.out
        have C4 : Hid (Chg b w w4) := chg_grow2 (C3.out.then (aB _ _)) hg4 hrow
        clear hO4 hg4 hrow T3 O3 C3
        go_wp2_with fail
        go_roundw
        case rel => exact ⟨j + 1, by omega, by go_num, O4.out, T4.out, C4.out⟩
        case measure => simp [intOf]; omega
      · have HN : Hid (goneQ now (T j) = false) := by show _ = _; rw [HG.out, h1, decide_eq_false h2]; rfl
        go_wp2_with fail
        go_roundw
        case rel => exact ⟨j + 1, by omega, by go_num, by rw [expL_no HN.out]; exact O2.out, by rw [expT_no HN.out]; exact T2.out, C2.out⟩
        case measure => simp [intOf]; omega
    · obtain rfl : j = 32 := by omega
      go_wp2_with fail
      go_ret
      exact ⟨_, rfl, IntS.of_own HO.out, fun q hq => (HO.out.lt _ hq).1, T1.out, C1.out⟩
end Go.Proofs.YthmnmdikpccenacDoor
