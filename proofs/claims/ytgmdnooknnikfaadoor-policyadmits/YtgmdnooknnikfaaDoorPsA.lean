/-
  Package policy's edges; a slice of numbers that a call of its own has laid.
-/
import Derived.Test.YtgmdnooknnikfaaDoorPoG
namespace Go.Proofs.YtgmdnooknnikfaaDoor
open Go.RowKit

abbrev intVq (n : Int) : Value := .int .i64 n
/-- a slice of numbers. -/
def Ints (w : World) (v : Value) (xs : List Int) : Prop := (v = .slice none 0 0 ∧ xs = []) ∨ ∃ g cap : Nat, v = .slice (some ⟨g, 0, none⟩) xs.length cap ∧ ∀ (j : Nat) x, xs[j]? = some x → w.cell? ⟨g, j, none⟩ = some (.int .i64 x)
theorem Ints.below {w w' : World} {v : Value} {xs : List Int} (h : Ints w v xs) (hb : Below w.heap.size w w') : Ints w' v xs := by
  rcases h with h | ⟨g, cap, h1, h2⟩
  · exact .inl h
  · exact .inr ⟨g, cap, h1, fun j x hx => Below.keeps hb (h2 j x hx)⟩
theorem Ints.of_own {w : World} {base : Nat} {v : Value} {n : Nat} {xs : List Int} (h : w.ownsRow base 3 1 v n (xs.map intVq)) : Ints w v xs := by
  obtain ⟨hlen, h⟩ := h
  have hn : n = xs.length := by simpa using hlen.symm
  subst hn
  rcases h with ⟨h1, h2⟩ | ⟨g, cap, cur, h1, h2, h3, h4, h5, h6, h7⟩
  · exact .inl ⟨h1, List.length_eq_zero_iff.1 h2⟩
  · refine .inr ⟨g, cap, h1, fun j x hx => ?_⟩
    have h8 : (xs.map intVq)[j]? = some (.int .i64 x) := by rw [List.getElem?_map, hx]; rfl
    rw [← h7, List.getElem?_take] at h8
    split at h8
    · have h9 : cur[j]? = some (.int .i64 x) := by simpa using h8
      simp [World.cell?, h3, h9]
    · cases h8
theorem Tryd.infoI : (Tryd.prog.info? 3).map (fun i => (i.zero, i.size, i.bytes)) = some (some (.int .i64 0), 1, 8) := by kernel_rfl
theorem edges_take {l : List Rl} {j : Nat} {r : Rl} (h : l[j]? = some r) : edgesL (l.take (j + 1)) = edgesL (l.take j) ++ [r.lo, r.tp + 1] := by
  unfold edgesL
  rw [List.take_add_one, h, List.flatMap_append]
  simp
theorem edges_len (l : List Rl) : (edgesL l).length = 2 * l.length := by
  induction l with
  | nil => rfl
  | cons r l ih =>
    have e : edgesL (r :: l) = [r.lo, r.tp + 1] ++ edgesL l := by simp [edgesL]
    rw [e]; simp only [List.length_append, ih, List.length_cons, List.length_nil]; omega

set_option maxRecDepth 100000 in
set_option maxHeartbeats 2000000 in
theorem edges_any (p : Option Addr) (l : List Rl) (cap : Nat) (w : World) (R : Rul w p l) (hok : ∀ r ∈ l, r.ok) (hl : l.length ≤ 1000) :
    Calls Tryd.prog 37 #[.slice p l.length cap] w fun e w' => (∃ v, e = .returned v ∧ Ints w' v (edgesL l)) ∧ Below w.heap.size w w' := by
  have HR : Hid (Rul w p l) := R
  have HK : Hid (∀ r ∈ l, r.ok) := hok
  clear R hok
  obtain ⟨i0, hi, hz0, hz1, hz2⟩ := info_parts Tryd.infoI
  go_enter Tryd.func37, Tryd.ntmps37
  go_wp2_with fail
  go_loopw [3, 8] (fun v t wr => ∃ j : Nat, j ≤ l.length ∧ t = .int .i64 j ∧ wr.ownsRow w.heap.size 3 1 v (edgesL (l.take j)).length ((edgesL (l.take j)).map intVq) ∧ Below w.heap.size w wr) (fun _ t _ => l.length - (intOf t).toNat)
  case atStart => exact ⟨0, Nat.zero_le _, rfl, World.ownsRow_nil _ _ _ _, Below.refl _ _⟩
  case round =>
    obtain ⟨j, hj, rfl, hown, hb⟩ := hrel
    have HO : Hid (wr.ownsRow w.heap.size 3 1 u3 (edgesL (l.take j)).length ((edgesL (l.take j)).map intVq)) := hown
    have HB : Hid (Below w.heap.size w wr) := hb
    clear hown hb
    by_cases hlt : j < l.length
    · have hr : l[j]? = some l[j] := List.getElem?_eq_getElem hlt
      have hok : l[j].ok := HK.out _ (List.getElem_mem hlt)
      generalize l[j] = r at hr hok
      obtain ⟨x, o, rfl, g0, g1, g2, g3, g4⟩ := HR.out j r hr
      have k0 := Below.keeps HB.out g0
      have k1 := Below.keeps HB.out g1
      have k2 := Below.keeps HB.out g2
      have k3 := Below.keeps HB.out g3
      have k4 := Below.keeps HB.out g4
      have HD : Hid (edgesL (l.take (j + 1)) = edgesL (l.take j) ++ [r.lo, r.tp + 1]) := edges_take hr
      have hn : (edgesL (l.take j)).length ≤ 2000 := by rw [edges_len, List.length_take]; omega
      obtain ⟨_, o1, o2, o3⟩ := hok
      clear g0 g1 g2 g3 g4 hr
      generalize edgesL (l.take j) = T0 at *
      have B2 : Hid (Below w.heap.size w (wr.alloc (.cells #[.bool r.al, .bool r.ou, .int .i64 r.pr, .int .i64 r.lo, .int .i64 r.tp] 55))) := HB.out.alloc HB.out.size _
      go_wp2_with (at_builtin; refine wpList_append_own _ rfl _ _ 22 rfl w.heap.size 3 i0 (.int .i64 0) 1 8 Tryd.underlying22 hi hz0 hz1 hz2 rfl (by decide) _ _ _ rfl ((HO.out.alloc _).alloc _) ⟨wr.heap.size + 1, 0, none⟩ 2 2 [intVq r.lo, intVq (r.tp + 1)] ?c0 rfl ?c1 ?c2 ?c3 ?c4 ?c5 ?_)
      case c0 => rfl
      case c1 =>
        intro j u hj
        rw [addr_add]
        match j, hj with
        | 0, hj => simp at hj; subst hj; simp [go_sem]
        | 1, hj => simp at hj; subst hj; simp [go_sem]
      case c2 => intro u hu; simp at hu; rcases hu with rfl | rfl <;> rfl
      case c3 => unfold maxLen; omega
      case c4 => omega
      case c5 => have := HB.out.size; simp; omega
      intro v' w1 hown' hgrow _
      have HR1 : Hid (w1.ownsRow w.heap.size 3 1 v' (edgesL (l.take (j + 1))).length ((edgesL (l.take (j + 1))).map intVq)) := by
        show w1.ownsRow _ _ _ _ _ _
        rw [HD.out]
        simpa using hown'
      have HG : Hid (Below w.heap.size w w1) := (B2.out.alloc B2.out.size _).grown hgrow (by have := HB.out.size; simp; omega) (fun j hj => (HO.out.lt _ hj).1)
      clear hown' hgrow
      go_wp2_with fail
      go_roundw
      case rel => exact ⟨j + 1, by omega, by go_num, HR1.out, HG.out⟩
      case measure => simp [intOf]; omega
    · obtain rfl : j = l.length := by omega
      rw [List.take_length] at HO
      have HI : Hid (Ints wr u3 (edgesL l)) := Ints.of_own HO.out
      go_wp2_with fail
      go_ret
      exact ⟨⟨_, rfl, HI.out⟩, HB.out⟩
end Go.Proofs.YtgmdnooknnikfaaDoor
