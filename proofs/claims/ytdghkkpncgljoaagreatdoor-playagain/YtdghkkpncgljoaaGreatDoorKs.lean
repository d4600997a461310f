/-
  Texts in one: PyG WoEv PyH PyI PyJ.
-/
import Derived.Test.YtdghkkpncgljoaaGreatDoorKk
import Derived.Test.YtdghkkpncgljoaaGreatDoorKn
import Derived.Test.YtdghkkpncgljoaaGreatDoorKd
import Derived.Deep.RegionHeld3
namespace Go.Proofs.YtdghkkpncgljoaaGreatDoor
open Go.RowKit

/-- a world counts from another base. -/
theorem Nd.rebase {w0 w1 w : World} {k : Bk} {x : No} {m n : Nat} (h : Nd w0 w k x m n) (hb : Below w1.heap.size w1 w) (g : ∀ b ∈ k.all, w1.heap.size ≤ b) (r : x.ru ≠ [] → ∀ a, k.rp = some a → w1.heap.size ≤ a.block) : Nd w1 w k x m n where
  nd := h.nd
  ro := h.ro
  rk := h.rk
  ce := h.ce
  yb := h.yb
  lf := h.lf
  tb := h.tb
  vs := h.vs
  wt := h.wt
  te := h.te
  mi := h.mi
  wm := h.wm
  ru := h.ru
  ds := h.ds
  g0 := g
  rb := fun e a ha => ⟨r e a ha, (h.rb e a ha).2⟩
  id := h.id
  bl := hb
theorem SdP.rebase {w0 w1 w : World} {K : WK} {x : Wo} {t i : Nat} (hi : i < 2) (h : SdP w0 w K x t i) (hb : Below w1.heap.size w1 w) (hp : ∀ b ∈ K.part (i + 1), w1.heap.size ≤ b) (low : ∀ b, b < w1.heap.size → K.tag b = 9) : SdP w1 w K x t i := by
  rcases h with ⟨k, y, m, n, e1, e2, nd, r1, r2, r3, r4, r5, r6, r7, r8⟩ | h
  · refine .inl ⟨k, y, m, n, e1, e2, nd.rebase hb (fun b hm => hp b ?_) (fun hn a ea => ?_), r1, r2, r3, r4, r5, r6, r7, r8⟩
    · have : i = 0 ∨ i = 1 := by omega
      rcases this with rfl | rfl <;> simp [WK.part, e1, hm]
    · rcases Nat.lt_or_ge a.block w1.heap.size with q | q
      · have q1 := low _ q
        have q2 := r8 hn a ea
        omega
      · exact q
  · exact .inr h
theorem Wd.rebase {w0 w1 w : World} {K : WK} {x : Wo} {t : Nat} (h : Wd w0 w K x t) (hb : Below w1.heap.size w1 w) (low : ∀ b, b < w1.heap.size → K.tag b = 9) : Wd w1 w K x t := by
  have hp : ∀ i, i < 5 → ∀ b ∈ K.part i, K.tag b = i ∧ w1.heap.size ≤ b := fun i hi b hm => by
    have q := (h.tg i hi b hm).1
    refine ⟨q, ?_⟩
    rcases Nat.lt_or_ge b w1.heap.size with a | a
    · have := low b a; omega
    · exact a
  exact ⟨h.wb, h.s0.rebase (by omega) hb (fun b hm => (hp 1 (by omega) b hm).2) low, h.s1.rebase (by omega) hb (fun b hm => (hp 2 (by omega) b hm).2) low, h.ru, h.ro, h.rt, h.fl, h.ev, hp, h.al, hb⟩
/-- blocks of nobody's are written. -/
theorem Wd.keptL {w0 w w' : World} {K : WK} {x : Wo} {t : Nat} (h : Wd w0 w K x t) {l : List Nat} (h9 : ∀ b ∈ l, K.tag b = 9) (hl0 : ∀ b ∈ l, w0.heap.size ≤ b) (c : ChgL l w w') : Wd w0 w' K x t := by
  have hl : ∀ i, i < 5 → ∀ b ∈ l, ¬ b ∈ K.part i := fun i hi b hb hm => by have q1 := (h.tg i hi b hm).1; have q2 := h9 b hb; omega
  have hl5 : ∀ b ∈ l, K.tag b ≠ 5 := fun b hb => by have := h9 b hb; omega
  refine ⟨?_, h.s0.kept (by omega) c (hl 1 (by omega)) hl5 hl0, h.s1.kept (by omega) c (hl 2 (by omega)) hl5 hl0, ?_, h.ro, h.rt, h.fl.kept c (hl 3 (by omega)) hl5, h.ev.kept c (hl 4 (by omega)), h.tg, fun b hb => h.al b (Nat.le_trans c.size hb), ChgL.below h.bl c hl0⟩
  · unfold WdB
    rw [c.block _ h.wb.lt (fun hm => hl 0 (by omega) _ hm (by simp [WK.part]))]
    exact h.wb
  · refine h.ru.keptB (fun a n c' e => ?_)
    have e2 : K.rp = some a := (Value.slice.inj e).1
    have ht := h.rt a e2
    exact c.block a.block (h.lt (by omega)) (fun hm => hl5 _ hm ht)
/-- no block is of both. -/
def Apt (K L : WK) : Prop := ∀ b, K.tag b = 9 ∨ L.tag b = 9
theorem Apt.symm {K L : WK} (h : Apt K L) : Apt L K := fun b => (h b).symm
/-- the one world moved: the other stands. -/
theorem Wd.beside {w0 w w' : World} {K K' L : WK} {x y : Wo} {t u : Nat} (h : Wd w0 w L y u) (k : Wd w0 w' K' x t) (m : Mv K K' w w') (a : Apt K L) : Wd w0 w' L y u ∧ Apt K' L := by
  constructor
  · refine h.keptL (l := (List.range w.heap.size).filter fun b => decide (L.tag b = 9) && decide (w0.heap.size ≤ b)) (fun b hb => ?_) (fun b hb => ?_) ⟨m.os, m.tape, m.output, m.size, fun b hb hn => ?_⟩
    · have := (List.mem_filter.1 hb).2
      simp at this
      exact this.1
    · have := (List.mem_filter.1 hb).2
      simp at this
      exact this.2
    · rcases Nat.lt_or_ge b w0.heap.size with q | q
      · rw [k.bl.block b q, h.bl.block b q]
      · refine m.block b hb (.inl ((a b).resolve_right fun e => hn ?_))
        exact List.mem_filter.2 ⟨List.mem_range.2 hb, by simp [e, q]⟩
  · intro b
    rcases Nat.lt_or_ge b w.heap.size with q | q
    · rw [m.tag b q]; exact a b
    · exact .inr (h.al b q)
/-- a world made beside another. -/
theorem Apt.born {w0 w w1 : World} {K L : WK} {x : Wo} {t : Nat} (h : Wd w0 w K x t) (low : ∀ b, b < w1.heap.size → L.tag b = 9) (hs : w.heap.size ≤ w1.heap.size) : Apt K L := fun b => by
  rcases Nat.lt_or_ge b w1.heap.size with q | q
  · exact .inr (low b q)
  · exact .inl (h.al b (Nat.le_trans hs q))
end Go.Proofs.YtdghkkpncgljoaaGreatDoor

namespace Go.Proofs.YtdghkkpncgljoaaGreatDoor
open Go.RowKit

theorem evC_get : ∀ (l : List (Int × Int)) (i : Nat) (e : Int × Int), l[i]? = some e → (evC l)[i * 2]? = some (.int .i64 e.1) ∧ (evC l)[i * 2 + 1]? = some (.int .i64 e.2)
  | [], _, _, h => by simp at h
  | a :: l, 0, e, h => by
    have : a = e := by simpa using h
    subst this
    exact ⟨rfl, rfl⟩
  | a :: l, i + 1, e, h => by
    have ih := evC_get l i e (by simpa using h)
    have e1 : evC (a :: l) = .int .i64 a.1 :: .int .i64 a.2 :: evC l := by simp [evC]
    rw [e1, show (i + 1) * 2 = i * 2 + 2 by omega, show i * 2 + 2 + 1 = i * 2 + 1 + 2 by omega]
    exact ih
theorem own_evs {w : World} {B : Nat} {v : Value} {L : List (Int × Int)} (h : w.ownsRow B 60 2 v L.length (evC L)) : ∃ (p : Option Addr) (cap : Nat), v = .slice p L.length cap ∧ ∀ (j : Nat) x, L[j]? = some x → ∃ g, p = some ⟨g, 0, none⟩ ∧ B ≤ g ∧ w.cell? ⟨g, j * 2, none⟩ = some (.int .i64 x.1) ∧ w.cell? ⟨g, j * 2 + 1, none⟩ = some (.int .i64 x.2) := by
  rcases h.2 with ⟨h1, h2⟩ | ⟨g, cap, cur, h1, h2, h3, h4, h5, h6, h7⟩
  · refine ⟨none, 0, by rw [h1, h2], fun j x hx => ?_⟩
    rw [List.length_eq_zero_iff.1 h2] at hx
    simp at hx
  · refine ⟨some ⟨g, 0, none⟩, cap, h1, fun j x hx => ⟨g, rfl, h2, ?_⟩⟩
    have key : ∀ k u, (evC L)[k]? = some u → w.cell? ⟨g, k, none⟩ = some u := fun k u h8 => by
      rw [← h7, List.getElem?_take] at h8
      split at h8
      · have h9 : cur[k]? = some u := by simpa using h8
        simp [World.cell?, h3, h9]
      · cases h8
    exact ⟨key _ _ (evC_get L j x hx).1, key _ _ (evC_get L j x hx).2⟩
end Go.Proofs.YtdghkkpncgljoaaGreatDoor

namespace Go.Proofs.YtdghkkpncgljoaaGreatDoor
open Go.RowKit

/-- numbers that can be read. -/
def RdN (w : World) (p : Option Addr) (xs : List Int) : Prop := ∀ (j : Nat) x, xs[j]? = some x → ∃ b o, p = some ⟨b, o, none⟩ ∧ w.cell? ⟨b, o + j, none⟩ = some (.int .i64 x)
theorem RdN.below {w w' : World} {p : Option Addr} {xs : List Int} (h : RdN w p xs) (hb : Below w.heap.size w w') : RdN w' p xs := fun j x hx => by
  obtain ⟨b, o, e, c⟩ := h j x hx
  exact ⟨b, o, e, tk hb c⟩
set_option maxRecDepth 100000 in
set_option maxHeartbeats 2000000 in
theorem sints_same (p r : Option Addr) (ca cb : Nat) (xs : List Int) (w : World) (A : RdN w p xs) (B : RdN w r xs) (hn : xs.length ≤ 3000) :
    Calls Tryz.prog 9 #[.slice p xs.length ca, .slice r xs.length cb] w fun e w' => e = .returned (.bool true) ∧ Below w.heap.size w w' := by
  have HA : Hid (RdN w p xs) := A
  have HB : Hid (RdN w r xs) := B
  have n0 : (xs.length : Int) ≤ 3000 := by omega
  clear A B
  go_enter Tryz.func9, Tryz.ntmps9
  go_wp2_with fail
  go_loopw [5] (fun t wr => ∃ j : Nat, j ≤ xs.length ∧ t = .int .i64 j ∧ Below w.heap.size w wr) (fun t _ => xs.length - (intOf t).toNat)
  case atStart => exact ⟨0, by omega, rfl, Below.refl _ _⟩
  case round =>
    obtain ⟨j, hj, rfl, hbr⟩ := hrel
    have B1 : Hid (Below w.heap.size w wr) := hbr
    clear hbr
    by_cases hlt : j < xs.length
    · obtain ⟨x, hx⟩ : ∃ x, xs[j]? = some x := ⟨_, List.getElem?_eq_getElem hlt⟩
      obtain ⟨g1, o1, rfl, hc1⟩ := HA.out.below B1.out j x hx
      obtain ⟨g2, o2, rfl, hc2⟩ := HB.out.below B1.out j x hx
      have i0 : (0 : Int) ≤ (j : Int) := by omega
      have i1 : (j : Int) < (xs.length : Int) := by omega
      have B2 : Hid (Below w.heap.size w wr.drew) := B1.out.drew
      clear hx HA HB
      go_wp2_with fail
      go_region
      all_goals
        go_wp2_with fail
        go_roundw
        case rel => exact ⟨j + 1, by omega, by go_num, B2.out⟩
        case measure => simp [intOf]; omega
    · have hlt' : ¬ (j : Int) < (xs.length : Int) := by omega
      go_wp2_with fail
      go_ret
      exact ⟨rfl, B1.out⟩
/-- claims that can be read. -/
def RdE (w : World) (p : Option Addr) (xs : List (Int × Int)) : Prop := ∀ (j : Nat) x, xs[j]? = some x → ∃ g, p = some ⟨g, 0, none⟩ ∧ w.cell? ⟨g, j * 2, none⟩ = some (.int .i64 x.1) ∧ w.cell? ⟨g, j * 2 + 1, none⟩ = some (.int .i64 x.2)
theorem RdE.below {w w' : World} {p : Option Addr} {xs : List (Int × Int)} (h : RdE w p xs) (hb : Below w.heap.size w w') : RdE w' p xs := fun j x hx => by
  obtain ⟨g, e, c, d⟩ := h j x hx
  exact ⟨g, e, tk hb c, tk hb d⟩
theorem eqEv (d : Nat) (a b : Int) (w : World) : (Op.equalIn (d + 1 + 1) 79 (.agg #[.int .i64 a, .int .i64 b]) (.agg #[.int .i64 a, .int .i64 b])).run Tryz.prog w = .ok true w := by
  rw [run_equalIn_agg w (d + 1) 79 _ _ (by kernel_rfl) (by kernel_rfl)]
  have n1 : ("Node" : String) ≠ "_" := by decide
  have n2 : ("Epoch" : String) ≠ "_" := by decide
  simp only [Program.fieldsOf, Tryz.underlying79, Op.eqFields, Sem.run_bind, Sem.run_ite, ne_eq, n1, n2, not_false_eq_true, if_true, partI #[.int .i64 a, .int .i64 b] 0 (.int .i64 a) rfl, partI #[.int .i64 a, .int .i64 b] 1 (.int .i64 b) rfl, Result.andThen_ok, eqI, Bool.not_true, Bool.false_eq_true, if_false, Sem.run_pure]
theorem neq_ev (a b : Int) (w : World) : (binOp .neq 79 (.agg #[.int .i64 a, .int .i64 b]) (.agg #[.int .i64 a, .int .i64 b])).run Tryz.prog w = .ok (.bool false) w := by
  rw [run_neq_struct, show (10000 : Nat) = 9998 + 1 + 1 from rfl, eqEv]
  rfl
set_option maxRecDepth 100000 in
set_option maxHeartbeats 2000000 in
theorem sevs_same (p r : Option Addr) (ca cb : Nat) (xs : List (Int × Int)) (w : World) (A : RdE w p xs) (B : RdE w r xs) (hn : xs.length ≤ 1000) :
    Calls Tryz.prog 13 #[.slice p xs.length ca, .slice r xs.length cb] w fun e w' => e = .returned (.bool true) ∧ Below w.heap.size w w' := by
  have HA : Hid (RdE w p xs) := A
  have HB : Hid (RdE w r xs) := B
  have n0 : (xs.length : Int) ≤ 1000 := by omega
  clear A B
  go_enter Tryz.func13, Tryz.ntmps13
  go_wp2_with fail
  go_loopw [5] (fun t wr => ∃ j : Nat, j ≤ xs.length ∧ t = .int .i64 j ∧ Below w.heap.size w wr) (fun t _ => xs.length - (intOf t).toNat)
  case atStart => exact ⟨0, by omega, rfl, Below.refl _ _⟩
  case round =>
    obtain ⟨j, hj, rfl, hbr⟩ := hrel
    have B1 : Hid (Below w.heap.size w wr) := hbr
    clear hbr
    by_cases hlt : j < xs.length
    · obtain ⟨x, hx⟩ : ∃ x, xs[j]? = some x := ⟨_, List.getElem?_eq_getElem hlt⟩
      obtain ⟨g1, rfl, a0, a1⟩ := HA.out.below B1.out j x hx
      obtain ⟨g2, rfl, b0, b1⟩ := HB.out.below B1.out j x hx
      have i0 : (0 : Int) ≤ (j : Int) := by omega
      have i1 : (j : Int) < (xs.length : Int) := by omega
      have hq := neq_ev x.1 x.2
      have B2 : Hid (Below w.heap.size w wr.drew) := B1.out.drew
      clear hx HA HB
      go_wp2_with fail
      go_region
      all_goals
        go_wp2_with fail
        go_roundw
        case rel => exact ⟨j + 1, by omega, by go_num, B2.out⟩
        case measure => simp [intOf]; omega
    · have hlt' : ¬ (j : Int) < (xs.length : Int) := by omega
      go_wp2_with fail
      go_ret
      exact ⟨rfl, B1.out⟩
theorem two_ats (w : World) (a b : Int) (q : Nat) (u : Value) (hu : ([.int .i64 a, .int .i64 b] : List Value)[q]? = some u) : (w.alloc (.cells #[.int .i64 a, .int .i64 b] 79)).cell? (Addr.add ⟨w.heap.size, 0, none⟩ q) = some u := by
  rw [tadd, Nat.zero_add, nw]
  simpa using hu
theorem Tryz.infoRe : (Tryz.prog.info? 79).map (fun i => (i.zero, i.size, i.bytes)) = some (some (.agg #[.int .i64 0, .int .i64 0]), 2, 16) := by kernel_rfl
set_option maxRecDepth 100000 in
set_option maxHeartbeats 2000000 in
theorem bevs_any (p : Option Addr) (cap : Nat) (xs : List (Int × Int)) (w : World) (A : RdE w p xs) (hn : xs.length ≤ 1000) :
    Calls Tryz.prog 14 #[.slice p xs.length cap] w fun e w' => (∃ v', e = .returned v' ∧ w'.ownsRow w.heap.size 79 2 v' xs.length (evC xs)) ∧ Below w.heap.size w w' := by
  have HA : Hid (RdE w p xs) := A
  have n0 : (xs.length : Int) ≤ 1000 := by omega
  obtain ⟨q0, hi, hz0, hz1, hz2⟩ := info_parts Tryz.infoRe
  clear A
  go_enter Tryz.func14, Tryz.ntmps14
  go_wp2_with fail
  go_loopw [3, 4] (fun v t wr => ∃ j : Nat, j ≤ xs.length ∧ t = .int .i64 j ∧ wr.ownsRow w.heap.size 79 2 v j (evC (xs.take j)) ∧ Below w.heap.size w wr) (fun _ t _ => xs.length - (intOf t).toNat)
  case atStart => exact ⟨0, by omega, rfl, World.ownsRow_nil _ _ _ _, Below.refl _ _⟩
  case round =>
    obtain ⟨j, hj, rfl, hown, hbr⟩ := hrel
    have HO : Hid (wr.ownsRow w.heap.size 79 2 u3 j (evC (xs.take j))) := hown
    have HB : Hid (Below w.heap.size w wr) := hbr
    clear hown hbr
    by_cases hlt : j < xs.length
    · obtain ⟨x, hx⟩ : ∃ x, xs[j]? = some x := ⟨_, List.getElem?_eq_getElem hlt⟩
      obtain ⟨g1, rfl, a0, a1⟩ := HA.out j x hx
      have i0 : (0 : Int) ≤ (j : Int) := by omega
      have i1 : (j : Int) < (xs.length : Int) := by omega
      have HTK : Hid (evC (xs.take (j + 1)) = evC (xs.take j) ++ [.int .i64 x.1, .int .i64 x.2]) := by
        show _ = _
        rw [List.take_add_one, hx]
        simp [evC]
      obtain ⟨p3, c3, rfl⟩ : ∃ p3 c3, u3 = .slice p3 j c3 := by
        rcases ownsRow_cases HO.out with ⟨e, e0⟩ | ⟨g', c', e, _⟩
        · exact ⟨none, 0, by rw [e, e0]⟩
        · exact ⟨_, _, e⟩
      have HBD : Hid (Below wr.heap.size wr (wr.drew.alloc (.cells #[.int .i64 x.1, .int .i64 x.2] 79))) := t2 (Below.refl _ _).drew (aB _ _)
      have HOD : Hid ((wr.drew.alloc (.cells #[.int .i64 x.1, .int .i64 x.2] 79)).ownsRow w.heap.size 79 2 (.slice p3 j c3) j (evC (xs.take j))) := owns_chgL HO.out (ChgL.of (l := []) HBD.out) (by simp)
      have HSZ : Hid (w.heap.size ≤ (wr.drew.alloc (.cells #[.int .i64 x.1, .int .i64 x.2] 79)).heap.size) := Nat.le_trans HB.out.size HBD.out.size
      have N1 : Hid (∀ u ∈ ([.int .i64 x.1, .int .i64 x.2] : List Value), u.oneCell' = true) := fun u hu => by
        simp only [List.mem_cons, List.not_mem_nil, or_false] at hu
        rcases hu with rfl | rfl <;> rfl
      obtain ⟨v5, w5, hr, hO5, hg5, _, _⟩ := run_append_own_at (P := Tryz.prog) (wr.drew.alloc (.cells #[.int .i64 x.1, .int .i64 x.2] 79)) w.heap.size 42 42 79 q0 _ 2 16 Tryz.underlying42 hi hz0 hz1 hz2 rfl (by decide) (.slice p3 j c3) j (evC (xs.take j)) HOD.out ⟨wr.heap.size, 0, none⟩ 1 1 [.int .i64 x.1, .int .i64 x.2] rfl (two_ats wr.drew x.1 x.2) N1.out (by unfold maxLen; omega) (by omega) HSZ.out
      have O5 : Hid (w5.ownsRow w.heap.size 79 2 v5 (j + 1) (evC (xs.take (j + 1)))) := (by rw [← HTK.out] at hO5; exact hO5)
      have B5 : Hid (Below w.heap.size w w5) := (t2 HB.out HBD.out).grown hg5 HSZ.out (fun q hq => (HO.out.lt _ hq).1)
      have s0 : wr.drew.cell? ⟨g1, j * 2, none⟩ = some (.int .i64 x.1) ∧ wr.drew.cell? ⟨g1, j * 2 + 1, none⟩ = some (.int .i64 x.2) := ⟨tk HB.out.drew a0, tk HB.out.drew a1⟩
      have s1 : (wr.drew.alloc (.cells #[.int .i64 x.1, .int .i64 x.2] 79)).cell? ⟨g1, j * 2, none⟩ = some (.int .i64 x.1) ∧ (wr.drew.alloc (.cells #[.int .i64 x.1, .int .i64 x.2] 79)).cell? ⟨g1, j * 2 + 1, none⟩ = some (.int .i64 x.2) := ⟨tk (t2 HB.out HBD.out) a0, tk (t2 HB.out HBD.out) a1⟩
      have s2 : w5.cell? ⟨g1, j * 2, none⟩ = some (.int .i64 x.1) ∧ w5.cell? ⟨g1, j * 2 + 1, none⟩ = some (.int .i64 x.2) := ⟨tk B5.out a0, tk B5.out a1⟩
      clear hx HA hO5 hg5 a0 a1
      go_wp2_with fail
      go_region_held3 (fun w' => w'.cell? ⟨g1, j * 2, none⟩ = some (.int .i64 x.1) ∧ w'.cell? ⟨g1, j * 2 + 1, none⟩ = some (.int .i64 x.2)) (first | exact s0 | exact s1 | exact s2) (first | (refine Eq.mpr (if_pos (by kernel_rfl)) ?_; refine wp_append_eq (Operand.tmp 11) (Operand.tmp 23) 42 rfl _ _ _ w5 rfl rfl hr ?_))
      all_goals
        go_wp2_with fail
        go_roundw
        case rel => exact ⟨j + 1, by omega, by go_num, O5.out, B5.out⟩
        case measure => simp [intOf]; omega
    · obtain rfl : j = xs.length := by omega
      go_wp2_with fail
      go_ret
      exact ⟨⟨_, rfl, by rw [List.take_length] at HO; exact HO.out⟩, HB.out⟩
end Go.Proofs.YtdghkkpncgljoaaGreatDoor

namespace Go.Proofs.YtdghkkpncgljoaaGreatDoor
open Go.RowKit

set_option maxRecDepth 100000 in
set_option maxHeartbeats 4000000 in
theorem scells_same (p r : Option Addr) (ca cb : Nat) (cs : List Tc) (w : World) (A : TcR w p cs) (B : TcR w r cs) (h8 : cs.length ≤ 8) :
    Calls Tryz.prog 25 #[.slice p cs.length ca, .slice r cs.length cb] w fun e w' => e = .returned (.bool true) ∧ Below w.heap.size w w' := by
  have HA : Hid (TcR w p cs) := A
  have HB : Hid (TcR w r cs) := B
  have n0 : (cs.length : Int) ≤ 8 := by omega
  clear A B
  go_enter Tryz.func25, Tryz.ntmps25
  go_wp2_with fail
  go_loopw [5] (fun t wr => ∃ j : Nat, j ≤ cs.length ∧ t = .int .i64 j ∧ Below w.heap.size w wr) (fun t _ => cs.length - (intOf t).toNat)
  case atStart => exact ⟨0, by omega, rfl, Below.refl _ _⟩
  case round =>
    obtain ⟨j, hj, rfl, hbr⟩ := hrel
    have B1 : Hid (Below w.heap.size w wr) := hbr
    clear hbr
    by_cases hlt : j < cs.length
    · obtain ⟨s, hs⟩ : ∃ s, cs[j]? = some s := ⟨_, List.getElem?_eq_getElem hlt⟩
      obtain ⟨g1, o1, rfl, a0, a1, a2, a3, a4, a5, a6, a7, a8, a9⟩ := HA.out.below B1.out j s hs
      obtain ⟨g2, o2, rfl, b0, b1, b2, b3, b4, b5, b6, b7, b8, b9⟩ := HB.out.below B1.out j s hs
      obtain ⟨sl, c⟩ := s
      simp only at a0 b0 a1 b1 a2 b2 a3 b3 a4 b4 a5 b5 a6 b6 a7 b7 a8 b8 a9 b9
      have i0 : (0 : Int) ≤ (j : Int) := by omega
      have i1 : (j : Int) < (cs.length : Int) := by omega
      have hq : ∀ w : World, (binOp .neq 78 (.agg #[.int .i64 sl, .int .i64 c.ve, .int .i64 c.pr, .int .i64 c.ia, .int .i64 c.ip, .int .i64 c.fa, .int .i64 c.fp, .int .i64 c.po, .int .i64 c.st, .int .i64 c.un]) (.agg #[.int .i64 sl, .int .i64 c.ve, .int .i64 c.pr, .int .i64 c.ia, .int .i64 c.ip, .int .i64 c.fa, .int .i64 c.fp, .int .i64 c.po, .int .i64 c.st, .int .i64 c.un])).run Tryz.prog w = .ok (.bool false) w := neq_cell _ _
      have B2 : Hid (Below w.heap.size w wr.drew) := B1.out.drew
      clear hs HA HB
      go_wp2_with fail
      go_region
      all_goals
        go_wp2_with fail
        go_roundw
        case rel => exact ⟨j + 1, by omega, by go_num, B2.out⟩
        case measure => simp [intOf]; omega
    · have hlt' : ¬ (j : Int) < (cs.length : Int) := by omega
      go_wp2_with fail
      go_ret
      exact ⟨rfl, B1.out⟩
/-- notes that can be read. -/
def RdT (w : World) (p : Option Addr) (l : List Nf) (cvs : List Value) : Prop := ∀ (j : Nat) t, l[j]? = some t → ∃ g q c, p = some ⟨g, 0, none⟩ ∧ cvs[j]? = some (.slice q t.cs.length c) ∧ w.cell? ⟨g, j * 5, none⟩ = some (.int .i64 t.fr) ∧ w.cell? ⟨g, j * 5 + 1, none⟩ = some (.int .i64 t.li) ∧ w.cell? ⟨g, j * 5 + 2, none⟩ = some (.int .i64 t.ep) ∧ w.cell? ⟨g, j * 5 + 3, none⟩ = some (.bool t.cl) ∧ w.cell? ⟨g, j * 5 + 4, none⟩ = some (.slice q t.cs.length c)
theorem RdT.below {w w' : World} {p : Option Addr} {l : List Nf} {cvs : List Value} (h : RdT w p l cvs) (hb : Below w.heap.size w w') : RdT w' p l cvs := fun j t ht => by
  obtain ⟨g, q, c, e, hv, c0, c1, c2, c3, c4⟩ := h j t ht
  exact ⟨g, q, c, e, hv, tk hb c0, tk hb c1, tk hb c2, tk hb c3, tk hb c4⟩
/-- and so can their cells. -/
def RdC (w : World) (l : List Nf) (cvs : List Value) : Prop := ∀ (j : Nat) t, l[j]? = some t → ∃ q c, cvs[j]? = some (.slice q t.cs.length c) ∧ TcR w q t.cs ∧ t.cs.length ≤ 8
theorem RdC.below {w w' : World} {l : List Nf} {cvs : List Value} (h : RdC w l cvs) (hb : Below w.heap.size w w') : RdC w' l cvs := fun j t ht => by
  obtain ⟨q, c, hv, R, h8⟩ := h j t ht
  exact ⟨q, c, hv, R.below hb, h8⟩
set_option maxRecDepth 100000 in
set_option maxHeartbeats 4000000 in
theorem snotes_same (p r : Option Addr) (ca cb : Nat) (l : List Nf) (us vs : List Value) (w : World) (A : RdT w p l us) (B : RdT w r l vs) (AC : RdC w l us) (BC : RdC w l vs) (hn : l.length ≤ 200) :
    Calls Tryz.prog 10 #[.slice p l.length ca, .slice r l.length cb] w fun e w' => e = .returned (.bool true) ∧ Below w.heap.size w w' := by
  have HA : Hid (RdT w p l us ∧ RdC w l us) := ⟨A, AC⟩
  have HB : Hid (RdT w r l vs ∧ RdC w l vs) := ⟨B, BC⟩
  have n0 : (l.length : Int) ≤ 200 := by omega
  clear A B AC BC
  go_enter Tryz.func10, Tryz.ntmps10
  go_wp2_with fail
  go_loopw [5] (fun t wr => ∃ j : Nat, j ≤ l.length ∧ t = .int .i64 j ∧ Below w.heap.size w wr) (fun t _ => l.length - (intOf t).toNat)
  case atStart => exact ⟨0, by omega, rfl, Below.refl _ _⟩
  case round =>
    obtain ⟨j, hj, rfl, hbr⟩ := hrel
    have B1 : Hid (Below w.heap.size w wr) := hbr
    clear hbr
    by_cases hlt : j < l.length
    · obtain ⟨s, hs⟩ : ∃ s, l[j]? = some s := ⟨_, List.getElem?_eq_getElem hlt⟩
      obtain ⟨g1, q1, k1, rfl, e1, a0, a1, a2, a3, a4⟩ := HA.out.1.below B1.out j s hs
      obtain ⟨g2, q2, k2, rfl, e2, b0, b1, b2, b3, b4⟩ := HB.out.1.below B1.out j s hs
      have HC : Hid (∀ u, Below w.heap.size w u → Calls Tryz.prog 25 #[.slice q1 s.cs.length k1, .slice q2 s.cs.length k2] u fun e w' => e = .returned (.bool true) ∧ Below u.heap.size u w') := fun u hu => by
        obtain ⟨x1, y1, f1, R1, h8⟩ := HA.out.2 j s hs
        obtain ⟨x2, y2, f2, R2, _⟩ := HB.out.2 j s hs
        rw [e1] at f1; cases f1
        rw [e2] at f2; cases f2
        exact scells_same _ _ _ _ _ _ (R1.below hu) (R2.below hu) h8
      have i0 : (0 : Int) ≤ (j : Int) := by omega
      have i1 : (j : Int) < (l.length : Int) := by omega
      have B2 : Hid (Below w.heap.size w wr.drew) := B1.out.drew
      have s0 : wr.drew.cell? ⟨g1, j * 5, none⟩ = some (.int .i64 s.fr) ∧ wr.drew.cell? ⟨g1, j * 5 + 1, none⟩ = some (.int .i64 s.li) ∧ wr.drew.cell? ⟨g1, j * 5 + 2, none⟩ = some (.int .i64 s.ep) ∧ wr.drew.cell? ⟨g1, j * 5 + 3, none⟩ = some (.bool s.cl) ∧ wr.drew.cell? ⟨g1, j * 5 + 4, none⟩ = some (.slice q1 s.cs.length k1) ∧ wr.drew.cell? ⟨g2, j * 5, none⟩ = some (.int .i64 s.fr) ∧ wr.drew.cell? ⟨g2, j * 5 + 1, none⟩ = some (.int .i64 s.li) ∧ wr.drew.cell? ⟨g2, j * 5 + 2, none⟩ = some (.int .i64 s.ep) ∧ wr.drew.cell? ⟨g2, j * 5 + 3, none⟩ = some (.bool s.cl) ∧ wr.drew.cell? ⟨g2, j * 5 + 4, none⟩ = some (.slice q2 s.cs.length k2) := ⟨a0, a1, a2, a3, a4, b0, b1, b2, b3, b4⟩
      have HS : Hid (∀ u, Below wr.drew.heap.size wr.drew u → (u.cell? ⟨g1, j * 5, none⟩ = some (.int .i64 s.fr) ∧ u.cell? ⟨g1, j * 5 + 1, none⟩ = some (.int .i64 s.li) ∧ u.cell? ⟨g1, j * 5 + 2, none⟩ = some (.int .i64 s.ep) ∧ u.cell? ⟨g1, j * 5 + 3, none⟩ = some (.bool s.cl) ∧ u.cell? ⟨g1, j * 5 + 4, none⟩ = some (.slice q1 s.cs.length k1) ∧ u.cell? ⟨g2, j * 5, none⟩ = some (.int .i64 s.fr) ∧ u.cell? ⟨g2, j * 5 + 1, none⟩ = some (.int .i64 s.li) ∧ u.cell? ⟨g2, j * 5 + 2, none⟩ = some (.int .i64 s.ep) ∧ u.cell? ⟨g2, j * 5 + 3, none⟩ = some (.bool s.cl) ∧ u.cell? ⟨g2, j * 5 + 4, none⟩ = some (.slice q2 s.cs.length k2))) := fun u hu => ⟨tk hu a0, tk hu a1, tk hu a2, tk hu a3, tk hu a4, tk hu b0, tk hu b1, tk hu b2, tk hu b3, tk hu b4⟩
      have hcl : (s.cl != s.cl) = false := bne_self_eq_false _
      have hcd : decide (s.cl = s.cl) = true := decide_eq_true rfl
      clear hs HA HB e1 e2 a0 a1 a2 a3 a4 b0 b1 b2 b3 b4
      go_wp2_with fail
      go_region_held3 (fun w' => w'.cell? ⟨g1, j * 5, none⟩ = some (.int .i64 s.fr) ∧ w'.cell? ⟨g1, j * 5 + 1, none⟩ = some (.int .i64 s.li) ∧ w'.cell? ⟨g1, j * 5 + 2, none⟩ = some (.int .i64 s.ep) ∧ w'.cell? ⟨g1, j * 5 + 3, none⟩ = some (.bool s.cl) ∧ w'.cell? ⟨g1, j * 5 + 4, none⟩ = some (.slice q1 s.cs.length k1) ∧ w'.cell? ⟨g2, j * 5, none⟩ = some (.int .i64 s.fr) ∧ w'.cell? ⟨g2, j * 5 + 1, none⟩ = some (.int .i64 s.li) ∧ w'.cell? ⟨g2, j * 5 + 2, none⟩ = some (.int .i64 s.ep) ∧ w'.cell? ⟨g2, j * 5 + 3, none⟩ = some (.bool s.cl) ∧ w'.cell? ⟨g2, j * 5 + 4, none⟩ = some (.slice q2 s.cs.length k2)) (first | exact s0 | assumption) (first
        | (go_at_call 25; refine (HC.out _ B2.out).mono ?_; rintro e w4 ⟨rfl, hb4⟩;
            have s4 := HS.out w4 hb4; have B4 : Hid (Below w.heap.size w w4) := t2 B2.out hb4; clear hb4))
      all_goals
        go_wp2_with fail
        go_roundw
        case rel => exact ⟨j + 1, by omega, by go_num, B4.out⟩
        case measure => simp [intOf]; omega
    · have hlt' : ¬ (j : Int) < (l.length : Int) := by omega
      go_wp2_with fail
      go_ret
      exact ⟨rfl, B1.out⟩
end Go.Proofs.YtdghkkpncgljoaaGreatDoor

namespace Go.Proofs.YtdghkkpncgljoaaGreatDoor
open Go.RowKit

theorem five_ats (w : World) (t : Nf) (v : Value) (k : Nat) (u : Value) (hu : (nfC t v)[k]? = some u) : (w.alloc (.cells #[.int .i64 t.fr, .int .i64 t.li, .int .i64 t.ep, .bool t.cl, v] 68)).cell? (Addr.add ⟨w.heap.size, 0, none⟩ k) = some u := by
  rw [tadd, Nat.zero_add, nw]
  simpa [nfC] using hu
theorem nfR_step {l : List Nf} {us : List Value} {j : Nat} {t : Nf} {v : Value} (h1 : l[j]? = some t) (h2 : us[j]? = some v) : ((nfR l us).take (j + 1)).flatten = ((nfR l us).take j).flatten ++ nfC t v := by
  rw [List.take_add_one, nfR_get h1 h2]
  simp
/-- a row of notes of one's own can be read. -/
theorem own_nts {w : World} {B : Nat} {e : TypeId} {v : Value} {l : List Nf} {us : List Value} (h : w.ownsRow B e 5 v l.length (nfR l us).flatten) (h5 : ∀ r ∈ nfR l us, Five r) (hu : ∀ (j : Nat) t, l[j]? = some t → ∃ q c, us[j]? = some (.slice q t.cs.length c)) : ∃ p cap, v = .slice p l.length cap ∧ RdT w p l us := by
  rcases ownsRow_cases h with ⟨h1, h2⟩ | ⟨g, cap, h1, _⟩
  · refine ⟨none, 0, by rw [h1, h2], fun j t ht => ?_⟩
    rw [List.length_eq_zero_iff.1 h2] at ht
    simp at ht
  · subst h1
    refine ⟨some ⟨g, 0, none⟩, cap, rfl, fun j t ht => ?_⟩
    obtain ⟨q, c, hv⟩ := hu j t ht
    have key : ∀ k u, k < 5 → (nfC t (.slice q t.cs.length c))[k]? = some u → w.cell? ⟨g, j * 5 + k, none⟩ = some u := fun k u hk hx => by
      have := h.cells (g := g) rfl (j * 5 + k) u (by rw [flat_get h5 j k hk, nfR_get ht hv]; exact hx)
      rw [tadd, Nat.zero_add] at this
      exact this
    exact ⟨g, q, c, rfl, hv, key 0 _ (by omega) rfl, key 1 _ (by omega) rfl, key 2 _ (by omega) rfl, key 3 _ (by omega) rfl, key 4 _ (by omega) rfl⟩
theorem Tryz.infoRn : (Tryz.prog.info? 68).map (fun i => (i.zero, i.size, i.bytes)) = some (some (.agg #[.int .i64 0, .int .i64 0, .int .i64 0, .bool false, .slice none 0 0]), 5, 56) := by kernel_rfl
set_option maxRecDepth 100000 in
set_option maxHeartbeats 4000000 in
theorem bnotes_any (p : Option Addr) (cap : Nat) (l : List Nf) (us : List Value) (w : World) (A : RdT w p l us) (hus : us.length = l.length) (h5 : ∀ r ∈ nfR l us, Five r) (hn : l.length ≤ 200) :
    Calls Tryz.prog 11 #[.slice p l.length cap] w fun e w' => (∃ p' c', e = .returned (.slice p' l.length c') ∧ RdT w' p' l us) ∧ Below w.heap.size w w' := by
  have HA : Hid (RdT w p l us) := A
  have HU : Hid (us.length = l.length ∧ ∀ r ∈ nfR l us, Five r) := ⟨hus, h5⟩
  have n0 : (l.length : Int) ≤ 200 := by omega
  obtain ⟨q0, hi, hz0, hz1, hz2⟩ := info_parts Tryz.infoRn
  clear A hus h5
  go_enter Tryz.func11, Tryz.ntmps11
  go_wp2_with fail
  go_loopw [3, 4] (fun v t wr => ∃ j : Nat, j ≤ l.length ∧ t = .int .i64 j ∧ wr.ownsRow w.heap.size 68 5 v j ((nfR l us).take j).flatten ∧ Below w.heap.size w wr) (fun _ t _ => l.length - (intOf t).toNat)
  case atStart => exact ⟨0, by omega, rfl, World.ownsRow_nil _ _ _ _, Below.refl _ _⟩
  case round =>
    obtain ⟨j, hj, rfl, hown, hbr⟩ := hrel
    have HO : Hid (wr.ownsRow w.heap.size 68 5 u3 j ((nfR l us).take j).flatten) := hown
    have HB : Hid (Below w.heap.size w wr) := hbr
    clear hown hbr
    by_cases hlt : j < l.length
    · obtain ⟨t, ht⟩ : ∃ t, l[j]? = some t := ⟨_, List.getElem?_eq_getElem hlt⟩
      obtain ⟨g1, q, c, rfl, hv, a0, a1, a2, a3, a4⟩ := HA.out j t ht
      have i0 : (0 : Int) ≤ (j : Int) := by omega
      have i1 : (j : Int) < (l.length : Int) := by omega
      have HTK : Hid (((nfR l us).take (j + 1)).flatten = ((nfR l us).take j).flatten ++ nfC t (.slice q t.cs.length c)) := nfR_step ht hv
      obtain ⟨p3, c3, rfl⟩ : ∃ p3 c3, u3 = .slice p3 j c3 := by
        rcases ownsRow_cases HO.out with ⟨e, e0⟩ | ⟨g', c', e, _⟩
        · exact ⟨none, 0, by rw [e, e0]⟩
        · exact ⟨_, _, e⟩
      have HBD : Hid (Below wr.heap.size wr (wr.drew.alloc (.cells #[.int .i64 t.fr, .int .i64 t.li, .int .i64 t.ep, .bool t.cl, .slice q t.cs.length c] 68))) := t2 (Below.refl _ _).drew (aB _ _)
      have HOD : Hid ((wr.drew.alloc (.cells #[.int .i64 t.fr, .int .i64 t.li, .int .i64 t.ep, .bool t.cl, .slice q t.cs.length c] 68)).ownsRow w.heap.size 68 5 (.slice p3 j c3) j ((nfR l us).take j).flatten) := owns_chgL HO.out (ChgL.of (l := []) HBD.out) (by simp)
      have HSZ : Hid (w.heap.size ≤ (wr.drew.alloc (.cells #[.int .i64 t.fr, .int .i64 t.li, .int .i64 t.ep, .bool t.cl, .slice q t.cs.length c] 68)).heap.size) := Nat.le_trans HB.out.size HBD.out.size
      have N1 : Hid (∀ u ∈ nfC t (.slice q t.cs.length c), u.oneCell' = true) := fun u hu => by
        simp only [nfC, List.mem_cons, List.not_mem_nil, or_false] at hu
        rcases hu with rfl | rfl | rfl | rfl | rfl <;> rfl
      obtain ⟨v5, w5, hr, hO5, hg5, _, _⟩ := run_append_own_at (P := Tryz.prog) (wr.drew.alloc (.cells #[.int .i64 t.fr, .int .i64 t.li, .int .i64 t.ep, .bool t.cl, .slice q t.cs.length c] 68)) w.heap.size 37 37 68 q0 _ 5 56 Tryz.underlying37 hi hz0 hz1 hz2 rfl (by decide) (.slice p3 j c3) j ((nfR l us).take j).flatten HOD.out ⟨wr.heap.size, 0, none⟩ 1 1 (nfC t (.slice q t.cs.length c)) rfl (five_ats wr.drew t _) N1.out (by unfold maxLen; omega) (by omega) HSZ.out
      have O5 : Hid (w5.ownsRow w.heap.size 68 5 v5 (j + 1) ((nfR l us).take (j + 1)).flatten) := (by rw [← HTK.out] at hO5; exact hO5)
      have B5 : Hid (Below w.heap.size w w5) := (t2 HB.out HBD.out).grown hg5 HSZ.out (fun q hq => (HO.out.lt _ hq).1)
      have s0 : wr.drew.cell? ⟨g1, j * 5, none⟩ = some (.int .i64 t.fr) ∧ wr.drew.cell? ⟨g1, j * 5 + 1, none⟩ = some (.int .i64 t.li) ∧ wr.drew.cell? ⟨g1, j * 5 + 2, none⟩ = some (.int .i64 t.ep) ∧ wr.drew.cell? ⟨g1, j * 5 + 3, none⟩ = some (.bool t.cl) ∧ wr.drew.cell? ⟨g1, j * 5 + 4, none⟩ = some (.slice q t.cs.length c) := ⟨tk HB.out.drew a0, tk HB.out.drew a1, tk HB.out.drew a2, tk HB.out.drew a3, tk HB.out.drew a4⟩
      have hb1 := t2 HB.out HBD.out
      have s1 : (wr.drew.alloc (.cells #[.int .i64 t.fr, .int .i64 t.li, .int .i64 t.ep, .bool t.cl, .slice q t.cs.length c] 68)).cell? ⟨g1, j * 5, none⟩ = some (.int .i64 t.fr) ∧ (wr.drew.alloc (.cells #[.int .i64 t.fr, .int .i64 t.li, .int .i64 t.ep, .bool t.cl, .slice q t.cs.length c] 68)).cell? ⟨g1, j * 5 + 1, none⟩ = some (.int .i64 t.li) ∧ (wr.drew.alloc (.cells #[.int .i64 t.fr, .int .i64 t.li, .int .i64 t.ep, .bool t.cl, .slice q t.cs.length c] 68)).cell? ⟨g1, j * 5 + 2, none⟩ = some (.int .i64 t.ep) ∧ (wr.drew.alloc (.cells #[.int .i64 t.fr, .int .i64 t.li, .int .i64 t.ep, .bool t.cl, .slice q t.cs.length c] 68)).cell? ⟨g1, j * 5 + 3, none⟩ = some (.bool t.cl) ∧ (wr.drew.alloc (.cells #[.int .i64 t.fr, .int .i64 t.li, .int .i64 t.ep, .bool t.cl, .slice q t.cs.length c] 68)).cell? ⟨g1, j * 5 + 4, none⟩ = some (.slice q t.cs.length c) := ⟨tk hb1 a0, tk hb1 a1, tk hb1 a2, tk hb1 a3, tk hb1 a4⟩
      have s2 : w5.cell? ⟨g1, j * 5, none⟩ = some (.int .i64 t.fr) ∧ w5.cell? ⟨g1, j * 5 + 1, none⟩ = some (.int .i64 t.li) ∧ w5.cell? ⟨g1, j * 5 + 2, none⟩ = some (.int .i64 t.ep) ∧ w5.cell? ⟨g1, j * 5 + 3, none⟩ = some (.bool t.cl) ∧ w5.cell? ⟨g1, j * 5 + 4, none⟩ = some (.slice q t.cs.length c) := ⟨tk B5.out a0, tk B5.out a1, tk B5.out a2, tk B5.out a3, tk B5.out a4⟩
      clear ht hv HA hO5 hg5 a0 a1 a2 a3 a4 hb1
      go_wp2_with fail
      go_region_held3 (fun w' => w'.cell? ⟨g1, j * 5, none⟩ = some (.int .i64 t.fr) ∧ w'.cell? ⟨g1, j * 5 + 1, none⟩ = some (.int .i64 t.li) ∧ w'.cell? ⟨g1, j * 5 + 2, none⟩ = some (.int .i64 t.ep) ∧ w'.cell? ⟨g1, j * 5 + 3, none⟩ = some (.bool t.cl) ∧ w'.cell? ⟨g1, j * 5 + 4, none⟩ = some (.slice q t.cs.length c)) (first | exact s0 | exact s1 | exact s2) (first | (refine Eq.mpr (if_pos (by kernel_rfl)) ?_; refine wp_append_eq (Operand.tmp 11) (Operand.tmp 38) 37 rfl _ _ _ w5 rfl rfl hr ?_))
      all_goals
        go_wp2_with fail
        go_roundw
        case rel => exact ⟨j + 1, by omega, by go_num, O5.out, B5.out⟩
        case measure => simp [intOf]; omega
    · obtain rfl : j = l.length := by omega
      have HF : Hid (∃ p' c', u3 = .slice p' l.length c' ∧ RdT wr p' l us) := by
        refine own_nts (B := w.heap.size) (e := 68) ?_ HU.out.2 (fun j t ht => ?_)
        · have := HO.out
          rw [List.take_of_length_le (by rw [nfR_len HU.out.1]; exact Nat.le_refl _)] at this
          exact this
        · obtain ⟨_, q, c, _, hv, _⟩ := HA.out j t ht
          exact ⟨q, c, hv⟩
      obtain ⟨p', c', rfl, hrd⟩ := HF.out
      go_wp2_with fail
      go_ret
      exact ⟨⟨_, _, rfl, hrd⟩, HB.out⟩
end Go.Proofs.YtdghkkpncgljoaaGreatDoor
