/-
  Texts in one: NaA NaC NaN Fa2 Cod2.
-/
import Derived.Test.YtifjoboaolpejaaGreatDoorRnH
import Derived.Test.YtifjoboaolpejaaGreatDoorLf
import Derived.Test.YtifjoboaolpejaaGreatDoorKi
import Derived.Test.YtifjoboaolpejaaGreatDoorNoV
import Derived.Test.YtifjoboaolpejaaGreatDoorKj
import Derived.Test.YtifjoboaolpejaaGreatDoorKc
import Derived.Test.YtifjoboaolpejaaGreatDoorLd
import Derived.Test.YtifjoboaolpejaaGreatDoorLh
import Derived.Test.YtifjoboaolpejaaGreatDoorKd
import Derived.Test.YtifjoboaolpejaaGreatDoorKh
import Derived.Deep.RegionHeld3
import Derived.Test.YtifjoboaolpejaaGreatDoorLi
import Derived.Test.YtifjoboaolpejaaGreatDoorKv
import Derived.Test.YtifjoboaolpejaaGreatDoorKa
namespace Go.Proofs.YtifjoboaolpejaaGreatDoor
open Go.RowKit

/-- the program's node at x behind j steps, the document's at z behind i. -/
structure NB (w0 w : World) (k : Bk) (r : RBk) (x : No) (j : Nat) (z : No) (i : Nat) : Prop where
  p : ∃ n, n ≤ 8 * j ∧ Nd w0 w k x (33 * j) n
  d : ∃ q lo, -20 * ((i : Int) + 1) ≤ lo ∧ lo ≤ 0 ∧ RNd w0 w r z q lo i (33 * i)
  nx : 0 ≤ x.now ∧ x.now ≤ j
  nz : 0 ≤ z.now ∧ z.now ≤ i
  ru : RulesOk x.ru
  dj : ∀ b ∈ r.all, ¬ b ∈ k.all
  rp : x.ru ≠ [] → ∀ a, k.rp = some a → ¬ a.block ∈ r.all
theorem Nd.mr {w0 w : World} {k : Bk} {x : No} {m m' n : Nat} (h : Nd w0 w k x m n) (hm : m ≤ m') : Nd w0 w k x m' n := { h with vs := h.vs.more hm }
theorem RNd.mi' {w0 w : World} {r : RBk} {x : No} {q : Ro} {lo i i' : Int} {m : Nat} (h : RNd w0 w r x q lo i m) (hi : i ≤ i') : RNd w0 w r x q lo i' m := { h with sm := h.sm.mono hi }
theorem RNd.lo' {w0 w : World} {r : RBk} {x : No} {q : Ro} {lo lo' i : Int} {m : Nat} (h : RNd w0 w r x q lo i m) (hl : lo' ≤ lo) : RNd w0 w r x q lo' i m := { h with yb := by obtain ⟨lv, a, b, c, d⟩ := h.yb; exact ⟨lv, a, b, by omega, d⟩ }
section
variable {w0 w w' : World} {k : Bk} {r : RBk} {x x' z z' : No} {j j' i i' : Nat}
theorem NB.bl (h : NB w0 w k r x j z i) : Below w0.heap.size w0 w := by obtain ⟨n, _, a⟩ := h.p; exact a.bl
theorem NB.kg (h : NB w0 w k r x j z i) : ∀ b ∈ k.all, w0.heap.size ≤ b := by obtain ⟨n, _, a⟩ := h.p; exact a.g0
theorem NB.rg (h : NB w0 w k r x j z i) : ∀ b ∈ r.all, w0.heap.size ≤ b := by obtain ⟨q, lo, _, _, a⟩ := h.d; exact a.g0
theorem NB.kl (h : NB w0 w k r x j z i) : ∀ b ∈ k.all, b < w.heap.size := by obtain ⟨n, _, a⟩ := h.p; exact a.lt
theorem NB.rl (h : NB w0 w k r x j z i) : ∀ b ∈ r.all, b < w.heap.size := by obtain ⟨q, lo, _, _, a⟩ := h.d; exact a.blk
theorem NB.below (h : NB w0 w k r x j z i) (hb : Below w.heap.size w w') : NB w0 w' k r x j z i := by
  obtain ⟨n, hn, a⟩ := h.p
  obtain ⟨q, lo, h1, h2, d⟩ := h.d
  exact { h with p := ⟨n, hn, a.below hb⟩, d := ⟨q, lo, h1, h2, d.below hb⟩ }
/-- a call of the program's. -/
theorem NB.prog (h : NB w0 w k r x j z i) (c : ChgL k.all w w') (p : ∃ n, n ≤ 8 * j' ∧ Nd w0 w' k x' (33 * j') n) (hn : 0 ≤ x'.now ∧ x'.now ≤ j') (hr : x'.ru = x.ru) : NB w0 w' k r x' j' z i := by
  obtain ⟨q, lo, h1, h2, d⟩ := h.d
  exact ⟨p, ⟨q, lo, h1, h2, d.kept c h.dj h.kg⟩, hn, h.nz, by rw [hr]; exact h.ru, h.dj, by rw [hr]; exact h.rp⟩
/-- a call of the document's. -/
theorem NB.doc (h : NB w0 w k r x j z i) (c : ChgL r.all w w') (d : ∃ q lo, -20 * ((i' : Int) + 1) ≤ lo ∧ lo ≤ 0 ∧ RNd w0 w' r z' q lo i' (33 * i')) (hn : 0 ≤ z'.now ∧ z'.now ≤ i') : NB w0 w' k r x j z' i' := by
  obtain ⟨n, hm, p⟩ := h.p
  exact ⟨⟨n, hm, p.kept c (fun b hb hm => h.dj b hm hb) h.rp h.rg⟩, d, h.nx, hn, h.ru, h.dj, h.rp⟩
theorem stp_now (x : No) (j : Nat) (fl : Int) (ou : Bool) : (x.stp j fl ou).now = x.now := by unfold No.stp; split <;> rfl
theorem ou_now (x : No) (p : Pk) : (x.ou p).now = x.now := by
  unfold No.ou
  split
  · exact stp_now _ _ _ _
  · unfold No.bg; repeat' split
    all_goals rfl
theorem ins_now (x : No) (p : Pk) : (x.ins p).now = x.now := by unfold No.ins; split; exact ou_now _ _; rfl
theorem ins_ru (x : No) (p : Pk) : (x.ins p).ru = x.ru := by unfold No.ins; split; exact ou_ru _ _; rfl
theorem ots_now (x : No) (p : Pk) : (x.ots p).now = x.now := by unfold No.ots; split; exact stp_now _ _ _ _; rfl
theorem ots_ru (x : No) (p : Pk) : (x.ots p).ru = x.ru := by unfold No.ots; split; exact stp_ru _ _ _ _; rfl
theorem hrd_now (x : No) (t : Nf) : (x.hrd t).now = x.now := by unfold No.hrd; split <;> rfl
theorem hrd_ru (x : No) (t : Nf) : (x.hrd t).ru = x.ru := by unfold No.hrd; split <;> rfl
theorem tick_now' (x : No) : x.tick.now = x.now + 1 := by
  have e := tk1_now x
  unfold No.tick No.noted
  repeat' split
  all_goals exact e
theorem tk1_ru' (x : No) : x.tk1.ru = x.ru := by
  unfold No.tk1
  split
  · unfold No.clm
    repeat' split
    all_goals rfl
  · rfl
theorem tick_ru' (x : No) : x.tick.ru = x.ru := by
  have e := tk1_ru' x
  unfold No.tick No.noted
  repeat' split
  all_goals exact e
theorem inside_p {s : Nat → Addr} (S : SeM w0 s) (h : NB w0 w k r x j z i) (hj : j ≤ 100000) (p : Pk) (hpp : In6 p.pr) :
    Calls Tryz.prog 40 #[.pointer (some ⟨k.nd, 0, none⟩), p.v] w fun e w' => e = .returned (.tuple #[(x.inP p).v, terr s (x.inE p)]) ∧ NB w0 w' k r (x.ins p) (j + 1) z i ∧ ChgL k.all w w' := by
  obtain ⟨n, hn, a⟩ := h.p
  have b := h.nx
  refine (inside_nd S a (by omega) b.1 (by omega) h.ru p hpp).mono ?_
  rintro e w' ⟨rfl, t, c⟩
  exact ⟨rfl, h.prog c ⟨n, by omega, t.mr (by omega)⟩ (by rw [ins_now]; omega) (ins_ru _ _), c⟩
theorem inside_d (h : NB w0 w k r x j z i) (hi : i ≤ 100000) (p : Pk) :
    Calls Tryz.prog 41 #[.pointer (some ⟨r.nd, 0, none⟩), p.v] w fun e w' => e = .returned (.tuple #[(z.inP p).v, .int .i64 (z.inE p : Nat)]) ∧ NB w0 w' k r x j (z.ins p) (i + 1) ∧ ChgL r.all w w' := by
  obtain ⟨q, lo, h1, h2, d⟩ := h.d
  have b := h.nz
  refine (rinside_rn d (by omega) b.1 (by omega) p).mono ?_
  rintro e w' ⟨rfl, t, c⟩
  exact ⟨rfl, h.doc c ⟨q, lo, by omega, h2, (t.more (by omega)).mi' (by omega)⟩ (by rw [ins_now]; omega), c⟩
theorem outside_p {s : Nat → Addr} (S : SeM w0 s) (h : NB w0 w k r x j z i) (hj : j ≤ 100000) (p : Pk) :
    Calls Tryz.prog 42 #[.pointer (some ⟨k.nd, 0, none⟩), p.v] w fun e w' => e = .returned (.tuple #[(x.otP p).v, terr s (x.otE p)]) ∧ NB w0 w' k r (x.ots p) (j + 1) z i ∧ ChgL k.all w w' := by
  obtain ⟨n, hn, a⟩ := h.p
  have b := h.nx
  refine (outside_nd S a (by omega) b.1 (by omega) p).mono ?_
  rintro e w' ⟨rfl, t, c⟩
  exact ⟨rfl, h.prog c ⟨n, by omega, t.mr (by omega)⟩ (by rw [ots_now]; omega) (ots_ru _ _), c⟩
theorem outside_d (h : NB w0 w k r x j z i) (hi : i ≤ 100000) (p : Pk) :
    Calls Tryz.prog 43 #[.pointer (some ⟨r.nd, 0, none⟩), p.v] w fun e w' => e = .returned (.tuple #[(z.otP p).v, .int .i64 (z.otE p : Nat)]) ∧ NB w0 w' k r x j (z.ots p) (i + 1) ∧ ChgL r.all w w' := by
  obtain ⟨q, lo, h1, h2, d⟩ := h.d
  have b := h.nz
  refine (routside_rn d (by omega) b.1 (by omega) p).mono ?_
  rintro e w' ⟨rfl, t, c⟩
  exact ⟨rfl, h.doc c ⟨q, lo, by omega, h2, (t.more (by omega)).mi' (by omega)⟩ (by rw [ots_now]; omega), c⟩
theorem tick_p {s : Nat → Addr} (S : SeM w0 s) (h : NB w0 w k r x j z i) (hj : j ≤ 100000) :
    Calls Tryz.prog 19 #[.pointer (some ⟨k.nd, 0, none⟩)] w fun e w' => (∃ v, e = .returned (.tuple #[v, terr s x.tkE]) ∧ NtsV w' w.heap.size x.tk1 x.tickL v) ∧ NB w0 w' k r x.tick (j + 1) z i ∧ ChgL k.all w w' := by
  obtain ⟨n, hn, a⟩ := h.p
  have b := h.nx
  refine (tick_nd S.n a b.1 (by omega) (by omega) (by omega)).mono ?_
  rintro e w' ⟨hv, ⟨n', hn', t⟩, c⟩
  exact ⟨hv, h.prog c ⟨n', by omega, t.mr (by omega)⟩ (by rw [tick_now']; omega) (tick_ru' _), c⟩
theorem tick_d (h : NB w0 w k r x j z i) (hi : i ≤ 100000) :
    Calls Tryz.prog 50 #[.pointer (some ⟨r.nd, 0, none⟩)] w fun e w' => (∃ v, e = .returned (.tuple #[v, .int .i64 (z.tkE : Nat)]) ∧ NtsR w' z v) ∧ NB w0 w' k r x j z.tick (i + 1) ∧ ChgL r.all w w' := by
  obtain ⟨q, lo, h1, h2, d⟩ := h.d
  have b := h.nz
  refine (rtick_rn d b.1 (by omega) (by omega) (by omega) (by omega)).mono ?_
  rintro e w' ⟨hv, ⟨q', lo', hl', t⟩, c⟩
  exact ⟨hv, h.doc c ⟨q', min lo' 0, by omega, by omega, ((t.more (by omega)).mi' (by omega)).lo' (by omega)⟩ (by rw [tick_now']; omega), c⟩
theorem hear_p {s : Nat → Addr} (S : SeM w0 s) (h : NB w0 w k r x j z i) (t : Nf) (p : Option Addr) (cap : Nat) (R : TcR w p t.cs) (hp : ∀ g o, p = some ⟨g, o, none⟩ → ¬ g ∈ k.all) (hl : t.cs.length ≤ 100000) (ho : OkT t.cs) :
    Calls Tryz.prog 44 #[.pointer (some ⟨k.nd, 0, none⟩), .agg #[.int .i64 t.fr, .int .i64 t.li, .int .i64 t.ep, .bool t.cl, .slice p t.cs.length cap]] w fun e w' => e = .returned (terr s (x.heE t)) ∧ NB w0 w' k r (x.hrd t) j z i ∧ ChgL k.all w w' := by
  obtain ⟨n, hn, a⟩ := h.p
  have b := h.nx
  refine (hear_nd S a t p cap R (fun g o e he => hp g o e (he ▸ k.m_mi)) hl ho).mono ?_
  rintro e w' ⟨rfl, u, c⟩
  exact ⟨rfl, h.prog c ⟨n, hn, u⟩ (by rw [hrd_now]; omega) (hrd_ru _ _), c⟩
/-- it has heard: its mirror's cells may lie elsewhere. -/
def HrB (w0 w : World) (k : Bk) (r : RBk) (x : No) (j : Nat) (z : No) (i : Nat) : Prop := ∃ g' cap', NB w0 w k { r with mg := g', mc := cap' } x j z i
theorem hear_d (h : NB w0 w k r x j z i) (t : Nf) (p : Option Addr) (cap : Nat) (R : TcR w p t.cs) (hp : t.cs ≠ [] → ∀ b o, p = some ⟨b, o, none⟩ → ¬ b ∈ r.all) (hl : t.cs.length ≤ 100000) :
    Calls Tryz.prog 46 #[.pointer (some ⟨r.nd, 0, none⟩), .agg #[.int .i64 t.fr, .int .i64 t.li, .int .i64 t.ep, .bool t.cl, .slice p t.cs.length cap]] w fun e w' => e = .returned (.int .i64 (z.heE t : Nat)) ∧ HrB w0 w' k r x j (z.hrd t) i ∧ ChgL r.all w w' := by
  obtain ⟨q, lo, h1, h2, d⟩ := h.d
  obtain ⟨n, hn, a⟩ := h.p
  have b := h.nz
  refine (rhear_rn d t p cap R (fun hne b o e => ⟨fun he => hp hne b o e (he ▸ r.m_mi), fun he => hp hne b o e (he ▸ r.m_mg)⟩) hl).mono ?_
  rintro e w' ⟨rfl, ⟨g', cap', q', hg, u⟩, c⟩
  refine ⟨rfl, ⟨g', cap', ⟨⟨n, hn, a.kept c (fun b hb hm => h.dj b hm hb) h.rp h.rg⟩, ⟨q', lo, h1, h2, u⟩, h.nx, by rw [hrd_now]; exact b, h.ru, fun b hb hm => ?_, fun hne a' e hm => ?_⟩⟩, c⟩
  · have hb' : b ∈ r.all ∨ b = g' := by
      rw [RBk.all_pre] at hb ⊢
      rcases List.mem_append.1 hb with q | q
      · exact Or.inl (List.mem_append_left _ q)
      · exact Or.inr (by simpa using q)
    rcases hb' with q | q
    · exact h.dj b q hm
    · subst q
      rcases hg with e | e
      · exact h.dj _ (e ▸ r.m_mg) hm
      · have := h.kl b hm; omega
  · have hb' : a'.block ∈ r.all ∨ a'.block = g' := by
      rw [RBk.all_pre] at hm ⊢
      rcases List.mem_append.1 hm with q | q
      · exact Or.inl (List.mem_append_left _ q)
      · exact Or.inr (by simpa using q)
    rcases hb' with q | q
    · exact h.rp hne a' e q
    · rcases hg with e2 | e2
      · exact h.rp hne a' e (by rw [q, e2]; exact r.m_mg)
      · have := a.rlt2 hne a' e; omega
theorem Nd.onYy {m n : Nat} (h : Nd w0 w k x m n) {y' : By} (t : Byt w' k.yb y') (hl : y'.left ≤ 9223372036854775807) (c : Chg k.yb w w') : Nd w0 w' k { x with y := y' } m n :=
  h.onCe t (h.ce.kept (c.block _ h.ce.lt (by have := h.ds.d1; have := h.ds.d2; have := h.ds.d3; have := h.ds.d4; omega))) hl ((Chg2.refl k.yb k.ce w).on c (Or.inl rfl))
theorem cut_left {y : By} {n : Int} (h : y.left ≤ 9223372036854775807) (hn : n ≤ 9223372036854775807) : (y.setCut n).left ≤ 9223372036854775807 := by
  unfold By.setCut
  split
  · show n.toNat ≤ _; omega
  · exact h
theorem cut_p {s : Nat → Addr} (S : SeM w0 s) (h : NB w0 w k r x j z i) (n : Int) (hn : n ≤ 1000) :
    Calls Tryz.prog 48 #[.pointer (some ⟨k.yb, 0, none⟩), .int .i64 n] w fun e w' => e = .returned (terr s (cutE x.y n)) ∧ NB w0 w' k r { x with y := x.y.setCut n } j z i ∧ ChgL k.all w w' := by
  obtain ⟨m, hm, a⟩ := h.p
  refine (cut_any k.yb x.y n s w a.yb (S.below a.bl).n.s5).mono ?_
  rintro e w' ⟨rfl, t, c⟩
  exact ⟨rfl, h.prog (ChgL.one c k.m_yb) ⟨m, hm, a.onYy t (cut_left a.lf (by omega)) c⟩ h.nx rfl, ChgL.one c k.m_yb⟩
theorem setCut_B2 (s : By) (n : Int) : (s.setCut n).B = s.B := by
  unfold By.setCut
  split <;> rfl
theorem cut_d (h : NB w0 w k r x j z i) (n : Int) (hn : n ≤ 1000) :
    Calls Tryz.prog 49 #[.pointer (some ⟨r.yb, 0, none⟩), .int .i64 n] w fun e w' => e = .returned (.int .i64 (cutE z.y n : Nat)) ∧ NB w0 w' k r x j { z with y := z.y.setCut n } i ∧ ChgL r.all w w' := by
  obtain ⟨q, lo, h1, h2, d⟩ := h.d
  obtain ⟨lv, r1, r2, r3, r4⟩ := d.yb
  refine (rcut_any r.yb z.y lv n w r1).mono ?_
  rintro e w' ⟨rfl, a, c⟩
  have hB : (z.y.setCut n).B = z.y.B := setCut_B2 _ _
  have t : RS w w' r.yb r.ce (z.y.setCut n) (newest (z.y.setCut n).B) z.off lo := by
    refine ⟨⟨_, a, ?_, ?_, ?_⟩, by rw [hB]; exact d.ce.chg c (RBk.df d.ds 1 2 rfl rfl (by omega)), RBk.df d.ds 1 2 rfl rfl (by omega), by rw [hB]; exact d.len, (Chg2.refl r.yb r.ce w).on c (Or.inl rfl)⟩
    · unfold By.setCut cutL cutE
      by_cases hk0 : n < 0
      · simp only [hk0, if_true]; exact r2
      · cases hon : z.y.on <;> simp [hk0]
        · exact r2
        · omega
    · unfold cutL
      split
      · rename_i hc
        unfold cutE at hc
        split at hc
        · cases hc
        · omega
      · exact r3
    · unfold cutL
      split
      · omega
      · exact r4
  exact ⟨rfl, h.doc (ChgL.one c r.m_yb) ⟨q, lo, h1, h2, d.onCe t (by rw [hB])⟩ h.nz, ChgL.one c r.m_yb⟩
end
end Go.Proofs.YtifjoboaolpejaaGreatDoor

namespace Go.Proofs.YtifjoboaolpejaaGreatDoor
open Go.RowKit

theorem eqlP (p : Pk) (w : World) : (binOp .eql 50 p.v p.v).run Tryz.prog w = .ok (.bool true) w := by
  show (binOp .eql 50 (.agg #[.int .i64 p.pr, .int .i64 p.a1, .int .i64 p.p1, .int .i64 p.a2, .int .i64 p.p2, .int .i64 p.fl]) (.agg #[.int .i64 p.pr, .int .i64 p.a1, .int .i64 p.p1, .int .i64 p.a2, .int .i64 p.p2, .int .i64 p.fl])).run Tryz.prog w = .ok (.bool true) w
  rw [run_eql_struct, show (10000 : Nat) = 9997 + 1 + 1 + 1 from rfl, run_equalIn_agg w (9997 + 1 + 1) 50 _ _ (by kernel_rfl) (by kernel_rfl)]
  have p0 : ∀ w : World, (part 3 #[.int .i64 p.pr, .int .i64 p.a1, .int .i64 p.p1, .int .i64 p.a2, .int .i64 p.p2, .int .i64 p.fl] 0).run Tryz.prog w = .ok (.int .i64 p.pr) w := fun w => partI _ _ _ rfl
  have p5 : ∀ w : World, (part 3 #[.int .i64 p.pr, .int .i64 p.a1, .int .i64 p.p1, .int .i64 p.a2, .int .i64 p.p2, .int .i64 p.fl] 5).run Tryz.prog w = .ok (.int .i64 p.fl) w := fun w => partI _ _ _ rfl
  have p1 : ∀ w : World, (part 48 #[.int .i64 p.pr, .int .i64 p.a1, .int .i64 p.p1, .int .i64 p.a2, .int .i64 p.p2, .int .i64 p.fl] 1).run Tryz.prog w = .ok (.agg #[.int .i64 p.a1, .int .i64 p.p1]) w := fun w => partE _ _ _ rfl
  have p3 : ∀ w : World, (part 48 #[.int .i64 p.pr, .int .i64 p.a1, .int .i64 p.p1, .int .i64 p.a2, .int .i64 p.p2, .int .i64 p.fl] 3).run Tryz.prog w = .ok (.agg #[.int .i64 p.a2, .int .i64 p.p2]) w := fun w => partE _ _ _ rfl
  have n1 : ("Proto" : String) ≠ "_" := by decide
  have n2 : ("Src" : String) ≠ "_" := by decide
  have n3 : ("Dst" : String) ≠ "_" := by decide
  have n4 : ("Flags" : String) ≠ "_" := by decide
  simp only [Program.fieldsOf, Tryz.underlying50, Op.eqFields, Sem.run_bind, Sem.run_ite, ne_eq, n1, n2, n3, n4, not_false_eq_true, if_true, p0, p1, p3, p5, Result.andThen_ok, eqI, eqE, Bool.not_true, Bool.false_eq_true, if_false, Sem.run_pure]
theorem wp_store_eq {P : Program} {o : Oper} {a : Act} {w : World} {K : Act → World → Prop} {Q : Exit → Act → World → Prop} (ty : TypeId) (x y : Operand) (ho : o.op = .store ty x y)
    (u v : Value) (w' : World) (hx : a.eval x = u) (hy : a.eval y = v) (hl : (Instr.storeAt ty u v).run P w = .ok () w') (h : K (a.put o.dst undef) w') : o.wp P a w K Q := by
  unfold Oper.wp execOp
  simp only [ho, hx, hy, Sem.run_bind, hl, Result.andThen_ok, Sem.run_pure]
  exact h
/-- a note's own block. -/
def NtZ (w : World) (Q : Nat) (t : Nf) (cv : Value) : Prop := w.heap[Q]? = some (.cells #[.int .i64 t.fr, .int .i64 t.li, .int .i64 t.ep, .bool t.cl, cv] 113 (0, 0))
theorem NtZ.b {w : World} {Q : Nat} {t : Nf} {cv : Value} (h : NtZ w Q t cv) : NfB w Q t cv := ⟨cell_of_row w _ _ _ _ _ h, cell_of_row w _ _ _ _ _ h, cell_of_row w _ _ _ _ _ h, cell_of_row w _ _ _ _ _ h, cell_of_row w _ _ _ _ _ h⟩
theorem ntz_store {w : World} {Q : Nat} {t0 : Nf} {v0 : Value} (h : NtZ w Q t0 v0) (t : Nf) (q : Option Addr) (a c : Nat) :
    ∃ w', (Instr.storeAt 113 (.pointer (some ⟨Q, 0, none⟩)) (.agg #[.int .i64 t.fr, .int .i64 t.li, .int .i64 t.ep, .bool t.cl, .slice q a c])).run Tryz.prog w = .ok () w' ∧ NtZ w' Q t (.slice q a c) ∧ Chg Q w w' := by
  have hs : (sizeOf 113).run Tryz.prog w = .ok 5 w := by kernel_rfl
  have hst := run_storeCells_at Tryz.prog Q 0 113 [.int .i64 t.fr, .int .i64 t.li, .int .i64 t.ep, .bool t.cl, .slice q a c] 0 _ w h (by simp) (fun u hu => by
    simp only [List.mem_cons, List.not_mem_nil, or_false] at hu
    rcases hu with rfl | rfl | rfl | rfl | rfl <;> rfl)
  refine ⟨w.setRow Q #[.int .i64 t.fr, .int .i64 t.li, .int .i64 t.ep, .bool t.cl, .slice q a c], ?_, setRow_heap w Q _ _ _ _ h, chg_row _ _ _⟩
  simp only [Instr.storeAt, Instr.sureAddr, Sem.run_bind, Sem.run_pure, Result.andThen_ok, storeVar, hs, Value.cells]
  simp at hst ⊢
  exact hst
theorem TcR.chgN {w w' : World} {p : Option Addr} {l : List Tc} {b : Nat} (h : TcR w p l) (hb : Chg b w w') (hp : ∀ g o, p = some ⟨g, o, none⟩ → g ≠ b) : TcR w' p l := fun i x hx => by
  obtain ⟨g, o, e, hc⟩ := h i x hx
  have hg := hp g o e
  exact ⟨g, o, e, ⟨hb.keeps hg hc.c0, hb.keeps hg hc.c1, hb.keeps hg hc.c2, hb.keeps hg hc.c3, hb.keeps hg hc.c4, hb.keeps hg hc.c5, hb.keeps hg hc.c6, hb.keeps hg hc.c7, hb.keeps hg hc.c8, hb.keeps hg hc.c9⟩⟩
theorem TcN.mono {w w' : World} {N M b : Nat} {v : Value} {l : List Tc} (h : TcN w N v l) (c : Chg b w w') (hM : M ≤ N) (hb : b < N) : TcN w' M v l := by
  obtain ⟨p, cap, e, R, f⟩ := h
  exact ⟨p, cap, e, R.chgN c (fun g o e2 => by have := f g o e2; omega), fun g o e2 => by have := f g o e2; omega⟩
set_option maxRecDepth 100000 in
set_option maxHeartbeats 4000000 in
theorem noteof_any (t : Nf) (v : Value) (w : World) (R : TcS w v t.cs) (hl : t.cs.length ≤ 1000) :
    Calls Tryz.prog 45 #[.agg #[.int .i64 t.fr, .int .i64 t.li, .int .i64 t.ep, .bool t.cl, v]] w fun e w' => (∃ v', e = .returned (.agg #[.int .i64 t.fr, .int .i64 t.li, .int .i64 t.ep, .bool t.cl, v']) ∧ TcN w' w.heap.size v' t.cs) ∧ Below w.heap.size w w' := by
  have HR : Hid (TcS w v t.cs) := R
  have HL : Hid (t.cs.length ≤ 1000) := hl
  have hv1 : v.oneCell' = true := by rcases R with ⟨rfl, _⟩ | ⟨a, c, rfl, _⟩ <;> rfl
  obtain ⟨vp, vc, hve, _⟩ := R.open
  clear R hl
  subst hve
  go_enter Tryz.func45, Tryz.ntmps45
  go_wp2_with fail
  have B1 : Hid (Below w.heap.size w ((w.alloc (.cells #[.int .i64 t.fr, .int .i64 t.li, .int .i64 t.ep, .bool t.cl, .slice vp t.cs.length vc] 53)).alloc (.cells #[.int .i64 0, .int .i64 0, .int .i64 0, .bool false, .slice none 0 0] 113))) := t2 (aB _ _) (aB _ _)
  have hp : ∀ j u, (#[.int .i64 t.fr, .int .i64 t.li, .int .i64 t.ep, .bool t.cl, .slice vp t.cs.length vc] : Array Value)[j]? = some u → ((w.alloc (.cells #[.int .i64 t.fr, .int .i64 t.li, .int .i64 t.ep, .bool t.cl, .slice vp t.cs.length vc] 53)).alloc (.cells #[.int .i64 0, .int .i64 0, .int .i64 0, .bool false, .slice none 0 0] 113)).cell? ⟨w.heap.size, j, none⟩ = some u := fun j u hu => tk (aB _ _) ((nw _ _ _ _).trans hu)
  have hz := heap_alloc_new (w.alloc (.cells #[.int .i64 t.fr, .int .i64 t.li, .int .i64 t.ep, .bool t.cl, .slice vp t.cs.length vc] 53)) (.cells #[.int .i64 0, .int .i64 0, .int .i64 0, .bool false, .slice none 0 0] 113)
  have hsz : ((w.alloc (.cells #[.int .i64 t.fr, .int .i64 t.li, .int .i64 t.ep, .bool t.cl, .slice vp t.cs.length vc] 53)).alloc (.cells #[.int .i64 0, .int .i64 0, .int .i64 0, .bool false, .slice none 0 0] 113)).heap.size = w.heap.size + 2 := by simp only [World.size_alloc]
  simp only [World.size_alloc] at hz
  have p0 := hp 0 _ rfl
  have p1 := hp 1 _ rfl
  have p2 := hp 2 _ rfl
  have p3 := hp 3 _ rfl
  have p4 := hp 4 _ rfl
  clear hp
  have HZ : Hid (((w.alloc (.cells #[.int .i64 t.fr, .int .i64 t.li, .int .i64 t.ep, .bool t.cl, .slice vp t.cs.length vc] 53)).alloc (.cells #[.int .i64 0, .int .i64 0, .int .i64 0, .bool false, .slice none 0 0] 113)).heap[w.heap.size + 1]? = some (.cells #[.int .i64 0, .int .i64 0, .int .i64 0, .bool false, .slice none 0 0] 113 (0, 0))) := hz
  have HSZ : Hid (w.heap.size + 2 ≤ ((w.alloc (.cells #[.int .i64 t.fr, .int .i64 t.li, .int .i64 t.ep, .bool t.cl, .slice vp t.cs.length vc] 53)).alloc (.cells #[.int .i64 0, .int .i64 0, .int .i64 0, .bool false, .slice none 0 0] 113)).heap.size) := Nat.le_of_eq hsz.symm
  clear hz hsz
  generalize (w.alloc (.cells #[.int .i64 t.fr, .int .i64 t.li, .int .i64 t.ep, .bool t.cl, .slice vp t.cs.length vc] 53)).alloc (.cells #[.int .i64 0, .int .i64 0, .int .i64 0, .bool false, .slice none 0 0] 113) = w2 at *
  have R2 : Hid (TcS w2.drew (.slice vp t.cs.length vc) t.cs) := HR.out.below (t2 B1.out (Below.refl _ _).drew)
  obtain ⟨Q, hQ⟩ : ∃ Q, w.heap.size = Q := ⟨_, rfl⟩
  have HQ : Hid (w.heap.size = Q) := hQ
  simp only [hQ] at p0 p1 p2 p3 p4 HZ HSZ ⊢
  clear hQ
  have hS : w2.drew.cell? ⟨Q, 0, none⟩ = some (.int .i64 t.fr) ∧ w2.drew.cell? ⟨Q, 1, none⟩ = some (.int .i64 t.li) ∧ w2.drew.cell? ⟨Q, 2, none⟩ = some (.int .i64 t.ep) ∧ w2.drew.cell? ⟨Q, 3, none⟩ = some (.bool t.cl) ∧ w2.drew.cell? ⟨Q, 4, none⟩ = some (.slice vp t.cs.length vc) := ⟨p0, p1, p2, p3, p4⟩
  refine wp_region_held_drew (S := (fun w' : World => w'.cell? ⟨Q, 0, none⟩ = some (.int .i64 t.fr) ∧ w'.cell? ⟨Q, 1, none⟩ = some (.int .i64 t.li) ∧ w'.cell? ⟨Q, 2, none⟩ = some (.int .i64 t.ep) ∧ w'.cell? ⟨Q, 3, none⟩ = some (.bool t.cl) ∧ w'.cell? ⟨Q, 4, none⟩ = some (.slice vp t.cs.length vc))) (by kernel_rfl) hS (fun _ => ?_)
  refine wpAnyH_take (i := 0) (v := ?_) rfl (by kernel_rfl) (by kernel_rfl) (by kernel_rfl) (fun _ _ _ h => h) (Or.inl ⟨by rfl, ?_⟩) (by assumption) ?_
  rotate_left
  · intro w9 hSw; (try dsimp only at hSw); go_simp; try (with_reducible rfl)
  simp only [Act.put, List.getElem_toArray, List.getElem_cons_zero, List.setIfInBounds_toArray, List.set_cons_zero, List.set_cons_succ]
  refine wpAnyH_take (i := 1) (v := ?_) rfl (by kernel_rfl) (by kernel_rfl) (by kernel_rfl) (fun _ _ _ h => h) (Or.inl ⟨by rfl, ?_⟩) (by assumption) ?_
  rotate_left
  · intro w9 hSw; (try dsimp only at hSw); go_simp; try (with_reducible rfl)
  simp only [Act.put, List.getElem_toArray, List.getElem_cons_succ, List.getElem_cons_zero, List.setIfInBounds_toArray, List.set_cons_zero, List.set_cons_succ]
  refine wpAnyH_take (i := 2) (v := ?_) rfl (by kernel_rfl) (by kernel_rfl) (by kernel_rfl) (fun _ _ _ h => h) (Or.inl ⟨by rfl, ?_⟩) (by assumption) ?_
  rotate_left
  · intro w9 hSw; (try dsimp only at hSw); go_simp; try (with_reducible rfl)
  simp only [Act.put, List.getElem_toArray, List.getElem_cons_succ, List.getElem_cons_zero, List.setIfInBounds_toArray, List.set_cons_zero, List.set_cons_succ]
  refine wpAnyH_take (i := 3) (v := ?_) rfl (by kernel_rfl) (by kernel_rfl) (by kernel_rfl) (fun _ _ _ h => h) (Or.inl ⟨by rfl, ?_⟩) (by assumption) ?_
  rotate_left
  · intro w9 hSw; (try dsimp only at hSw); go_simp; try (with_reducible rfl)
  simp only [Act.put, List.getElem_toArray, List.getElem_cons_succ, List.getElem_cons_zero, List.setIfInBounds_toArray, List.set_cons_zero, List.set_cons_succ]
  refine wpAnyH_take (i := 4) (v := ?_) rfl (by kernel_rfl) (by kernel_rfl) (by kernel_rfl) (fun _ _ _ h => h) (Or.inl ⟨by rfl, ?_⟩) (by assumption) ?_
  rotate_left
  · intro w9 hSw; (try dsimp only at hSw); go_simp; try (with_reducible rfl)
  simp only [Act.put, List.getElem_toArray, List.getElem_cons_succ, List.getElem_cons_zero, List.setIfInBounds_toArray, List.set_cons_zero, List.set_cons_succ]
  refine wpAnyH_take (i := 5) (v := ?_) rfl (by kernel_rfl) (by kernel_rfl) (by kernel_rfl) (fun _ _ _ h => h) (Or.inl ⟨by rfl, ?_⟩) (by assumption) ?_
  rotate_left
  · intro w9 hSw; (try dsimp only at hSw); go_simp; try (with_reducible rfl)
  simp only [Act.put, List.getElem_toArray, List.getElem_cons_succ, List.getElem_cons_zero, List.setIfInBounds_toArray, List.set_cons_zero, List.set_cons_succ]
  refine wpAnyH_take (i := 6) (v := ?_) rfl (by kernel_rfl) (by kernel_rfl) (by kernel_rfl) (fun _ _ _ h => h) (Or.inl ⟨by rfl, ?_⟩) (by assumption) ?_
  rotate_left
  · intro w9 hSw; (try dsimp only at hSw); go_simp; try (with_reducible rfl)
  simp only [Act.put, List.getElem_toArray, List.getElem_cons_succ, List.getElem_cons_zero, List.setIfInBounds_toArray, List.set_cons_zero, List.set_cons_succ]
  refine wpAnyH_take (i := 7) (v := ?_) rfl (by kernel_rfl) (by kernel_rfl) (by kernel_rfl) (fun _ _ _ h => h) (Or.inl ⟨by rfl, ?_⟩) (by assumption) ?_
  rotate_left
  · intro w9 hSw; (try dsimp only at hSw); go_simp; try (with_reducible rfl)
  simp only [Act.put, List.getElem_toArray, List.getElem_cons_succ, List.getElem_cons_zero, List.setIfInBounds_toArray, List.set_cons_zero, List.set_cons_succ]
  refine wpAnyH_take (i := 8) (v := ?_) rfl (by kernel_rfl) (by kernel_rfl) (by kernel_rfl) (fun _ _ _ h => h) (Or.inl ⟨by rfl, ?_⟩) (by assumption) ?_
  rotate_left
  · intro w9 hSw; (try dsimp only at hSw); go_simp; try (with_reducible rfl)
  simp only [Act.put, List.getElem_toArray, List.getElem_cons_succ, List.getElem_cons_zero, List.setIfInBounds_toArray, List.set_cons_zero, List.set_cons_succ]
  refine wpAnyH_take (i := 9) (v := ?_) rfl (by kernel_rfl) (by kernel_rfl) (by kernel_rfl) (fun _ _ _ h => h) (Or.inl ⟨by rfl, ?_⟩) (by assumption) ?_
  rotate_left
  · intro w9 hSw; (try dsimp only at hSw); go_simp; try (with_reducible rfl)
  simp only [Act.put, List.getElem_toArray, List.getElem_cons_succ, List.getElem_cons_zero, List.setIfInBounds_toArray, List.set_cons_zero, List.set_cons_succ]
  refine wpAnyH_ready (rs := [10]) (by kernel_rfl) (by simp) ?_
  refine AllReadyH.cons (o := _) rfl (fun K hK => ?_) AllReadyH.nil
  go_simp
  refine (ownc_any _ _ _ R2.out HL.out).mono ?_
  rintro e w3 ⟨⟨v3, rfl, q3, c3, rfl, n3⟩, b3⟩
  have N3 : Hid (TcN w3 w2.heap.size (.slice q3 t.cs.length c3) t.cs) := ⟨q3, c3, rfl, n3⟩
  have B3 : Hid (Below w2.heap.size w2 w3) := t2 (Below.refl _ _).drew b3
  have s3 : w3.cell? ⟨Q, 0, none⟩ = some (.int .i64 t.fr) ∧ w3.cell? ⟨Q, 1, none⟩ = some (.int .i64 t.li) ∧ w3.cell? ⟨Q, 2, none⟩ = some (.int .i64 t.ep) ∧ w3.cell? ⟨Q, 3, none⟩ = some (.bool t.cl) ∧ w3.cell? ⟨Q, 4, none⟩ = some (.slice vp t.cs.length vc) := ⟨tk B3.out p0, tk B3.out p1, tk B3.out p2, tk B3.out p3, tk B3.out p4⟩
  have z3 : NtZ w3 (Q + 1) ⟨0, 0, 0, false, []⟩ (.slice none 0 0) := (B3.out.block _ (by have := HSZ.out; omega)).trans HZ.out
  obtain ⟨w4, hst, hz4, hc4⟩ := ntz_store z3 t q3 t.cs.length c3
  have C4 : Hid (Chg (Q + 1) w3 w4) := hc4
  have Z4 : Hid (NtZ w4 (Q + 1) t (.slice q3 t.cs.length c3)) := hz4
  have s4 : w4.cell? ⟨Q, 0, none⟩ = some (.int .i64 t.fr) ∧ w4.cell? ⟨Q, 1, none⟩ = some (.int .i64 t.li) ∧ w4.cell? ⟨Q, 2, none⟩ = some (.int .i64 t.ep) ∧ w4.cell? ⟨Q, 3, none⟩ = some (.bool t.cl) ∧ w4.cell? ⟨Q, 4, none⟩ = some (.slice vp t.cs.length vc) := ⟨C4.out.keeps (by simp) s3.1, C4.out.keeps (by simp) s3.2.1, C4.out.keeps (by simp) s3.2.2.1, C4.out.keeps (by simp) s3.2.2.2.1, C4.out.keeps (by simp) s3.2.2.2.2⟩
  clear z3 n3 b3 hz4 hc4
  go_wp2_with fail
  refine hK.out _ _ ?_ (fun _ => ?_)
  · exact s3
  clear hK K
  try simp only [Act.put, List.setIfInBounds_toArray, List.set_cons_zero, List.set_cons_succ]
  refine wpAnyH_take (i := 11) (v := ?_) rfl (by kernel_rfl) (by kernel_rfl) (by kernel_rfl) (fun _ _ _ h => h) (Or.inl ⟨by rfl, ?_⟩) s3 ?_
  rotate_left
  · intro w9 hSw; (try dsimp only at hSw); go_simp; try (with_reducible rfl)
  simp only [Act.put, List.getElem_toArray, List.getElem_cons_succ, List.getElem_cons_zero, List.setIfInBounds_toArray, List.set_cons_zero, List.set_cons_succ]
  refine wpAnyH_ready (rs := [12]) (by kernel_rfl) (by simp) ?_
  refine AllReadyH.cons (o := _) rfl (fun K hK => ?_) AllReadyH.nil
  refine Eq.mpr (if_pos (by kernel_rfl)) ?_
  refine wp_store_eq 113 _ _ rfl _ _ w4 rfl rfl hst ?_
  refine hK.out _ _ ?_ (fun _ => ?_)
  · exact s4
  clear hK K
  try simp only [Act.put, List.setIfInBounds_toArray]
  refine wpAnyH_done (by kernel_rfl) ?_ _
  have q := Z4.out.b
  go_wp2_with fail
  exact bodyPost_ret (v := .agg #[.int .i64 t.fr, .int .i64 t.li, .int .i64 t.ep, .bool t.cl, .slice q3 t.cs.length c3]) (by simp [results, Tryz.results45, go_sem, q.c0, q.c1, q.c2, q.c3, q.c4]) rfl ⟨⟨_, rfl, N3.out.mono C4.out (by have := B1.out.size; have := HQ.out; have := HSZ.out; omega) (by have := HQ.out; have := HSZ.out; omega)⟩, Chg.below (t2 B1.out B3.out) C4.out (by have := HQ.out; omega)⟩
section
variable {w0 w w' : World} {k : Bk} {r : RBk} {x z : No} {j i : Nat}
/-- rules anew, or none. -/
def RuP (w0 w' : World) (s : Nat → Addr) (k : Bk) (r : RBk) (x : No) (j : Nat) (z : No) (i : Nat) (l : List Rl) (e : Ending) : Prop :=
  (RulesOk l ∧ e = .returned .nilIface ∧ ∃ p c, NB w0 w' (k.withRu p c) r { x with ru := l } j z i) ∨ (¬ RulesOk l ∧ (∃ v', e = .returned v' ∧ ChkV s w' l v') ∧ NB w0 w' k r x j z i)
theorem rules_p {s : Nat → Addr} (S : SeM w0 s) (h : NB w0 w k r x j z i) (v : Value) (l : List Rl) (R : Sl w v l) (hl : l.length ≤ 1000) :
    Calls Tryz.prog 47 #[.pointer (some ⟨k.nd, 0, none⟩), v] w fun e w' => RuP w0 w' s k r x j z i l e ∧ ChgL k.all w w' := by
  obtain ⟨n, hn, a⟩ := h.p
  obtain ⟨q, lo, h1, h2, d⟩ := h.d
  refine (rules_nd S a v l R hl).mono ?_
  rintro e w' ⟨ho, c⟩
  refine ⟨?_, c⟩
  have d' := d.kept c h.dj h.kg
  rcases ho with ⟨ok, e1, p, pc, t, fr⟩ | ⟨no, e1, t⟩
  · refine Or.inl ⟨ok, e1, p, pc, ⟨⟨n, hn, t⟩, ⟨q, lo, h1, h2, d'⟩, h.nx, h.nz, ok, h.dj, fun hne b e hm => ?_⟩⟩
    have g1 := fr hne b e
    have g2 := h.rl _ hm
    omega
  · exact Or.inr ⟨no, e1, ⟨⟨n, hn, t⟩, ⟨q, lo, h1, h2, d'⟩, h.nx, h.nz, h.ru, h.dj, h.rp⟩⟩
theorem RNd.setRu {q : Ro} {lo i : Int} {m : Nat} (h : RNd w0 w r x q lo i m) (p : Option Addr) (cap : Nat) (l : List Rl) (R : Rul w0 p l) (hl : l.length ≤ 1000) :
    RNd w0 (w.setCell ⟨r.nd, 7, none⟩ (.slice p l.length cap)) { r with rp := p, rc := cap } { x with ru := l } q lo i m ∧ ChgL r.all w (w.setCell ⟨r.nd, 7, none⟩ (.slice p l.length cap)) := by
  have c : Chg r.nd w (w.setCell ⟨r.nd, 7, none⟩ (.slice p l.length cap)) := Chg.set _ _ _ _
  have cl : ChgL [r.nd] w (w.setCell ⟨r.nd, 7, none⟩ (.slice p l.length cap)) := ChgL.one c (by simp)
  have h0 : ∀ b ∈ [r.nd], w0.heap.size ≤ b := fun b hb => by rw [List.mem_singleton.1 hb]; exact h.g0 _ r.m_nd
  have e : ∀ (j : Nat) (b : Nat), r.all[j]? = some b → j ≠ 0 → (w.setCell ⟨r.nd, 7, none⟩ (.slice p l.length cap)).heap[b]? = w.heap[b]? := fun j b hb hj => c.block b (h.blk b (List.mem_of_getElem? hb)) (RBk.df h.ds j 0 hb rfl hj)
  obtain ⟨lv, hy, hy1, hy2, hy3⟩ := h.yb
  have oth : ∀ j, j ≠ 7 → (w.setCell ⟨r.nd, 7, none⟩ (.slice p l.length cap)).cell? ⟨r.nd, j, none⟩ = w.cell? ⟨r.nd, j, none⟩ := fun j hj => World.cell?_setCell_other _ _ _ _ (by simp <;> omega)
  have hbl := h.bl' cl h0
  refine ⟨⟨⟨(oth 0 (by omega)).trans h.nd.b0, (oth 1 (by omega)).trans h.nd.b1, (oth 2 (by omega)).trans h.nd.b2, (oth 3 (by omega)).trans h.nd.b3, (oth 4 (by omega)).trans h.nd.b4, (oth 5 (by omega)).trans h.nd.b5, (oth 6 (by omega)).trans h.nd.b6, World.cell?_setCell_same' w _ _ (by rw [h.nd.b7]; rfl), fun j hj => (World.frozen?_setCell _ _ _ _).trans (h.nd.fr j hj)⟩, ?_, h.sm, ⟨lv, ?_, hy1, hy2, hy3⟩, ?_, h.lf, h.len, h.tb.keptB (e 4 _ rfl (by omega)) (e 5 _ rfl (by omega)), h.vs, h.te.keptB (e 6 _ rfl (by omega)) (e 7 _ rfl (by omega)), h.cu, h.mi.keptB (e 8 _ rfl (by omega)) (e 9 _ rfl (by omega)), R.below hbl, hl, fun hne a ha => ?_, h.ds, h.g0, h.id, hbl⟩, ChgL.one c r.m_nd⟩
  · unfold RRol; rw [e 3 _ rfl (by omega)]; exact h.ro
  · unfold RBy; rw [e 2 _ rfl (by omega)]; exact hy
  · unfold RCe; rw [e 1 _ rfl (by omega)]; exact h.ce
  · obtain ⟨t, ht⟩ := List.exists_mem_of_ne_nil _ hne
    obtain ⟨i, hi⟩ := List.getElem?_of_mem ht
    obtain ⟨b, o, e2, c0, _⟩ := R i t hi
    rw [show p = some a from ha] at e2
    cases e2
    have q : b < w0.heap.size := tlt c0
    exact q
theorem NB.setRu (h : NB w0 w k r x j z i) (p : Option Addr) (cap : Nat) (l : List Rl) (R : Rul w0 p l) (hl : l.length ≤ 1000) :
    NB w0 (w.setCell ⟨r.nd, 7, none⟩ (.slice p l.length cap)) k { r with rp := p, rc := cap } x j { z with ru := l } i := by
  obtain ⟨n, hn, a⟩ := h.p
  obtain ⟨q, lo, h1, h2, d⟩ := h.d
  obtain ⟨t, c⟩ := d.setRu p cap l R hl
  exact ⟨⟨n, hn, a.kept c (fun b hb hm => h.dj b hm hb) h.rp h.rg⟩, ⟨q, lo, h1, h2, t⟩, h.nx, h.nz, h.ru, h.dj, h.rp⟩
end
end Go.Proofs.YtifjoboaolpejaaGreatDoor

namespace Go.Proofs.YtifjoboaolpejaaGreatDoor
open Go.RowKit

theorem CelV.rd {w : World} {base : Nat} {T : Tb} {L : List Nat} {v : Value} (h : CelV w base T L v) : ∃ q c, v = .slice q (L.map fun (j : Nat) => (⟨(j : Int), T j⟩ : Tc)).length c ∧ TcR w q (L.map fun (j : Nat) => (⟨(j : Int), T j⟩ : Tc)) ∧ (L.map fun (j : Nat) => (⟨(j : Int), T j⟩ : Tc)).length ≤ 8 := by
  rcases h with ⟨h1, h2⟩ | ⟨Z, h1, _, h2, h3⟩
  · subst h1
    exact ⟨none, 0, h2, fun i x hx => by simp at hx, by simp⟩
  · refine ⟨some ⟨Z, 0, none⟩, 8, by rw [h1, List.length_map, h3], RowL.tcR (fun _ _ hj => ⟨Z, rfl, fun _ hk => h2.at' hj hk⟩), by rw [List.length_map, h3]; omega⟩
/-- what comes of the cells of a note. -/
def NtsP (w : World) (x : No) (v : Value) : Prop := ∃ p cap us, v = .slice p x.nfs.length cap ∧ RdT w p x.nfs us ∧ RdC w x.nfs us ∧ us.length = x.nfs.length ∧ ∀ r ∈ nfR x.nfs us, Five r
theorem NtsV.rd {w : World} {base : Nat} {x : No} {v : Value} (h : NtsV w base x.tk1 x.tickL v) : NtsP w x v := by
  obtain ⟨p, cap, rfl, _, hc⟩ := h
  have hlen : x.nfs.length = x.tickL.length := by unfold No.nfs; rw [List.length_map]
  have key : ∀ (i : Nat) t, x.nfs[i]? = some t → ∃ g cv, p = some ⟨g, 0, none⟩ ∧ (∃ q c, cv = .slice q t.cs.length c ∧ TcR w q t.cs ∧ t.cs.length ≤ 8) ∧ w.cell? ⟨g, i * 5, none⟩ = some (.int .i64 t.fr) ∧ w.cell? ⟨g, i * 5 + 1, none⟩ = some (.int .i64 t.li) ∧ w.cell? ⟨g, i * 5 + 2, none⟩ = some (.int .i64 t.ep) ∧ w.cell? ⟨g, i * 5 + 3, none⟩ = some (.bool t.cl) ∧ w.cell? ⟨g, i * 5 + 4, none⟩ = some cv := fun i t ht => by
    unfold No.nfs at ht
    rw [List.getElem?_map] at ht
    obtain ⟨u, hu, rfl⟩ := Option.map_eq_some_iff.1 ht
    obtain ⟨g, cv, e, _, hv, hx⟩ := hc i u hu
    exact ⟨g, cv, e, hv.rd, hx 0 _ rfl, hx 1 _ rfl, hx 2 _ rfl, hx 3 _ rfl, hx 4 _ rfl⟩
  have hus : ∃ us : List Value, us.length = x.nfs.length ∧ ∀ (i : Nat) t, x.nfs[i]? = some t → ∃ g cv, us[i]? = some cv ∧ p = some ⟨g, 0, none⟩ ∧ (∃ q c, cv = .slice q t.cs.length c ∧ TcR w q t.cs ∧ t.cs.length ≤ 8) ∧ w.cell? ⟨g, i * 5, none⟩ = some (.int .i64 t.fr) ∧ w.cell? ⟨g, i * 5 + 1, none⟩ = some (.int .i64 t.li) ∧ w.cell? ⟨g, i * 5 + 2, none⟩ = some (.int .i64 t.ep) ∧ w.cell? ⟨g, i * 5 + 3, none⟩ = some (.bool t.cl) ∧ w.cell? ⟨g, i * 5 + 4, none⟩ = some cv := by
    have cvs : ∀ i : Nat, ∃ cv : Value, ∀ t, x.nfs[i]? = some t → ∃ g, p = some ⟨g, 0, none⟩ ∧ (∃ q c, cv = .slice q t.cs.length c ∧ TcR w q t.cs ∧ t.cs.length ≤ 8) ∧ w.cell? ⟨g, i * 5, none⟩ = some (.int .i64 t.fr) ∧ w.cell? ⟨g, i * 5 + 1, none⟩ = some (.int .i64 t.li) ∧ w.cell? ⟨g, i * 5 + 2, none⟩ = some (.int .i64 t.ep) ∧ w.cell? ⟨g, i * 5 + 3, none⟩ = some (.bool t.cl) ∧ w.cell? ⟨g, i * 5 + 4, none⟩ = some cv := fun i => by
      cases e : x.nfs[i]? with
      | none => exact ⟨.nilIface, fun t ht => by cases ht⟩
      | some t0 =>
        obtain ⟨g, cv, a⟩ := key i t0 e
        exact ⟨cv, fun t ht => by cases ht; exact ⟨g, a⟩⟩
    refine ⟨(List.range x.nfs.length).map fun i => (cvs i).choose, by simp, fun i t ht => ?_⟩
    obtain ⟨g, a⟩ := (cvs i).choose_spec t ht
    refine ⟨g, (cvs i).choose, ?_, a⟩
    rw [List.getElem?_map, List.getElem?_range (List.getElem?_eq_some_iff.1 ht).1]
    rfl
  obtain ⟨us, hul, hu⟩ := hus
  refine ⟨p, cap, us, by rw [hlen], fun i t ht => ?_, fun i t ht => ?_, hul, fun r hr => ?_⟩
  · obtain ⟨g, cv, e1, e2, ⟨q, c, rfl, _⟩, c0, c1, c2, c3, c4⟩ := hu i t ht
    exact ⟨g, q, c, e2, e1, c0, c1, c2, c3, c4⟩
  · obtain ⟨g, cv, e1, _, ⟨q, c, rfl, a, b⟩, _⟩ := hu i t ht
    exact ⟨q, c, e1, a, b⟩
  · obtain ⟨i, hi, rfl⟩ := List.getElem_of_mem hr
    have hi2 : i < x.nfs.length := by rw [nfR_len hul] at hi; exact hi
    obtain ⟨g, cv, e1, _, ⟨q, c, rfl, _⟩, _⟩ := hu i _ (List.getElem?_eq_getElem hi2)
    have := nfR_get (List.getElem?_eq_getElem hi2) e1
    rw [List.getElem?_eq_getElem hi] at this
    rw [Option.some.inj this]
    exact ⟨rfl, fun u hu => by simp only [nfC, List.mem_cons, List.not_mem_nil, or_false] at hu; rcases hu with rfl | rfl | rfl | rfl | rfl <;> rfl⟩
end Go.Proofs.YtifjoboaolpejaaGreatDoor

namespace Go.Proofs.YtifjoboaolpejaaGreatDoor
open Go.RowKit

set_option maxRecDepth 100000 in
set_option maxHeartbeats 2000000 in
theorem faulted2_nil (n : Int) (w : World) : Calls Tryz.prog 12 #[.nilIface, .agg #[.int .i64 0, .int .i64 n]] w fun e w' => e = .returned (.bool true) ∧ Below w.heap.size w w' := by
  have B0 : Hid (Below w.heap.size w (w.alloc (.cells #[.int .i64 0, .int .i64 n] 37))) := (Below.refl _ _).alloc (Nat.le_refl _) _
  go_enter Tryz.func12, Tryz.ntmps12
  go_wp2_with fail
  refine (code_nil _).mono ?_
  rintro e w1 ⟨rfl, rfl⟩
  go_wp2_with fail
  all_goals go_ret
  all_goals exact ⟨rfl, B0.out⟩
set_option maxRecDepth 100000 in
set_option maxHeartbeats 2000000 in
theorem faulted2_sent (k : Nat) (hk : k < 11) (s : Nat → Addr) (w : World) (S : Sents w s) :
    Calls Tryz.prog 12 #[.iface 265 (.pointer (some (s k))), .agg #[.int .i64 ((k : Int) + 1), .int .i64 (-1)]] w fun e w' => e = .returned (.bool true) ∧ Below w.heap.size w w' := by
  have HS : Hid (Sents w s) := S
  clear S
  have B0 : Hid (Below w.heap.size w (w.alloc (.cells #[.int .i64 ((k : Int) + 1), .int .i64 (-1)] 37))) := (Below.refl _ _).alloc (Nat.le_refl _) _
  go_enter Tryz.func12, Tryz.ntmps12
  go_wp2_with fail
  refine (code_sent k hk s _ (HS.out.below B0.out)).mono ?_
  rintro e w1 ⟨rfl, hb1⟩
  have c0 : w1.cell? ⟨w.heap.size, 0, none⟩ = some (.int .i64 ((k : Int) + 1)) := Below.keeps hb1 (by simp)
  have c1 : w1.cell? ⟨w.heap.size, 1, none⟩ = some (.int .i64 (-1)) := Below.keeps hb1 (by simp)
  have B1 : Hid (Below w.heap.size w w1) := below2 B0.out hb1
  clear hb1
  have hz : ((k : Int) + 1 == 0) = false := beq_eq_false_iff_ne.2 (by omega)
  go_wp2_with fail
  all_goals go_ret
  all_goals exact ⟨rfl, B1.out⟩
set_option maxRecDepth 100000 in
set_option maxHeartbeats 2000000 in
theorem faulted2_fault (k : Nat) (hk : k < 11) (pb : Nat) (n : Int) (s : Nat → Addr) (w : World) (S : Sents w s) (hA : w.cell? ⟨pb, 0, none⟩ = some (.int .i64 n)) (hE : w.cell? ⟨pb, 1, none⟩ = some (.iface 265 (.pointer (some (s k))))) :
    Calls Tryz.prog 12 #[.iface 143 (.pointer (some ⟨pb, 0, none⟩)), .agg #[.int .i64 ((k : Int) + 1), .int .i64 n]] w fun e w' => e = .returned (.bool true) ∧ Below w.heap.size w w' := by
  have HS : Hid (Sents w s) := S
  have HA : Hid (w.cell? ⟨pb, 0, none⟩ = some (.int .i64 n)) := hA
  have HE : Hid (w.cell? ⟨pb, 1, none⟩ = some (.iface 265 (.pointer (some (s k))))) := hE
  clear S hA hE
  have B0 : Hid (Below w.heap.size w (w.alloc (.cells #[.int .i64 ((k : Int) + 1), .int .i64 n] 37))) := (Below.refl _ _).alloc (Nat.le_refl _) _
  go_enter Tryz.func12, Tryz.ntmps12
  go_wp2_with fail
  refine (code_fault k hk pb 0 n s _ (HS.out.below B0.out) (Below.keeps B0.out HA.out) (Below.keeps B0.out HE.out)).mono ?_
  rintro e w1 ⟨rfl, hb1⟩
  have c0 : w1.cell? ⟨w.heap.size, 0, none⟩ = some (.int .i64 ((k : Int) + 1)) := Below.keeps hb1 (by simp)
  have c1 : w1.cell? ⟨w.heap.size, 1, none⟩ = some (.int .i64 n) := Below.keeps hb1 (by simp)
  have B1 : Hid (Below w.heap.size w w1) := below2 B0.out hb1
  clear hb1
  have hz : ((k : Int) + 1 == 0) = false := beq_eq_false_iff_ne.2 (by omega)
  go_wp2_with fail
  all_goals go_ret
  all_goals exact ⟨rfl, B1.out⟩
/-- what Check answers is what the document says. -/
theorem faulted2_chk {l : List Rl} {v : Value} (s : Nat → Addr) (w : World) (S : Sents w s) (h : ChkV s w l v) :
    Calls Tryz.prog 12 #[v, .agg #[.int .i64 (faultOf l).1, .int .i64 (faultOf l).2]] w fun e w' => e = .returned (.bool true) ∧ Below w.heap.size w w' := by
  rcases h with ⟨h1, rfl⟩ | ⟨h1, h2, rfl⟩ | ⟨h1, i, g, h2, rfl, h3, h4⟩
  · have e : faultOf l = (2, -1) := by unfold faultOf; rw [if_pos h1]
    rw [e]; exact faulted2_sent 1 (by omega) s w S
  · have e : faultOf l = (0, -1) := by unfold faultOf; rw [if_neg (by omega), h2]
    rw [e]; exact faulted2_nil _ w
  · have e : faultOf l = (2, (i : Int)) := by unfold faultOf; rw [if_neg (by omega), h2]
    rw [e]; exact faulted2_fault 1 (by omega) g i s w S h3 h4
end Go.Proofs.YtifjoboaolpejaaGreatDoor

namespace Go.Proofs.YtifjoboaolpejaaGreatDoor
open Go.RowKit

theorem coded2_nil (n : Int) (w : World) : Calls Tryz.prog 10 #[.nilIface, .int .i64 n] w fun e w' => e = .returned (.bool (n == 0)) ∧ w' = w := by
  by_cases h : n = 0
  · subst h
    go_enter Tryz.func10, Tryz.ntmps10
    go_wp2_with fail
    refine (code_nil _).mono ?_
    rintro e w' ⟨rfl, rfl⟩
    go_wp2_with fail
    go_ret
    exact ⟨rfl, rfl⟩
  · have h1 : ((0 : Int) == n) = false := beq_eq_false_iff_ne.2 (fun x => h x.symm)
    have h2 : (n == (0 : Int)) = false := beq_eq_false_iff_ne.2 h
    rw [h2]
    clear h2
    go_enter Tryz.func10, Tryz.ntmps10
    go_wp2_with fail
    refine (code_nil _).mono ?_
    rintro e w' ⟨rfl, rfl⟩
    go_wp2_with fail
    go_ret
    exact ⟨rfl, rfl⟩

theorem coded2_sent (k : Nat) (hk : k < 11) (n : Int) (s : Nat → Addr) (w : World) (S : Sents w s) :
    Calls Tryz.prog 10 #[.iface 265 (.pointer (some (s k))), .int .i64 n] w fun e w' => e = .returned (.bool (n == (k : Int) + 1)) ∧ Below w.heap.size w w' := by
  have hS : Hid (Sents w s) := S
  clear S
  by_cases h : n = (k : Int) + 1
  · have h1 : ((k : Int) + 1 == n) = true := beq_iff_eq.2 h.symm
    have h2 : (n == (k : Int) + 1) = true := beq_iff_eq.2 h
    rw [h2]
    clear h2 h
    go_enter Tryz.func10, Tryz.ntmps10
    go_wp2_with fail
    refine (code_sent k hk s _ hS.out).mono ?_
    rintro e w' ⟨rfl, hb⟩
    go_wp2_with fail
    go_ret
    exact ⟨rfl, hb⟩
  · have h1 : ((k : Int) + 1 == n) = false := beq_eq_false_iff_ne.2 (fun x => h x.symm)
    have h2 : (n == (k : Int) + 1) = false := beq_eq_false_iff_ne.2 h
    rw [h2]
    clear h2 h
    go_enter Tryz.func10, Tryz.ntmps10
    go_wp2_with fail
    refine (code_sent k hk s _ hS.out).mono ?_
    rintro e w' ⟨rfl, hb⟩
    go_wp2_with fail
    go_ret
    exact ⟨rfl, hb⟩
/-- an error by its number, held against another number. -/
theorem coded2_any (n : Nat) (hn : n ≤ 11) (m : Int) (s : Nat → Addr) (w : World) (S : Sents w s) :
    Calls Tryz.prog 10 #[terr s n, .int .i64 m] w fun e w' => e = .returned (.bool (m == (n : Int))) ∧ Below w.heap.size w w' := by
  cases n with
  | zero =>
    refine (coded2_nil m w).mono ?_
    rintro e w' ⟨rfl, rfl⟩
    exact ⟨rfl, Below.refl _ _⟩
  | succ k =>
    refine (coded2_sent k (by omega) m s w S).mono ?_
    rintro e w' ⟨rfl, hb⟩
    exact ⟨rfl, hb⟩
end Go.Proofs.YtifjoboaolpejaaGreatDoor
