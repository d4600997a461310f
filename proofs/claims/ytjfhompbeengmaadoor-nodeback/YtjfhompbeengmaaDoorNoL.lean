/-
  A node in a law's walk that hears nothing; the closed fact wakes.
-/
import Derived.Test.YtjfhompbeengmaaDoorKm
namespace Go.Proofs.YtjfhompbeengmaaDoor
open Go.RowKit

/-- a node behind j ticks, in memory. -/
def Lq (w0 w : World) (k : Bk) (id ep life : Nat) (y : By) (j : Nat) : Prop := ∃ x n, Nd w0 w k x (33 * j) n ∧ n ≤ 8 * j ∧ Qn id ep life y j x
theorem new_lq {w0 w : World} {s : Nat → Addr} (S : SeN w0 s) (id b : Nat) (y : By) (v : Value) (l : List Rl) (Y : Byt w b y) (hb : w0.heap.size ≤ b) (bl : Below w0.heap.size w0 w) {n e li : Nat} (B : Beg y n e li) (hid : id < 2) (R : Sl w v l) (hsep : ∀ a n c, v = .slice (some a) n c → a.block ≠ b) (hr : RulesOk l) :
    Calls Tryd.prog 6 #[.int .i64 id, .pointer (some ⟨b, 0, none⟩), v] w fun r w' => ∃ k, r = .returned (.tuple #[.pointer (some ⟨k.nd, 0, none⟩), .nilIface]) ∧ k.yb = b ∧ Lq w0 w' k id e (li + 1) (yNew y) 0 ∧ (∃ x n, Nd w0 w' k x 0 n ∧ x.ru = l ∧ n = 0) := by
  refine (new_nd S id b y v l Y hb bl B.q.lf R hsep ⟨hid, hr, B.q.on, by rw [B.nw]; have := B.he; show e ≤ _; omega, B.new.1⟩).mono ?_
  rintro r w' ⟨⟨k, rfl, hk, nd⟩, _⟩
  have q := Qn.new (id := id) (y := y) (l := l)
  rw [B.nw] at q
  exact ⟨k, rfl, hk, ⟨_, 0, nd, Nat.le_refl _, q⟩, ⟨_, 0, nd, rfl, rfl⟩⟩
theorem tick_lq {w0 w : World} {k : Bk} {id ep life j : Nat} {y : By} {s : Nat → Addr} (S : SeN w0 s) (h : Lq w0 w k id ep life y j) {n : Nat} (B : Beg y n ep life) (hj : j ≤ 1000) :
    Calls Tryd.prog 7 #[.pointer (some ⟨k.nd, 0, none⟩)] w fun e w' => (∃ v, e = .returned (.tuple #[v, .nilIface])) ∧ Lq w0 w' k id ep life y (j + 1) ∧ ChgL k.all w w' := by
  obtain ⟨x, n0, nd, hn, q⟩ := h
  have hp : (putE false y (Ro.new id ep).nx life).1 = 0 := by
    rw [nxN_eq]
    have := nxN_lt id ep
    have := B.he
    have := B.hl
    exact (B.put (by omega) (by omega) (Nat.le_refl _) (by omega)).1
  obtain ⟨e0, q1⟩ := q.tick (by have := B.he; omega) hp
  refine (tick_nd S nd (by rw [q.now]; omega) (by rw [q.now]; omega) (by omega) (by omega)).mono ?_
  rintro r w' ⟨⟨v, rfl, _⟩, ⟨n', hn', n1⟩, c⟩
  rw [e0]
  exact ⟨⟨v, rfl⟩, ⟨_, n', by rw [show 33 * (j + 1) = 33 * j + 33 by omega]; exact n1, by omega, q1⟩, c⟩
theorem Lq.bl {w0 w : World} {k : Bk} {id ep life j : Nat} {y : By} (h : Lq w0 w k id ep life y j) : Below w0.heap.size w0 w := by
  obtain ⟨x, n0, nd, _⟩ := h; exact nd.bl
theorem Lq.c0 {w0 w : World} {k : Bk} {id ep life j : Nat} {y : By} (h : Lq w0 w k id ep life y j) : w.cell? ⟨k.nd, 0, none⟩ = some (.pointer (some ⟨k.ro, 0, none⟩)) := by
  obtain ⟨x, n0, nd, _⟩ := h; exact nd.c0
theorem Lq.ro {w0 w : World} {k : Bk} {id ep life j : Nat} {y : By} (h : Lq w0 w k id ep life y j) : Rol w k.ro (roQ id ep j) := by
  obtain ⟨x, n0, nd, _, q⟩ := h; rw [← q.ro]; exact nd.ro
theorem Lq.yb {w0 w : World} {k : Bk} {id ep life j : Nat} {y : By} (h : Lq w0 w k id ep life y j) : Byt w k.yb (yQ id ep life y j) := by
  obtain ⟨x, n0, nd, _, q⟩ := h; rw [← q.yy]; exact nd.yb
def acQ (j : Nat) : Bool := decide (9 < j)
def epQ (id ep j : Nat) : Nat := if j ≤ 9 then ep else nxN id ep
theorem roQ_ac (id ep j : Nat) : (roQ id ep j).ac = acQ j := by unfold roQ acQ; split; exact (decide_eq_false (by omega)).symm; exact (decide_eq_true (by omega)).symm
theorem roQ_ep (id ep j : Nat) : (roQ id ep j).ep = (epQ id ep j : Nat) := by
  unfold roQ epQ; split
  · rfl
  · show (Ro.new id ep).nx = _
    rw [nxN_eq]
theorem active_lq {w0 w : World} {k : Bk} {id ep life j : Nat} {y : By} (h : Lq w0 w k id ep life y j) (b : Bool) (hb : acQ j = b) :
    Calls Tryd.prog 12 #[.pointer (some ⟨k.ro, 0, none⟩)] w fun e w' => e = .returned (.bool b) ∧ w' = w := by
  have := active_any k.ro _ w h.ro
  rw [roQ_ac, hb] at this
  exact this
theorem epoch_lq {w0 w : World} {k : Bk} {id ep life j : Nat} {y : By} (h : Lq w0 w k id ep life y j) :
    Calls Tryd.prog 13 #[.pointer (some ⟨k.ro, 0, none⟩)] w fun e w' => e = .returned (.int .i64 (epQ id ep j : Nat)) ∧ w' = w := by
  have := epochR_any k.ro _ w h.ro
  rw [roQ_ep] at this
  exact this
set_option maxRecDepth 100000 in
theorem life_nd {w0 w : World} {k : Bk} {x : No} {m n : Nat} (h : Nd w0 w k x m n) :
    Calls Tryd.prog 11 #[.pointer (some ⟨k.nd, 0, none⟩)] w fun e w' => e = .returned (.int .i64 x.life) ∧ w' = w := by
  have c := h.c2
  clear h
  go_enter Tryd.func11, Tryd.ntmps11
  go_wp2_with fail
  go_ret
  exact ⟨rfl, rfl⟩
set_option maxRecDepth 100000 in
theorem now_nd {w0 w : World} {k : Bk} {x : No} {m n : Nat} (h : Nd w0 w k x m n) :
    Calls Tryd.prog 14 #[.pointer (some ⟨k.nd, 0, none⟩)] w fun e w' => e = .returned (.int .i64 x.now) ∧ w' = w := by
  have c := h.c3
  clear h
  go_enter Tryd.func14, Tryd.ntmps14
  go_wp2_with fail
  go_ret
  exact ⟨rfl, rfl⟩
theorem life_lq {w0 w : World} {k : Bk} {id ep life j : Nat} {y : By} (h : Lq w0 w k id ep life y j) :
    Calls Tryd.prog 11 #[.pointer (some ⟨k.nd, 0, none⟩)] w fun e w' => e = .returned (.int .i64 life) ∧ w' = w := by
  obtain ⟨x, n0, nd, _, q⟩ := h
  have := life_nd nd
  rw [q.li] at this
  exact this
theorem now_lq {w0 w : World} {k : Bk} {id ep life j : Nat} {y : By} (h : Lq w0 w k id ep life y j) :
    Calls Tryd.prog 14 #[.pointer (some ⟨k.nd, 0, none⟩)] w fun e w' => e = .returned (.int .i64 j) ∧ w' = w := by
  obtain ⟨x, n0, nd, _, q⟩ := h
  have := now_nd nd
  rw [q.now] at this
  exact this
theorem Lq.below {w0 w w' : World} {k : Bk} {id ep life j : Nat} {y : By} (h : Lq w0 w k id ep life y j) (hb : Below w.heap.size w w') : Lq w0 w' k id ep life y j := by
  obtain ⟨x, n0, nd, hn, q⟩ := h
  exact ⟨x, n0, nd.below hb, hn, q⟩
set_option maxRecDepth 100000 in
set_option maxHeartbeats 4000000 in
theorem wakes_any (s : Nat → Addr) (w : World) (S : SeN w s) : Calls Tryd.prog 4 #[] w fun e w' => e = .returned (.bool true) ∧ Below w.heap.size w w' := by
  have HS : Hid (SeN w s) := S
  clear S
  go_enter Tryd.func4, Tryd.ntmps4
  go_wp2_with fail
  refine (newBytes_any w).mono ?_
  rintro e w1 ⟨⟨rfl, y1⟩, b1⟩
  have Y1 : Hid (Byt w1 w.heap.size new0) := y1
  have B1 : Hid (Below w.heap.size w w1) := b1
  clear y1 b1
  go_wp2_with fail
  refine (new_lq HS.out 1 w.heap.size new0 (.slice none 0 0) [] Y1.out (Nat.le_refl _) B1.out Beg.zero (by omega) (Sl.nil _) (fun a n c e => by cases e) RulesOk.nil).mono ?_
  rintro e w2 ⟨k, rfl, hk, l2, _⟩
  have L2 : Hid (Lq w w2 k 1 0 1 (yNew new0) 0) := l2
  have BG : Hid (Beg (yNew new0) 1 0 1) := ⟨Beg.zero.new.2.1, Beg.zero.new.2.2, by omega, by omega, by omega⟩
  clear l2 Y1 B1
  go_wp2_with fail
  refine (life_lq L2.out).mono ?_
  rintro e w3 ⟨rfl, hw⟩
  obtain rfl := hw.symm
  clear hw
  have c0 := L2.out.c0
  go_wp2_with fail
  refine (active_lq L2.out false (by decide)).mono ?_
  rintro e w3 ⟨rfl, hw⟩
  obtain rfl := hw.symm
  clear hw c0
  go_wp2_with fail
  go_loopw [4, 5, 6] (fun t _ _ wr => ∃ j : Nat, j ≤ 10 ∧ t = .int .i64 j ∧ Lq w wr k 1 0 1 (yNew new0) j) (fun t _ _ _ => 10 - (intOf t).toNat)
  case atStart => exact ⟨0, by omega, rfl, L2.out⟩
  case round =>
    obtain ⟨j, hj, rfl, lr⟩ := hrel
    have LR : Hid (Lq w wr k 1 0 1 (yNew new0) j) := lr
    clear lr L2
    by_cases hlt : j < 10
    · have j9 : (j : Int) ≤ 9 := by omega
      go_wp2_with fail
      refine (tick_lq HS.out LR.out BG.out (by omega)).mono ?_
      rintro e w4 ⟨⟨v, rfl⟩, l4, _⟩
      have L4 : Hid (Lq w w4 k 1 0 1 (yNew new0) (j + 1)) := l4
      clear l4 LR
      go_wp2_with fail
      exact ⟨⟨j + 1, by omega, by go_num, L4.out⟩, by simp [intOf]; omega⟩
    · obtain rfl : j = 10 := by omega
      have c0 := LR.out.c0
      go_wp2_with fail
      refine (active_lq LR.out true (by decide)).mono ?_
      rintro e w3 ⟨rfl, hw⟩
      obtain rfl := hw.symm
      clear hw
      go_wp2_with fail
      refine (epoch_lq LR.out).mono ?_
      rintro e w3 ⟨rfl, hw⟩
      obtain rfl := hw.symm
      clear hw
      rw [show epQ 1 0 10 = 1 by decide]
      go_wp2_with fail
      refine (now_lq LR.out).mono ?_
      rintro e w3 ⟨rfl, hw⟩
      obtain rfl := hw.symm
      clear hw
      go_wp2_with fail
      go_ret
      exact ⟨rfl, LR.out.bl⟩
end Go.Proofs.YtjfhompbeengmaaDoor
