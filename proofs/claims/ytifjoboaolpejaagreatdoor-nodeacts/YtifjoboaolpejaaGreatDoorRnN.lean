/-
  The document's NewNode.
-/
import Derived.Test.YtifjoboaolpejaaGreatDoorLe
import Derived.Test.YtifjoboaolpejaaGreatDoorLd
import Derived.Test.YtifjoboaolpejaaGreatDoorKj
import Derived.Deep.DeepCutAuto
import Derived.Deep.CutRange
import Derived.Deep.RegionWith
namespace Go.Proofs.YtifjoboaolpejaaGreatDoor
open Go.RowKit

/-- what a new life writes. -/
theorem putE_new {s : By} (hB : s.B.length = 64) (h : (putE false s (newest s.B).e ((newest s.B).l + 1)).1 = 0) : (newest (putE false s (newest s.B).e ((newest s.B).l + 1)).2.1.B).e = (newest s.B).e ∧ (newest (putE false s (newest s.B).e ((newest s.B).l + 1)).2.1.B).l = (newest s.B).l + 1 ∧ (newest s.B).e ≤ 1073741824 := by
  have hlt := newest_lt s.B
  revert h
  unfold putE
  by_cases h2 : badEp ((newest s.B).e : Int) (((newest s.B).l : Int) + 1) = true
  · rw [if_neg (by simp), if_pos h2]; intro h; cases h
  rw [if_neg (by simp), if_neg h2]
  by_cases h3 : oldEp s ((newest s.B).e : Int) (((newest s.B).l : Int) + 1) = true
  · rw [if_pos h3]; intro h; cases h
  rw [if_neg h3]
  by_cases h4 : (newest s.B).n = 4294967295
  · rw [if_pos h4]; intro h; cases h
  rw [if_neg h4]
  have hb : isEp ((newest s.B).e : Int) = true ∧ isEp (((newest s.B).l : Int) + 1) = true := by
    unfold badEp at h2
    constructor
    · cases he : isEp ((newest s.B).e : Int)
      · rw [he] at h2; simp at h2
      · rfl
    · cases he : isEp (((newest s.B).l : Int) + 1)
      · rw [he] at h2; simp at h2
      · rfl
  have he : ((newest s.B).e : Int) ≤ 1073741824 ∧ ((newest s.B).l : Int) + 1 ≤ 1073741824 := by
    obtain ⟨h5, h6⟩ := hb
    unfold isEp at h5 h6
    simp at h5 h6
    omega
  have hp := put_pair (s := s) (x := nextNm s (newest s.B).e ((newest s.B).l + 1)) hB rfl (by show (newest s.B).n + 1 < _; omega) (by show ((newest s.B).e : Int).toNat < _; omega) (by show (((newest s.B).l : Int) + 1).toNat < _; omega)
  by_cases h5 : (putS s (nextNm s (newest s.B).e ((newest s.B).l + 1))).2 = true
  · rw [if_pos h5]
    intro _
    show (newest (putS s (nextNm s (newest s.B).e ((newest s.B).l + 1))).1.B).e = _ ∧ (newest (putS s (nextNm s (newest s.B).e ((newest s.B).l + 1))).1.B).l = _ ∧ _
    rw [(hp.1 h5).1]
    refine ⟨?_, ?_, by omega⟩
    · show ((newest s.B).e : Int).toNat = _; omega
    · show (((newest s.B).l : Int) + 1).toNat = _; omega
  · rw [if_neg h5]; intro h; cases h
/-- what NewNode lays, ahead of its teller. -/
def NewR (wc wx : World) (id ce : Nat) (ep : Int) (sv : Value) (v : Value) : Prop := ∃ nd ro tb tg tc mi mg mc, v = .pointer (some ⟨nd, 0, none⟩) ∧
  wx.heap[nd]? = some (.cells #[.int .i64 id, .int .i64 0, .pointer (some ⟨ce, 0, none⟩), .pointer (some ⟨ro, 0, none⟩), .pointer (some ⟨tb, 0, none⟩), .pointer none, .pointer (some ⟨mi, 0, none⟩), sv] 106 (0, 0)) ∧
  RRol wx ro ⟨id, ep, 0, false⟩ ∧ RTab wx tb tg tc (2000 + id * 24) newT ∧ RMir wx mi mg mc 0 newT ∧ Below wc.heap.size wc wx ∧
  (wc.heap.size ≤ nd ∧ wc.heap.size ≤ ro ∧ wc.heap.size ≤ tb ∧ wc.heap.size ≤ tg ∧ wc.heap.size ≤ mi ∧ wc.heap.size ≤ mg) ∧ [nd, ro, tb, tg, mi, mg].Nodup
theorem NewR.mk {wc wx : World} {id ce : Nat} {ep : Int} {sv : Value} {nd ro tb tg tc mi mg mc : Nat}
    (h1 : wx.heap[nd]? = some (.cells #[.int .i64 id, .int .i64 0, .pointer (some ⟨ce, 0, none⟩), .pointer (some ⟨ro, 0, none⟩), .pointer (some ⟨tb, 0, none⟩), .pointer none, .pointer (some ⟨mi, 0, none⟩), sv] 106 (0, 0)))
    (h2 : RRol wx ro ⟨id, ep, 0, false⟩) (h3 : RTab wx tb tg tc (2000 + id * 24) newT) (h4 : RMir wx mi mg mc 0 newT) (h5 : Below wc.heap.size wc wx)
    (h6 : wc.heap.size ≤ nd ∧ wc.heap.size ≤ ro ∧ wc.heap.size ≤ tb ∧ wc.heap.size ≤ tg ∧ wc.heap.size ≤ mi ∧ wc.heap.size ≤ mg)
    (h7 : (nd ≠ ro ∧ nd ≠ tb ∧ nd ≠ tg ∧ nd ≠ mi ∧ nd ≠ mg) ∧ (ro ≠ tb ∧ ro ≠ tg ∧ ro ≠ mi ∧ ro ≠ mg) ∧ (tb ≠ mi ∧ tb ≠ mg) ∧ (tg ≠ mi ∧ tg ≠ mg)) : NewR wc wx id ce ep sv (.pointer (some ⟨nd, 0, none⟩)) :=
  ⟨nd, ro, tb, tg, tc, mi, mg, mc, rfl, h1, h2, h3, h4, h5, h6, by
    have a := h3.ne
    have b := h4.ne
    simp only [List.nodup_cons, List.mem_cons, List.not_mem_nil, or_false, not_or, not_false_eq_true, List.nodup_nil, and_true]
    omega⟩
theorem RMir.new {w : World} {g cap : Nat} (h : Sl10 w g newT) : RMir (w.alloc (.cells #[.int .i64 0, .slice (some ⟨g, 0, none⟩) 32 cap] 103)) w.heap.size g cap 0 newT :=
  ⟨nw _ _ _ _, nw _ _ _ _, frozen_of_row _ _ _ _ _ (heap_alloc_new _ _), frozen_of_row _ _ _ _ _ (heap_alloc_new _ _), h.below (aB _ _), by have := h.lt; omega⟩
theorem RRol.new (w : World) (id : Nat) (ep : Int) : RRol (w.alloc (.cells #[.int .i64 id, .int .i64 ep, .int .i64 0, .bool false] 97)) w.heap.size ⟨id, ep, 0, false⟩ := heap_alloc_new _ _
set_option maxRecDepth 100000 in
set_option maxHeartbeats 8000000 in
theorem rnewnode_any {w0 w : World} (id : Nat) (hid : id < 2) (yb : Nat) (y : By) (lo : Int) (p : Option Addr) (cap : Nat) (l : List Rl) (hy : ∃ lv, RBy w yb y lv ∧ (y.cut = true → lv = y.left) ∧ lo ≤ lv ∧ lv ≤ 9223372036854775807) (hlo : -900000000 ≤ lo) (hB : y.B.length = 64) (hb0 : w0.heap.size ≤ yb) (bl : Below w0.heap.size w0 w) (R : Rul w p l) (hl : l.length ≤ 1000) (hp : l ≠ [] → ∀ a, p = some a → a.block < w0.heap.size) :
    Calls Tryz.prog 13 #[.int .i64 id, .pointer (some ⟨yb, 0, none⟩), .slice p l.length cap] w fun e w' => ((∃ n, n ≠ 0 ∧ n = (putE false y (newest y.B).e ((newest y.B).l + 1)).1 ∧ e = .returned (.tuple #[.pointer none, .int .i64 (n : Nat)])) ∨ ((putE false y (newest y.B).e ((newest y.B).l + 1)).1 = 0 ∧ ∃ r, e = .returned (.tuple #[.pointer (some ⟨r.nd, 0, none⟩), .int .i64 0]) ∧ r.yb = yb ∧ (∀ g ∈ r.all, g = yb ∨ w.heap.size ≤ g) ∧ RNd w0 w' r (No.new id y l) ⟨id, (newest y.B).e, 0, false⟩ (lo - 20) 0 0)) ∧ ChgL [yb] w w' := by
  obtain ⟨lv, hy1, hy2, hy3, hy4⟩ := hy
  have HY : Hid (RBy w yb y lv) := hy1
  have HL : Hid ((y.cut = true → lv = y.left) ∧ lo ≤ lv ∧ lv ≤ 9223372036854775807 ∧ -900000000 ≤ lo ∧ y.B.length = 64) := ⟨hy2, hy3, hy4, hlo, hB⟩
  have HB0 : Hid (w0.heap.size ≤ yb) := hb0
  have HBL : Hid (Below w0.heap.size w0 w) := bl
  have HR : Hid (Rul w p l) := R
  have HP : Hid (l.length ≤ 1000 ∧ (l ≠ [] → ∀ a, p = some a → a.block < w0.heap.size)) := ⟨hl, hp⟩
  clear hy1 hy2 hy3 hy4 hlo hB hb0 bl R hl hp
  obtain ⟨PE, hPE⟩ : ∃ PE, putE false y (newest y.B).e ((newest y.B).l + 1) = PE := ⟨_, rfl⟩
  have HPE : Hid (putE false y (newest y.B).e ((newest y.B).l + 1) = PE) := hPE
  simp only [hPE]
  clear hPE
  go_enter Tryz.func13, Tryz.ntmps13
  go_wp2_with fail
  refine (ropen_any yb y lv w HY.out HL.out.2.2.2.2).mono ?_
  rintro e w1 ⟨⟨rfl, c1⟩, hb1⟩
  have LY : Hid (yb < w.heap.size) := HY.out.lt
  have HCE : Hid (w.heap.size ≤ w.heap.size) := Nat.le_refl _
  have B1 : Hid (Below w.heap.size w w1) := hb1
  have Y1 : Hid (RBy w1 yb y lv) := HY.out.below hb1
  generalize hce : w.heap.size = ce at c1 HCE ⊢
  have C1 : Hid (RCe w1 ce yb (newest y.B) false) := c1
  have HCW : Hid (w.heap.size = ce) := hce
  clear c1 hb1 hce
  have e2 : w1.cell? ⟨ce, 2, none⟩ = some (.int .i64 (newest y.B).e) := (cell_of_row w1 ce _ _ _ _ C1.out).trans rfl
  have e3 : w1.cell? ⟨ce, 3, none⟩ = some (.int .i64 (newest y.B).l) := (cell_of_row w1 ce _ _ _ _ C1.out).trans rfl
  have hwr : IntKind.i64.wrap (((newest y.B).l : Int) + 1) = ((newest y.B).l : Int) + 1 := by have := (newest_lt y.B).2.2; rw [IntKind.wrap_i64]; omega
  go_wp2_with fail
  go_cut [9] (fun t wx => t = .int .i64 ((PE.1 : Nat) : Int) ∧ RS w1 wx yb ce PE.2.1 (newest PE.2.1.B) PE.2.2 (lo - 20))
  case first =>
    have R1 : Hid (RS w1 w1.drew yb ce y (newest y.B) false lo) := ⟨⟨lv, (Y1.out.below (Below.refl _ _).drew), HL.out.1, HL.out.2.1, HL.out.2.2.1⟩, (C1.out.below (Below.refl _ _).drew), by have := LY.out; have := HCW.out; omega, HL.out.2.2.2.2, Chg2.of (Below.refl _ _).drew⟩
    go_region_with (go_at_call 36; refine (rput_any R1.out rfl (newest y.B).e ((newest y.B).l + 1) HL.out.2.2.2.1).mono ?_; rintro e w2 ⟨rfl, n2⟩; rw [HPE.out] at n2; rw [HPE.out]; have N2 : Hid (RS w1 w2 yb ce PE.2.1 (newest PE.2.1.B) PE.2.2 (lo - 20)) := n2; clear n2)
    all_goals (go_wp2_with fail)
    all_goals go_meet
    all_goals exact ⟨rfl, N2.out⟩
  case rest =>
    obtain ⟨rfl, hr2⟩ := hcut
    have R2 : Hid (RS w1 wc yb ce PE.2.1 (newest PE.2.1.B) PE.2.2 (lo - 20)) := hr2
    have K2 : Hid (ChgL [yb] w wc) := (ChgL.of (l := [yb, ce]) B1.out |>.trans ⟨hr2.x.os, hr2.x.tape, hr2.x.output, hr2.x.size, fun k hk hn => hr2.x.block k hk (fun e => hn (by simp [e])) (fun e => hn (by simp [e]))⟩).mono (fun q hq => by simp at hq; rcases hq with rfl | rfl; exact Or.inl (by simp); exact Or.inr (by rw [HCW.out]; exact Nat.le_refl _))
    clear hr2 e2 e3 hwr C1 Y1
    by_cases hz : PE.1 = 0
    rotate_left
    · have hgt : (0 : Int) < ((PE.1 : Nat) : Int) := by omega
      have HZ : Hid (PE.1 ≠ 0) := hz
      clear hz
      obtain ⟨n, hn⟩ : ∃ n, PE.1 = n := ⟨_, rfl⟩
      have HNE : Hid (n = PE.1) := hn.symm
      rw [hn] at hgt HZ ⊢
      clear hn
      go_wp2_with fail
      go_ret2
      exact ⟨Or.inl ⟨n, HZ.out, HNE.out, rfl⟩, K2.out⟩
    · rw [hz]
      have HZ : Hid (PE.1 = 0) := hz
      clear hz
      go_wp2_with fail
      have HEP := putE_new (s := y) HL.out.2.2.2.2 (by rw [HPE.out]; exact HZ.out)
      rw [HPE.out] at HEP
      have HEQ : Hid ((newest PE.2.1.B).e = (newest y.B).e ∧ (newest PE.2.1.B).l = (newest y.B).l + 1 ∧ (newest y.B).e ≤ 1073741824) := HEP
      clear HEP
      obtain ⟨ep, hep⟩ : ∃ ep : Int, ((newest PE.2.1.B).e : Int) = ep := ⟨_, rfl⟩
      have HEE : Hid (((newest PE.2.1.B).e : Int) = ep) := hep
      have hS : wc.drew.cell? ⟨ce, 2, none⟩ = some (.int .i64 ep) := by rw [← hep]; exact (cell_of_row wc ce _ _ _ _ R2.out.c).trans rfl
      clear hep
      obtain ⟨wb, rfl⟩ : ∃ wb, wb = wc := ⟨_, rfl⟩
      go_cut [10] (fun t wx => NewR wb wx id ce ep (.slice p l.length cap) t)
      case first =>
        go_region_held3 (fun w' => w'.cell? ⟨ce, 2, none⟩ = some (.int .i64 ep))
          (first | exact hS | assumption | exact tk (aB _ _) (by assumption))
          (first
            | (go_at_call 37; refine (newR_any id _ hid).mono ?_; rintro e w3 ⟨⟨tb, tg, tc, rfl, h31, h32, t3⟩, b3⟩; have s3 : w3.cell? ⟨ce, 2, none⟩ = some (.int .i64 ep) := tk b3 (by assumption))
            | (go_at_call 38; refine (empty_any _).mono ?_; rintro e w4 ⟨⟨mg, mc, rfl, h41, t4⟩, b4⟩; have s4 : w4.cell? ⟨ce, 2, none⟩ = some (.int .i64 ep) := tk b4 (by assumption)))
        all_goals
          have l1 := tlt t3.c0
          have l2 := t3.sl.lt
          have l3 := t4.lt
          have l4 := b3.size
          have l5 := b4.size
          simp only [World.drew, World.size_alloc] at l1 l2 l3 l4 l5 h31 h32 h41
        · have t3' := t3.below b4
          have hro := (((RRol.new wb id ep).below (Below.refl _ _).drew).below b3).below b4
          have k1 := aB w4 (.cells #[.int .i64 0, .slice (some ⟨mg, 0, none⟩) 32 mc] 103)
          have k2 := aB (w4.alloc (.cells #[.int .i64 0, .slice (some ⟨mg, 0, none⟩) 32 mc] 103)) (.cells #[.int .i64 id, .int .i64 0, .pointer (some ⟨ce, 0, none⟩), .pointer (some ⟨wb.heap.size, 0, none⟩), .pointer (some ⟨tb, 0, none⟩), .pointer none, .pointer (some ⟨w4.heap.size, 0, none⟩), .slice p l.length cap] 106)
          have hnd := heap_alloc_new (w4.alloc (.cells #[.int .i64 0, .slice (some ⟨mg, 0, none⟩) 32 mc] 103)) (.cells #[.int .i64 id, .int .i64 0, .pointer (some ⟨ce, 0, none⟩), .pointer (some ⟨wb.heap.size, 0, none⟩), .pointer (some ⟨tb, 0, none⟩), .pointer none, .pointer (some ⟨w4.heap.size, 0, none⟩), .slice p l.length cap] 106)
          simp only [World.size_alloc] at hnd
          have hw4 : Below wb.heap.size wb w4 := t2 (t2 (t2 (aB _ _) (Below.refl _ _).drew) b3) b4
          clear b3 b4 t3 hS s3 s4
          go_wp2_with fail
          go_meet
          case rel => exact NewR.mk hnd ((hro.below k1).below k2) ((t3'.below k1).below k2) ((RMir.new t4).below k2) (t2 (t2 hw4 k1) k2) (by omega) (by omega)
        · have t3' := (t3.below (aB _ _)).below b4
          have hro := (RRol.new w3 id ep).below b4
          have k1 := aB w4 (.cells #[.int .i64 0, .slice (some ⟨mg, 0, none⟩) 32 mc] 103)
          have k2 := aB (w4.alloc (.cells #[.int .i64 0, .slice (some ⟨mg, 0, none⟩) 32 mc] 103)) (.cells #[.int .i64 id, .int .i64 0, .pointer (some ⟨ce, 0, none⟩), .pointer (some ⟨w3.heap.size, 0, none⟩), .pointer (some ⟨tb, 0, none⟩), .pointer none, .pointer (some ⟨w4.heap.size, 0, none⟩), .slice p l.length cap] 106)
          have hnd := heap_alloc_new (w4.alloc (.cells #[.int .i64 0, .slice (some ⟨mg, 0, none⟩) 32 mc] 103)) (.cells #[.int .i64 id, .int .i64 0, .pointer (some ⟨ce, 0, none⟩), .pointer (some ⟨w3.heap.size, 0, none⟩), .pointer (some ⟨tb, 0, none⟩), .pointer none, .pointer (some ⟨w4.heap.size, 0, none⟩), .slice p l.length cap] 106)
          simp only [World.size_alloc] at hnd
          have hw4 : Below wb.heap.size wb w4 := t2 (t2 (t2 (Below.refl _ _).drew b3) (aB _ _)) b4
          clear b3 b4 t3 hS s3 s4
          go_wp2_with fail
          go_meet
          case rel => exact NewR.mk hnd ((hro.below k1).below k2) ((t3'.below k1).below k2) ((RMir.new t4).below k2) (t2 (t2 hw4 k1) k2) (by omega) (by omega)
        · have t3' := t3.below b4
          have k0 := aB w4 (.cells #[.int .i64 id, .int .i64 ep, .int .i64 0, .bool false] 97)
          have k1 := aB (w4.alloc (.cells #[.int .i64 id, .int .i64 ep, .int .i64 0, .bool false] 97)) (.cells #[.int .i64 0, .slice (some ⟨mg, 0, none⟩) 32 mc] 103)
          have k2 := aB ((w4.alloc (.cells #[.int .i64 id, .int .i64 ep, .int .i64 0, .bool false] 97)).alloc (.cells #[.int .i64 0, .slice (some ⟨mg, 0, none⟩) 32 mc] 103)) (.cells #[.int .i64 id, .int .i64 0, .pointer (some ⟨ce, 0, none⟩), .pointer (some ⟨w4.heap.size, 0, none⟩), .pointer (some ⟨tb, 0, none⟩), .pointer none, .pointer (some ⟨w4.heap.size + 1, 0, none⟩), .slice p l.length cap] 106)
          have hro := RRol.new w4 id ep
          have hmi := RMir.new (cap := mc) (t4.below k0)
          have hnd := heap_alloc_new ((w4.alloc (.cells #[.int .i64 id, .int .i64 ep, .int .i64 0, .bool false] 97)).alloc (.cells #[.int .i64 0, .slice (some ⟨mg, 0, none⟩) 32 mc] 103)) (.cells #[.int .i64 id, .int .i64 0, .pointer (some ⟨ce, 0, none⟩), .pointer (some ⟨w4.heap.size, 0, none⟩), .pointer (some ⟨tb, 0, none⟩), .pointer none, .pointer (some ⟨w4.heap.size + 1, 0, none⟩), .slice p l.length cap] 106)
          simp only [World.size_alloc] at hnd hmi
          have hw4 : Below wb.heap.size wb w4 := t2 (t2 (Below.refl _ _).drew b3) b4
          clear b3 b4 t3 hS s3 s4
          go_wp2_with fail
          go_meet
          case rel => exact NewR.mk hnd ((hro.below k1).below k2) (((t3'.below k0).below k1).below k2) (hmi.below k2) (t2 (t2 (t2 hw4 k0) k1) k2) (by omega) (by omega)
        · have t3' := t3.below b4
          have k0 := aB w4 (.cells #[.int .i64 0, .slice (some ⟨mg, 0, none⟩) 32 mc] 103)
          have k1 := aB (w4.alloc (.cells #[.int .i64 0, .slice (some ⟨mg, 0, none⟩) 32 mc] 103)) (.cells #[.int .i64 id, .int .i64 ep, .int .i64 0, .bool false] 97)
          have k2 := aB ((w4.alloc (.cells #[.int .i64 0, .slice (some ⟨mg, 0, none⟩) 32 mc] 103)).alloc (.cells #[.int .i64 id, .int .i64 ep, .int .i64 0, .bool false] 97)) (.cells #[.int .i64 id, .int .i64 0, .pointer (some ⟨ce, 0, none⟩), .pointer (some ⟨w4.heap.size + 1, 0, none⟩), .pointer (some ⟨tb, 0, none⟩), .pointer none, .pointer (some ⟨w4.heap.size, 0, none⟩), .slice p l.length cap] 106)
          have hro := RRol.new (w4.alloc (.cells #[.int .i64 0, .slice (some ⟨mg, 0, none⟩) 32 mc] 103)) id ep
          have hmi := RMir.new (cap := mc) t4
          have hnd := heap_alloc_new ((w4.alloc (.cells #[.int .i64 0, .slice (some ⟨mg, 0, none⟩) 32 mc] 103)).alloc (.cells #[.int .i64 id, .int .i64 ep, .int .i64 0, .bool false] 97)) (.cells #[.int .i64 id, .int .i64 0, .pointer (some ⟨ce, 0, none⟩), .pointer (some ⟨w4.heap.size + 1, 0, none⟩), .pointer (some ⟨tb, 0, none⟩), .pointer none, .pointer (some ⟨w4.heap.size, 0, none⟩), .slice p l.length cap] 106)
          simp only [World.size_alloc] at hnd hro
          have hw4 : Below wb.heap.size wb w4 := t2 (t2 (Below.refl _ _).drew b3) b4
          clear b3 b4 t3 hS s3 s4
          go_wp2_with fail
          go_meet
          case rel => exact NewR.mk hnd (hro.below k2) (((t3'.below k0).below k1).below k2) ((hmi.below k1).below k2) (t2 (t2 (t2 hw4 k0) k1) k2) (by omega) (by omega)
      case rest =>
        have HN : Hid (NewR wb wc id ce ep (.slice p l.length cap) u10) := hcut
        clear hcut hS
        obtain ⟨nd, ro, tb, tg, tc, mi, mg, mc, rfl, hnd, hro, htb, hmi, hbx, hge, hds⟩ := HN.out
        have T3 : Hid (RTab wc tb tg tc (2000 + (id : Int) * 24) newT) := htb
        have c4 : wc.cell? ⟨nd, 4, none⟩ = some (.pointer (some ⟨tb, 0, none⟩)) := (cell_of_row _ _ _ _ _ _ hnd).trans rfl
        have c5 : wc.cell? ⟨nd, 5, none⟩ = some (.pointer none) := (cell_of_row _ _ _ _ _ _ hnd).trans rfl
        have f5 : wc.frozen? ⟨nd, 5, none⟩ = false := frozen_of_row _ _ _ _ _ hnd
        have G3 : Hid (_ ∧ _ ∧ _ ∧ _ ∧ _ ∧ _) := ⟨hnd, hro, hmi, hbx, hge, hds⟩
        clear hnd hro htb hmi hbx hge hds HN
        go_wp2_with fail
        refine (rnew_any tb wc).mono ?_
        rintro e w6 ⟨⟨te, th, rfl, hte, hth, ht6⟩, hb6⟩
        have T6 : Hid (RTel w6 te tb th (fun _ => 0) 0 ∧ wc.heap.size ≤ te ∧ wc.heap.size ≤ th ∧ te < w6.heap.size ∧ th < w6.heap.size) := ⟨ht6, hte, hth, tlt ht6.c0, ht6.a.lt⟩
        have B6 : Hid (Below wc.heap.size wc w6) := hb6
        have c5' := tk hb6 c5
        have f5' : w6.frozen? ⟨nd, 5, none⟩ = false := (frozen_of_block (hb6.block nd (tlt c4))).trans f5
        clear hte hth ht6 hb6 c5 f5 c4
        go_wp2_with fail
        go_ret2
        obtain ⟨g1, g2, g4, g5, g6, g7⟩ := G3.out
        have n1 := tlt T3.out.c0
        have n2 := T3.out.sl.lt
        have n3 := g2.lt
        have n4 := tlt g4.c0
        have n5 := g4.sl.lt
        have n6 : nd < wc.heap.size := tlt ((cell_of_row wc nd 0 _ _ _ g1).trans rfl : wc.cell? ⟨nd, 0, none⟩ = some (.int .i64 id))
        have n7 := R2.out.c.lt
        obtain ⟨lv', y1, y2⟩ := R2.out.r
        have n8 := y1.lt
        have n9 := R2.out.ne
        have n10 := K2.out.size
        have n11 := HBL.out.size
        have n12 := HB0.out
        have n13 := HCW.out
        have n14 := T6.out
        have n15 := T6.out.1.ne
        have n16 := T3.out.ne
        have n17 := g4.ne
        have n18 := B6.out.size
        have n19 := g5.size
        simp only at n1 n4
        have hdd : (nd ≠ ro ∧ nd ≠ tb ∧ nd ≠ tg ∧ nd ≠ mi ∧ nd ≠ mg) ∧ (ro ≠ tb ∧ ro ≠ tg ∧ ro ≠ mi ∧ ro ≠ mg) ∧ (tb ≠ mi ∧ tb ≠ mg) ∧ (tg ≠ mi ∧ tg ≠ mg) := by
          simp only [List.nodup_cons, List.mem_cons, List.not_mem_nil, or_false, not_or, not_false_eq_true, List.nodup_nil, and_true] at g7
          omega
        have cS : Chg nd w6 (w6.setCell ⟨nd, 5, none⟩ (.pointer (some ⟨te, 0, none⟩))) := Chg.set _ _ _ _
        have h6 := (B6.out.block nd n6).trans g1
        have hW : (w6.setCell ⟨nd, 5, none⟩ (.pointer (some ⟨te, 0, none⟩))).heap[nd]? = some (.cells #[.int .i64 id, .int .i64 0, .pointer (some ⟨ce, 0, none⟩), .pointer (some ⟨ro, 0, none⟩), .pointer (some ⟨tb, 0, none⟩), .pointer (some ⟨te, 0, none⟩), .pointer (some ⟨mi, 0, none⟩), .slice p l.length cap] 106 (0, 0)) := by
          rw [heap_setCell_same w6 nd _ _ _ _ h6]
          rfl
        have hBW : Below wb.heap.size wb (w6.setCell ⟨nd, 5, none⟩ (.pointer (some ⟨te, 0, none⟩))) := Chg.below (t2 g5 B6.out) cS (by omega)
        have KW : ChgL [yb] w (w6.setCell ⟨nd, 5, none⟩ (.pointer (some ⟨te, 0, none⟩))) := K2.out.then hBW
        have RW := R2.out.below hBW
        have hro := (g2.below B6.out).chg cS (by omega)
        have htb := (T3.out.below B6.out).chg cS (by omega) (by omega)
        have hmi := (g4.below B6.out).keptB (cS.block mi (by omega) (by omega)) (cS.block mg (by omega) (by omega))
        have hte := T6.out.1.keptB (cS.block te (by omega) (by omega)) (cS.block th (by omega) (by omega))
        generalize w6.setCell ⟨nd, 5, none⟩ (.pointer (some ⟨te, 0, none⟩)) = W at *
        have hy : (No.new id y l).y = PE.2.1 := by show (putE false y (newest y.B).e ((newest y.B).l + 1)).2.1 = _; rw [HPE.out]
        have hoff : PE.2.2 = false := by rw [← HPE.out]; exact putE_off (by rw [HPE.out]; exact HZ.out)
        have hep : ep = ((newest y.B).e : Int) := by rw [← HEE.out, HEQ.out.1]
        refine ⟨Or.inr ⟨HZ.out, ⟨nd, ce, yb, ro, tb, tg, te, th, mi, mg, tc, mc, p, cap⟩, rfl, rfl, fun g hg => by simp only [RBk.all, List.mem_cons, List.not_mem_nil, or_false] at hg; omega, ?_⟩, KW⟩
        exact {
          nd := ⟨(cell_of_row W nd _ _ _ _ hW).trans rfl, (cell_of_row W nd _ _ _ _ hW).trans rfl, (cell_of_row W nd _ _ _ _ hW).trans rfl, (cell_of_row W nd _ _ _ _ hW).trans rfl, (cell_of_row W nd _ _ _ _ hW).trans rfl, (cell_of_row W nd _ _ _ _ hW).trans rfl, (cell_of_row W nd _ _ _ _ hW).trans rfl, (cell_of_row W nd _ _ _ _ hW).trans rfl, fun j _ => frozen_of_row _ _ _ _ _ hW⟩
          ro := by rw [← hep]; exact hro
          sm := Sam.new (by omega) (by omega) (by have := HEQ.out.2.2; omega)
          yb := by rw [hy]; exact RW.r
          ce := by rw [hy, show (No.new id y l).off = PE.2.2 from hoff.symm]; exact RW.c
          lf := by rw [hy, HEQ.out.2.1]; show ((newest y.B).l : Int) + 1 = _; omega
          len := by rw [hy]; exact RW.len
          tb := htb
          vs := Vers.new
          te := hte
          cu := by show 0 < 32; omega
          mi := hmi
          ru := HR.out.kept (fun hne a ha => by
            have := HP.out.2 hne a ha
            exact KW.block _ (by omega) (by simp; omega))
          rl := HP.out.1
          rb := HP.out.2
          ds := by
            simp only [RBk.all, List.nodup_cons, List.mem_cons, List.not_mem_nil, or_false, not_or, not_false_eq_true, List.nodup_nil, and_true]
            omega
          g0 := fun g hg => by simp only [RBk.all, List.mem_cons, List.not_mem_nil, or_false] at hg; omega
          id := by show (id : Int) = 0 ∨ (id : Int) = 1; omega
          bl := ChgL.below HBL.out KW (fun g hg => by simp at hg; omega) }
end Go.Proofs.YtifjoboaolpejaaGreatDoor
