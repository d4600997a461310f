/-
  Texts in one: NoTb MiK NaB NaE.
-/
import Derived.Test.YtifjoboaolpejaaGreatDoorNoB
import Derived.Test.YtifjoboaolpejaaGreatDoorKd
import Derived.Test.YtifjoboaolpejaaGreatDoorKf
import Derived.Test.YtifjoboaolpejaaGreatDoorLg
import Derived.Test.YtifjoboaolpejaaGreatDoorLa
import Derived.Deep.QuietTactic
import Derived.Test.YtifjoboaolpejaaGreatDoorKj
import Derived.Test.YtifjoboaolpejaaGreatDoorNoG
namespace Go.Proofs.YtifjoboaolpejaaGreatDoor
open Go.RowKit

set_option maxRecDepth 100000 in
theorem table_nd {w0 w : World} {k : Bk} {x : No} {m n : Nat} (h : Nd w0 w k x m n) :
    Calls Tryz.prog 54 #[.pointer (some ⟨k.nd, 0, none⟩)] w fun e w' => (∃ Z, e = .returned (.slice (some ⟨Z, 0, none⟩) 32 32) ∧ CellsB w' Z x.T ∧ w.heap.size ≤ Z) ∧ Below w.heap.size w w' := by
  have HN : Hid (Nd w0 w k x m n) := h
  have c := h.c6
  have t := h.t0
  clear h
  go_enter Tryz.func54, Tryz.ntmps54
  go_wp2_with fail
  refine (cells_any k.tb x.low x.T w HN.out.tb).mono ?_
  rintro e w1 ⟨rfl, cb, b1⟩
  have CB : Hid (CellsB w1 w.heap.size x.T) := cb
  have B1 : Hid (Below w.heap.size w w1) := b1
  clear cb b1
  go_wp2_with fail
  go_ret
  exact ⟨⟨_, rfl, CB.out, Nat.le_refl _⟩, B1.out⟩
end Go.Proofs.YtifjoboaolpejaaGreatDoor

namespace Go.Proofs.YtifjoboaolpejaaGreatDoor
open Go.RowKit

set_option maxRecDepth 100000 in
set_option maxHeartbeats 2000000 in
theorem mcells_any (b : Nat) (life : Int) (T : Tb) (w : World) (t : Mir w b life T) :
    Calls Tryz.prog 97 #[.pointer (some ⟨b, 0, none⟩)] w fun e w' => e = .returned (.slice (some ⟨w.heap.size, 0, none⟩) 32 32) ∧ CellsB w' w.heap.size T ∧ Below w.heap.size w w' := by
  have hld := mir_load t
  have hz := zero_slots
  have HO : Hid ((slotsArr T).all (·.oneCell') = true) := slots_one T
  clear t
  go_enter Tryz.func97, Tryz.ntmps97
  go_wp2_with (first | refine wpList_load_at rfl 139 _ rfl _ _ rfl hld ?_ | refine wpList_store_row rfl 139 _ _ rfl w.heap.size (slotsArr T) rfl rfl 139 _ (heap_alloc_new w _) (slots_info T) (by rw [slotsArr_size]; first | rfl | simp) HO.out ?_)
  rw [World.setRow_alloc_new]
  go_ret
  exact ⟨rfl, heap_alloc_new w _, (Below.refl _ _).alloc (Nat.le_refl _) _⟩
end Go.Proofs.YtifjoboaolpejaaGreatDoor

namespace Go.Proofs.YtifjoboaolpejaaGreatDoor
open Go.RowKit

theorem lifeN_nd {w0 w : World} {k : Bk} {x : No} {m n : Nat} (h : Nd w0 w k x m n) :
    Calls Tryz.prog 17 #[.pointer (some ⟨k.nd, 0, none⟩)] w fun e w' => e = .returned (.int .i64 x.life) ∧ w' = w := by
  have c := h.c2
  clear h
  go_enter Tryz.func17, Tryz.ntmps17
  go_wp2_with fail
  go_ret
  exact ⟨rfl, rfl⟩
theorem nowN_nd {w0 w : World} {k : Bk} {x : No} {m n : Nat} (h : Nd w0 w k x m n) :
    Calls Tryz.prog 21 #[.pointer (some ⟨k.nd, 0, none⟩)] w fun e w' => e = .returned (.int .i64 x.now) ∧ w' = w := by
  have c := h.c3
  clear h
  go_enter Tryz.func21, Tryz.ntmps21
  go_wp2_with fail
  go_ret
  exact ⟨rfl, rfl⟩
theorem mirrorN_nd {w0 w : World} {k : Bk} {x : No} {m n : Nat} (h : Nd w0 w k x m n) :
    Calls Tryz.prog 55 #[.pointer (some ⟨k.nd, 0, none⟩)] w fun e w' => (∃ Z, e = .returned (.slice (some ⟨Z, 0, none⟩) 32 32) ∧ CellsB w' Z x.mt) ∧ Below w.heap.size w w' := by
  have HN : Hid (Nd w0 w k x m n) := h
  have c := h.c7
  clear h
  go_enter Tryz.func55, Tryz.ntmps55
  go_wp2_with fail
  refine (mcells_any k.mi x.ml x.mt w HN.out.mi).mono ?_
  rintro e w1 ⟨rfl, cb, b1⟩
  have CB : Hid (CellsB w1 w.heap.size x.mt ∧ Below w.heap.size w w1) := ⟨cb, b1⟩
  clear cb b1
  go_wp2_with fail
  go_ret
  exact ⟨⟨_, rfl, CB.out.1⟩, CB.out.2⟩
set_option maxRecDepth 100000 in
set_option maxHeartbeats 4000000 in
theorem asnode_any {w0 w : World} {k : Bk} {r : RBk} {x : No} {j i : Nat} (h : NB w0 w k r x j x i) :
    Calls Tryz.prog 15 #[.pointer (some ⟨k.nd, 0, none⟩), .pointer (some ⟨r.nd, 0, none⟩)] w fun e w' => e = .returned (.int .i64 1) ∧ Below w.heap.size w w' := by
  have HN : Hid (NB w0 w k r x j x i) := h
  obtain ⟨n, _, a⟩ := h.p
  obtain ⟨q, lo, _, _, d⟩ := h.d
  have HA : Hid (Nd w0 w k x (33 * j) n) := a
  have HD : Hid (RNd w0 w r x q lo i (33 * i)) := d
  have c0 := a.c0
  have b3 := d.nd.b3
  have b2 := d.nd.b2
  have b1 := d.nd.b1
  have l3 := d.lifeC
  have a3 := d.ro.c3
  have a1 := d.ro.c1
  rw [d.sm.ac] at a3
  rw [d.sm.ep] at a1
  have b4 := d.nd.b4
  have b6 := d.nd.b6
  have t1 := d.tb.c1
  have m1 := d.mi.c1
  have A0 : Hid (∀ nq, Calls Tryz.prog 18 #[.pointer (some ⟨k.ro, 0, none⟩)] (w.drewN nq) fun e w' => e = .returned (.bool x.ro.ac) ∧ w' = w.drewN nq) := fun nq => active_any k.ro _ _ (a.below ⟨rfl, rfl, rfl, Nat.le_refl _, fun _ _ => rfl⟩).ro
  have A1 : Hid (∀ nq, Calls Tryz.prog 20 #[.pointer (some ⟨k.ro, 0, none⟩)] (w.drewN nq) fun e w' => e = .returned (.int .i64 x.ro.ep) ∧ w' = w.drewN nq) := fun nq => epochR_any k.ro _ _ (a.below ⟨rfl, rfl, rfl, Nat.le_refl _, fun _ _ => rfl⟩).ro
  have A2 : Hid (∀ nq, Calls Tryz.prog 17 #[.pointer (some ⟨k.nd, 0, none⟩)] (w.drewN nq) fun e w' => e = .returned (.int .i64 x.life) ∧ w' = w.drewN nq) := fun nq => lifeN_nd (a.below ⟨rfl, rfl, rfl, Nat.le_refl _, fun _ _ => rfl⟩)
  have A3 : Hid (∀ nq, Calls Tryz.prog 21 #[.pointer (some ⟨k.nd, 0, none⟩)] (w.drewN nq) fun e w' => e = .returned (.int .i64 x.now) ∧ w' = w.drewN nq) := fun nq => nowN_nd (a.below ⟨rfl, rfl, rfl, Nat.le_refl _, fun _ _ => rfl⟩)
  clear h a d
  generalize hac : x.ro.ac = ac at a3 A0
  have hbb : (ac != ac) = false := bne_self_eq_false _
  have hcd : decide (ac = ac) = true := decide_eq_true rfl
  go_enter Tryz.func15, Tryz.ntmps15
  go_wp2_with fail
  go_quiet (first | (with_reducible exact Calls.quiet_of_same (A0.out _)) | (with_reducible exact Calls.quiet_of_same (A1.out _)) | (with_reducible exact Calls.quiet_of_same (A2.out _)) | (with_reducible exact Calls.quiet_of_same (A3.out _)))
  have B1 : Hid (Below w.heap.size w (w.drewN nq)) := ⟨rfl, rfl, rfl, Nat.le_refl _, fun _ _ => rfl⟩
  generalize w.drewN nq = w1 at *
  clear A0 A1 A2 A3
  go_wp2_with fail
  have hS : w1.drew.cell? ⟨r.nd, 4, none⟩ = some (.pointer (some ⟨r.tb, 0, none⟩)) ∧ w1.drew.cell? ⟨r.tb, 1, none⟩ = some (.slice (some ⟨r.tg, 0, none⟩) 32 r.tc) ∧ w1.drew.cell? ⟨r.nd, 6, none⟩ = some (.pointer (some ⟨r.mi, 0, none⟩)) ∧ w1.drew.cell? ⟨r.mi, 1, none⟩ = some (.slice (some ⟨r.mg, 0, none⟩) 32 r.mc) := ⟨tk B1.out b4, tk B1.out t1, tk B1.out b6, tk B1.out m1⟩
  have B2 : Hid (Below w.heap.size w w1.drew) := B1.out.drew
  have HS : Hid (∀ u, Below w.heap.size w u → (u.cell? ⟨r.nd, 4, none⟩ = some (.pointer (some ⟨r.tb, 0, none⟩)) ∧ u.cell? ⟨r.tb, 1, none⟩ = some (.slice (some ⟨r.tg, 0, none⟩) 32 r.tc) ∧ u.cell? ⟨r.nd, 6, none⟩ = some (.pointer (some ⟨r.mi, 0, none⟩)) ∧ u.cell? ⟨r.mi, 1, none⟩ = some (.slice (some ⟨r.mg, 0, none⟩) 32 r.mc))) := fun u hu => ⟨tk hu b4, tk hu t1, tk hu b6, tk hu m1⟩
  clear b1 b2 b3 b4 b6 t1 m1 l3 a1 a3 c0
  go_region_held3 (fun w' => w'.cell? ⟨r.nd, 4, none⟩ = some (.pointer (some ⟨r.tb, 0, none⟩)) ∧ w'.cell? ⟨r.tb, 1, none⟩ = some (.slice (some ⟨r.tg, 0, none⟩) 32 r.tc) ∧ w'.cell? ⟨r.nd, 6, none⟩ = some (.pointer (some ⟨r.mi, 0, none⟩)) ∧ w'.cell? ⟨r.mi, 1, none⟩ = some (.slice (some ⟨r.mg, 0, none⟩) 32 r.mc))
    (first | exact hS | exact HS.out _ B3.out | exact HS.out _ B4.out | exact HS.out _ B5.out | exact HS.out _ B6.out)
    (first
      | (go_at_call 54; refine (table_nd (HA.out.below B2.out)).mono ?_; rintro e w3 ⟨⟨Z, rfl, cz, _⟩, b3⟩; have C3 : Hid (CellsB w3 Z x.T) := cz; have B3 : Hid (Below w.heap.size w w3) := t2 B2.out b3; have A3 : Hid (Calls Tryz.prog 53 #[.slice (some ⟨Z, 0, none⟩) 32 32, .slice (some ⟨r.tg, 0, none⟩) 32 r.tc] w3 fun e w' => e = .returned (.bool true) ∧ Below w3.heap.size w3 w') := sameC_any Z r.tg _ _ x.T w3 C3.out.sl (HD.out.below B3.out).tb.sl; clear cz b3)
      | (go_at_call 53; refine A3.out.mono ?_; clear A3; rintro e w4 ⟨rfl, b4⟩; have B4 : Hid (Below w.heap.size w w4) := t2 B3.out b4; clear b4)
      | (go_at_call 55; refine (mirrorN_nd (HA.out.below B4.out)).mono ?_; rintro e w5 ⟨⟨Y, rfl, cy⟩, b5⟩; have C5 : Hid (CellsB w5 Y x.mt) := cy; have B5 : Hid (Below w.heap.size w w5) := t2 B4.out b5; have A5 : Hid (Calls Tryz.prog 53 #[.slice (some ⟨Y, 0, none⟩) 32 32, .slice (some ⟨r.mg, 0, none⟩) 32 r.mc] w5 fun e w' => e = .returned (.bool true) ∧ Below w5.heap.size w5 w') := sameC_any Y r.mg _ _ x.mt w5 C5.out.sl (HD.out.below B5.out).mi.sl; clear cy b5)
      | (go_at_call 53; refine A5.out.mono ?_; clear A5; rintro e w6 ⟨rfl, b6⟩; have B6 : Hid (Below w.heap.size w w6) := t2 B5.out b6; clear b6))
  go_wp2_with fail
  go_ret
  exact ⟨rfl, B6.out⟩
end Go.Proofs.YtifjoboaolpejaaGreatDoor

namespace Go.Proofs.YtifjoboaolpejaaGreatDoor
open Go.RowKit

/-- no such node. -/
theorem new_badid {w : World} {s : Nat → Addr} (S : SeM w s) (id : Int) (h0 : id ≠ 0) (h1 : id ≠ 1) (b : Nat) (v : Value) :
    Calls Tryz.prog 8 #[.int .i64 id, .pointer (some ⟨b, 0, none⟩), v] w fun e w' => e = .returned (.tuple #[.pointer none, terr s 2]) ∧ Below w.heap.size w w' := by
  have HS : Hid (SeM w s) := S
  have HI : Hid (id ≠ 0 ∧ id ≠ 1) := ⟨h0, h1⟩
  clear S h0 h1
  go_enter Tryz.func8, Tryz.ntmps8
  go_wp2_with fail
  refine (new_bad id s w HS.out.s4 HI.out.1 HI.out.2).mono ?_
  rintro e w1 ⟨rfl, hb⟩
  have B1 : Hid (Below w.heap.size w w1) := hb
  clear hb
  simp only [terr]
  go_wp2_with fail
  go_ret2
  exact ⟨rfl, B1.out⟩
/-- rules that are none. -/
theorem new_badru {w : World} {s : Nat → Addr} (S : SeM w s) (id : Nat) (hid : id < 2) (b : Nat) (v : Value) (l : List Rl) (R : Sl w v l) (hl : l.length ≤ 1000) (hr : ¬ RulesOk l) :
    Calls Tryz.prog 8 #[.int .i64 id, .pointer (some ⟨b, 0, none⟩), v] w fun e w' => (∃ u, e = .returned (.tuple #[.pointer none, u]) ∧ ChkV s w' l u) ∧ Below w.heap.size w w' := by
  have HS : Hid (SeM w s) := S
  have HR : Hid (¬ RulesOk l ∧ l.length ≤ 1000) := ⟨hr, hl⟩
  obtain ⟨p, cap, rfl, hru⟩ := R.open
  have HRU : Hid (Rul w p l) := hru
  clear S R hr hru hl
  go_enter Tryz.func8, Tryz.ntmps8
  go_wp2_with fail
  refine (new_ok id w hid).mono ?_
  rintro e w1 ⟨tb, rfl, _, _, hb1⟩
  have B1 : Hid (Below w.heap.size w w1) := hb1
  clear hb1
  go_wp2_with fail
  refine (pcheck_any p l cap s w1 (HS.out.below B1.out).n.sn (HRU.out.keep (fun a v hc => tk B1.out hc)) (by have := HR.out.2; omega)).mono ?_
  rintro e w2 ⟨⟨v2, rfl, hv⟩, hb2⟩
  have HV : Hid (ChkV s w2 l v2) := hv
  have B2 : Hid (Below w.heap.size w w2) := t2 B1.out hb2
  have hcase : (∃ a, v2 = .iface 265 a) ∨ ∃ a, v2 = .iface 143 a := by
    rcases hv with ⟨_, e⟩ | ⟨h1, h2, _⟩ | ⟨_, i, g, _, e, _⟩
    · exact Or.inl ⟨_, e⟩
    · exact absurd ⟨h1, h2⟩ HR.out.1
    · exact Or.inr ⟨_, e⟩
  clear hv hb2 B1
  rcases hcase with ⟨a, rfl⟩ | ⟨a, rfl⟩
  all_goals
    go_wp2_with fail
    go_ret2
    exact ⟨⟨_, rfl, HV.out⟩, B2.out⟩
set_option maxRecDepth 100000 in
set_option maxHeartbeats 4000000 in
/-- bytes that take no new life. -/
theorem new_badce {w0 w : World} {s : Nat → Addr} (S : SeM w0 s) (id b : Nat) (hid : id < 2) (y : By) (v : Value) (l : List Rl) (Y : Byt w b y) (hb : w0.heap.size ≤ b) (bl : Below w0.heap.size w0 w) (hf : y.left ≤ 9223372036854775807) (R : Sl w v l) (hr : RulesOk l) (hon : y.on = true) (hpu : (putE false y (newest y.B).e ((newest y.B).l + 1)).1 ≠ 0) :
    Calls Tryz.prog 8 #[.int .i64 id, .pointer (some ⟨b, 0, none⟩), v] w fun e w' => e = .returned (.tuple #[.pointer none, terr s (putE false y (newest y.B).e ((newest y.B).l + 1)).1]) ∧ ChgL [b] w w' := by
  have HS : Hid (SeM w0 s) := S
  have HY : Hid (Byt w b y) := Y
  have HB0 : Hid (w0.heap.size ≤ b) := hb
  have HBL : Hid (Below w0.heap.size w0 w) := bl
  have HF : Hid (y.left ≤ 9223372036854775807) := hf
  have HK : Hid (RulesOk l ∧ y.on = true ∧ id < 2) := ⟨hr, hon, hid⟩
  obtain ⟨PE, hPE⟩ : ∃ PE, putE false y (newest y.B).e ((newest y.B).l + 1) = PE := ⟨_, rfl⟩
  have HPE : Hid (putE false y (newest y.B).e ((newest y.B).l + 1) = PE) := hPE
  have HPU : Hid (PE.1 ≠ 0) := by show _ ≠ _; rw [← hPE]; exact hpu
  simp only [hPE]
  obtain ⟨p, cap, rfl, hru⟩ := R.open
  have HRU : Hid (Rul w p l) := hru
  clear S Y hb bl hf R hru hr hon hpu hPE hid
  have HID : Hid ((id : Int) = 0 ∨ (id : Int) = 1) := (by have := HK.out.2.2; omega : (id : Int) = 0 ∨ (id : Int) = 1)
  go_enter Tryz.func8, Tryz.ntmps8
  go_wp2_with fail
  refine (new_ok id w HK.out.2.2).mono ?_
  rintro e w1 ⟨tb, rfl, _, _, hb1⟩
  have B1 : Hid (Below w.heap.size w w1) := hb1
  clear hb1
  go_wp2_with fail
  refine (pcheck_any p l cap s w1 (HS.out.below (t2 HBL.out B1.out)).n.sn (HRU.out.keep (fun a v hc => tk B1.out hc)) (by have := HK.out.1.1; omega)).mono ?_
  rintro e w2 ⟨⟨v2, rfl, hv⟩, hb2⟩
  obtain rfl := chk_ok HK.out.1 hv
  have B2 : Hid (Below w.heap.size w w2) := t2 B1.out hb2
  clear hv hb2 B1
  go_wp2_with fail
  refine (open_ok b y w2 (HY.out.below B2.out) HK.out.2.1).mono ?_
  rintro e w3 ⟨⟨rfl, c3⟩, hb3⟩
  have B3 : Hid (Below w.heap.size w w3) := t2 B2.out hb3
  have HS2 : Hid (w.heap.size ≤ w2.heap.size) := B2.out.size
  generalize w2.heap.size = ce at *
  have C3 : Hid (Cel w3 ce b false) := c3
  clear c3 hb3 B2
  go_wp2_with fail
  refine (epoch_any ce b false y w3 C3.out (HY.out.below B3.out)).mono ?_
  rintro e w4 ⟨rfl, hb4⟩
  have B4 : Hid (Below w.heap.size w w4) := t2 B3.out hb4
  have C4 : Hid (Cel w4 ce b false) := C3.out.below hb4
  clear hb4 C3 B3
  by_cases hep : (newest y.B).e ≤ 1073741824
  rotate_left
  · have HE2 : Hid (PE.1 = 2) := by
      show _ = _
      rw [← HPE.out]
      unfold putE
      rw [if_neg (by simp), if_pos]
      unfold badEp isEp
      have : decide (((newest y.B).e : Int) ≤ 1073741824) = false := decide_eq_false (by omega)
      simp [this]
    go_wp2_with fail
    refine (newR_bad id (newest y.B).e s w4 (HS.out.below (t2 HBL.out B4.out)).n.s3 (Or.inr (by
      unfold isEpR
      have : decide (((newest y.B).e : Int) ≤ 1073741824) = false := decide_eq_false (by omega)
      simp [this]))).mono ?_
    rintro e w5 ⟨rfl, hb5⟩
    have B5 : Hid (Below w.heap.size w w5) := t2 B4.out hb5
    clear hb5 hep
    simp only [terr]
    go_wp2_with fail
    go_ret2
    exact ⟨by rw [HE2.out]; rfl, ChgL.of B5.out⟩
  · go_wp2_with fail
    refine (newR_ok id (newest y.B).e w4 HID.out (by omega) (by omega)).mono ?_
    rintro e w5 ⟨⟨rfl, r5⟩, hb5⟩
    have B5 : Hid (Below w.heap.size w w5) := t2 B4.out hb5
    have C5 : Hid (Cel w5 ce b false) := C4.out.below hb5
    generalize w4.heap.size = ro at *
    clear hb5 C4 B4 r5 hep
    go_wp2_with fail
    refine (life_any ce b false y w5 C5.out (HY.out.below B5.out)).mono ?_
    rintro e w6 ⟨rfl, hb6⟩
    have B6 : Hid (Below w.heap.size w w6) := t2 B5.out hb6
    have C6 : Hid (Cel w6 ce b false) := C5.out.below hb6
    have hwr : IntKind.i64.wrap (((newest y.B).l : Int) + 1) = ((newest y.B).l : Int) + 1 := by have := (newest_lt y.B).2.2; rw [IntKind.wrap_i64]; omega
    clear hb6 C5 B5
    go_wp2_with fail
    refine (epoch_any ce b false y w6 C6.out (HY.out.below B6.out)).mono ?_
    rintro e w7 ⟨rfl, hb7⟩
    have B7 : Hid (Below w.heap.size w w7) := t2 B6.out hb7
    have C7 : Hid (Cel w7 ce b false) := C6.out.below hb7
    have Y7 : Hid (Byt w7 b y) := HY.out.below B7.out
    have LB : Hid (b < w.heap.size) := HY.out.lt
    clear hb7 C6 B6 hwr
    go_wp2_with fail
    have hg := tlt HS.out.c6
    simp only at hg
    refine (cput_any ce b false y (newest y.B).e ((newest y.B).l + 1) s w7 C7.out Y7.out (HS.out.below (t2 HBL.out B7.out)).n.s5 (by have := LB.out; have := HS2.out; omega) (by have := HB0.out; omega) (by have := HB0.out; have := LB.out; have := HS2.out; omega) HF.out).mono ?_
    rintro e w8 ⟨rfl, y8, c8, k8⟩
    have K8 : Hid (ChgL [b] w w8) := ((ChgL.of B7.out : ChgL [b, ce] w w7).trans (ChgL.two k8 (by simp) (by simp))).mono (fun q hq => by simp at hq; rcases hq with rfl | rfl; exact Or.inl (by simp); exact Or.inr HS2.out)
    rw [HPE.out]
    clear y8 c8 k8 hg C7 Y7 B7
    obtain ⟨n, hn⟩ : ∃ n, PE.1 = n + 1 := ⟨PE.1 - 1, by have := HPU.out; omega⟩
    have HN1 : Hid (PE.1 = n + 1) := hn
    rw [hn]
    clear hn
    simp only [terr]
    go_wp2_with fail
    go_ret2
    exact ⟨by rw [HN1.out]; rfl, K8.out⟩
end Go.Proofs.YtifjoboaolpejaaGreatDoor
