/-
  The document's answer: PacketRead.
-/
import Derived.Test.YtlogpnanfamjeaaGreatDoorRfE
import Derived.Test.YtlogpnanfamjeaaGreatDoorRfB
import Derived.Test.YtlogpnanfamjeaaGreatDoorPkR
import Derived.Test.YtlogpnanfamjeaaGreatDoorPkD
import Derived.Test.YtlogpnanfamjeaaGreatDoorMaB
namespace Go.Proofs.YtlogpnanfamjeaaGreatDoor
open Go.RowKit

/-- which flags a text tells: the last of the first k. -/
def flTo (f : ByteArray) : Nat → Option Int
  | 0 => none
  | k + 1 => if f = ⟨(fText (k : Int)).toArray⟩ then some (k : Int) else flTo f k
/-- the document's packet of a text. -/
def rdR (x : ByteArray) : Option (Int × Int × Int × Int × Int × Int) :=
  match cutFrom 32 [] x.data.toList with
  | [a, b, c] => if a = ⟨#[117, 100, 112]⟩ ∧ (endR b).2.2 = true ∧ (endR c).2.2 = true then some (1, (endR b).1, (endR b).2.1, (endR c).1, (endR c).2.1, 0) else none
  | [a, b, c, f] => if a = ⟨#[116, 99, 112]⟩ ∧ (endR b).2.2 = true ∧ (endR c).2.2 = true then (flTo f 16).map fun g => (2, (endR b).1, (endR b).2.1, (endR c).1, (endR c).2.1, g) else none
  | _ => none

/-- all that a reading has in hand: its result's place, the packet's place, its words. -/
structure Rd (w0 w : World) (pb g : Nat) (f : Nat → Int) (ws : List ByteArray) : Prop where
  r : Six w w0.heap.size (fun _ => 0)
  p : Six w pb f
  c : ∀ (j : Nat) y, ws[j]? = some y → w.cell? ⟨g, j, none⟩ = some (.string y)
  b : Below w0.heap.size w0 w
  ne : w0.heap.size < pb
  gn : g ≠ w0.heap.size ∧ g ≠ pb
theorem Rd.below {w0 w w' : World} {b g : Nat} {f : Nat → Int} {ws : List ByteArray} (d : Rd w0 w b g f ws) (h : Below w.heap.size w w') : Rd w0 w' b g f ws :=
  ⟨d.r.below h, d.p.below h, fun j y hy => below_keeps h (d.c j y hy), d.b.trans (h.mono d.b.size), d.ne, d.gn⟩
theorem Rd.set {w0 w : World} {b g i : Nat} {f : Nat → Int} {ws : List ByteArray} (d : Rd w0 w b g f ws) (hi : i < 6) (v : Int) : Rd w0 (w.setCell ⟨b, i, none⟩ (.int .i64 v)) b g (upd f i v) ws :=
  ⟨d.r.other (by have := d.ne; omega) _, d.p.set hi v, fun j y hy => by rw [World.cell?_setCell_other _ _ _ _ (by have := d.gn; simp <;> omega)]; exact d.c j y hy, d.b.setCell (by have := d.ne; simp; omega) _, d.ne, d.gn⟩
/-- the words lie apart from what the call has made ahead of them. -/
theorem rd_new (w w1 : World) (g : Nat) (ws : List ByteArray) (h : Below (w.alloc (.cells #[.int .i64 0, .int .i64 0, .int .i64 0, .int .i64 0, .int .i64 0, .int .i64 0] 25)).heap.size (w.alloc (.cells #[.int .i64 0, .int .i64 0, .int .i64 0, .int .i64 0, .int .i64 0, .int .i64 0] 25)) w1)
    (hc : ∀ (j : Nat) y, ws[j]? = some y → w1.cell? ⟨g, j, none⟩ = some (.string y)) (hn : ws ≠ []) :
    Rd w (w1.alloc (.cells #[.int .i64 1, .int .i64 0, .int .i64 0, .int .i64 0, .int .i64 0, .int .i64 0] 25)) w1.heap.size g (upd (fun _ => 0) 0 1) ws := by
  have b1 : ∀ (v : World) (o : Obj), Below v.heap.size v (v.alloc o) := fun v o => (Below.refl _ _).alloc (Nat.le_refl _) _
  have r := (six_new w 25).below h
  have r0 := r.c 0 (by omega)
  have hlt := block_lt r0
  obtain ⟨y, hy⟩ : ∃ y, ws[0]? = some y := by
    match ws, hn with
    | y :: _, _ => exact ⟨y, rfl⟩
  have h0 := hc 0 y hy
  have hg := block_lt h0
  refine ⟨r.below (b1 _ _), ?_, fun j z hz => below_keeps (b1 _ _) (hc j z hz), below_all (below_all (b1 _ _) h) (b1 _ _), hlt, fun e => ?_, fun e => ?_⟩
  · refine ⟨fun j hj => ?_, fun j hj => by rw [World.frozen?_alloc_at _ _ _ _ rfl]⟩
    rw [World.cell?_alloc_at _ _ _ _ rfl]
    match j, hj with
    | 0, _ | 1, _ | 2, _ | 3, _ | 4, _ | 5, _ => rfl
  · subst e; rw [r0] at h0; cases h0
  · simp at hg; omega

set_option maxRecDepth 100000 in
set_option maxHeartbeats 4000000 in
theorem pread_udp (x u v : ByteArray) (hx : x.size ≤ 1000) (hc : cutFrom 32 [] x.data.toList = [⟨#[117, 100, 112]⟩, u, v]) (a1 p1 a2 p2 : Int) (t1 t2 : Bool)
    (h1 : ∀ w : World, Calls Tryz.prog 32 #[.string u] w fun e w' => e = .returned (.tuple #[.agg #[.int .i64 a1, .int .i64 p1], .bool t1]) ∧ Below w.heap.size w w')
    (h2 : ∀ w : World, Calls Tryz.prog 32 #[.string v] w fun e w' => e = .returned (.tuple #[.agg #[.int .i64 a2, .int .i64 p2], .bool t2]) ∧ Below w.heap.size w w')
    (r : Value) (hr : r = if t1 = true ∧ t2 = true then pkt 1 a1 p1 a2 p2 0 else pkt 0 0 0 0 0 0) (w : World) :
    Calls Tryz.prog 16 #[.string x] w fun e w' => e = .returned (.tuple #[r, .bool (t1 && t2)]) ∧ Below w.heap.size w w' := by
  have H1 : Hid (∀ w : World, Calls Tryz.prog 32 #[.string u] w fun e w' => e = .returned (.tuple #[.agg #[.int .i64 a1, .int .i64 p1], .bool t1]) ∧ Below w.heap.size w w') := h1
  have H2 : Hid (∀ w : World, Calls Tryz.prog 32 #[.string v] w fun e w' => e = .returned (.tuple #[.agg #[.int .i64 a2, .int .i64 p2], .bool t2]) ∧ Below w.heap.size w w') := h2
  have HC : Hid (cutFrom 32 [] x.data.toList = [⟨#[117, 100, 112]⟩, u, v]) := hc
  have HRV : Hid (r = if t1 = true ∧ t2 = true then pkt 1 a1 p1 a2 p2 0 else pkt 0 0 0 0 0 0) := hr
  clear h1 h2 hc hr
  go_enter Tryz.func16, Tryz.ntmps16
  go_wp2_with fail
  refine (cutRef_any x hx 32 _).mono ?_
  rw [HC.out]
  rintro e w1 ⟨⟨g, cap, rfl, hcell⟩, hb1⟩
  have D := rd_new w w1 g _ hb1 hcell (by simp)
  have c0 : w1.cell? ⟨g, 0, none⟩ = some (.string ⟨#[117, 100, 112]⟩) := hcell 0 _ rfl
  have HD : Hid (Rd w (w1.alloc (.cells #[.int .i64 1, .int .i64 0, .int .i64 0, .int .i64 0, .int .i64 0, .int .i64 0] 25)) w1.heap.size g (upd (fun _ => 0) 0 1) [⟨#[117, 100, 112]⟩, u, v]) := D
  have c1 : w1.cell? ⟨g, 1, none⟩ = some (.string u) := hcell 1 _ rfl
  have hg : g < w1.heap.size := block_lt c1
  clear D hcell hb1
  go_wp2_with fail
  generalize w1.alloc (.cells #[.int .i64 1, .int .i64 0, .int .i64 0, .int .i64 0, .int .i64 0, .int .i64 0] 25) = W0 at *
  generalize w1.heap.size = pb at *
  clear c0 c1 hg
  refine (H1.out _).mono ?_
  rintro e w2 ⟨rfl, hb2⟩
  have D2 := HD.out.below hb2
  have c2 : w2.cell? ⟨g, 2, none⟩ = some (.string v) := D2.c 2 _ rfl
  have hg : g < w2.heap.size := block_lt c2
  have HD2 : Hid (Rd w (w2.alloc (.cells #[.int .i64 a1, .int .i64 p1] 23)) pb g (upd (fun _ => 0) 0 1) [⟨#[117, 100, 112]⟩, u, v]) := D2.below ((Below.refl _ _).alloc (Nat.le_refl _) _)
  have HE2 : Hid ((w2.alloc (.cells #[.int .i64 a1, .int .i64 p1] 23)).cell? ⟨w2.heap.size, 0, none⟩ = some (.int .i64 a1) ∧ (w2.alloc (.cells #[.int .i64 a1, .int .i64 p1] 23)).cell? ⟨w2.heap.size, 1, none⟩ = some (.int .i64 p1)) := ⟨by simp [go_sem], by simp [go_sem]⟩
  clear hb2 D2 HD
  go_wp2_with fail
  generalize w2.alloc (.cells #[.int .i64 a1, .int .i64 p1] 23) = W2 at *
  generalize w2.heap.size = e1 at *
  clear c2 hg
  refine (H2.out _).mono ?_
  rintro e w3 ⟨rfl, hb3⟩
  have D3 := HD2.out.below hb3
  have y0 := below_keeps hb3 HE2.out.1
  have y1 := below_keeps hb3 HE2.out.2
  have HD3 : Hid (Rd w w3 pb g (upd (fun _ => 0) 0 1) [⟨#[117, 100, 112]⟩, u, v]) := D3
  have ne1 := D3.ne
  have r0 := D3.r.c 0 (by omega)
  have r1 := D3.r.c 1 (by omega)
  have r2 := D3.r.c 2 (by omega)
  have r3 := D3.r.c 3 (by omega)
  have r4 := D3.r.c 4 (by omega)
  have r5 := D3.r.c 5 (by omega)
  have f0 := D3.r.cf 0 (by omega)
  have f1 := D3.r.cf 1 (by omega)
  have f2 := D3.r.cf 2 (by omega)
  have f3 := D3.r.cf 3 (by omega)
  have f4 := D3.r.cf 4 (by omega)
  have f5 := D3.r.cf 5 (by omega)
  have q0 : w3.cell? ⟨pb, 0, none⟩ = some (.int .i64 1) := D3.p.c 0 (by omega)
  have q1 : w3.cell? ⟨pb, 1, none⟩ = some (.int .i64 0) := D3.p.c 1 (by omega)
  have q2 : w3.cell? ⟨pb, 2, none⟩ = some (.int .i64 0) := D3.p.c 2 (by omega)
  have q3 : w3.cell? ⟨pb, 3, none⟩ = some (.int .i64 0) := D3.p.c 3 (by omega)
  have q4 : w3.cell? ⟨pb, 4, none⟩ = some (.int .i64 0) := D3.p.c 4 (by omega)
  have q5 : w3.cell? ⟨pb, 5, none⟩ = some (.int .i64 0) := D3.p.c 5 (by omega)
  have g1 := D3.p.cf 1 (by omega)
  have g2 := D3.p.cf 2 (by omega)
  have g3 := D3.p.cf 3 (by omega)
  have g4 := D3.p.cf 4 (by omega)
  have l1 : w.heap.size < w3.heap.size := block_lt r0
  have l2 : pb < w3.heap.size := block_lt q0
  have l3 : e1 < w3.heap.size := block_lt y0
  clear hb3 HD2 HE2 D3
  cases t1
  · clear q0 q1 q2 q3 q4 q5 g1 g2 g3 g4 y0 y1 l2 l3
    cases t2
    · go_wp2_with fail
      obtain rfl : r = pkt 0 0 0 0 0 0 := HRV.out.trans (if_neg (by simp))
      exact bodyPost_ret (v := .tuple #[pkt 0 0 0 0 0 0, .bool false]) (by simp [results, Tryz.results16, go_sem, r0, r1, r2, r3, r4, r5, l1]) rfl ⟨rfl, by
        repeat (first | with_reducible exact HD3.out.b | (with_reducible refine Below.setCell ?_ (by first | with_reducible exact Nat.le_refl _ | exact Nat.le_of_lt ne1) _) | (with_reducible refine Below.drew ?_) | (with_reducible refine Below.alloc ?_ (by simp only [World.size_setCell]; exact HD3.out.b.size) _))⟩
    · go_wp2_with fail
      obtain rfl : r = pkt 0 0 0 0 0 0 := HRV.out.trans (if_neg (by simp))
      exact bodyPost_ret (v := .tuple #[pkt 0 0 0 0 0 0, .bool false]) (by simp [results, Tryz.results16, go_sem, r0, r1, r2, r3, r4, r5, l1]) rfl ⟨rfl, by
        repeat (first | with_reducible exact HD3.out.b | (with_reducible refine Below.setCell ?_ (by first | with_reducible exact Nat.le_refl _ | exact Nat.le_of_lt ne1) _) | (with_reducible refine Below.drew ?_) | (with_reducible refine Below.alloc ?_ (by simp only [World.size_setCell]; exact HD3.out.b.size) _))⟩
  · cases t2
    · clear q0 q1 q2 q3 q4 q5 g1 g2 g3 g4 y0 y1 l2 l3
      go_wp2_with fail
      obtain rfl : r = pkt 0 0 0 0 0 0 := HRV.out.trans (if_neg (by simp))
      exact bodyPost_ret (v := .tuple #[pkt 0 0 0 0 0 0, .bool false]) (by simp [results, Tryz.results16, go_sem, r0, r1, r2, r3, r4, r5, l1]) rfl ⟨rfl, by
        repeat (first | with_reducible exact HD3.out.b | (with_reducible refine Below.setCell ?_ (by first | with_reducible exact Nat.le_refl _ | exact Nat.le_of_lt ne1) _) | (with_reducible refine Below.drew ?_) | (with_reducible refine Below.alloc ?_ (by simp only [World.size_setCell]; exact HD3.out.b.size) _))⟩
    · go_wp2_with fail
      obtain rfl : r = pkt 1 a1 p1 a2 p2 0 := HRV.out.trans (if_pos (by simp))
      exact bodyPost_ret (v := .tuple #[pkt 1 a1 p1 a2 p2 0, .bool true]) (by simp [results, Tryz.results16, go_sem, r0, r1, r2, r3, r4, r5, l1]) rfl ⟨rfl, by
        repeat (first | with_reducible exact HD3.out.b | (with_reducible refine Below.setCell ?_ (by first | with_reducible exact Nat.le_refl _ | exact Nat.le_of_lt ne1) _) | (with_reducible refine Below.drew ?_) | (with_reducible refine Below.alloc ?_ (by simp only [World.size_setCell]; exact HD3.out.b.size) _))⟩

set_option maxRecDepth 100000 in
set_option maxHeartbeats 4000000 in
theorem pread_len (x : ByteArray) (hx : x.size ≤ 1000) (h3 : (cutFrom 32 [] x.data.toList).length ≠ 3) (h4 : (cutFrom 32 [] x.data.toList).length ≠ 4) (w : World) :
    Calls Tryz.prog 16 #[.string x] w fun e w' => e = .returned (.tuple #[pkt 0 0 0 0 0 0, .bool false]) ∧ Below w.heap.size w w' := by
  have n3 : (((cutFrom 32 [] x.data.toList).length : Int) != 3) = true := by rw [bne_iff_ne]; omega
  have n4 : (((cutFrom 32 [] x.data.toList).length : Int) == 4) = false := beq_eq_false_iff_ne.2 (by omega)
  have N3 : Hid ((((cutFrom 32 [] x.data.toList).length : Int) != 3) = true) := n3
  have N4 : Hid ((((cutFrom 32 [] x.data.toList).length : Int) == 4) = false) := n4
  have HN : Hid (cutFrom 32 [] x.data.toList ≠ []) := cut_ne 32 _ _
  clear h3 h4 n3 n4
  go_enter Tryz.func16, Tryz.ntmps16
  go_wp2_with fail
  refine (cutRef_any x hx 32 _).mono ?_
  rintro e w1 ⟨⟨g, cap, rfl, hcell⟩, hb1⟩
  have D := rd_new w w1 g _ hb1 hcell HN.out
  have r : Six w1 w.heap.size (fun _ => 0) := (six_new w 25).below hb1
  have HB : Hid (Below w.heap.size w w1) := below_all ((Below.refl _ _).alloc (Nat.le_refl _) _) hb1
  have n3 := N3.out
  have n4 := N4.out
  clear D hcell hb1 N3 N4 HN
  generalize (cutFrom 32 [] x.data.toList).length = nn at *
  have r0 := r.c 0 (by omega)
  have r1 := r.c 1 (by omega)
  have r2 := r.c 2 (by omega)
  have r3 := r.c 3 (by omega)
  have r4 := r.c 4 (by omega)
  have r5 := r.c 5 (by omega)
  have f0 := r.cf 0 (by omega)
  have f1 := r.cf 1 (by omega)
  have f2 := r.cf 2 (by omega)
  have f3 := r.cf 3 (by omega)
  have f4 := r.cf 4 (by omega)
  have f5 := r.cf 5 (by omega)
  have l1 : w.heap.size < w1.heap.size := block_lt r0
  clear r
  go_wp2_with fail
  exact bodyPost_ret (v := .tuple #[pkt 0 0 0 0 0 0, .bool false]) (by simp [results, Tryz.results16, go_sem, r0, r1, r2, r3, r4, r5, l1]) rfl ⟨rfl, by
    repeat (first | with_reducible exact HB.out | (with_reducible refine Below.setCell ?_ (by with_reducible exact Nat.le_refl _) _) | (with_reducible refine Below.drew ?_) | (with_reducible refine Below.alloc ?_ (by simp only [World.size_setCell]; exact HB.out.size) _))⟩
set_option maxRecDepth 100000 in
set_option maxHeartbeats 4000000 in
theorem pread_head (x a : ByteArray) (ws : List ByteArray) (hx : x.size ≤ 1000) (hc : cutFrom 32 [] x.data.toList = a :: ws) (nn : Nat) (hl : ws.length + 1 = nn) (h : (nn = 4 ∧ a ≠ ⟨#[116, 99, 112]⟩) ∨ (nn = 3 ∧ a ≠ ⟨#[117, 100, 112]⟩)) (w : World) :
    Calls Tryz.prog 16 #[.string x] w fun e w' => e = .returned (.tuple #[pkt 0 0 0 0 0 0, .bool false]) ∧ Below w.heap.size w w' := by
  have H : Hid ((nn = 4 ∧ a ≠ ⟨#[116, 99, 112]⟩) ∨ (nn = 3 ∧ a ≠ ⟨#[117, 100, 112]⟩)) := h
  have HC : Hid (cutFrom 32 [] x.data.toList = a :: ws) := hc
  have HL : Hid ((a :: ws).length = nn) := hl
  clear h hc hl
  go_enter Tryz.func16, Tryz.ntmps16
  go_wp2_with fail
  refine (cutRef_any x hx 32 _).mono ?_
  rw [HC.out, HL.out]
  rintro e w1 ⟨⟨g, cap, rfl, hcell⟩, hb1⟩
  have D := rd_new w w1 g _ hb1 hcell (by simp)
  have r : Six w1 w.heap.size (fun _ => 0) := (six_new w 25).below hb1
  have HB : Hid (Below w.heap.size w w1) := below_all ((Below.refl _ _).alloc (Nat.le_refl _) _) hb1
  have c0 : w1.cell? ⟨g, 0, none⟩ = some (.string a) := hcell 0 _ rfl
  have hg : g < w1.heap.size := block_lt c0
  have gn := D.gn.1
  clear D hcell hb1
  have r0 := r.c 0 (by omega)
  have r1 := r.c 1 (by omega)
  have r2 := r.c 2 (by omega)
  have r3 := r.c 3 (by omega)
  have r4 := r.c 4 (by omega)
  have r5 := r.c 5 (by omega)
  have f0 := r.cf 0 (by omega)
  have f1 := r.cf 1 (by omega)
  have f2 := r.cf 2 (by omega)
  have f3 := r.cf 3 (by omega)
  have f4 := r.cf 4 (by omega)
  have f5 := r.cf 5 (by omega)
  have l1 : w.heap.size < w1.heap.size := block_lt r0
  clear r
  have H2 : Hid ((nn = 4 ∧ (a.toList == [116, 99, 112]) = false) ∨ (nn = 3 ∧ (a.toList == [117, 100, 112]) = false)) := by
    rcases H.out with ⟨h, hn⟩ | ⟨h, hn⟩
    · exact Or.inl ⟨h, by have := ba_ne (a := a) (b := ⟨#[116, 99, 112]⟩) (fun e => hn e.symm); simpa using this⟩
    · exact Or.inr ⟨h, by have := ba_ne (a := a) (b := ⟨#[117, 100, 112]⟩) (fun e => hn e.symm); simpa using this⟩
  rcases H2.out with ⟨rfl, hn⟩ | ⟨rfl, hn⟩
  all_goals clear H H2
  all_goals go_wp2_with fail
  all_goals exact bodyPost_ret (v := .tuple #[pkt 0 0 0 0 0 0, .bool false]) (by simp [results, Tryz.results16, go_sem, r0, r1, r2, r3, r4, r5, l1]) rfl ⟨rfl, by
    repeat (first | with_reducible exact HB.out | (with_reducible refine Below.setCell ?_ (by with_reducible exact Nat.le_refl _) _) | (with_reducible refine Below.drew ?_) | (with_reducible refine Below.alloc ?_ (by simp only [World.size_setCell]; exact HB.out.size) _))⟩
end Go.Proofs.YtlogpnanfamjeaaGreatDoor
