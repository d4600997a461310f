/-
  The document's answer: PacketRead, of TCP.
-/
import Derived.Test.YtlogpnanfamjeaaGreatDoorRfP
namespace Go.Proofs.YtlogpnanfamjeaaGreatDoor
open Go.RowKit

/-- a packet of TCP that has so many flags. -/
def fF (o : Option Int) : Nat → Int := upd (upd (fun _ => 0) 0 2) 5 (o.getD 0)
theorem fF_set (o : Option Int) (k : Int) : upd (fF o) 5 k = fF (some k) := by
  funext j
  unfold fF upd
  by_cases h : j = 5 <;> simp [h]
theorem heldR {w W V : World} {pb g : Nat} {F : Nat → Int} {ws : List ByteArray} {f : ByteArray} (h : W.cell? ⟨g, 3, none⟩ = some (.string f) ∧ Rd w W pb g F ws) (hb : Below W.heap.size W V) :
    V.cell? ⟨g, 3, none⟩ = some (.string f) ∧ Rd w V pb g F ws := ⟨below_keeps hb h.1, h.2.below hb⟩
theorem heldR_drew {w W : World} {pb g : Nat} {F : Nat → Int} {ws : List ByteArray} {f : ByteArray} (h0 : W.cell? ⟨g, 3, none⟩ = some (.string f)) (h : Hid (Rd w W pb g F ws)) :
    W.drew.cell? ⟨g, 3, none⟩ = some (.string f) ∧ Rd w W.drew pb g F ws := heldR ⟨h0, h.out⟩ (Below.refl _ _).drew
theorem rd_tcp (w w1 : World) (g : Nat) (ws : List ByteArray) (h : Rd w (w1.alloc (.cells #[.int .i64 1, .int .i64 0, .int .i64 0, .int .i64 0, .int .i64 0, .int .i64 0] 25)) w1.heap.size g (upd (fun _ => 0) 0 1) ws) :
    Rd w (w1.alloc (.cells #[.int .i64 2, .int .i64 0, .int .i64 0, .int .i64 0, .int .i64 0, .int .i64 0] 25)) w1.heap.size g (fF none) ws := by
  have k := h.set (i := 0) (by omega) 2
  rw [World.setCell_alloc_at _ _ _ _ _ rfl] at k
  have e : upd (upd (fun _ => 0) 0 1) 0 2 = fF none := by
    funext j
    unfold fF upd
    by_cases h : j = 0
    · simp [h]
    · by_cases h5 : j = 5 <;> simp [h, h5]
  rw [e] at k
  exact k
set_option maxRecDepth 100000 in
set_option maxHeartbeats 8000000 in
theorem pread_tcp (x u v f : ByteArray) (hx : x.size ≤ 1000) (hc : cutFrom 32 [] x.data.toList = [⟨#[116, 99, 112]⟩, u, v, f]) (a1 p1 a2 p2 : Int) (t1 t2 : Bool)
    (h1 : ∀ w : World, Calls Tryz.prog 32 #[.string u] w fun e w' => e = .returned (.tuple #[.agg #[.int .i64 a1, .int .i64 p1], .bool t1]) ∧ Below w.heap.size w w')
    (h2 : ∀ w : World, Calls Tryz.prog 32 #[.string v] w fun e w' => e = .returned (.tuple #[.agg #[.int .i64 a2, .int .i64 p2], .bool t2]) ∧ Below w.heap.size w w')
    (o : Option Int) (ho : flTo f 16 = o)
    (r : Value) (hr : (o = none ∧ r = pkt 0 0 0 0 0 0) ∨ (∃ fl, o = some fl ∧ r = if t1 = true ∧ t2 = true then pkt 2 a1 p1 a2 p2 fl else pkt 0 0 0 0 0 0)) (rb : Bool) (hrb : rb = (o.isSome && (t1 && t2))) (w : World) :
    Calls Tryz.prog 16 #[.string x] w fun e w' => e = .returned (.tuple #[r, .bool rb]) ∧ Below w.heap.size w w' := by
  have H1 : Hid (∀ w : World, Calls Tryz.prog 32 #[.string u] w fun e w' => e = .returned (.tuple #[.agg #[.int .i64 a1, .int .i64 p1], .bool t1]) ∧ Below w.heap.size w w') := h1
  have H2 : Hid (∀ w : World, Calls Tryz.prog 32 #[.string v] w fun e w' => e = .returned (.tuple #[.agg #[.int .i64 a2, .int .i64 p2], .bool t2]) ∧ Below w.heap.size w w') := h2
  have HC : Hid (cutFrom 32 [] x.data.toList = [⟨#[116, 99, 112]⟩, u, v, f]) := hc
  have HRW : Hid ((o = none ∧ r = pkt 0 0 0 0 0 0) ∨ (∃ fl, o = some fl ∧ r = if t1 = true ∧ t2 = true then pkt 2 a1 p1 a2 p2 fl else pkt 0 0 0 0 0 0)) := hr
  have HRB : Hid (rb = (o.isSome && (t1 && t2))) := hrb
  have HOO : Hid (flTo f 16 = o) := ho
  clear h1 h2 hc hr hrb ho
  go_enter Tryz.func16, Tryz.ntmps16
  go_wp2_with fail
  refine (cutRef_any x hx 32 _).mono ?_
  rw [HC.out]
  rintro e w1 ⟨⟨g, cap, rfl, hcell⟩, hb1⟩
  have D := rd_tcp w w1 g _ (rd_new w w1 g _ hb1 hcell (by simp))
  have c0 : w1.cell? ⟨g, 0, none⟩ = some (.string ⟨#[116, 99, 112]⟩) := hcell 0 _ rfl
  have HD : Hid (Rd w (w1.alloc (.cells #[.int .i64 2, .int .i64 0, .int .i64 0, .int .i64 0, .int .i64 0, .int .i64 0] 25)) w1.heap.size g (fF none) [⟨#[116, 99, 112]⟩, u, v, f]) := D
  have hg : g < w1.heap.size := block_lt c0
  clear D hcell hb1
  go_wp2_with fail
  generalize w1.alloc (.cells #[.int .i64 2, .int .i64 0, .int .i64 0, .int .i64 0, .int .i64 0, .int .i64 0] 25) = W0 at *
  generalize w1.heap.size = pb at *
  clear c0 hg
  go_loopw [6, 7] (fun kn t wr => ∃ k : Nat, k ≤ 16 ∧ t = .int .i64 k ∧ kn = .bool (flTo f k).isSome ∧ Rd w wr pb g (fF (flTo f k)) [⟨#[116, 99, 112]⟩, u, v, f]) (fun _ t _ => 16 - (intOf t).toNat)
  case atStart => exact ⟨0, by omega, rfl, rfl, HD.out⟩
  case round =>
    obtain ⟨k, hk, rfl, rfl, hrd⟩ := hrel
    have HRd : Hid (Rd w wr pb g (fF (flTo f k)) [⟨#[116, 99, 112]⟩, u, v, f]) := hrd
    by_cases hlt : k < 16
    · have c3 : wr.cell? ⟨g, 3, none⟩ = some (.string f) := hrd.c 3 _ rfl
      have HF : Hid (∀ w : World, Calls Tryz.prog 29 #[.int .i64 k] w fun e w' => e = .returned (.string ⟨(fText k).toArray⟩) ∧ Below w.heap.size w w') := fun w => flagsRef_any k (by omega) (by omega) w
      clear hrd
      have HS : Hid (flTo f (k + 1) = if f = ⟨(fText (k : Int)).toArray⟩ then some (k : Int) else flTo f k) := rfl
      generalize hft : (⟨(fText (k : Int)).toArray⟩ : ByteArray) = ft at *
      clear hft
      generalize hoo : flTo f k = oo at *
      clear hoo
      go_wp2_with fail
      go_region_held3 (fun w' => w'.cell? ⟨g, 3, none⟩ = some (.string f) ∧ Rd w w' pb g (fF oo) [⟨#[116, 99, 112]⟩, u, v, f])
        (first | assumption | exact heldR_drew (by assumption) (by assumption) | exact heldR (by assumption) (by assumption))
        (first | (go_at_call 29; refine (HF.out _).mono ?_; rintro e w2 ⟨rfl, hb2⟩))
      rename_i hH
      have HR2 : Hid (Rd w w2 pb g (fF oo) [⟨#[116, 99, 112]⟩, u, v, f]) := hH.2
      have q5 := hH.2.p.c 5 (by omega)
      have qf := hH.2.p.cf 5 (by omega)
      clear hH c3
      have HBB : Hid ((ft.toList == f.toList) = true → f = ft) := fun h => by
        apply ByteArray.ext
        have := congrArg List.toArray (beq_iff_eq.1 h)
        simpa [ByteArray.toList_eq] using this.symm
      generalize hbb : (ft.toList == f.toList) = bb at *
      cases bb
      case true =>
        have hf : f = ft := HBB.out rfl
        clear hbb
        have HE : Hid (flTo f (k + 1) = some (k : Int)) := by rw [HS.out, if_pos hf]; exact rfl
        clear hf
        go_wp2_with fail
        go_roundw
        case rel => exact ⟨k + 1, by omega, by go_num, by rw [HE.out]; rfl, by rw [HE.out, ← fF_set oo (k : Int)]; exact HR2.out.set (by omega) _⟩
        case measure => simp [intOf]; omega
      case false =>
        have hf : ¬ f = ft := fun e => by rw [e] at hbb; simp at hbb
        clear hbb
        have HE : Hid (flTo f (k + 1) = oo) := by rw [HS.out, if_neg hf]; exact rfl
        clear hf
        go_wp2_with fail
        go_roundw
        case rel => exact ⟨k + 1, by omega, by go_num, by rw [HE.out], by rw [HE.out]; exact HR2.out⟩
        case measure => simp [intOf]; omega
    · obtain rfl : k = 16 := by omega
      rw [HOO.out] at HRd hrd
      rw [HOO.out]
      rcases HRW.out with ⟨rfl, rfl⟩ | ⟨fl, rfl, hrv⟩
      · have r0 := hrd.r.c 0 (by omega)
        have r1 := hrd.r.c 1 (by omega)
        have r2 := hrd.r.c 2 (by omega)
        have r3 := hrd.r.c 3 (by omega)
        have r4 := hrd.r.c 4 (by omega)
        have r5 := hrd.r.c 5 (by omega)
        have f0 := hrd.r.cf 0 (by omega)
        have f1 := hrd.r.cf 1 (by omega)
        have f2 := hrd.r.cf 2 (by omega)
        have f3 := hrd.r.cf 3 (by omega)
        have f4 := hrd.r.cf 4 (by omega)
        have f5 := hrd.r.cf 5 (by omega)
        clear hrd
        obtain rfl : rb = false := HRB.out
        go_wp2_with fail
        exact bodyPost_ret (v := .tuple #[pkt 0 0 0 0 0 0, .bool false]) (by simp [results, Tryz.results16, go_sem, r0, r1, r2, r3, r4, r5]) rfl ⟨rfl, by
          repeat (first | with_reducible exact HRd.out.b | (with_reducible refine Below.setCell ?_ (by with_reducible exact Nat.le_refl _) _) | (with_reducible refine Below.drew ?_))⟩
      · have HRV : Hid (r = if t1 = true ∧ t2 = true then pkt 2 a1 p1 a2 p2 fl else pkt 0 0 0 0 0 0) := hrv
        obtain rfl : rb = (t1 && t2) := HRB.out
        have HD0 : Hid (Rd w wr pb g (fF (some fl)) [⟨#[116, 99, 112]⟩, u, v, f]) := HRd.out
        have c1 : wr.cell? ⟨g, 1, none⟩ = some (.string u) := hrd.c 1 _ rfl
        clear hrd hrv HRd
        go_wp2_with fail
        clear c1
        refine (H1.out _).mono ?_
        rintro e w2 ⟨rfl, hb2⟩
        have D2 := HD0.out.below hb2
        have c2 : w2.cell? ⟨g, 2, none⟩ = some (.string v) := D2.c 2 _ rfl
        have hg : g < w2.heap.size := block_lt c2
        have HD2 : Hid (Rd w (w2.alloc (.cells #[.int .i64 a1, .int .i64 p1] 23)) pb g (fF (some fl)) [⟨#[116, 99, 112]⟩, u, v, f]) := D2.below ((Below.refl _ _).alloc (Nat.le_refl _) _)
        have HE2 : Hid ((w2.alloc (.cells #[.int .i64 a1, .int .i64 p1] 23)).cell? ⟨w2.heap.size, 0, none⟩ = some (.int .i64 a1) ∧ (w2.alloc (.cells #[.int .i64 a1, .int .i64 p1] 23)).cell? ⟨w2.heap.size, 1, none⟩ = some (.int .i64 p1)) := ⟨by simp [go_sem], by simp [go_sem]⟩
        clear hb2 D2 HD0
        go_wp2_with fail
        generalize w2.alloc (.cells #[.int .i64 a1, .int .i64 p1] 23) = W2 at *
        generalize w2.heap.size = e1 at *
        clear c2 hg
        refine (H2.out _).mono ?_
        rintro e w3 ⟨rfl, hb3⟩
        have D3 := HD2.out.below hb3
        have y0 := below_keeps hb3 HE2.out.1
        have y1 := below_keeps hb3 HE2.out.2
        have HD3 : Hid (Rd w w3 pb g (fF (some fl)) [⟨#[116, 99, 112]⟩, u, v, f]) := D3
        have ne1 := D3.ne
        have r0 := D3.r.c 0 (by omega)
        have r1 := D3.r.c 1 (by omega)
        have r2 := D3.r.c 2 (by omega)
        have r3 := D3.r.c 3 (by omega)
        have r4 := D3.r.c 4 (by omega)
        have r5 := D3.r.c 5 (by omega)
        have f0 := D3.r.cf 0 (by omega)
        have f1 := D3.r.cf 1 (by omega)
        have f2 := D3.r.cf 2 (by omega)
        have f3 := D3.r.cf 3 (by omega)
        have f4 := D3.r.cf 4 (by omega)
        have f5 := D3.r.cf 5 (by omega)
        have q0 : w3.cell? ⟨pb, 0, none⟩ = some (.int .i64 2) := D3.p.c 0 (by omega)
        have q1 : w3.cell? ⟨pb, 1, none⟩ = some (.int .i64 0) := D3.p.c 1 (by omega)
        have q2 : w3.cell? ⟨pb, 2, none⟩ = some (.int .i64 0) := D3.p.c 2 (by omega)
        have q3 : w3.cell? ⟨pb, 3, none⟩ = some (.int .i64 0) := D3.p.c 3 (by omega)
        have q4 : w3.cell? ⟨pb, 4, none⟩ = some (.int .i64 0) := D3.p.c 4 (by omega)
        have q5 : w3.cell? ⟨pb, 5, none⟩ = some (.int .i64 fl) := D3.p.c 5 (by omega)
        have g1 := D3.p.cf 1 (by omega)
        have g2 := D3.p.cf 2 (by omega)
        have g3 := D3.p.cf 3 (by omega)
        have g4 := D3.p.cf 4 (by omega)
        have l1 : w.heap.size < w3.heap.size := block_lt r0
        have l2 : pb < w3.heap.size := block_lt q0
        have l3 : e1 < w3.heap.size := block_lt y0
        clear hb3 HD2 HE2 D3
        cases t1
        · clear q0 q1 q2 q3 q4 q5 g1 g2 g3 g4 y0 y1 l2 l3
          cases t2
          · go_wp2_with fail
            obtain rfl : r = pkt 0 0 0 0 0 0 := HRV.out.trans (if_neg (by simp))
            exact bodyPost_ret (v := .tuple #[pkt 0 0 0 0 0 0, .bool false]) (by simp [results, Tryz.results16, go_sem, r0, r1, r2, r3, r4, r5, l1]) rfl ⟨rfl, by
              repeat (first | with_reducible exact HD3.out.b | (with_reducible refine Below.setCell ?_ (by first | with_reducible exact Nat.le_refl _ | exact Nat.le_of_lt ne1) _) | (with_reducible refine Below.drew ?_) | (with_reducible refine Below.alloc ?_ (by simp only [World.size_setCell]; exact HD3.out.b.size) _))⟩
          · go_wp2_with fail
            obtain rfl : r = pkt 0 0 0 0 0 0 := HRV.out.trans (if_neg (by simp))
            exact bodyPost_ret (v := .tuple #[pkt 0 0 0 0 0 0, .bool false]) (by simp [results, Tryz.results16, go_sem, r0, r1, r2, r3, r4, r5, l1]) rfl ⟨rfl, by
              repeat (first | with_reducible exact HD3.out.b | (with_reducible refine Below.setCell ?_ (by first | with_reducible exact Nat.le_refl _ | exact Nat.le_of_lt ne1) _) | (with_reducible refine Below.drew ?_) | (with_reducible refine Below.alloc ?_ (by simp only [World.size_setCell]; exact HD3.out.b.size) _))⟩
        · cases t2
          · clear q0 q1 q2 q3 q4 q5 g1 g2 g3 g4 y0 y1 l2 l3
            go_wp2_with fail
            obtain rfl : r = pkt 0 0 0 0 0 0 := HRV.out.trans (if_neg (by simp))
            exact bodyPost_ret (v := .tuple #[pkt 0 0 0 0 0 0, .bool false]) (by simp [results, Tryz.results16, go_sem, r0, r1, r2, r3, r4, r5, l1]) rfl ⟨rfl, by
              repeat (first | with_reducible exact HD3.out.b | (with_reducible refine Below.setCell ?_ (by first | with_reducible exact Nat.le_refl _ | exact Nat.le_of_lt ne1) _) | (with_reducible refine Below.drew ?_) | (with_reducible refine Below.alloc ?_ (by simp only [World.size_setCell]; exact HD3.out.b.size) _))⟩
          · go_wp2_with fail
            obtain rfl : r = pkt 2 a1 p1 a2 p2 fl := HRV.out.trans (if_pos (by simp))
            exact bodyPost_ret (v := .tuple #[pkt 2 a1 p1 a2 p2 fl, .bool true]) (by simp [results, Tryz.results16, go_sem, r0, r1, r2, r3, r4, r5, l1]) rfl ⟨rfl, by
              repeat (first | with_reducible exact HD3.out.b | (with_reducible refine Below.setCell ?_ (by first | with_reducible exact Nat.le_refl _ | exact Nat.le_of_lt ne1) _) | (with_reducible refine Below.drew ?_) | (with_reducible refine Below.alloc ?_ (by simp only [World.size_setCell]; exact HD3.out.b.size) _))⟩
end Go.Proofs.YtlogpnanfamjeaaGreatDoor
