/-
  The law NodeBack: what goes out by a port comes back to whom it is of, as long as its time is not through.
-/
import Derived.Test.YtjfhompbeengmaaDoorPoP
import Derived.Test.YtjfhompbeengmaaDoorNkA
import Derived.Test.YtjfhompbeengmaaDoorKo
import Derived.Test.YtjfhompbeengmaaDoorEndO
import Derived.Laws.AppendOwn
import Derived.Deep.DeepCutAuto
import Derived.Deep.CutRange
import Derived.Deep.RegionHeld3
namespace Go.Proofs.YtjfhompbeengmaaDoor
open Go.RowKit

abbrev intVk (z : Int) : Value := .int .i64 z
theorem Tryd.infoIk : (Tryd.prog.info? 3).map (fun i => (i.zero, i.size, i.bytes)) = some (some (.int .i64 0), 1, 8) := by kernel_rfl
/-- an end's own block. -/
structure End2 (w : World) (Z : Nat) (a p : Int) : Prop where
  c0 : w.cell? ⟨Z, 0, none⟩ = some (.int .i64 a)
  c1 : w.cell? ⟨Z, 1, none⟩ = some (.int .i64 p)
theorem End2.below {w w' : World} {Z : Nat} {a p : Int} (h : End2 w Z a p) (hb : Below w.heap.size w w') : End2 w' Z a p := ⟨tk hb h.c0, tk hb h.c1⟩
theorem end2_new (w : World) (a p : Int) : End2 (w.alloc (.cells #[.int .i64 a, .int .i64 p] 24)) w.heap.size a p := ⟨(nw _ _ _ _).trans rfl, (nw _ _ _ _).trans rfl⟩
/-- the ports that were given out. -/
def Given (es ds : List (Int × Int)) (ps : List Int) (low : Int) (n : Nat) : Prop := ∀ i, i < n → ∃ (e : Int × Int) (j : Nat), es[i]? = some e ∧ ds[j]? = some e ∧ ps[i]? = some (low + j)
theorem Given.more {es ds ds' : List (Int × Int)} {ps : List Int} {low : Int} {n j : Nat} {e : Int × Int} (h : Given es ds ps low n) (hn : ps.length = n) (he : es[n]? = some e) (hd : ds' = ds ∨ ds' = ds ++ [e]) (hj : ds'[j]? = some e) : Given es ds' (ps ++ [low + j]) low (n + 1) := fun i hi => by
  by_cases e2 : i = n
  · subst e2
    exact ⟨e, j, he, hj, by rw [List.getElem?_append_right (by omega)]; simp [hn]⟩
  · obtain ⟨e', j', h1, h2, h3⟩ := h i (by omega)
    refine ⟨e', j', h1, ?_, by rw [List.getElem?_append_left (by omega)]; exact h3⟩
    rcases hd with rfl | rfl
    · exact h2
    · obtain ⟨hlt, _⟩ := List.getElem?_eq_some_iff.1 h2
      rw [List.getElem?_append_left hlt]; exact h2
theorem own_ints {w : World} {B : Nat} {v : Value} {L : List Int} (h : w.ownsRow B 3 1 v L.length (L.map intVk)) : ∃ (p : Option Addr) (cap : Nat), v = .slice p L.length cap ∧ ∀ (j : Nat) x, L[j]? = some x → ∃ g, p = some ⟨g, 0, none⟩ ∧ w.cell? ⟨g, j, none⟩ = some (.int .i64 x) := by
  rcases h.2 with ⟨h1, h2⟩ | ⟨g, cap, cur, h1, h2, h3, h4, h5, h6, h7⟩
  · refine ⟨none, 0, by rw [h1, h2], fun j x hx => ?_⟩
    rw [List.length_eq_zero_iff.1 h2] at hx
    simp at hx
  · refine ⟨some ⟨g, 0, none⟩, cap, h1, fun j x hx => ⟨g, rfl, ?_⟩⟩
    have h8 : (L.map intVk)[j]? = some (.int .i64 x) := by rw [List.getElem?_map, hx]; rfl
    rw [← h7, List.getElem?_take] at h8
    split at h8
    · have h9 : cur[j]? = some (.int .i64 x) := by simpa using h8
      simp [World.cell?, h3, h9]
    · cases h8
theorem pkz_put {w : World} {Q : Nat} {c : Pk} (h : PkZ w Q c) (a0 a1 a2 a3 a4 a5 : Int) : PkZ ((((((w.setCell ⟨Q, 0, none⟩ (.int .i64 a0)).setCell ⟨Q, 1, none⟩ (.int .i64 a1)).setCell ⟨Q, 2, none⟩ (.int .i64 a2)).setCell ⟨Q, 3, none⟩ (.int .i64 a3)).setCell ⟨Q, 4, none⟩ (.int .i64 a4)).setCell ⟨Q, 5, none⟩ (.int .i64 a5)) Q ⟨a0, a1, a2, a3, a4, a5⟩ := by
  have h0 := heap_setCell_same w Q 0 _ _ (.int .i64 a0) h
  have h1 := heap_setCell_same _ Q 1 _ _ (.int .i64 a1) h0
  have h2 := heap_setCell_same _ Q 2 _ _ (.int .i64 a2) h1
  have h3 := heap_setCell_same _ Q 3 _ _ (.int .i64 a3) h2
  have h4 := heap_setCell_same _ Q 4 _ _ (.int .i64 a4) h3
  exact (heap_setCell_same _ Q 5 _ _ (.int .i64 a5) h4).trans rfl
theorem set6_chg (w : World) (Q : Nat) (a0 a1 a2 a3 a4 a5 : Value) : Chg Q w ((((((w.setCell ⟨Q, 0, none⟩ a0).setCell ⟨Q, 1, none⟩ a1).setCell ⟨Q, 2, none⟩ a2).setCell ⟨Q, 3, none⟩ a3).setCell ⟨Q, 4, none⟩ a4).setCell ⟨Q, 5, none⟩ a5) :=
  (((((Chg.set _ _ _ _).trans (Chg.set _ _ _ _)).trans (Chg.set _ _ _ _)).trans (Chg.set _ _ _ _)).trans (Chg.set _ _ _ _)).trans (Chg.set _ _ _ _)
theorem ownsRow_chgQ {w w' : World} {B g q cap : Nat} {t : TypeId} {z n m : Nat} {xs : List Value} (h : w.ownsRow B t z (.slice (some ⟨g, 0, none⟩) m cap) n xs) (c : Chg q w w') (hn : g ≠ q) : w'.ownsRow B t z (.slice (some ⟨g, 0, none⟩) m cap) n xs := by
  refine ⟨h.1, ?_⟩
  rcases h.2 with a | ⟨g', cap', cur, h1, h2, h3, h4⟩
  · cases a.1
  · have e : g' = g := by cases h1; rfl
    subst e
    refine .inr ⟨g', cap', cur, h1, h2, ?_, h4⟩
    have hg : g' < w.heap.size := by
      rcases Nat.lt_or_ge g' w.heap.size with a | a
      · exact a
      · rw [Array.getElem?_eq_none a] at h3; cases h3
    rw [c.block g' hg hn]
    exact h3
def QB (st un : Int) (a b : Int) : Prop := a = st ∧ b = un
set_option maxRecDepth 100000 in
set_option maxHeartbeats 8000000 in
theorem back_tcp (id : Int) (v : Value) (es : List (Int × Int)) (fa fp pr wait : Int) (hpr : pr = 2) (s : Nat → Addr) (w : World) (S : SeM w s) (L : EndsI w v es) :
    Calls Tryd.prog 3 #[.int .i64 id, v, .agg #[.int .i64 fa, .int .i64 fp], .int .i64 pr, .int .i64 wait] w fun e w' => e = .returned (.bool true) ∧ Below w.heap.size w w' := by
  obtain ⟨sp, cap, rfl, hat⟩ := L
  obtain ⟨ii0, hii, hz0, hz1, hz2⟩ := info_parts Tryd.infoIk
  have HS : Hid (SeM w s) := S
  have HAT : Hid (∀ (i : Nat) e, es[i]? = some e → ∃ b o, sp = some ⟨b, o, none⟩ ∧ w.cell? ⟨b, o + i * 2, none⟩ = some (.int .i64 e.1) ∧ w.cell? ⟨b, o + i * 2 + 1, none⟩ = some (.int .i64 e.2)) := hat
  clear S hat
  go_enter Tryd.func3, Tryd.ntmps3
  go_wp2_with fail
  have B0 : Hid (Below w.heap.size w (w.alloc (.cells #[.int .i64 fa, .int .i64 fp] 24))) := aB _ _
  have E0 : Hid (End2 (w.alloc (.cells #[.int .i64 fa, .int .i64 fp] 24)) w.heap.size fa fp) := end2_new w fa fp
  generalize w.alloc (.cells #[.int .i64 fa, .int .i64 fp] 24) = w0 at *
  generalize w.heap.size = Z0 at E0 ⊢
  refine (wakes_any s w0 (HS.out.below B0.out).n).mono ?_
  rintro e w1 ⟨rfl, hb1⟩
  have B1 : Hid (Below w.heap.size w w1) := t2 B0.out hb1
  have E1 : Hid (End2 w1 Z0 fa fp) := E0.out.below hb1
  clear hb1 B0 E0
  by_cases hlen : ((0 ≤ id ∧ id ≤ 1) ∧ es.length ≤ 24) ∧ 0 ≤ wait ∧ wait ≤ 8
  · obtain ⟨⟨⟨i0, i1⟩, hl⟩, h0, h8⟩ := hlen
    obtain ⟨d, rfl⟩ : ∃ d : Nat, id = d := ⟨id.toNat, by omega⟩
    obtain ⟨W8, rfl⟩ : ∃ W8 : Nat, wait = W8 := ⟨wait.toNat, by omega⟩
    have HD : Hid (d < 2) := (by omega : d < 2)
    have HL : Hid (es.length ≤ 24) := hl
    have HW8 : Hid (W8 ≤ 8) := (by omega : W8 ≤ 8)
    have x0 : ¬ (d : Int) < 0 := by omega
    have x1 : ¬ 1 < (d : Int) := by omega
    have x4 : ¬ (24 : Int) < (es.length : Int) := by omega
    have x5 : ¬ (W8 : Int) < 0 := by omega
    have x6 : ¬ 8 < (W8 : Int) := by omega
    clear i0 i1 hl h0 h8
    go_wp2_with fail
    clear x0 x1 x4 x5 x6
    refine (newBytes_any w1).mono ?_
    rintro e w4 ⟨⟨rfl, y4⟩, b4⟩
    have Y4 : Hid (Byt w4 w1.heap.size new0) := y4
    have B4 : Hid (Below w1.heap.size w1 w4) := b4
    have S3 : Hid (SeM w1 s) := HS.out.below B1.out
    clear y4 b4
    go_wp2_with fail
    have B5 : Hid (Below w1.heap.size w1 (w4.alloc (.cells #[.bool true, .bool true, .int .i64 0, .int .i64 1, .int .i64 65535] 34))) := t2 B4.out (aB _ _)
    have Y5 : Hid (Byt (w4.alloc (.cells #[.bool true, .bool true, .int .i64 0, .int .i64 1, .int .i64 65535] 34)) w1.heap.size new0) := Y4.out.below (aB _ _)
    have R5 : Hid (Sl (w4.alloc (.cells #[.bool true, .bool true, .int .i64 0, .int .i64 1, .int .i64 65535] 34)) (.slice (some ⟨w4.heap.size, 0, none⟩) 1 1) ruL) := ruL_sl w4
    have LS : Hid (w4.heap.size ≠ w1.heap.size) := (by have := Y4.out.lt; omega : w4.heap.size ≠ w1.heap.size)
    generalize w4.alloc (.cells #[.bool true, .bool true, .int .i64 0, .int .i64 1, .int .i64 65535] 34) = w5 at *
    clear Y4 B4
    refine (new_lr S3.out.n d w1.heap.size new0 _ ruL Y5.out (Nat.le_refl _) B5.out Beg.zero HD.out R5.out (fun a n c e => by cases e; exact LS.out) ruL_ok).mono ?_
    rintro e w6 ⟨k, rfl, l6⟩
    have L6 : Hid (Lr w1 w6 k d 0 1 (yNew new0) ruL 0) := l6
    have BG : Hid (Beg (yNew new0) 1 0 1) := ⟨Beg.zero.new.2.1, Beg.zero.new.2.2, by omega, by omega, by omega⟩
    clear l6 Y5 B5 R5 LS
    go_wp2_with fail
    go_loopw [15, 16, 17] (fun t _ _ wr => ∃ j : Nat, j ≤ 10 ∧ t = .int .i64 j ∧ Lr w1 wr k d 0 1 (yNew new0) ruL j) (fun t _ _ _ => 10 - (intOf t).toNat)
    case atStart => exact ⟨0, by omega, rfl, L6.out⟩
    case round =>
      obtain ⟨j, hj, rfl, lr⟩ := hrel
      have LR : Hid (Lr w1 wr k d 0 1 (yNew new0) ruL j) := lr
      clear lr L6
      by_cases hlt : j < 10
      · have j9 : (j : Int) ≤ 9 := by omega
        go_wp2_with fail
        refine (tick_lr S3.out.n LR.out BG.out (by omega)).mono ?_
        rintro e w4 ⟨⟨v, rfl⟩, l4⟩
        have L4 : Hid (Lr w1 w4 k d 0 1 (yNew new0) ruL (j + 1)) := l4
        clear l4 LR
        go_wp2_with fail
        exact ⟨⟨j + 1, by omega, by go_num, L4.out⟩, by simp [intOf]; omega⟩
      · obtain rfl : j = 10 := by omega
        rw [show ((10 : Nat) : Int) = 10 from rfl]
        have LB : Hid (Lb w1 wr k [] pr fa fp (2000 + (d : Int) * 24) (QB 1 (10 + 10)) ruL 10 0) := lb_new LR.out
        obtain ⟨B, hB⟩ : ∃ B, wr.heap.size = B := ⟨_, rfl⟩
        have HB : Hid (∃ wB, Lb w1 wB k [] pr fa fp (2000 + (d : Int) * 24) (QB 1 (10 + 10)) ruL 10 0 ∧ wB.heap.size = B) := ⟨wr, LB.out, hB⟩
        have HBW : Hid (B ≤ wr.heap.size) := (by omega : B ≤ wr.heap.size)
        clear hB LR
        subst hpr
        go_wp2_with fail
        go_loopw [20, 21, 22, 23, 24] (fun pv t _ _ _ wr => ∃ (i : Nat) (ds : List (Int × Int)) (ps : List Int), i ≤ es.length ∧ t = .int .i64 i ∧ wr.ownsRow B 3 1 pv ps.length (ps.map intVk) ∧ ps.length = i ∧ Lb w1 wr k ds 2 fa fp (2000 + (d : Int) * 24) (QB 1 (10 + 10)) ruL 10 i ∧ ds.length ≤ i ∧ Given es ds ps (2000 + (d : Int) * 24) i ∧ (0 < i → okEnd fa fp) ∧ B ≤ wr.heap.size) (fun _ t _ _ _ _ => es.length - (intOf t).toNat)
        case atStart => exact ⟨0, [], [], by omega, rfl, World.ownsRow_nil _ _ _ _, rfl, LB.out, by simp, fun i hi => by omega, fun h => by omega, HBW.out⟩
        case round =>
          obtain ⟨i, ds, ps, hi, rfl, hown, hps, lb, hds, hgv, hok, hbw⟩ := hrel
          have LI : Hid (Lb w1 wr k ds 2 fa fp (2000 + (d : Int) * 24) (QB 1 (10 + 10)) ruL 10 i) := lb
          have HO : Hid (wr.ownsRow B 3 1 u20 ps.length (ps.map intVk)) := hown
          have HG : Hid (ps.length = i ∧ ds.length ≤ i ∧ Given es ds ps (2000 + (d : Int) * 24) i ∧ B ≤ wr.heap.size) := ⟨hps, hds, hgv, hbw⟩
          have HOK : Hid (0 < i → okEnd fa fp) := hok
          clear lb hown hps hds hgv hok hbw LB HBW
          by_cases hlt : i < es.length
          · obtain ⟨A, o, hp, c1, c2⟩ := HAT.out i es[i] (List.getElem?_eq_getElem hlt)
            have HE : Hid (es[i]? = some es[i]) := List.getElem?_eq_getElem hlt
            generalize es[i] = x at *
            subst hp
            have b1 := t2 B1.out LI.out.bl
            have q1 := tk b1 c1
            have q2 := tk b1 c2
            obtain ⟨z0, z1⟩ := E1.out.below LI.out.bl
            have i0 : (0 : Int) ≤ (i : Int) := by omega
            have i1 : (i : Int) < (es.length : Int) := by omega
            have hz : Z0 < wr.heap.size := tlt z0
            have ha : A < wr.heap.size := tlt q1
            clear b1 c1 c2
            go_wp2_with fail
            go_region
            have P2 : Hid (PkZ ((wr.alloc (.cells #[.int .i64 2, .int .i64 x.1, .int .i64 x.2, .int .i64 fa, .int .i64 fp, .int .i64 1] 41)).drew) wr.heap.size ⟨2, x.1, x.2, fa, fp, 1⟩) := (PkZ.new wr ⟨2, x.1, x.2, fa, fp, 1⟩).below (Below.refl _ _).drew
            have B2 : Hid (Below wr.heap.size wr ((wr.alloc (.cells #[.int .i64 2, .int .i64 x.1, .int .i64 x.2, .int .i64 fa, .int .i64 fp, .int .i64 1] 41)).drew)) := t2 (aB _ _) (Below.refl _ _).drew
            generalize (wr.alloc (.cells #[.int .i64 2, .int .i64 x.1, .int .i64 x.2, .int .i64 fa, .int .i64 fp, .int .i64 1] 41)).drew = w7 at *
            have HPB : Hid (B ≤ wr.heap.size) := HG.out.2.2.2
            have L7 : Hid (Lb w1 w7 k ds 2 fa fp (2000 + (d : Int) * 24) (QB 1 (10 + 10)) ruL 10 i) := LI.out.below B2.out
            have HO7 : Hid (w7.ownsRow B 3 1 u20 ps.length (ps.map intVk)) := ownsRow_chgL (l := []) HO.out (ChgL.of B2.out) (by simp)
            have HB7 : Hid (B ≤ w7.heap.size) := Nat.le_trans HPB.out B2.out.size
            clear q1 q2 z0 z1 hz ha
            generalize wr.heap.size = P at P2 HPB ⊢
            obtain ⟨r0, r1, r2, r3, r4, r5⟩ := P2.out.b
            go_wp2_with fail
            clear r0 r1 r2 r3 r4 r5
            refine (perr_any 2 x.1 x.2 fa fp 1 w7).mono ?_
            rintro e w8 ⟨rfl, hb8⟩
            have P8 : Hid (PkZ w8 P ⟨2, x.1, x.2, fa, fp, 1⟩) := P2.out.below hb8
            have L8 : Hid (Lb w1 w8 k ds 2 fa fp (2000 + (d : Int) * 24) (QB 1 (10 + 10)) ruL 10 i) := L7.out.below hb8
            have HO8 : Hid (w8.ownsRow B 3 1 u20 ps.length (ps.map intVk)) := ownsRow_chgL (l := []) HO7.out (ChgL.of hb8) (by simp)
            have HB8 : Hid (B ≤ w8.heap.size) := Nat.le_trans HB7.out hb8.size
            have HBL : Hid (∀ b ∈ k.all, b < B) := by
              obtain ⟨wB, hl, rfl⟩ := HB.out
              exact hl.lt
            clear hb8 P2 L7 HO7 HB7 LI HO B2
            by_cases he : pkErr 2 x.1 x.2 fa fp 1 = 0
            · have HPO : Hid (PkOk 2 x.1 x.2 fa fp 1) := pkErr_zero.1 he
              rw [he]
              clear he
              obtain ⟨r0, r1, r2, r3, r4, r5⟩ := P8.out.b
              go_wp2_with fail
              clear r0 r1 r2 r3 r4 r5
              refine (inside_lb S3.out L8.out x 1 (pkErr_zero.2 HPO.out) (In6.small (by omega) (by omega)) (by decide) (by decide) (adm_one HPO.out.dst.2.2.1 HPO.out.dst.2.2.2) ruL_ok (by decide +kernel) (fun st un hq => by obtain ⟨rfl, rfl⟩ := hq; exact ⟨by decide +kernel, ⟨rfl, rfl⟩⟩) ⟨by decide, by decide⟩ (by have := HG.out.2.1; have := HL.out; omega) (by omega) (by have := HL.out; omega)).mono ?_
              rintro e w9 ⟨⟨ds', j, rfl, hd', hj, l9⟩, c9⟩
              simp only [Pk.v]
              have L9 : Hid (Lb w1 w9 k ds' 2 fa fp (2000 + (d : Int) * 24) (QB 1 (10 + 10)) ruL 10 (i + 1)) := l9
              have HO9 : Hid (w9.ownsRow B 3 1 u20 ps.length (ps.map intVk)) := ownsRow_chgL HO8.out c9 HBL.out
              have HB9 : Hid (B ≤ w9.heap.size) := Nat.le_trans HB8.out c9.size
              have HGV : Hid (Given es ds' (ps ++ [2000 + (d : Int) * 24 + j]) (2000 + (d : Int) * 24) (i + 1) ∧ ds'.length ≤ i + 1) := ⟨HG.out.2.2.1.more HG.out.1 HE.out hd' hj, by have := HG.out.2.1; rcases hd' with rfl | rfl <;> simp <;> omega⟩
              clear l9 c9 hd' hj L8 HO8 P8 HB8
              obtain ⟨z0, z1⟩ := E1.out.below L9.out.bl
              have hz : Z0 < w9.heap.size := tlt z0
              have hne : (binOp .neq 24 (.agg #[.int .i64 fa, .int .i64 fp]) (.agg #[.int .i64 fa, .int .i64 fp])).run Tryd.prog (w9.alloc (.cells #[.int .i64 2, .int .i64 1, .int .i64 (2000 + (d : Int) * 24 + j), .int .i64 fa, .int .i64 fp, .int .i64 1] 41)) = .ok (.bool false) (w9.alloc (.cells #[.int .i64 2, .int .i64 1, .int .i64 (2000 + (d : Int) * 24 + j), .int .i64 fa, .int .i64 fp, .int .i64 1] 41)) := by rw [neq_end]; simp
              go_upto_region 31 with fail
              clear hne z0 z1 hz
              have P10 : Hid (PkZ (w9.alloc (.cells #[.int .i64 2, .int .i64 1, .int .i64 (2000 + (d : Int) * 24 + j), .int .i64 fa, .int .i64 fp, .int .i64 1] 41)) w9.heap.size ⟨2, 1, 2000 + (d : Int) * 24 + j, fa, fp, 1⟩) := PkZ.new w9 ⟨2, 1, 2000 + (d : Int) * 24 + j, fa, fp, 1⟩
              have L10 : Hid (Lb w1 (w9.alloc (.cells #[.int .i64 2, .int .i64 1, .int .i64 (2000 + (d : Int) * 24 + j), .int .i64 fa, .int .i64 fp, .int .i64 1] 41)) k ds' 2 fa fp (2000 + (d : Int) * 24) (QB 1 (10 + 10)) ruL 10 (i + 1)) := L9.out.below (aB _ _)
              have HO10 : Hid ((w9.alloc (.cells #[.int .i64 2, .int .i64 1, .int .i64 (2000 + (d : Int) * 24 + j), .int .i64 fa, .int .i64 fp, .int .i64 1] 41)).ownsRow B 3 1 u20 ps.length (ps.map intVk)) := HO9.out.alloc _
              have HB10 : Hid (B ≤ (w9.alloc (.cells #[.int .i64 2, .int .i64 1, .int .i64 (2000 + (d : Int) * 24 + j), .int .i64 fa, .int .i64 fp, .int .i64 1] 41)).heap.size) := Nat.le_trans HB9.out (aB _ _).size
              generalize w9.alloc (.cells #[.int .i64 2, .int .i64 1, .int .i64 (2000 + (d : Int) * 24 + j), .int .i64 fa, .int .i64 fp, .int .i64 1] 41) = w10 at *
              generalize w9.heap.size = G at *
              clear L9 HO9 HB9
              have g2 := P10.out.b.c2
              go_wp2_with (at_builtin; refine wpList_append_own _ rfl _ _ 39 rfl B 3 ii0 (.int .i64 0) 1 8 Tryd.underlying39 hii hz0 hz1 hz2 rfl (by decide) _ _ _ rfl (HO10.out.alloc _) ⟨w10.heap.size, 0, none⟩ 1 1 [intVk (2000 + (d : Int) * 24 + j)] rfl rfl ?g1 ?g2 ?g3 ?g4 ?g5 ?_)
              case g2 => rfl
              case g3 => have := HG.out.1; have := HL.out; unfold maxLen; omega
              case g4 => have := HG.out.1; have := HL.out; omega
              case g5 => have := HB10.out; simp; omega
              intro v' w11 hown' hgrow _
              have HO11 : Hid (w11.ownsRow B 3 1 v' (ps ++ [2000 + (d : Int) * 24 + j]).length ((ps ++ [2000 + (d : Int) * 24 + (j : Int)]).map intVk)) := (by simpa using hown' : w11.ownsRow B 3 1 v' (ps ++ [2000 + (d : Int) * 24 + (j : Int)]).length ((ps ++ [2000 + (d : Int) * 24 + (j : Int)]).map intVk))
              have L11 : Hid (Lb w1 w11 k ds' 2 fa fp (2000 + (d : Int) * 24) (QB 1 (10 + 10)) ruL 10 (i + 1)) := by
                obtain ⟨wB, hl, rfl⟩ := HB.out
                exact (L10.out.below (aB _ _)).grown hl hgrow (fun q hq => by have := (HO10.out.lt q hq).1; omega)
              have HB11 : Hid (B ≤ w11.heap.size) := Nat.le_trans HB10.out (Nat.le_trans (aB _ _).size hgrow.size)
              have HOK2 : Hid (okEnd fa fp) := HPO.out.dst
              clear hown' hgrow g2 L10 HO10 HB10 P10
              go_wp2_with fail
              exact ⟨⟨i + 1, ds', ps ++ [2000 + (d : Int) * 24 + j], by omega, by go_num, HO11.out, by have := HG.out.1; simp; omega, L11.out, HGV.out.2, HGV.out.1, fun _ => HOK2.out, HB11.out⟩, by simp [intOf]; omega⟩
            · have hgt : (0 : Int) < (pkErr 2 x.1 x.2 fa fp 1 : Int) := by omega
              go_wp2_with fail
              go_ret
              exact ⟨rfl, t2 B1.out L8.out.bl⟩
          · have i1 : ¬ (i : Int) < (es.length : Int) := by omega
            obtain rfl : i = es.length := by omega
            go_wp2_with fail
            clear i1
            go_loopw [25, 26, 27] (fun t _ _ wr => ∃ j : Nat, j ≤ W8 ∧ t = .int .i64 j ∧ Lb w1 wr k ds 2 fa fp (2000 + (d : Int) * 24) (QB 1 (10 + 10)) ruL (10 + j) es.length ∧ wr.ownsRow B 3 1 u20 ps.length (ps.map intVk) ∧ B ≤ wr.heap.size) (fun t _ _ _ => W8 - (intOf t).toNat)
            case atStart => exact ⟨0, by omega, rfl, LI.out, HO.out, HG.out.2.2.2⟩
            case round =>
              obtain ⟨j, hj, rfl, lj, oj, bj⟩ := hrel
              have LJ : Hid (Lb w1 wr k ds 2 fa fp (2000 + (d : Int) * 24) (QB 1 (10 + 10)) ruL (10 + j) es.length) := lj
              have OJ : Hid (wr.ownsRow B 3 1 u20 ps.length (ps.map intVk)) := oj
              have BJ : Hid (B ≤ wr.heap.size) := bj
              clear lj oj bj
              by_cases hjw : j < W8
              · have j1 : (j : Int) < (W8 : Int) := by omega
                go_wp2_with fail
                refine (tick_lb S3.out LJ.out (fun st un hq => by obtain ⟨rfl, rfl⟩ := hq; have := HW8.out; omega) (by have := HW8.out; omega) (by have := HL.out; omega)).mono ?_
                rintro e w7 ⟨⟨v, rfl⟩, l7, c7⟩
                have L7 : Hid (Lb w1 w7 k ds 2 fa fp (2000 + (d : Int) * 24) (QB 1 (10 + 10)) ruL (10 + j + 1) es.length) := l7
                have O7 : Hid (w7.ownsRow B 3 1 u20 ps.length (ps.map intVk)) := ownsRow_chgL OJ.out c7 (by obtain ⟨wB, hl, rfl⟩ := HB.out; exact hl.lt)
                have B7 : Hid (B ≤ w7.heap.size) := Nat.le_trans BJ.out c7.size
                clear l7 c7 LJ OJ BJ
                go_wp2_with fail
                exact ⟨⟨j + 1, by omega, by go_num, L7.out, O7.out, B7.out⟩, by simp [intOf]; omega⟩
              · obtain rfl : j = W8 := by omega
                have j1 : ¬ (j : Int) < (j : Int) := by omega
                go_wp2_with fail
                clear j1
                have LA : Hid (Lb w1 wr k ds 2 fa fp (2000 + (d : Int) * 24) (fun _ _ => True) ruL (10 + j) es.length) := LJ.out.mono (fun _ _ _ => trivial)
                have HPS : Hid (ps.length = es.length) := HG.out.1
                have HGV : Hid (Given es ds ps (2000 + (d : Int) * 24) es.length) := HG.out.2.2.1
                have HND : Hid (ds.Nodup) := LJ.out.nodup
                have HLE : Hid (ds.length ≤ 24) := LJ.out.len
                clear LJ HG LI HO
                go_loopw [28, 29, 30, 31] (fun t _ _ _ wr => ∃ i : Nat, i ≤ ps.length ∧ t = .int .i64 i ∧ Lb w1 wr k ds 2 fa fp (2000 + (d : Int) * 24) (fun _ _ => True) ruL (10 + j) (es.length + i) ∧ wr.ownsRow B 3 1 u20 ps.length (ps.map intVk) ∧ B ≤ wr.heap.size) (fun t _ _ _ _ => ps.length - (intOf t).toNat)
                case atStart => exact ⟨0, by omega, rfl, LA.out, OJ.out, BJ.out⟩
                case round =>
                  obtain ⟨i, hi, rfl, li, oi, bi⟩ := hrel
                  have LI : Hid (Lb w1 wr k ds 2 fa fp (2000 + (d : Int) * 24) (fun _ _ => True) ruL (10 + j) (es.length + i)) := li
                  have OI : Hid (wr.ownsRow B 3 1 u20 ps.length (ps.map intVk)) := oi
                  have BI : Hid (B ≤ wr.heap.size) := bi
                  clear li oi bi LA OJ BJ
                  obtain ⟨pp, pcap, hv20, hpt⟩ := own_ints OI.out
                  subst hv20
                  by_cases hlt : i < ps.length
                  · obtain ⟨e, jj, he1, he2, he3⟩ := HGV.out i (by have := HPS.out; omega)
                    obtain ⟨g, hpp, hcg⟩ := hpt i _ he3
                    subst hpp
                    have HJE : Hid (es[i]? = some e ∧ ds[jj]? = some e ∧ ps[i]? = some (2000 + (d : Int) * 24 + jj)) := ⟨he1, he2, he3⟩
                    have HFAR : Hid (okEnd fa fp) := HOK.out (by have := HPS.out; omega)
                    have HJL : Hid (jj < 24) := by
                      have := HLE.out
                      obtain ⟨hlt, _⟩ := List.getElem?_eq_some_iff.1 he2
                      show jj < 24
                      omega
                    have HERR : Hid ((⟨2, fa, fp, 1, 2000 + (d : Int) * 24 + jj, 3⟩ : Pk).err = 0) := by
                      have h24 : jj < 24 := HJL.out
                      have hd2 : d < 2 := HD.out
                      have h2 : okEnd 1 (2000 + (d : Int) * 24 + jj) := ⟨by omega, by omega, by omega, by omega⟩
                      exact pkErr_zero.2 ⟨.inr rfl, HFAR.out, h2, (by decide : (0 : Int) ≤ 3), (by decide : (3 : Int) ≤ 15)⟩
                    have HOUT : Hid (∀ u, Lb w1 u k ds 2 fa fp (2000 + (d : Int) * 24) (fun _ _ => True) ruL (10 + j) (es.length + i) → Calls Tryd.prog 10 #[.pointer (some ⟨k.nd, 0, none⟩), .agg #[.int .i64 2, .int .i64 fa, .int .i64 fp, .int .i64 1, .int .i64 (2000 + (d : Int) * 24 + jj), .int .i64 3]] u fun r w' => r = .returned (.tuple #[.agg #[.int .i64 2, .int .i64 fa, .int .i64 fp, .int .i64 e.1, .int .i64 e.2, .int .i64 3], .nilIface]) ∧ Lb w1 w' k ds 2 fa fp (2000 + (d : Int) * 24) (fun _ _ => True) ruL (10 + j) (es.length + i + 1) ∧ ChgL k.all u w') := fun u hu => outside_lb S3.out hu jj e HJE.out.2.1 3 HERR.out (by decide) (by decide +kernel) (by have := HW8.out; omega) (by have := HL.out; have := HPS.out; omega)
                    have HBL : Hid (∀ b ∈ k.all, b < B) := by
                      obtain ⟨wB, hl, rfl⟩ := HB.out
                      exact hl.lt
                    obtain ⟨z0, z1⟩ := E1.out.below LI.out.bl
                    have i0 : (0 : Int) ≤ (i : Int) := by omega
                    have i1 : (i : Int) < (ps.length : Int) := by omega
                    clear he1 he2 he3 hpt
                    go_upto_region 41 with fail
                    go_cut [29, 30] (fun s29 s30 wx => ∃ q, s29 = .pointer (some ⟨q, 0, none⟩) ∧ s30 = .nilIface ∧ PkZ wx q ⟨2, fa, fp, e.1, e.2, 3⟩ ∧ Lb w1 wx k ds 2 fa fp (2000 + (d : Int) * 24) (fun _ _ => True) ruL (10 + j) (es.length + i + 1) ∧ wx.ownsRow B 3 1 (.slice (some ⟨g, 0, none⟩) ps.length pcap) ps.length (ps.map intVk) ∧ B ≤ wx.heap.size)
                    case first =>
                      have HZK : Hid (¬ Z0 ∈ k.all) := fun hm => by have := LI.out.g0 _ hm; have := tlt E1.out.c0; simp only at this; omega
                      have HGK : Hid (¬ g ∈ k.all) := fun hm => by have := HBL.out _ hm; have := (OI.out.lt g rfl).1; omega
                      have HSB : Hid (∀ u, Below wr.heap.size wr u → u.cell? ⟨Z0, 0, none⟩ = some (.int .i64 fa) ∧ u.cell? ⟨Z0, 1, none⟩ = some (.int .i64 fp) ∧ u.cell? ⟨g, i, none⟩ = some (.int .i64 (2000 + (d : Int) * 24 + jj))) := fun u hu => ⟨tk hu z0, tk hu z1, tk hu hcg⟩
                      have HSK : Hid (∀ u w', Below wr.heap.size wr u → ChgL k.all u w' → w'.cell? ⟨Z0, 0, none⟩ = some (.int .i64 fa) ∧ w'.cell? ⟨Z0, 1, none⟩ = some (.int .i64 fp) ∧ w'.cell? ⟨g, i, none⟩ = some (.int .i64 (2000 + (d : Int) * 24 + jj))) := fun u w' hu hc => ⟨hc.keeps HZK.out (HSB.out u hu).1, hc.keeps HZK.out (HSB.out u hu).2.1, hc.keeps HGK.out (HSB.out u hu).2.2⟩
                      have HSA : Hid (∀ u w' o, Below wr.heap.size wr u → ChgL k.all u w' → (w'.alloc o).cell? ⟨Z0, 0, none⟩ = some (.int .i64 fa) ∧ (w'.alloc o).cell? ⟨Z0, 1, none⟩ = some (.int .i64 fp) ∧ (w'.alloc o).cell? ⟨g, i, none⟩ = some (.int .i64 (2000 + (d : Int) * 24 + jj))) := fun u w' o hu hc => ⟨tk (aB _ _) (HSK.out u w' hu hc).1, tk (aB _ _) (HSK.out u w' hu hc).2.1, tk (aB _ _) (HSK.out u w' hu hc).2.2⟩
                      have hS0 := HSB.out wr.drew (Below.refl _ _).drew
                      have hDr : Hid (Below wr.heap.size wr wr.drew) := (Below.refl _ _).drew
                      have hAl : Hid (Below wr.heap.size wr (wr.alloc (.cells #[.int .i64 0, .int .i64 0, .int .i64 0, .int .i64 0, .int .i64 0, .int .i64 0] 41)).drew) := t2 (aB _ _) (Below.refl _ _).drew
                      have HZ3 : Hid (∀ w3, ChgL k.all (wr.alloc (.cells #[.int .i64 0, .int .i64 0, .int .i64 0, .int .i64 0, .int .i64 0, .int .i64 0] 41)).drew w3 → PkZ w3 wr.heap.size noP) := fun w3 k3 => ((PkZ.zero wr).below (Below.refl _ _).drew).chgL k3 (fun hm => by have := LI.out.lt _ hm; omega)
                      clear z0 z1 hcg
                      refine wp_region_noPanic ?_
                      refine wp_region_held_drew (S := (fun w' : World => w'.cell? ⟨Z0, 0, none⟩ = some (.int .i64 fa) ∧ w'.cell? ⟨Z0, 1, none⟩ = some (.int .i64 fp) ∧ w'.cell? ⟨g, i, none⟩ = some (.int .i64 (2000 + (d : Int) * 24 + jj)))) (by kernel_rfl) hS0 (fun _ => ?_)
                      refine wpAnyH_take (i := 0) (v := ?_) rfl (by kernel_rfl) (by kernel_rfl) (by kernel_rfl) (fun _ _ _ h => h) (Or.inl ⟨by rfl, ?_⟩) hS0 ?_
                      rotate_left
                      · intro w9 hSw; (try dsimp only at hSw); go_simp; try (with_reducible rfl)
                      simp only [Act.put, List.getElem_toArray, List.getElem_cons_zero, List.setIfInBounds_toArray, List.set_cons_zero, List.set_cons_succ]
                      refine wpAnyH_take (i := 1) (v := ?_) rfl (by kernel_rfl) (by kernel_rfl) (by kernel_rfl) (fun _ _ _ h => h) (Or.inl ⟨by rfl, ?_⟩) hS0 ?_
                      rotate_left
                      · intro w9 hSw; (try dsimp only at hSw); go_simp; try (with_reducible rfl)
                      simp only [Act.put, List.getElem_toArray, List.getElem_cons_succ, List.getElem_cons_zero, List.setIfInBounds_toArray, List.set_cons_zero, List.set_cons_succ]
                      refine wpAnyH_take (i := 2) (v := ?_) rfl (by kernel_rfl) (by kernel_rfl) (by kernel_rfl) (fun _ _ _ h => h) (Or.inl ⟨by rfl, ?_⟩) hS0 ?_
                      rotate_left
                      · intro w9 hSw; (try dsimp only at hSw); go_simp; try (with_reducible rfl)
                      simp only [Act.put, List.getElem_toArray, List.getElem_cons_succ, List.getElem_cons_zero, List.setIfInBounds_toArray, List.set_cons_zero, List.set_cons_succ]
                      refine wpAnyH_take (i := 3) (v := ?_) rfl (by kernel_rfl) (by kernel_rfl) (by kernel_rfl) (fun _ _ _ h => h) (Or.inl ⟨by rfl, ?_⟩) hS0 ?_
                      rotate_left
                      · intro w9 hSw; (try dsimp only at hSw); go_simp; try (with_reducible rfl)
                      simp only [Act.put, List.getElem_toArray, List.getElem_cons_succ, List.getElem_cons_zero, List.setIfInBounds_toArray, List.set_cons_zero, List.set_cons_succ]
                      refine wpAnyH_take (i := 4) (v := ?_) rfl (by kernel_rfl) (by kernel_rfl) (by kernel_rfl) (fun _ _ _ h => h) (Or.inl ⟨by rfl, ?_⟩) hS0 ?_
                      rotate_left
                      · intro w9 hSw; (try dsimp only at hSw); go_simp; try (with_reducible rfl)
                      simp only [Act.put, List.getElem_toArray, List.getElem_cons_succ, List.getElem_cons_zero, List.setIfInBounds_toArray, List.set_cons_zero, List.set_cons_succ]
                      refine wpAnyH_take (i := 5) (v := ?_) rfl (by kernel_rfl) (by kernel_rfl) (by kernel_rfl) (fun _ _ _ h => h) (Or.inl ⟨by rfl, ?_⟩) hS0 ?_
                      rotate_left
                      · intro w9 hSw; (try dsimp only at hSw); go_simp; try (with_reducible rfl)
                      simp only [Act.put, List.getElem_toArray, List.getElem_cons_succ, List.getElem_cons_zero, List.setIfInBounds_toArray, List.set_cons_zero, List.set_cons_succ]
                      refine wpAnyH_take (i := 6) (v := ?_) rfl (by kernel_rfl) (by kernel_rfl) (by kernel_rfl) (fun _ _ _ h => h) (Or.inl ⟨by rfl, ?_⟩) hS0 ?_
                      rotate_left
                      · intro w9 hSw; (try dsimp only at hSw); go_simp; try (with_reducible rfl)
                      simp only [Act.put, List.getElem_toArray, List.getElem_cons_succ, List.getElem_cons_zero, List.setIfInBounds_toArray, List.set_cons_zero, List.set_cons_succ]
                      refine wpAnyH_take (i := 7) (v := ?_) rfl (by kernel_rfl) (by kernel_rfl) (by kernel_rfl) (fun _ _ _ h => h) (Or.inl ⟨by rfl, ?_⟩) hS0 ?_
                      rotate_left
                      · intro w9 hSw; (try dsimp only at hSw); go_simp; try (with_reducible rfl)
                      simp only [Act.put, List.getElem_toArray, List.getElem_cons_succ, List.getElem_cons_zero, List.setIfInBounds_toArray, List.set_cons_zero, List.set_cons_succ]
                      refine wpAnyH_take (i := 8) (v := ?_) rfl (by kernel_rfl) (by kernel_rfl) (by kernel_rfl) (fun _ _ _ h => h) (Or.inl ⟨by rfl, ?_⟩) hS0 ?_
                      rotate_left
                      · intro w9 hSw; (try dsimp only at hSw); go_simp; try (with_reducible rfl)
                      simp only [Act.put, List.getElem_toArray, List.getElem_cons_succ, List.getElem_cons_zero, List.setIfInBounds_toArray, List.set_cons_zero, List.set_cons_succ]
                      refine wpAnyH_take (i := 9) (v := ?_) rfl (by kernel_rfl) (by kernel_rfl) (by kernel_rfl) (fun _ _ _ h => h) (Or.inl ⟨by rfl, ?_⟩) hS0 ?_
                      rotate_left
                      · intro w9 hSw; (try dsimp only at hSw); go_simp; try (with_reducible rfl)
                      simp only [Act.put, List.getElem_toArray, List.getElem_cons_succ, List.getElem_cons_zero, List.setIfInBounds_toArray, List.set_cons_zero, List.set_cons_succ]
                      have hX_xd : Hid (Below wr.heap.size wr wr.drew) := (Below.refl _ _).drew
                      generalize wr.drew = xd at *
                      refine wpAnyH_ready (rs := [10, 14]) (by kernel_rfl) (by simp) ?_
                      refine AllReadyH.cons (o := _) rfl (fun K hK => ?_) (AllReadyH.cons (o := _) rfl (fun K hK => ?_) AllReadyH.nil)
                      · go_simp
                        refine (HOUT.out xd (LI.out.below hX_xd.out)).mono ?_
                        rintro r y ⟨rfl, l3, k3⟩
                        go_wp2_with fail
                        have sy := HSK.out xd y hX_xd.out k3
                        have LY : Hid (Lb w1 y k ds 2 fa fp (2000 + (d : Int) * 24) (fun _ _ => True) ruL (10 + j) (es.length + i + 1)) := l3
                        have KY : Hid (ChgL k.all xd y) := k3
                        clear l3 k3
                        refine hK.out _ _ sy (fun _ => ?_)
                        clear hK K
                        try simp only [Act.put, List.setIfInBounds_toArray, List.set_cons_zero, List.set_cons_succ]
                        refine wpAnyH_take (i := 11) (v := ?_) rfl (by kernel_rfl) (by kernel_rfl) (by kernel_rfl) (fun _ _ _ h => h) (Or.inl ⟨by rfl, ?_⟩) sy ?_
                        rotate_left
                        · intro w9 hSw; (try dsimp only at hSw); go_simp; try (with_reducible rfl)
                        simp only [Act.put, List.getElem_toArray, List.getElem_cons_succ, List.getElem_cons_zero, List.setIfInBounds_toArray, List.set_cons_zero, List.set_cons_succ]
                        refine wpAnyH_take (i := 12) (v := ?_) rfl (by kernel_rfl) (by kernel_rfl) (by kernel_rfl) (fun _ _ _ h => h) (Or.inl ⟨by rfl, ?_⟩) sy ?_
                        rotate_left
                        · intro w9 hSw; (try dsimp only at hSw); go_simp; try (with_reducible rfl)
                        simp only [Act.put, List.getElem_toArray, List.getElem_cons_succ, List.getElem_cons_zero, List.setIfInBounds_toArray, List.set_cons_zero, List.set_cons_succ]
                        refine wpAnyH_take (i := 13) (v := ?_) rfl (by kernel_rfl) (by kernel_rfl) (by kernel_rfl) (fun _ _ _ h => h) (Or.inl ⟨by rfl, ?_⟩) sy ?_
                        rotate_left
                        · intro w9 hSw; (try dsimp only at hSw); go_simp; try (with_reducible rfl)
                        simp only [Act.put, List.getElem_toArray, List.getElem_cons_succ, List.getElem_cons_zero, List.setIfInBounds_toArray, List.set_cons_zero, List.set_cons_succ]
                        refine wpAnyH_ready (rs := [14]) (by kernel_rfl) (by simp) ?_
                        refine AllReadyH.cons (o := _) rfl (fun K hK => ?_) AllReadyH.nil
                        go_simp
                        have sz := HSA.out xd y (.cells #[.int .i64 0, .int .i64 0, .int .i64 0, .int .i64 0, .int .i64 0, .int .i64 0] 41) hX_xd.out KY.out
                        refine hK.out _ _ sz (fun _ => ?_)
                        clear hK K
                        try simp only [Act.put, List.setIfInBounds_toArray, List.set_cons_zero, List.set_cons_succ]
                        have QZ : Hid (PkZ (y.alloc (.cells #[.int .i64 0, .int .i64 0, .int .i64 0, .int .i64 0, .int .i64 0, .int .i64 0] 41)) y.heap.size noP) := PkZ.zero y
                        have LW : Hid (Lb w1 (y.alloc (.cells #[.int .i64 0, .int .i64 0, .int .i64 0, .int .i64 0, .int .i64 0, .int .i64 0] 41)) k ds 2 fa fp (2000 + (d : Int) * 24) (fun _ _ => True) ruL (10 + j) (es.length + i + 1)) := LY.out.below (aB _ _)
                        have OW : Hid ((y.alloc (.cells #[.int .i64 0, .int .i64 0, .int .i64 0, .int .i64 0, .int .i64 0, .int .i64 0] 41)).ownsRow B 3 1 (.slice (some ⟨g, 0, none⟩) ps.length pcap) ps.length (ps.map intVk)) := (ownsRow_chgL (ownsRow_chgL (l := []) OI.out (ChgL.of hX_xd.out) (by simp)) KY.out HBL.out).alloc _
                        have BW : Hid (B ≤ (y.alloc (.cells #[.int .i64 0, .int .i64 0, .int .i64 0, .int .i64 0, .int .i64 0, .int .i64 0] 41)).heap.size) := Nat.le_trans BI.out (Nat.le_trans hX_xd.out.size (Nat.le_trans KY.out.size (aB _ _).size))
                        have HQB : Hid (B ≤ y.heap.size) := Nat.le_trans BI.out (Nat.le_trans hX_xd.out.size KY.out.size)
                        have HZQ : Hid (Z0 ≠ y.heap.size) := by have := tlt (And.left sy); simp only at this; show Z0 ≠ _; omega
                        have HGQ : Hid (g ≠ y.heap.size) := by have := tlt (And.right (And.right sy)); simp only at this; show g ≠ _; omega
                        generalize y.alloc (.cells #[.int .i64 0, .int .i64 0, .int .i64 0, .int .i64 0, .int .i64 0, .int .i64 0] 41) = z at *
                        generalize y.heap.size = q at *
                        obtain ⟨c0, c1, c2, c3, c4, c5⟩ := QZ.out.b
                        have cf := QZ.out.fr
                        simp only [noP] at c0 c1 c2 c3 c4 c5
                        refine wpAnyH_ready (rs := [15]) (by kernel_rfl) (by simp) ?_
                        refine AllReadyH.cons (o := _) rfl (fun K hK => ?_) AllReadyH.nil
                        go_simp
                        have q9 : Hid (PkZ ((((((z.setCell ⟨q, 0, none⟩ (.int .i64 2)).setCell ⟨q, 1, none⟩ (.int .i64 fa)).setCell ⟨q, 2, none⟩ (.int .i64 fp)).setCell ⟨q, 3, none⟩ (.int .i64 e.1)).setCell ⟨q, 4, none⟩ (.int .i64 e.2)).setCell ⟨q, 5, none⟩ (.int .i64 3)) q ⟨2, fa, fp, e.1, e.2, 3⟩) := pkz_put QZ.out 2 fa fp e.1 e.2 3
                        have g9 := set6_chg z q (.int .i64 2) (.int .i64 fa) (.int .i64 fp) (.int .i64 e.1) (.int .i64 e.2) (.int .i64 3)
                        have s9 : ((((((z.setCell ⟨q, 0, none⟩ (.int .i64 2)).setCell ⟨q, 1, none⟩ (.int .i64 fa)).setCell ⟨q, 2, none⟩ (.int .i64 fp)).setCell ⟨q, 3, none⟩ (.int .i64 e.1)).setCell ⟨q, 4, none⟩ (.int .i64 e.2)).setCell ⟨q, 5, none⟩ (.int .i64 3)).cell? ⟨Z0, 0, none⟩ = some (.int .i64 fa) ∧ ((((((z.setCell ⟨q, 0, none⟩ (.int .i64 2)).setCell ⟨q, 1, none⟩ (.int .i64 fa)).setCell ⟨q, 2, none⟩ (.int .i64 fp)).setCell ⟨q, 3, none⟩ (.int .i64 e.1)).setCell ⟨q, 4, none⟩ (.int .i64 e.2)).setCell ⟨q, 5, none⟩ (.int .i64 3)).cell? ⟨Z0, 1, none⟩ = some (.int .i64 fp) ∧ ((((((z.setCell ⟨q, 0, none⟩ (.int .i64 2)).setCell ⟨q, 1, none⟩ (.int .i64 fa)).setCell ⟨q, 2, none⟩ (.int .i64 fp)).setCell ⟨q, 3, none⟩ (.int .i64 e.1)).setCell ⟨q, 4, none⟩ (.int .i64 e.2)).setCell ⟨q, 5, none⟩ (.int .i64 3)).cell? ⟨g, i, none⟩ = some (.int .i64 (2000 + (d : Int) * 24 + jj)) := ⟨g9.keeps HZQ.out (And.left sz), g9.keeps HZQ.out (And.left (And.right sz)), g9.keeps HGQ.out (And.right (And.right sz))⟩
                        refine hK.out _ _ s9 (fun _ => ?_)
                        clear hK K
                        try simp only [Act.put, List.setIfInBounds_toArray, List.set_cons_zero, List.set_cons_succ]
                        generalize ((((((z.setCell ⟨q, 0, none⟩ (.int .i64 2)).setCell ⟨q, 1, none⟩ (.int .i64 fa)).setCell ⟨q, 2, none⟩ (.int .i64 fp)).setCell ⟨q, 3, none⟩ (.int .i64 e.1)).setCell ⟨q, 4, none⟩ (.int .i64 e.2)).setCell ⟨q, 5, none⟩ (.int .i64 3)) = z9 at *
                        refine wpAnyH_take (i := 16) (v := ?_) rfl (by kernel_rfl) (by kernel_rfl) (by kernel_rfl) (fun _ _ _ h => h) (Or.inl ⟨by rfl, ?_⟩) s9 ?_
                        rotate_left
                        · intro w9 hSw; (try dsimp only at hSw); go_simp; try (with_reducible rfl)
                        simp only [Act.put, List.getElem_toArray, List.getElem_cons_succ, List.getElem_cons_zero, List.setIfInBounds_toArray, List.set_cons_zero, List.set_cons_succ]
                        refine wpAnyH_done (by kernel_rfl) ?_ _
                        refine NoPanic.normal ?_
                        go_wp2_with fail
                        go_meet
                        case rel =>
                          refine ⟨q, rfl, rfl, q9.out, ?_, ?_, ?_⟩
                          · obtain ⟨wB, hl, rfl⟩ := HB.out
                            exact LW.out.fresh hl g9 HQB.out
                          · exact ownsRow_chgQ OW.out g9 HGQ.out
                          · exact Nat.le_trans BW.out g9.size
                      · go_simp
                        have sz := HSB.out (xd.alloc (.cells #[.int .i64 0, .int .i64 0, .int .i64 0, .int .i64 0, .int .i64 0, .int .i64 0] 41)) (t2 hX_xd.out (aB _ _))
                        refine hK.out _ _ sz (fun _ => ?_)
                        clear hK K
                        try simp only [Act.put, List.setIfInBounds_toArray, List.set_cons_zero, List.set_cons_succ]
                        have QX : Hid (PkZ (xd.alloc (.cells #[.int .i64 0, .int .i64 0, .int .i64 0, .int .i64 0, .int .i64 0, .int .i64 0] 41)) xd.heap.size noP) := PkZ.zero xd
                        have hX_x2 : Hid (Below wr.heap.size wr (xd.alloc (.cells #[.int .i64 0, .int .i64 0, .int .i64 0, .int .i64 0, .int .i64 0, .int .i64 0] 41))) := t2 hX_xd.out (aB _ _)
                        have HQB : Hid (B ≤ xd.heap.size) := Nat.le_trans BI.out hX_xd.out.size
                        have HNK : Hid (¬ xd.heap.size ∈ k.all) := fun hm => by have := LI.out.lt _ hm; have := hX_xd.out.size; omega
                        have HZQ : Hid (Z0 ≠ xd.heap.size) := by have := tlt (And.left hS0); simp only at this; show Z0 ≠ _; omega
                        have HGQ : Hid (g ≠ xd.heap.size) := by have := tlt (And.right (And.right hS0)); simp only at this; show g ≠ _; omega
                        generalize xd.alloc (.cells #[.int .i64 0, .int .i64 0, .int .i64 0, .int .i64 0, .int .i64 0, .int .i64 0] 41) = x2 at *
                        generalize xd.heap.size = q at *
                        refine wpAnyH_ready (rs := [10]) (by kernel_rfl) (by simp) ?_
                        refine AllReadyH.cons (o := _) rfl (fun K hK => ?_) AllReadyH.nil
                        go_simp
                        refine (HOUT.out x2 (LI.out.below hX_x2.out)).mono ?_
                        rintro r y ⟨rfl, l3, k3⟩
                        go_wp2_with fail
                        have sy := HSK.out x2 y hX_x2.out k3
                        have LY : Hid (Lb w1 y k ds 2 fa fp (2000 + (d : Int) * 24) (fun _ _ => True) ruL (10 + j) (es.length + i + 1)) := l3
                        have KY : Hid (ChgL k.all x2 y) := k3
                        clear l3 k3
                        refine hK.out _ _ sy (fun _ => ?_)
                        clear hK K
                        try simp only [Act.put, List.setIfInBounds_toArray, List.set_cons_zero, List.set_cons_succ]
                        refine wpAnyH_take (i := 11) (v := ?_) rfl (by kernel_rfl) (by kernel_rfl) (by kernel_rfl) (fun _ _ _ h => h) (Or.inl ⟨by rfl, ?_⟩) sy ?_
                        rotate_left
                        · intro w9 hSw; (try dsimp only at hSw); go_simp; try (with_reducible rfl)
                        simp only [Act.put, List.getElem_toArray, List.getElem_cons_succ, List.getElem_cons_zero, List.setIfInBounds_toArray, List.set_cons_zero, List.set_cons_succ]
                        refine wpAnyH_take (i := 12) (v := ?_) rfl (by kernel_rfl) (by kernel_rfl) (by kernel_rfl) (fun _ _ _ h => h) (Or.inl ⟨by rfl, ?_⟩) sy ?_
                        rotate_left
                        · intro w9 hSw; (try dsimp only at hSw); go_simp; try (with_reducible rfl)
                        simp only [Act.put, List.getElem_toArray, List.getElem_cons_succ, List.getElem_cons_zero, List.setIfInBounds_toArray, List.set_cons_zero, List.set_cons_succ]
                        refine wpAnyH_take (i := 13) (v := ?_) rfl (by kernel_rfl) (by kernel_rfl) (by kernel_rfl) (fun _ _ _ h => h) (Or.inl ⟨by rfl, ?_⟩) sy ?_
                        rotate_left
                        · intro w9 hSw; (try dsimp only at hSw); go_simp; try (with_reducible rfl)
                        simp only [Act.put, List.getElem_toArray, List.getElem_cons_succ, List.getElem_cons_zero, List.setIfInBounds_toArray, List.set_cons_zero, List.set_cons_succ]
                        have QZ : Hid (PkZ y q noP) := QX.out.chgL KY.out HNK.out
                        have LW : Hid (Lb w1 y k ds 2 fa fp (2000 + (d : Int) * 24) (fun _ _ => True) ruL (10 + j) (es.length + i + 1)) := LY.out
                        have OW : Hid (y.ownsRow B 3 1 (.slice (some ⟨g, 0, none⟩) ps.length pcap) ps.length (ps.map intVk)) := ownsRow_chgL (ownsRow_chgL (l := []) OI.out (ChgL.of hX_x2.out) (by simp)) KY.out HBL.out
                        have BW : Hid (B ≤ y.heap.size) := Nat.le_trans BI.out (Nat.le_trans hX_x2.out.size KY.out.size)
                        obtain ⟨c0, c1, c2, c3, c4, c5⟩ := QZ.out.b
                        have cf := QZ.out.fr
                        simp only [noP] at c0 c1 c2 c3 c4 c5
                        refine wpAnyH_ready (rs := [15]) (by kernel_rfl) (by simp) ?_
                        refine AllReadyH.cons (o := _) rfl (fun K hK => ?_) AllReadyH.nil
                        go_simp
                        have q9 : Hid (PkZ ((((((y.setCell ⟨q, 0, none⟩ (.int .i64 2)).setCell ⟨q, 1, none⟩ (.int .i64 fa)).setCell ⟨q, 2, none⟩ (.int .i64 fp)).setCell ⟨q, 3, none⟩ (.int .i64 e.1)).setCell ⟨q, 4, none⟩ (.int .i64 e.2)).setCell ⟨q, 5, none⟩ (.int .i64 3)) q ⟨2, fa, fp, e.1, e.2, 3⟩) := pkz_put QZ.out 2 fa fp e.1 e.2 3
                        have g9 := set6_chg y q (.int .i64 2) (.int .i64 fa) (.int .i64 fp) (.int .i64 e.1) (.int .i64 e.2) (.int .i64 3)
                        have s9 : ((((((y.setCell ⟨q, 0, none⟩ (.int .i64 2)).setCell ⟨q, 1, none⟩ (.int .i64 fa)).setCell ⟨q, 2, none⟩ (.int .i64 fp)).setCell ⟨q, 3, none⟩ (.int .i64 e.1)).setCell ⟨q, 4, none⟩ (.int .i64 e.2)).setCell ⟨q, 5, none⟩ (.int .i64 3)).cell? ⟨Z0, 0, none⟩ = some (.int .i64 fa) ∧ ((((((y.setCell ⟨q, 0, none⟩ (.int .i64 2)).setCell ⟨q, 1, none⟩ (.int .i64 fa)).setCell ⟨q, 2, none⟩ (.int .i64 fp)).setCell ⟨q, 3, none⟩ (.int .i64 e.1)).setCell ⟨q, 4, none⟩ (.int .i64 e.2)).setCell ⟨q, 5, none⟩ (.int .i64 3)).cell? ⟨Z0, 1, none⟩ = some (.int .i64 fp) ∧ ((((((y.setCell ⟨q, 0, none⟩ (.int .i64 2)).setCell ⟨q, 1, none⟩ (.int .i64 fa)).setCell ⟨q, 2, none⟩ (.int .i64 fp)).setCell ⟨q, 3, none⟩ (.int .i64 e.1)).setCell ⟨q, 4, none⟩ (.int .i64 e.2)).setCell ⟨q, 5, none⟩ (.int .i64 3)).cell? ⟨g, i, none⟩ = some (.int .i64 (2000 + (d : Int) * 24 + jj)) := ⟨g9.keeps HZQ.out (And.left sy), g9.keeps HZQ.out (And.left (And.right sy)), g9.keeps HGQ.out (And.right (And.right sy))⟩
                        refine hK.out _ _ s9 (fun _ => ?_)
                        clear hK K
                        try simp only [Act.put, List.setIfInBounds_toArray, List.set_cons_zero, List.set_cons_succ]
                        generalize ((((((y.setCell ⟨q, 0, none⟩ (.int .i64 2)).setCell ⟨q, 1, none⟩ (.int .i64 fa)).setCell ⟨q, 2, none⟩ (.int .i64 fp)).setCell ⟨q, 3, none⟩ (.int .i64 e.1)).setCell ⟨q, 4, none⟩ (.int .i64 e.2)).setCell ⟨q, 5, none⟩ (.int .i64 3)) = z9 at *
                        refine wpAnyH_take (i := 16) (v := ?_) rfl (by kernel_rfl) (by kernel_rfl) (by kernel_rfl) (fun _ _ _ h => h) (Or.inl ⟨by rfl, ?_⟩) s9 ?_
                        rotate_left
                        · intro w9 hSw; (try dsimp only at hSw); go_simp; try (with_reducible rfl)
                        simp only [Act.put, List.getElem_toArray, List.getElem_cons_succ, List.getElem_cons_zero, List.setIfInBounds_toArray, List.set_cons_zero, List.set_cons_succ]
                        refine wpAnyH_done (by kernel_rfl) ?_ _
                        refine NoPanic.normal ?_
                        go_wp2_with fail
                        go_meet
                        case rel =>
                          refine ⟨q, rfl, rfl, q9.out, ?_, ?_, ?_⟩
                          · obtain ⟨wB, hl, rfl⟩ := HB.out
                            exact LW.out.fresh hl g9 HQB.out
                          · exact ownsRow_chgQ OW.out g9 HGQ.out
                          · exact Nat.le_trans BW.out g9.size
                    case rest =>
                      obtain ⟨q, rfl, rfl, pz, lb2, ow2, bw2⟩ := hcut
                      have PZ : Hid (PkZ wc q ⟨2, fa, fp, e.1, e.2, 3⟩) := pz
                      have L2 : Hid (Lb w1 wc k ds 2 fa fp (2000 + (d : Int) * 24) (fun _ _ => True) ruL (10 + j) (es.length + i + 1)) := lb2
                      have O2 : Hid (wc.ownsRow B 3 1 (.slice (some ⟨g, 0, none⟩) ps.length pcap) ps.length (ps.map intVk)) := ow2
                      have BW : Hid (B ≤ wc.heap.size) := bw2
                      clear pz lb2 ow2 bw2
                      obtain ⟨A, o, hp, c1, c2⟩ := HAT.out i e HJE.out.1
                      subst hp
                      have b1 := t2 B1.out L2.out.bl
                      have q1 := tk b1 c1
                      have q2 := tk b1 c2
                      obtain ⟨y0, y1⟩ := E1.out.below L2.out.bl
                      obtain ⟨r0, r1, r2, r3, r4, r5⟩ := PZ.out.b
                      have i2 : (i : Int) < (es.length : Int) := by have := HPS.out; omega
                      have hn1 : ∀ u, (binOp .neq 24 (.agg #[.int .i64 e.1, .int .i64 e.2]) (.agg #[.int .i64 e.1, .int .i64 e.2])).run Tryd.prog u = .ok (.bool false) u := fun u => by rw [neq_end]; simp
                      have hn2 : ∀ u, (binOp .neq 24 (.agg #[.int .i64 fa, .int .i64 fp]) (.agg #[.int .i64 fa, .int .i64 fp])).run Tryd.prog u = .ok (.bool false) u := fun u => by rw [neq_end]; simp
                      clear b1
                      go_wp2_with fail
                      go_quiet (fail)
                      have D2 : Hid (Below wc.heap.size wc (wc.drewN nq)) := ⟨rfl, rfl, rfl, Nat.le_refl _, fun _ _ => rfl⟩
                      generalize wc.drewN nq = wd at *
                      clear q1 q2 y0 y1 r0 r1 r2 r3 r4 r5 hn1 hn2 PZ
                      go_wp2_with fail
                      obtain ⟨pi, hpi⟩ : ∃ pi, 2000 + (d : Int) * 24 + (jj : Int) = pi := ⟨_, rfl⟩
                      have HPI : Hid (2000 + (d : Int) * 24 + (jj : Int) = pi) := hpi
                      clear hpi
                      go_loopw [31] (fun t wz => ∃ m : Nat, m ≤ i ∧ t = .int .i64 m ∧ Below wc.heap.size wc wz) (fun t _ => i - (intOf t).toNat)
                      case atStart => exact ⟨0, by omega, rfl, D2.out⟩
                      case round =>
                        obtain ⟨m, hm, rfl, hbz⟩ := hrel
                        have HBZ : Hid (Below wc.heap.size wc wr) := hbz
                        clear hbz
                        by_cases hmi : m < i
                        · obtain ⟨e', j', g1, g2, g3⟩ := HGV.out m (by have := HPS.out; omega)
                          obtain ⟨A', o', hp', d1, d2⟩ := HAT.out m e' g1
                          have hA : A' = A ∧ o' = o := by cases hp'; exact ⟨rfl, rfl⟩
                          obtain ⟨rfl, rfl⟩ := hA
                          obtain ⟨pp', pcap', hv', hpt'⟩ := own_ints O2.out
                          obtain ⟨g', hg', hcm⟩ := hpt' m _ g3
                          obtain ⟨g'', hg'', hci⟩ := hpt' i _ HJE.out.2.2
                          have hg1 : g' = g := by rw [hg'] at hv'; cases hv'; rfl
                          have hg2 : g'' = g := by rw [hg''] at hv'; cases hv'; rfl
                          subst hg1 hg2
                          obtain ⟨bb, hbb⟩ : ∃ bb, (e'.1 == e.1 && e'.2 == e.2) = bb := ⟨_, rfl⟩
                          have heq : ∀ u, (binOp .eql 24 (.agg #[.int .i64 e'.1, .int .i64 e'.2]) (.agg #[.int .i64 e.1, .int .i64 e.2])).run Tryd.prog u = .ok (.bool bb) u := fun u => by rw [eql_end, hbb]
                          obtain ⟨pm, hpm⟩ : ∃ pm, 2000 + (d : Int) * 24 + (j' : Int) = pm := ⟨_, rfl⟩
                          have hpb : (pm == pi) = bb := by
                            rw [← hbb, ← hpm, ← HPI.out]
                            by_cases ee : e' = e
                            · have hjj : j' = jj := (List.getElem?_inj (List.getElem?_eq_some_iff.1 g2).1 HND.out).1 (by rw [g2, HJE.out.2.1, ee])
                              rw [ee, hjj]
                              simp
                            · have h1 : ¬ (e'.1 = e.1 ∧ e'.2 = e.2) := fun h => ee (Prod.ext h.1 h.2)
                              have h2 : ¬ j' = jj := fun h => ee (by have q := HJE.out.2.1; rw [← h, g2] at q; exact Option.some.inj q)
                              have h3 : (e'.1 == e.1 && e'.2 == e.2) = false := by rw [Bool.eq_false_iff]; intro h; exact h1 (by simpa using h)
                              rw [h3, beq_eq_false_iff_ne]
                              omega
                          rw [hpm] at hcm
                          rw [HPI.out] at hci
                          have b1 := t2 B1.out L2.out.bl
                          have a1 := tk HBZ.out (tk b1 c1)
                          have a2 := tk HBZ.out (tk b1 c2)
                          have a3 := tk HBZ.out (tk b1 d1)
                          have a4 := tk HBZ.out (tk b1 d2)
                          have a5 := tk HBZ.out hcm
                          have a6 := tk HBZ.out hci
                          have m0 : (0 : Int) ≤ (m : Int) := by omega
                          have m1 : (m : Int) < (i : Int) := by omega
                          have m2 : (m : Int) < (es.length : Int) := by omega
                          have m3 : (m : Int) < (ps.length : Int) := by omega
                          have m4 : (i : Int) < (ps.length : Int) := by omega
                          clear g1 g2 g3 hp' d1 d2 hv' hpt' hg' hg'' hcm hci hpm hbb b1
                          go_wp2_with fail
                          go_quiet (fail)
                          have D3 : Hid (Below wc.heap.size wc (wr.drewN nq)) := t2 HBZ.out ⟨rfl, rfl, rfl, Nat.le_refl _, fun _ _ => rfl⟩
                          go_wp2_with fail
                          exact ⟨⟨m + 1, by omega, by go_num, D3.out⟩, by simp [intOf]; omega⟩
                        · obtain rfl : m = i := by omega
                          have m1 : ¬ (m : Int) < (m : Int) := by omega
                          go_wp2_with fail
                          exact ⟨⟨m + 1, by omega, by go_num, (L2.out.below HBZ.out).cup (by omega), ownsRow_chgL (l := []) O2.out (ChgL.of HBZ.out) (by simp), Nat.le_trans BW.out HBZ.out.size⟩, by simp [intOf]; omega⟩
                  · have i1 : ¬ (i : Int) < (ps.length : Int) := by omega
                    go_wp2_with fail
                    go_ret
                    exact ⟨rfl, t2 B1.out LI.out.bl⟩
  · have HN : Hid (id < 0 ∨ 1 < id ∨ (24 : Int) < (es.length : Int) ∨ wait < 0 ∨ 8 < wait) := (by omega : id < 0 ∨ 1 < id ∨ (24 : Int) < (es.length : Int) ∨ wait < 0 ∨ 8 < wait)
    clear hlen
    by_cases x0 : id < 0
    · go_wp2_with fail
      go_ret
      exact ⟨rfl, B1.out⟩
    · by_cases x1 : 1 < id
      · go_wp2_with fail
        go_ret
        exact ⟨rfl, B1.out⟩
      · by_cases x2 : (24 : Int) < (es.length : Int)
        · go_wp2_with fail
          go_ret
          exact ⟨rfl, B1.out⟩
        · by_cases x3 : wait < 0
          · go_wp2_with fail
            go_ret
            exact ⟨rfl, B1.out⟩
          · have x4 : 8 < wait := by have := HN.out; omega
            go_wp2_with fail
            go_ret
            exact ⟨rfl, B1.out⟩
set_option maxRecDepth 100000 in
set_option maxHeartbeats 8000000 in
theorem back_udp (id : Int) (v : Value) (es : List (Int × Int)) (fa fp pr wait : Int) (hpr : pr ≠ 2) (s : Nat → Addr) (w : World) (S : SeM w s) (L : EndsI w v es) :
    Calls Tryd.prog 3 #[.int .i64 id, v, .agg #[.int .i64 fa, .int .i64 fp], .int .i64 pr, .int .i64 wait] w fun e w' => e = .returned (.bool true) ∧ Below w.heap.size w w' := by
  obtain ⟨sp, cap, rfl, hat⟩ := L
  obtain ⟨ii0, hii, hz0, hz1, hz2⟩ := info_parts Tryd.infoIk
  have HS : Hid (SeM w s) := S
  have HAT : Hid (∀ (i : Nat) e, es[i]? = some e → ∃ b o, sp = some ⟨b, o, none⟩ ∧ w.cell? ⟨b, o + i * 2, none⟩ = some (.int .i64 e.1) ∧ w.cell? ⟨b, o + i * 2 + 1, none⟩ = some (.int .i64 e.2)) := hat
  clear S hat
  go_enter Tryd.func3, Tryd.ntmps3
  go_wp2_with fail
  have B0 : Hid (Below w.heap.size w (w.alloc (.cells #[.int .i64 fa, .int .i64 fp] 24))) := aB _ _
  have E0 : Hid (End2 (w.alloc (.cells #[.int .i64 fa, .int .i64 fp] 24)) w.heap.size fa fp) := end2_new w fa fp
  generalize w.alloc (.cells #[.int .i64 fa, .int .i64 fp] 24) = w0 at *
  generalize w.heap.size = Z0 at E0 ⊢
  refine (wakes_any s w0 (HS.out.below B0.out).n).mono ?_
  rintro e w1 ⟨rfl, hb1⟩
  have B1 : Hid (Below w.heap.size w w1) := t2 B0.out hb1
  have E1 : Hid (End2 w1 Z0 fa fp) := E0.out.below hb1
  clear hb1 B0 E0
  by_cases hlen : ((0 ≤ id ∧ id ≤ 1) ∧ es.length ≤ 24) ∧ 0 ≤ wait ∧ wait ≤ 8
  · obtain ⟨⟨⟨i0, i1⟩, hl⟩, h0, h8⟩ := hlen
    obtain ⟨d, rfl⟩ : ∃ d : Nat, id = d := ⟨id.toNat, by omega⟩
    obtain ⟨W8, rfl⟩ : ∃ W8 : Nat, wait = W8 := ⟨wait.toNat, by omega⟩
    have HD : Hid (d < 2) := (by omega : d < 2)
    have HL : Hid (es.length ≤ 24) := hl
    have HW8 : Hid (W8 ≤ 8) := (by omega : W8 ≤ 8)
    have x0 : ¬ (d : Int) < 0 := by omega
    have x1 : ¬ 1 < (d : Int) := by omega
    have x4 : ¬ (24 : Int) < (es.length : Int) := by omega
    have x5 : ¬ (W8 : Int) < 0 := by omega
    have x6 : ¬ 8 < (W8 : Int) := by omega
    clear i0 i1 hl h0 h8
    go_wp2_with fail
    clear x0 x1 x4 x5 x6
    refine (newBytes_any w1).mono ?_
    rintro e w4 ⟨⟨rfl, y4⟩, b4⟩
    have Y4 : Hid (Byt w4 w1.heap.size new0) := y4
    have B4 : Hid (Below w1.heap.size w1 w4) := b4
    have S3 : Hid (SeM w1 s) := HS.out.below B1.out
    clear y4 b4
    go_wp2_with fail
    have B5 : Hid (Below w1.heap.size w1 (w4.alloc (.cells #[.bool true, .bool true, .int .i64 0, .int .i64 1, .int .i64 65535] 34))) := t2 B4.out (aB _ _)
    have Y5 : Hid (Byt (w4.alloc (.cells #[.bool true, .bool true, .int .i64 0, .int .i64 1, .int .i64 65535] 34)) w1.heap.size new0) := Y4.out.below (aB _ _)
    have R5 : Hid (Sl (w4.alloc (.cells #[.bool true, .bool true, .int .i64 0, .int .i64 1, .int .i64 65535] 34)) (.slice (some ⟨w4.heap.size, 0, none⟩) 1 1) ruL) := ruL_sl w4
    have LS : Hid (w4.heap.size ≠ w1.heap.size) := (by have := Y4.out.lt; omega : w4.heap.size ≠ w1.heap.size)
    generalize w4.alloc (.cells #[.bool true, .bool true, .int .i64 0, .int .i64 1, .int .i64 65535] 34) = w5 at *
    clear Y4 B4
    refine (new_lr S3.out.n d w1.heap.size new0 _ ruL Y5.out (Nat.le_refl _) B5.out Beg.zero HD.out R5.out (fun a n c e => by cases e; exact LS.out) ruL_ok).mono ?_
    rintro e w6 ⟨k, rfl, l6⟩
    have L6 : Hid (Lr w1 w6 k d 0 1 (yNew new0) ruL 0) := l6
    have BG : Hid (Beg (yNew new0) 1 0 1) := ⟨Beg.zero.new.2.1, Beg.zero.new.2.2, by omega, by omega, by omega⟩
    clear l6 Y5 B5 R5 LS
    go_wp2_with fail
    go_loopw [15, 16, 17] (fun t _ _ wr => ∃ j : Nat, j ≤ 10 ∧ t = .int .i64 j ∧ Lr w1 wr k d 0 1 (yNew new0) ruL j) (fun t _ _ _ => 10 - (intOf t).toNat)
    case atStart => exact ⟨0, by omega, rfl, L6.out⟩
    case round =>
      obtain ⟨j, hj, rfl, lr⟩ := hrel
      have LR : Hid (Lr w1 wr k d 0 1 (yNew new0) ruL j) := lr
      clear lr L6
      by_cases hlt : j < 10
      · have j9 : (j : Int) ≤ 9 := by omega
        go_wp2_with fail
        refine (tick_lr S3.out.n LR.out BG.out (by omega)).mono ?_
        rintro e w4 ⟨⟨v, rfl⟩, l4⟩
        have L4 : Hid (Lr w1 w4 k d 0 1 (yNew new0) ruL (j + 1)) := l4
        clear l4 LR
        go_wp2_with fail
        exact ⟨⟨j + 1, by omega, by go_num, L4.out⟩, by simp [intOf]; omega⟩
      · obtain rfl : j = 10 := by omega
        rw [show ((10 : Nat) : Int) = 10 from rfl]
        have LB : Hid (Lb w1 wr k [] pr fa fp (2000 + (d : Int) * 24) (QB 2 (10 + 60)) ruL 10 0) := lb_new LR.out
        obtain ⟨B, hB⟩ : ∃ B, wr.heap.size = B := ⟨_, rfl⟩
        have HB : Hid (∃ wB, Lb w1 wB k [] pr fa fp (2000 + (d : Int) * 24) (QB 2 (10 + 60)) ruL 10 0 ∧ wB.heap.size = B) := ⟨wr, LB.out, hB⟩
        have HBW : Hid (B ≤ wr.heap.size) := (by omega : B ≤ wr.heap.size)
        clear hB LR
        have hne2 : (pr == 2) = false := by rw [beq_eq_false_iff_ne]; exact hpr
        go_wp2_with fail
        go_loopw [20, 21, 22, 23, 24] (fun pv t _ _ _ wr => ∃ (i : Nat) (ds : List (Int × Int)) (ps : List Int), i ≤ es.length ∧ t = .int .i64 i ∧ wr.ownsRow B 3 1 pv ps.length (ps.map intVk) ∧ ps.length = i ∧ Lb w1 wr k ds pr fa fp (2000 + (d : Int) * 24) (QB 2 (10 + 60)) ruL 10 i ∧ ds.length ≤ i ∧ Given es ds ps (2000 + (d : Int) * 24) i ∧ (0 < i → okEnd fa fp ∧ pr = 1) ∧ B ≤ wr.heap.size) (fun _ t _ _ _ _ => es.length - (intOf t).toNat)
        case atStart => exact ⟨0, [], [], by omega, rfl, World.ownsRow_nil _ _ _ _, rfl, LB.out, by simp, fun i hi => by omega, fun h => by omega, HBW.out⟩
        case round =>
          obtain ⟨i, ds, ps, hi, rfl, hown, hps, lb, hds, hgv, hok, hbw⟩ := hrel
          have LI : Hid (Lb w1 wr k ds pr fa fp (2000 + (d : Int) * 24) (QB 2 (10 + 60)) ruL 10 i) := lb
          have HO : Hid (wr.ownsRow B 3 1 u20 ps.length (ps.map intVk)) := hown
          have HG : Hid (ps.length = i ∧ ds.length ≤ i ∧ Given es ds ps (2000 + (d : Int) * 24) i ∧ B ≤ wr.heap.size) := ⟨hps, hds, hgv, hbw⟩
          have HOK : Hid (0 < i → okEnd fa fp ∧ pr = 1) := hok
          clear lb hown hps hds hgv hok hbw LB HBW
          by_cases hlt : i < es.length
          · obtain ⟨A, o, hp, c1, c2⟩ := HAT.out i es[i] (List.getElem?_eq_getElem hlt)
            have HE : Hid (es[i]? = some es[i]) := List.getElem?_eq_getElem hlt
            generalize es[i] = x at *
            subst hp
            have b1 := t2 B1.out LI.out.bl
            have q1 := tk b1 c1
            have q2 := tk b1 c2
            obtain ⟨z0, z1⟩ := E1.out.below LI.out.bl
            have i0 : (0 : Int) ≤ (i : Int) := by omega
            have i1 : (i : Int) < (es.length : Int) := by omega
            have hz : Z0 < wr.heap.size := tlt z0
            have ha : A < wr.heap.size := tlt q1
            clear b1 c1 c2
            go_wp2_with fail
            go_region
            have P2 : Hid (PkZ ((wr.alloc (.cells #[.int .i64 pr, .int .i64 x.1, .int .i64 x.2, .int .i64 fa, .int .i64 fp, .int .i64 0] 41)).drew) wr.heap.size ⟨pr, x.1, x.2, fa, fp, 0⟩) := (PkZ.new wr ⟨pr, x.1, x.2, fa, fp, 0⟩).below (Below.refl _ _).drew
            have B2 : Hid (Below wr.heap.size wr ((wr.alloc (.cells #[.int .i64 pr, .int .i64 x.1, .int .i64 x.2, .int .i64 fa, .int .i64 fp, .int .i64 0] 41)).drew)) := t2 (aB _ _) (Below.refl _ _).drew
            generalize (wr.alloc (.cells #[.int .i64 pr, .int .i64 x.1, .int .i64 x.2, .int .i64 fa, .int .i64 fp, .int .i64 0] 41)).drew = w7 at *
            have HPB : Hid (B ≤ wr.heap.size) := HG.out.2.2.2
            have L7 : Hid (Lb w1 w7 k ds pr fa fp (2000 + (d : Int) * 24) (QB 2 (10 + 60)) ruL 10 i) := LI.out.below B2.out
            have HO7 : Hid (w7.ownsRow B 3 1 u20 ps.length (ps.map intVk)) := ownsRow_chgL (l := []) HO.out (ChgL.of B2.out) (by simp)
            have HB7 : Hid (B ≤ w7.heap.size) := Nat.le_trans HPB.out B2.out.size
            clear q1 q2 z0 z1 hz ha
            generalize wr.heap.size = P at P2 HPB ⊢
            obtain ⟨r0, r1, r2, r3, r4, r5⟩ := P2.out.b
            go_wp2_with fail
            clear r0 r1 r2 r3 r4 r5
            refine (perr_any pr x.1 x.2 fa fp 0 w7).mono ?_
            rintro e w8 ⟨rfl, hb8⟩
            have P8 : Hid (PkZ w8 P ⟨pr, x.1, x.2, fa, fp, 0⟩) := P2.out.below hb8
            have L8 : Hid (Lb w1 w8 k ds pr fa fp (2000 + (d : Int) * 24) (QB 2 (10 + 60)) ruL 10 i) := L7.out.below hb8
            have HO8 : Hid (w8.ownsRow B 3 1 u20 ps.length (ps.map intVk)) := ownsRow_chgL (l := []) HO7.out (ChgL.of hb8) (by simp)
            have HB8 : Hid (B ≤ w8.heap.size) := Nat.le_trans HB7.out hb8.size
            have HBL : Hid (∀ b ∈ k.all, b < B) := by
              obtain ⟨wB, hl, rfl⟩ := HB.out
              exact hl.lt
            clear hb8 P2 L7 HO7 HB7 LI HO B2
            by_cases he : pkErr pr x.1 x.2 fa fp 0 = 0
            · have HPO : Hid (PkOk pr x.1 x.2 fa fp 0) := pkErr_zero.1 he
              rw [he]
              clear he
              obtain rfl : pr = 1 := by have := HPO.out.proto; omega
              obtain ⟨r0, r1, r2, r3, r4, r5⟩ := P8.out.b
              go_wp2_with fail
              clear r0 r1 r2 r3 r4 r5
              refine (inside_lb S3.out L8.out x 0 (pkErr_zero.2 HPO.out) (In6.small (by omega) (by omega)) (by decide) (by decide) (adm_one HPO.out.dst.2.2.1 HPO.out.dst.2.2.2) ruL_ok (by decide +kernel) (fun st un hq => by obtain ⟨rfl, rfl⟩ := hq; exact ⟨by decide +kernel, ⟨rfl, rfl⟩⟩) ⟨by decide, by decide⟩ (by have := HG.out.2.1; have := HL.out; omega) (by omega) (by have := HL.out; omega)).mono ?_
              rintro e w9 ⟨⟨ds', j, rfl, hd', hj, l9⟩, c9⟩
              simp only [Pk.v]
              have L9 : Hid (Lb w1 w9 k ds' 1 fa fp (2000 + (d : Int) * 24) (QB 2 (10 + 60)) ruL 10 (i + 1)) := l9
              have HO9 : Hid (w9.ownsRow B 3 1 u20 ps.length (ps.map intVk)) := ownsRow_chgL HO8.out c9 HBL.out
              have HB9 : Hid (B ≤ w9.heap.size) := Nat.le_trans HB8.out c9.size
              have HGV : Hid (Given es ds' (ps ++ [2000 + (d : Int) * 24 + j]) (2000 + (d : Int) * 24) (i + 1) ∧ ds'.length ≤ i + 1) := ⟨HG.out.2.2.1.more HG.out.1 HE.out hd' hj, by have := HG.out.2.1; rcases hd' with rfl | rfl <;> simp <;> omega⟩
              clear l9 c9 hd' hj L8 HO8 P8 HB8
              obtain ⟨z0, z1⟩ := E1.out.below L9.out.bl
              have hz : Z0 < w9.heap.size := tlt z0
              have hne : (binOp .neq 24 (.agg #[.int .i64 fa, .int .i64 fp]) (.agg #[.int .i64 fa, .int .i64 fp])).run Tryd.prog (w9.alloc (.cells #[.int .i64 1, .int .i64 1, .int .i64 (2000 + (d : Int) * 24 + j), .int .i64 fa, .int .i64 fp, .int .i64 0] 41)) = .ok (.bool false) (w9.alloc (.cells #[.int .i64 1, .int .i64 1, .int .i64 (2000 + (d : Int) * 24 + j), .int .i64 fa, .int .i64 fp, .int .i64 0] 41)) := by rw [neq_end]; simp
              go_upto_region 31 with fail
              clear hne z0 z1 hz
              have P10 : Hid (PkZ (w9.alloc (.cells #[.int .i64 1, .int .i64 1, .int .i64 (2000 + (d : Int) * 24 + j), .int .i64 fa, .int .i64 fp, .int .i64 0] 41)) w9.heap.size ⟨1, 1, 2000 + (d : Int) * 24 + j, fa, fp, 0⟩) := PkZ.new w9 ⟨1, 1, 2000 + (d : Int) * 24 + j, fa, fp, 0⟩
              have L10 : Hid (Lb w1 (w9.alloc (.cells #[.int .i64 1, .int .i64 1, .int .i64 (2000 + (d : Int) * 24 + j), .int .i64 fa, .int .i64 fp, .int .i64 0] 41)) k ds' 1 fa fp (2000 + (d : Int) * 24) (QB 2 (10 + 60)) ruL 10 (i + 1)) := L9.out.below (aB _ _)
              have HO10 : Hid ((w9.alloc (.cells #[.int .i64 1, .int .i64 1, .int .i64 (2000 + (d : Int) * 24 + j), .int .i64 fa, .int .i64 fp, .int .i64 0] 41)).ownsRow B 3 1 u20 ps.length (ps.map intVk)) := HO9.out.alloc _
              have HB10 : Hid (B ≤ (w9.alloc (.cells #[.int .i64 1, .int .i64 1, .int .i64 (2000 + (d : Int) * 24 + j), .int .i64 fa, .int .i64 fp, .int .i64 0] 41)).heap.size) := Nat.le_trans HB9.out (aB _ _).size
              generalize w9.alloc (.cells #[.int .i64 1, .int .i64 1, .int .i64 (2000 + (d : Int) * 24 + j), .int .i64 fa, .int .i64 fp, .int .i64 0] 41) = w10 at *
              generalize w9.heap.size = G at *
              clear L9 HO9 HB9
              have g2 := P10.out.b.c2
              go_wp2_with (at_builtin; refine wpList_append_own _ rfl _ _ 39 rfl B 3 ii0 (.int .i64 0) 1 8 Tryd.underlying39 hii hz0 hz1 hz2 rfl (by decide) _ _ _ rfl (HO10.out.alloc _) ⟨w10.heap.size, 0, none⟩ 1 1 [intVk (2000 + (d : Int) * 24 + j)] rfl rfl ?g1 ?g2 ?g3 ?g4 ?g5 ?_)
              case g2 => rfl
              case g3 => have := HG.out.1; have := HL.out; unfold maxLen; omega
              case g4 => have := HG.out.1; have := HL.out; omega
              case g5 => have := HB10.out; simp; omega
              intro v' w11 hown' hgrow _
              have HO11 : Hid (w11.ownsRow B 3 1 v' (ps ++ [2000 + (d : Int) * 24 + j]).length ((ps ++ [2000 + (d : Int) * 24 + (j : Int)]).map intVk)) := (by simpa using hown' : w11.ownsRow B 3 1 v' (ps ++ [2000 + (d : Int) * 24 + (j : Int)]).length ((ps ++ [2000 + (d : Int) * 24 + (j : Int)]).map intVk))
              have L11 : Hid (Lb w1 w11 k ds' 1 fa fp (2000 + (d : Int) * 24) (QB 2 (10 + 60)) ruL 10 (i + 1)) := by
                obtain ⟨wB, hl, rfl⟩ := HB.out
                exact (L10.out.below (aB _ _)).grown hl hgrow (fun q hq => by have := (HO10.out.lt q hq).1; omega)
              have HB11 : Hid (B ≤ w11.heap.size) := Nat.le_trans HB10.out (Nat.le_trans (aB _ _).size hgrow.size)
              have HOK2 : Hid (okEnd fa fp ∧ (1 : Int) = 1) := ⟨HPO.out.dst, rfl⟩
              clear hown' hgrow g2 L10 HO10 HB10 P10
              go_wp2_with fail
              exact ⟨⟨i + 1, ds', ps ++ [2000 + (d : Int) * 24 + j], by omega, by go_num, HO11.out, by have := HG.out.1; simp; omega, L11.out, HGV.out.2, HGV.out.1, fun _ => ⟨HOK2.out.1, by trivial⟩, HB11.out⟩, by simp [intOf]; omega⟩
            · have hgt : (0 : Int) < (pkErr pr x.1 x.2 fa fp 0 : Int) := by omega
              go_wp2_with fail
              go_ret
              exact ⟨rfl, t2 B1.out L8.out.bl⟩
          · have i1 : ¬ (i : Int) < (es.length : Int) := by omega
            obtain rfl : i = es.length := by omega
            go_wp2_with fail
            clear i1
            go_loopw [25, 26, 27] (fun t _ _ wr => ∃ j : Nat, j ≤ W8 ∧ t = .int .i64 j ∧ Lb w1 wr k ds pr fa fp (2000 + (d : Int) * 24) (QB 2 (10 + 60)) ruL (10 + j) es.length ∧ wr.ownsRow B 3 1 u20 ps.length (ps.map intVk) ∧ B ≤ wr.heap.size) (fun t _ _ _ => W8 - (intOf t).toNat)
            case atStart => exact ⟨0, by omega, rfl, LI.out, HO.out, HG.out.2.2.2⟩
            case round =>
              obtain ⟨j, hj, rfl, lj, oj, bj⟩ := hrel
              have LJ : Hid (Lb w1 wr k ds pr fa fp (2000 + (d : Int) * 24) (QB 2 (10 + 60)) ruL (10 + j) es.length) := lj
              have OJ : Hid (wr.ownsRow B 3 1 u20 ps.length (ps.map intVk)) := oj
              have BJ : Hid (B ≤ wr.heap.size) := bj
              clear lj oj bj
              by_cases hjw : j < W8
              · have j1 : (j : Int) < (W8 : Int) := by omega
                go_wp2_with fail
                refine (tick_lb S3.out LJ.out (fun st un hq => by obtain ⟨rfl, rfl⟩ := hq; have := HW8.out; omega) (by have := HW8.out; omega) (by have := HL.out; omega)).mono ?_
                rintro e w7 ⟨⟨v, rfl⟩, l7, c7⟩
                have L7 : Hid (Lb w1 w7 k ds pr fa fp (2000 + (d : Int) * 24) (QB 2 (10 + 60)) ruL (10 + j + 1) es.length) := l7
                have O7 : Hid (w7.ownsRow B 3 1 u20 ps.length (ps.map intVk)) := ownsRow_chgL OJ.out c7 (by obtain ⟨wB, hl, rfl⟩ := HB.out; exact hl.lt)
                have B7 : Hid (B ≤ w7.heap.size) := Nat.le_trans BJ.out c7.size
                clear l7 c7 LJ OJ BJ
                go_wp2_with fail
                exact ⟨⟨j + 1, by omega, by go_num, L7.out, O7.out, B7.out⟩, by simp [intOf]; omega⟩
              · obtain rfl : j = W8 := by omega
                have j1 : ¬ (j : Int) < (j : Int) := by omega
                go_wp2_with fail
                clear j1
                have LA : Hid (Lb w1 wr k ds pr fa fp (2000 + (d : Int) * 24) (fun _ _ => True) ruL (10 + j) es.length) := LJ.out.mono (fun _ _ _ => trivial)
                have HPS : Hid (ps.length = es.length) := HG.out.1
                have HGV : Hid (Given es ds ps (2000 + (d : Int) * 24) es.length) := HG.out.2.2.1
                have HND : Hid (ds.Nodup) := LJ.out.nodup
                have HLE : Hid (ds.length ≤ 24) := LJ.out.len
                clear LJ HG LI HO
                go_loopw [28, 29, 30, 31] (fun t _ _ _ wr => ∃ i : Nat, i ≤ ps.length ∧ t = .int .i64 i ∧ Lb w1 wr k ds pr fa fp (2000 + (d : Int) * 24) (fun _ _ => True) ruL (10 + j) (es.length + i) ∧ wr.ownsRow B 3 1 u20 ps.length (ps.map intVk) ∧ B ≤ wr.heap.size) (fun t _ _ _ _ => ps.length - (intOf t).toNat)
                case atStart => exact ⟨0, by omega, rfl, LA.out, OJ.out, BJ.out⟩
                case round =>
                  obtain ⟨i, hi, rfl, li, oi, bi⟩ := hrel
                  have LI : Hid (Lb w1 wr k ds pr fa fp (2000 + (d : Int) * 24) (fun _ _ => True) ruL (10 + j) (es.length + i)) := li
                  have OI : Hid (wr.ownsRow B 3 1 u20 ps.length (ps.map intVk)) := oi
                  have BI : Hid (B ≤ wr.heap.size) := bi
                  clear li oi bi LA OJ BJ
                  obtain ⟨pp, pcap, hv20, hpt⟩ := own_ints OI.out
                  subst hv20
                  by_cases hlt : i < ps.length
                  · obtain ⟨e, jj, he1, he2, he3⟩ := HGV.out i (by have := HPS.out; omega)
                    obtain ⟨g, hpp, hcg⟩ := hpt i _ he3
                    subst hpp
                    have HJE : Hid (es[i]? = some e ∧ ds[jj]? = some e ∧ ps[i]? = some (2000 + (d : Int) * 24 + jj)) := ⟨he1, he2, he3⟩
                    have HFAR : Hid (okEnd fa fp ∧ pr = 1) := HOK.out (by have := HPS.out; omega)
                    have HJL : Hid (jj < 24) := by
                      have := HLE.out
                      obtain ⟨hlt, _⟩ := List.getElem?_eq_some_iff.1 he2
                      show jj < 24
                      omega
                    obtain rfl : pr = 1 := HFAR.out.2
                    have HERR : Hid ((⟨1, fa, fp, 1, 2000 + (d : Int) * 24 + jj, 0⟩ : Pk).err = 0) := by
                      have h24 : jj < 24 := HJL.out
                      have hd2 : d < 2 := HD.out
                      have h2 : okEnd 1 (2000 + (d : Int) * 24 + jj) := ⟨by omega, by omega, by omega, by omega⟩
                      exact pkErr_zero.2 ⟨.inl ⟨rfl, rfl⟩, HFAR.out.1, h2, (by decide : (0 : Int) ≤ 0), (by decide : (0 : Int) ≤ 15)⟩
                    have HOUT : Hid (∀ u, Lb w1 u k ds 1 fa fp (2000 + (d : Int) * 24) (fun _ _ => True) ruL (10 + j) (es.length + i) → Calls Tryd.prog 10 #[.pointer (some ⟨k.nd, 0, none⟩), .agg #[.int .i64 1, .int .i64 fa, .int .i64 fp, .int .i64 1, .int .i64 (2000 + (d : Int) * 24 + jj), .int .i64 0]] u fun r w' => r = .returned (.tuple #[.agg #[.int .i64 1, .int .i64 fa, .int .i64 fp, .int .i64 e.1, .int .i64 e.2, .int .i64 0], .nilIface]) ∧ Lb w1 w' k ds 1 fa fp (2000 + (d : Int) * 24) (fun _ _ => True) ruL (10 + j) (es.length + i + 1) ∧ ChgL k.all u w') := fun u hu => outside_lb S3.out hu jj e HJE.out.2.1 0 HERR.out (by decide) (by decide +kernel) (by have := HW8.out; omega) (by have := HL.out; have := HPS.out; omega)
                    have HBL : Hid (∀ b ∈ k.all, b < B) := by
                      obtain ⟨wB, hl, rfl⟩ := HB.out
                      exact hl.lt
                    obtain ⟨z0, z1⟩ := E1.out.below LI.out.bl
                    have i0 : (0 : Int) ≤ (i : Int) := by omega
                    have i1 : (i : Int) < (ps.length : Int) := by omega
                    clear he1 he2 he3 hpt
                    go_upto_region 41 with fail
                    go_cut [29, 30] (fun s29 s30 wx => ∃ q, s29 = .pointer (some ⟨q, 0, none⟩) ∧ s30 = .nilIface ∧ PkZ wx q ⟨1, fa, fp, e.1, e.2, 0⟩ ∧ Lb w1 wx k ds 1 fa fp (2000 + (d : Int) * 24) (fun _ _ => True) ruL (10 + j) (es.length + i + 1) ∧ wx.ownsRow B 3 1 (.slice (some ⟨g, 0, none⟩) ps.length pcap) ps.length (ps.map intVk) ∧ B ≤ wx.heap.size)
                    case first =>
                      have HZK : Hid (¬ Z0 ∈ k.all) := fun hm => by have := LI.out.g0 _ hm; have := tlt E1.out.c0; simp only at this; omega
                      have HGK : Hid (¬ g ∈ k.all) := fun hm => by have := HBL.out _ hm; have := (OI.out.lt g rfl).1; omega
                      have HSB : Hid (∀ u, Below wr.heap.size wr u → u.cell? ⟨Z0, 0, none⟩ = some (.int .i64 fa) ∧ u.cell? ⟨Z0, 1, none⟩ = some (.int .i64 fp) ∧ u.cell? ⟨g, i, none⟩ = some (.int .i64 (2000 + (d : Int) * 24 + jj))) := fun u hu => ⟨tk hu z0, tk hu z1, tk hu hcg⟩
                      have HSK : Hid (∀ u w', Below wr.heap.size wr u → ChgL k.all u w' → w'.cell? ⟨Z0, 0, none⟩ = some (.int .i64 fa) ∧ w'.cell? ⟨Z0, 1, none⟩ = some (.int .i64 fp) ∧ w'.cell? ⟨g, i, none⟩ = some (.int .i64 (2000 + (d : Int) * 24 + jj))) := fun u w' hu hc => ⟨hc.keeps HZK.out (HSB.out u hu).1, hc.keeps HZK.out (HSB.out u hu).2.1, hc.keeps HGK.out (HSB.out u hu).2.2⟩
                      have HSA : Hid (∀ u w' o, Below wr.heap.size wr u → ChgL k.all u w' → (w'.alloc o).cell? ⟨Z0, 0, none⟩ = some (.int .i64 fa) ∧ (w'.alloc o).cell? ⟨Z0, 1, none⟩ = some (.int .i64 fp) ∧ (w'.alloc o).cell? ⟨g, i, none⟩ = some (.int .i64 (2000 + (d : Int) * 24 + jj))) := fun u w' o hu hc => ⟨tk (aB _ _) (HSK.out u w' hu hc).1, tk (aB _ _) (HSK.out u w' hu hc).2.1, tk (aB _ _) (HSK.out u w' hu hc).2.2⟩
                      have hS0 := HSB.out wr.drew (Below.refl _ _).drew
                      have hDr : Hid (Below wr.heap.size wr wr.drew) := (Below.refl _ _).drew
                      have hAl : Hid (Below wr.heap.size wr (wr.alloc (.cells #[.int .i64 0, .int .i64 0, .int .i64 0, .int .i64 0, .int .i64 0, .int .i64 0] 41)).drew) := t2 (aB _ _) (Below.refl _ _).drew
                      have HZ3 : Hid (∀ w3, ChgL k.all (wr.alloc (.cells #[.int .i64 0, .int .i64 0, .int .i64 0, .int .i64 0, .int .i64 0, .int .i64 0] 41)).drew w3 → PkZ w3 wr.heap.size noP) := fun w3 k3 => ((PkZ.zero wr).below (Below.refl _ _).drew).chgL k3 (fun hm => by have := LI.out.lt _ hm; omega)
                      clear z0 z1 hcg
                      refine wp_region_noPanic ?_
                      refine wp_region_held_drew (S := (fun w' : World => w'.cell? ⟨Z0, 0, none⟩ = some (.int .i64 fa) ∧ w'.cell? ⟨Z0, 1, none⟩ = some (.int .i64 fp) ∧ w'.cell? ⟨g, i, none⟩ = some (.int .i64 (2000 + (d : Int) * 24 + jj)))) (by kernel_rfl) hS0 (fun _ => ?_)
                      refine wpAnyH_take (i := 0) (v := ?_) rfl (by kernel_rfl) (by kernel_rfl) (by kernel_rfl) (fun _ _ _ h => h) (Or.inl ⟨by rfl, ?_⟩) hS0 ?_
                      rotate_left
                      · intro w9 hSw; (try dsimp only at hSw); go_simp; try (with_reducible rfl)
                      simp only [Act.put, List.getElem_toArray, List.getElem_cons_zero, List.setIfInBounds_toArray, List.set_cons_zero, List.set_cons_succ]
                      refine wpAnyH_take (i := 1) (v := ?_) rfl (by kernel_rfl) (by kernel_rfl) (by kernel_rfl) (fun _ _ _ h => h) (Or.inl ⟨by rfl, ?_⟩) hS0 ?_
                      rotate_left
                      · intro w9 hSw; (try dsimp only at hSw); go_simp; try (with_reducible rfl)
                      simp only [Act.put, List.getElem_toArray, List.getElem_cons_succ, List.getElem_cons_zero, List.setIfInBounds_toArray, List.set_cons_zero, List.set_cons_succ]
                      refine wpAnyH_take (i := 2) (v := ?_) rfl (by kernel_rfl) (by kernel_rfl) (by kernel_rfl) (fun _ _ _ h => h) (Or.inl ⟨by rfl, ?_⟩) hS0 ?_
                      rotate_left
                      · intro w9 hSw; (try dsimp only at hSw); go_simp; try (with_reducible rfl)
                      simp only [Act.put, List.getElem_toArray, List.getElem_cons_succ, List.getElem_cons_zero, List.setIfInBounds_toArray, List.set_cons_zero, List.set_cons_succ]
                      refine wpAnyH_take (i := 3) (v := ?_) rfl (by kernel_rfl) (by kernel_rfl) (by kernel_rfl) (fun _ _ _ h => h) (Or.inl ⟨by rfl, ?_⟩) hS0 ?_
                      rotate_left
                      · intro w9 hSw; (try dsimp only at hSw); go_simp; try (with_reducible rfl)
                      simp only [Act.put, List.getElem_toArray, List.getElem_cons_succ, List.getElem_cons_zero, List.setIfInBounds_toArray, List.set_cons_zero, List.set_cons_succ]
                      refine wpAnyH_take (i := 4) (v := ?_) rfl (by kernel_rfl) (by kernel_rfl) (by kernel_rfl) (fun _ _ _ h => h) (Or.inl ⟨by rfl, ?_⟩) hS0 ?_
                      rotate_left
                      · intro w9 hSw; (try dsimp only at hSw); go_simp; try (with_reducible rfl)
                      simp only [Act.put, List.getElem_toArray, List.getElem_cons_succ, List.getElem_cons_zero, List.setIfInBounds_toArray, List.set_cons_zero, List.set_cons_succ]
                      refine wpAnyH_take (i := 5) (v := ?_) rfl (by kernel_rfl) (by kernel_rfl) (by kernel_rfl) (fun _ _ _ h => h) (Or.inl ⟨by rfl, ?_⟩) hS0 ?_
                      rotate_left
                      · intro w9 hSw; (try dsimp only at hSw); go_simp; try (with_reducible rfl)
                      simp only [Act.put, List.getElem_toArray, List.getElem_cons_succ, List.getElem_cons_zero, List.setIfInBounds_toArray, List.set_cons_zero, List.set_cons_succ]
                      refine wpAnyH_take (i := 6) (v := ?_) rfl (by kernel_rfl) (by kernel_rfl) (by kernel_rfl) (fun _ _ _ h => h) (Or.inl ⟨by rfl, ?_⟩) hS0 ?_
                      rotate_left
                      · intro w9 hSw; (try dsimp only at hSw); go_simp; try (with_reducible rfl)
                      simp only [Act.put, List.getElem_toArray, List.getElem_cons_succ, List.getElem_cons_zero, List.setIfInBounds_toArray, List.set_cons_zero, List.set_cons_succ]
                      refine wpAnyH_take (i := 7) (v := ?_) rfl (by kernel_rfl) (by kernel_rfl) (by kernel_rfl) (fun _ _ _ h => h) (Or.inl ⟨by rfl, ?_⟩) hS0 ?_
                      rotate_left
                      · intro w9 hSw; (try dsimp only at hSw); go_simp; try (with_reducible rfl)
                      simp only [Act.put, List.getElem_toArray, List.getElem_cons_succ, List.getElem_cons_zero, List.setIfInBounds_toArray, List.set_cons_zero, List.set_cons_succ]
                      refine wpAnyH_take (i := 8) (v := ?_) rfl (by kernel_rfl) (by kernel_rfl) (by kernel_rfl) (fun _ _ _ h => h) (Or.inl ⟨by rfl, ?_⟩) hS0 ?_
                      rotate_left
                      · intro w9 hSw; (try dsimp only at hSw); go_simp; try (with_reducible rfl)
                      simp only [Act.put, List.getElem_toArray, List.getElem_cons_succ, List.getElem_cons_zero, List.setIfInBounds_toArray, List.set_cons_zero, List.set_cons_succ]
                      refine wpAnyH_take (i := 9) (v := ?_) rfl (by kernel_rfl) (by kernel_rfl) (by kernel_rfl) (fun _ _ _ h => h) (Or.inl ⟨by rfl, ?_⟩) hS0 ?_
                      rotate_left
                      · intro w9 hSw; (try dsimp only at hSw); go_simp; try (with_reducible rfl)
                      simp only [Act.put, List.getElem_toArray, List.getElem_cons_succ, List.getElem_cons_zero, List.setIfInBounds_toArray, List.set_cons_zero, List.set_cons_succ]
                      have hX_xd : Hid (Below wr.heap.size wr wr.drew) := (Below.refl _ _).drew
                      generalize wr.drew = xd at *
                      refine wpAnyH_ready (rs := [10, 14]) (by kernel_rfl) (by simp) ?_
                      refine AllReadyH.cons (o := _) rfl (fun K hK => ?_) (AllReadyH.cons (o := _) rfl (fun K hK => ?_) AllReadyH.nil)
                      · go_simp
                        refine (HOUT.out xd (LI.out.below hX_xd.out)).mono ?_
                        rintro r y ⟨rfl, l3, k3⟩
                        go_wp2_with fail
                        have sy := HSK.out xd y hX_xd.out k3
                        have LY : Hid (Lb w1 y k ds 1 fa fp (2000 + (d : Int) * 24) (fun _ _ => True) ruL (10 + j) (es.length + i + 1)) := l3
                        have KY : Hid (ChgL k.all xd y) := k3
                        clear l3 k3
                        refine hK.out _ _ sy (fun _ => ?_)
                        clear hK K
                        try simp only [Act.put, List.setIfInBounds_toArray, List.set_cons_zero, List.set_cons_succ]
                        refine wpAnyH_take (i := 11) (v := ?_) rfl (by kernel_rfl) (by kernel_rfl) (by kernel_rfl) (fun _ _ _ h => h) (Or.inl ⟨by rfl, ?_⟩) sy ?_
                        rotate_left
                        · intro w9 hSw; (try dsimp only at hSw); go_simp; try (with_reducible rfl)
                        simp only [Act.put, List.getElem_toArray, List.getElem_cons_succ, List.getElem_cons_zero, List.setIfInBounds_toArray, List.set_cons_zero, List.set_cons_succ]
                        refine wpAnyH_take (i := 12) (v := ?_) rfl (by kernel_rfl) (by kernel_rfl) (by kernel_rfl) (fun _ _ _ h => h) (Or.inl ⟨by rfl, ?_⟩) sy ?_
                        rotate_left
                        · intro w9 hSw; (try dsimp only at hSw); go_simp; try (with_reducible rfl)
                        simp only [Act.put, List.getElem_toArray, List.getElem_cons_succ, List.getElem_cons_zero, List.setIfInBounds_toArray, List.set_cons_zero, List.set_cons_succ]
                        refine wpAnyH_take (i := 13) (v := ?_) rfl (by kernel_rfl) (by kernel_rfl) (by kernel_rfl) (fun _ _ _ h => h) (Or.inl ⟨by rfl, ?_⟩) sy ?_
                        rotate_left
                        · intro w9 hSw; (try dsimp only at hSw); go_simp; try (with_reducible rfl)
                        simp only [Act.put, List.getElem_toArray, List.getElem_cons_succ, List.getElem_cons_zero, List.setIfInBounds_toArray, List.set_cons_zero, List.set_cons_succ]
                        refine wpAnyH_ready (rs := [14]) (by kernel_rfl) (by simp) ?_
                        refine AllReadyH.cons (o := _) rfl (fun K hK => ?_) AllReadyH.nil
                        go_simp
                        have sz := HSA.out xd y (.cells #[.int .i64 0, .int .i64 0, .int .i64 0, .int .i64 0, .int .i64 0, .int .i64 0] 41) hX_xd.out KY.out
                        refine hK.out _ _ sz (fun _ => ?_)
                        clear hK K
                        try simp only [Act.put, List.setIfInBounds_toArray, List.set_cons_zero, List.set_cons_succ]
                        have QZ : Hid (PkZ (y.alloc (.cells #[.int .i64 0, .int .i64 0, .int .i64 0, .int .i64 0, .int .i64 0, .int .i64 0] 41)) y.heap.size noP) := PkZ.zero y
                        have LW : Hid (Lb w1 (y.alloc (.cells #[.int .i64 0, .int .i64 0, .int .i64 0, .int .i64 0, .int .i64 0, .int .i64 0] 41)) k ds 1 fa fp (2000 + (d : Int) * 24) (fun _ _ => True) ruL (10 + j) (es.length + i + 1)) := LY.out.below (aB _ _)
                        have OW : Hid ((y.alloc (.cells #[.int .i64 0, .int .i64 0, .int .i64 0, .int .i64 0, .int .i64 0, .int .i64 0] 41)).ownsRow B 3 1 (.slice (some ⟨g, 0, none⟩) ps.length pcap) ps.length (ps.map intVk)) := (ownsRow_chgL (ownsRow_chgL (l := []) OI.out (ChgL.of hX_xd.out) (by simp)) KY.out HBL.out).alloc _
                        have BW : Hid (B ≤ (y.alloc (.cells #[.int .i64 0, .int .i64 0, .int .i64 0, .int .i64 0, .int .i64 0, .int .i64 0] 41)).heap.size) := Nat.le_trans BI.out (Nat.le_trans hX_xd.out.size (Nat.le_trans KY.out.size (aB _ _).size))
                        have HQB : Hid (B ≤ y.heap.size) := Nat.le_trans BI.out (Nat.le_trans hX_xd.out.size KY.out.size)
                        have HZQ : Hid (Z0 ≠ y.heap.size) := by have := tlt (And.left sy); simp only at this; show Z0 ≠ _; omega
                        have HGQ : Hid (g ≠ y.heap.size) := by have := tlt (And.right (And.right sy)); simp only at this; show g ≠ _; omega
                        generalize y.alloc (.cells #[.int .i64 0, .int .i64 0, .int .i64 0, .int .i64 0, .int .i64 0, .int .i64 0] 41) = z at *
                        generalize y.heap.size = q at *
                        obtain ⟨c0, c1, c2, c3, c4, c5⟩ := QZ.out.b
                        have cf := QZ.out.fr
                        simp only [noP] at c0 c1 c2 c3 c4 c5
                        refine wpAnyH_ready (rs := [15]) (by kernel_rfl) (by simp) ?_
                        refine AllReadyH.cons (o := _) rfl (fun K hK => ?_) AllReadyH.nil
                        go_simp
                        have q9 : Hid (PkZ ((((((z.setCell ⟨q, 0, none⟩ (.int .i64 1)).setCell ⟨q, 1, none⟩ (.int .i64 fa)).setCell ⟨q, 2, none⟩ (.int .i64 fp)).setCell ⟨q, 3, none⟩ (.int .i64 e.1)).setCell ⟨q, 4, none⟩ (.int .i64 e.2)).setCell ⟨q, 5, none⟩ (.int .i64 0)) q ⟨1, fa, fp, e.1, e.2, 0⟩) := pkz_put QZ.out 1 fa fp e.1 e.2 0
                        have g9 := set6_chg z q (.int .i64 1) (.int .i64 fa) (.int .i64 fp) (.int .i64 e.1) (.int .i64 e.2) (.int .i64 0)
                        have s9 : ((((((z.setCell ⟨q, 0, none⟩ (.int .i64 1)).setCell ⟨q, 1, none⟩ (.int .i64 fa)).setCell ⟨q, 2, none⟩ (.int .i64 fp)).setCell ⟨q, 3, none⟩ (.int .i64 e.1)).setCell ⟨q, 4, none⟩ (.int .i64 e.2)).setCell ⟨q, 5, none⟩ (.int .i64 0)).cell? ⟨Z0, 0, none⟩ = some (.int .i64 fa) ∧ ((((((z.setCell ⟨q, 0, none⟩ (.int .i64 1)).setCell ⟨q, 1, none⟩ (.int .i64 fa)).setCell ⟨q, 2, none⟩ (.int .i64 fp)).setCell ⟨q, 3, none⟩ (.int .i64 e.1)).setCell ⟨q, 4, none⟩ (.int .i64 e.2)).setCell ⟨q, 5, none⟩ (.int .i64 0)).cell? ⟨Z0, 1, none⟩ = some (.int .i64 fp) ∧ ((((((z.setCell ⟨q, 0, none⟩ (.int .i64 1)).setCell ⟨q, 1, none⟩ (.int .i64 fa)).setCell ⟨q, 2, none⟩ (.int .i64 fp)).setCell ⟨q, 3, none⟩ (.int .i64 e.1)).setCell ⟨q, 4, none⟩ (.int .i64 e.2)).setCell ⟨q, 5, none⟩ (.int .i64 0)).cell? ⟨g, i, none⟩ = some (.int .i64 (2000 + (d : Int) * 24 + jj)) := ⟨g9.keeps HZQ.out (And.left sz), g9.keeps HZQ.out (And.left (And.right sz)), g9.keeps HGQ.out (And.right (And.right sz))⟩
                        refine hK.out _ _ s9 (fun _ => ?_)
                        clear hK K
                        try simp only [Act.put, List.setIfInBounds_toArray, List.set_cons_zero, List.set_cons_succ]
                        generalize ((((((z.setCell ⟨q, 0, none⟩ (.int .i64 1)).setCell ⟨q, 1, none⟩ (.int .i64 fa)).setCell ⟨q, 2, none⟩ (.int .i64 fp)).setCell ⟨q, 3, none⟩ (.int .i64 e.1)).setCell ⟨q, 4, none⟩ (.int .i64 e.2)).setCell ⟨q, 5, none⟩ (.int .i64 0)) = z9 at *
                        refine wpAnyH_take (i := 16) (v := ?_) rfl (by kernel_rfl) (by kernel_rfl) (by kernel_rfl) (fun _ _ _ h => h) (Or.inl ⟨by rfl, ?_⟩) s9 ?_
                        rotate_left
                        · intro w9 hSw; (try dsimp only at hSw); go_simp; try (with_reducible rfl)
                        simp only [Act.put, List.getElem_toArray, List.getElem_cons_succ, List.getElem_cons_zero, List.setIfInBounds_toArray, List.set_cons_zero, List.set_cons_succ]
                        refine wpAnyH_done (by kernel_rfl) ?_ _
                        refine NoPanic.normal ?_
                        go_wp2_with fail
                        go_meet
                        case rel =>
                          refine ⟨q, rfl, rfl, q9.out, ?_, ?_, ?_⟩
                          · obtain ⟨wB, hl, rfl⟩ := HB.out
                            exact LW.out.fresh hl g9 HQB.out
                          · exact ownsRow_chgQ OW.out g9 HGQ.out
                          · exact Nat.le_trans BW.out g9.size
                      · go_simp
                        have sz := HSB.out (xd.alloc (.cells #[.int .i64 0, .int .i64 0, .int .i64 0, .int .i64 0, .int .i64 0, .int .i64 0] 41)) (t2 hX_xd.out (aB _ _))
                        refine hK.out _ _ sz (fun _ => ?_)
                        clear hK K
                        try simp only [Act.put, List.setIfInBounds_toArray, List.set_cons_zero, List.set_cons_succ]
                        have QX : Hid (PkZ (xd.alloc (.cells #[.int .i64 0, .int .i64 0, .int .i64 0, .int .i64 0, .int .i64 0, .int .i64 0] 41)) xd.heap.size noP) := PkZ.zero xd
                        have hX_x2 : Hid (Below wr.heap.size wr (xd.alloc (.cells #[.int .i64 0, .int .i64 0, .int .i64 0, .int .i64 0, .int .i64 0, .int .i64 0] 41))) := t2 hX_xd.out (aB _ _)
                        have HQB : Hid (B ≤ xd.heap.size) := Nat.le_trans BI.out hX_xd.out.size
                        have HNK : Hid (¬ xd.heap.size ∈ k.all) := fun hm => by have := LI.out.lt _ hm; have := hX_xd.out.size; omega
                        have HZQ : Hid (Z0 ≠ xd.heap.size) := by have := tlt (And.left hS0); simp only at this; show Z0 ≠ _; omega
                        have HGQ : Hid (g ≠ xd.heap.size) := by have := tlt (And.right (And.right hS0)); simp only at this; show g ≠ _; omega
                        generalize xd.alloc (.cells #[.int .i64 0, .int .i64 0, .int .i64 0, .int .i64 0, .int .i64 0, .int .i64 0] 41) = x2 at *
                        generalize xd.heap.size = q at *
                        refine wpAnyH_ready (rs := [10]) (by kernel_rfl) (by simp) ?_
                        refine AllReadyH.cons (o := _) rfl (fun K hK => ?_) AllReadyH.nil
                        go_simp
                        refine (HOUT.out x2 (LI.out.below hX_x2.out)).mono ?_
                        rintro r y ⟨rfl, l3, k3⟩
                        go_wp2_with fail
                        have sy := HSK.out x2 y hX_x2.out k3
                        have LY : Hid (Lb w1 y k ds 1 fa fp (2000 + (d : Int) * 24) (fun _ _ => True) ruL (10 + j) (es.length + i + 1)) := l3
                        have KY : Hid (ChgL k.all x2 y) := k3
                        clear l3 k3
                        refine hK.out _ _ sy (fun _ => ?_)
                        clear hK K
                        try simp only [Act.put, List.setIfInBounds_toArray, List.set_cons_zero, List.set_cons_succ]
                        refine wpAnyH_take (i := 11) (v := ?_) rfl (by kernel_rfl) (by kernel_rfl) (by kernel_rfl) (fun _ _ _ h => h) (Or.inl ⟨by rfl, ?_⟩) sy ?_
                        rotate_left
                        · intro w9 hSw; (try dsimp only at hSw); go_simp; try (with_reducible rfl)
                        simp only [Act.put, List.getElem_toArray, List.getElem_cons_succ, List.getElem_cons_zero, List.setIfInBounds_toArray, List.set_cons_zero, List.set_cons_succ]
                        refine wpAnyH_take (i := 12) (v := ?_) rfl (by kernel_rfl) (by kernel_rfl) (by kernel_rfl) (fun _ _ _ h => h) (Or.inl ⟨by rfl, ?_⟩) sy ?_
                        rotate_left
                        · intro w9 hSw; (try dsimp only at hSw); go_simp; try (with_reducible rfl)
                        simp only [Act.put, List.getElem_toArray, List.getElem_cons_succ, List.getElem_cons_zero, List.setIfInBounds_toArray, List.set_cons_zero, List.set_cons_succ]
                        refine wpAnyH_take (i := 13) (v := ?_) rfl (by kernel_rfl) (by kernel_rfl) (by kernel_rfl) (fun _ _ _ h => h) (Or.inl ⟨by rfl, ?_⟩) sy ?_
                        rotate_left
                        · intro w9 hSw; (try dsimp only at hSw); go_simp; try (with_reducible rfl)
                        simp only [Act.put, List.getElem_toArray, List.getElem_cons_succ, List.getElem_cons_zero, List.setIfInBounds_toArray, List.set_cons_zero, List.set_cons_succ]
                        have QZ : Hid (PkZ y q noP) := QX.out.chgL KY.out HNK.out
                        have LW : Hid (Lb w1 y k ds 1 fa fp (2000 + (d : Int) * 24) (fun _ _ => True) ruL (10 + j) (es.length + i + 1)) := LY.out
                        have OW : Hid (y.ownsRow B 3 1 (.slice (some ⟨g, 0, none⟩) ps.length pcap) ps.length (ps.map intVk)) := ownsRow_chgL (ownsRow_chgL (l := []) OI.out (ChgL.of hX_x2.out) (by simp)) KY.out HBL.out
                        have BW : Hid (B ≤ y.heap.size) := Nat.le_trans BI.out (Nat.le_trans hX_x2.out.size KY.out.size)
                        obtain ⟨c0, c1, c2, c3, c4, c5⟩ := QZ.out.b
                        have cf := QZ.out.fr
                        simp only [noP] at c0 c1 c2 c3 c4 c5
                        refine wpAnyH_ready (rs := [15]) (by kernel_rfl) (by simp) ?_
                        refine AllReadyH.cons (o := _) rfl (fun K hK => ?_) AllReadyH.nil
                        go_simp
                        have q9 : Hid (PkZ ((((((y.setCell ⟨q, 0, none⟩ (.int .i64 1)).setCell ⟨q, 1, none⟩ (.int .i64 fa)).setCell ⟨q, 2, none⟩ (.int .i64 fp)).setCell ⟨q, 3, none⟩ (.int .i64 e.1)).setCell ⟨q, 4, none⟩ (.int .i64 e.2)).setCell ⟨q, 5, none⟩ (.int .i64 0)) q ⟨1, fa, fp, e.1, e.2, 0⟩) := pkz_put QZ.out 1 fa fp e.1 e.2 0
                        have g9 := set6_chg y q (.int .i64 1) (.int .i64 fa) (.int .i64 fp) (.int .i64 e.1) (.int .i64 e.2) (.int .i64 0)
                        have s9 : ((((((y.setCell ⟨q, 0, none⟩ (.int .i64 1)).setCell ⟨q, 1, none⟩ (.int .i64 fa)).setCell ⟨q, 2, none⟩ (.int .i64 fp)).setCell ⟨q, 3, none⟩ (.int .i64 e.1)).setCell ⟨q, 4, none⟩ (.int .i64 e.2)).setCell ⟨q, 5, none⟩ (.int .i64 0)).cell? ⟨Z0, 0, none⟩ = some (.int .i64 fa) ∧ ((((((y.setCell ⟨q, 0, none⟩ (.int .i64 1)).setCell ⟨q, 1, none⟩ (.int .i64 fa)).setCell ⟨q, 2, none⟩ (.int .i64 fp)).setCell ⟨q, 3, none⟩ (.int .i64 e.1)).setCell ⟨q, 4, none⟩ (.int .i64 e.2)).setCell ⟨q, 5, none⟩ (.int .i64 0)).cell? ⟨Z0, 1, none⟩ = some (.int .i64 fp) ∧ ((((((y.setCell ⟨q, 0, none⟩ (.int .i64 1)).setCell ⟨q, 1, none⟩ (.int .i64 fa)).setCell ⟨q, 2, none⟩ (.int .i64 fp)).setCell ⟨q, 3, none⟩ (.int .i64 e.1)).setCell ⟨q, 4, none⟩ (.int .i64 e.2)).setCell ⟨q, 5, none⟩ (.int .i64 0)).cell? ⟨g, i, none⟩ = some (.int .i64 (2000 + (d : Int) * 24 + jj)) := ⟨g9.keeps HZQ.out (And.left sy), g9.keeps HZQ.out (And.left (And.right sy)), g9.keeps HGQ.out (And.right (And.right sy))⟩
                        refine hK.out _ _ s9 (fun _ => ?_)
                        clear hK K
                        try simp only [Act.put, List.setIfInBounds_toArray, List.set_cons_zero, List.set_cons_succ]
                        generalize ((((((y.setCell ⟨q, 0, none⟩ (.int .i64 1)).setCell ⟨q, 1, none⟩ (.int .i64 fa)).setCell ⟨q, 2, none⟩ (.int .i64 fp)).setCell ⟨q, 3, none⟩ (.int .i64 e.1)).setCell ⟨q, 4, none⟩ (.int .i64 e.2)).setCell ⟨q, 5, none⟩ (.int .i64 0)) = z9 at *
                        refine wpAnyH_take (i := 16) (v := ?_) rfl (by kernel_rfl) (by kernel_rfl) (by kernel_rfl) (fun _ _ _ h => h) (Or.inl ⟨by rfl, ?_⟩) s9 ?_
                        rotate_left
                        · intro w9 hSw; (try dsimp only at hSw); go_simp; try (with_reducible rfl)
                        simp only [Act.put, List.getElem_toArray, List.getElem_cons_succ, List.getElem_cons_zero, List.setIfInBounds_toArray, List.set_cons_zero, List.set_cons_succ]
                        refine wpAnyH_done (by kernel_rfl) ?_ _
                        refine NoPanic.normal ?_
                        go_wp2_with fail
                        go_meet
                        case rel =>
                          refine ⟨q, rfl, rfl, q9.out, ?_, ?_, ?_⟩
                          · obtain ⟨wB, hl, rfl⟩ := HB.out
                            exact LW.out.fresh hl g9 HQB.out
                          · exact ownsRow_chgQ OW.out g9 HGQ.out
                          · exact Nat.le_trans BW.out g9.size
                    case rest =>
                      obtain ⟨q, rfl, rfl, pz, lb2, ow2, bw2⟩ := hcut
                      have PZ : Hid (PkZ wc q ⟨1, fa, fp, e.1, e.2, 0⟩) := pz
                      have L2 : Hid (Lb w1 wc k ds 1 fa fp (2000 + (d : Int) * 24) (fun _ _ => True) ruL (10 + j) (es.length + i + 1)) := lb2
                      have O2 : Hid (wc.ownsRow B 3 1 (.slice (some ⟨g, 0, none⟩) ps.length pcap) ps.length (ps.map intVk)) := ow2
                      have BW : Hid (B ≤ wc.heap.size) := bw2
                      clear pz lb2 ow2 bw2
                      obtain ⟨A, o, hp, c1, c2⟩ := HAT.out i e HJE.out.1
                      subst hp
                      have b1 := t2 B1.out L2.out.bl
                      have q1 := tk b1 c1
                      have q2 := tk b1 c2
                      obtain ⟨y0, y1⟩ := E1.out.below L2.out.bl
                      obtain ⟨r0, r1, r2, r3, r4, r5⟩ := PZ.out.b
                      have i2 : (i : Int) < (es.length : Int) := by have := HPS.out; omega
                      have hn1 : ∀ u, (binOp .neq 24 (.agg #[.int .i64 e.1, .int .i64 e.2]) (.agg #[.int .i64 e.1, .int .i64 e.2])).run Tryd.prog u = .ok (.bool false) u := fun u => by rw [neq_end]; simp
                      have hn2 : ∀ u, (binOp .neq 24 (.agg #[.int .i64 fa, .int .i64 fp]) (.agg #[.int .i64 fa, .int .i64 fp])).run Tryd.prog u = .ok (.bool false) u := fun u => by rw [neq_end]; simp
                      clear b1
                      go_wp2_with fail
                      go_quiet (fail)
                      have D2 : Hid (Below wc.heap.size wc (wc.drewN nq)) := ⟨rfl, rfl, rfl, Nat.le_refl _, fun _ _ => rfl⟩
                      generalize wc.drewN nq = wd at *
                      clear q1 q2 y0 y1 r0 r1 r2 r3 r4 r5 hn1 hn2 PZ
                      go_wp2_with fail
                      obtain ⟨pi, hpi⟩ : ∃ pi, 2000 + (d : Int) * 24 + (jj : Int) = pi := ⟨_, rfl⟩
                      have HPI : Hid (2000 + (d : Int) * 24 + (jj : Int) = pi) := hpi
                      clear hpi
                      go_loopw [31] (fun t wz => ∃ m : Nat, m ≤ i ∧ t = .int .i64 m ∧ Below wc.heap.size wc wz) (fun t _ => i - (intOf t).toNat)
                      case atStart => exact ⟨0, by omega, rfl, D2.out⟩
                      case round =>
                        obtain ⟨m, hm, rfl, hbz⟩ := hrel
                        have HBZ : Hid (Below wc.heap.size wc wr) := hbz
                        clear hbz
                        by_cases hmi : m < i
                        · obtain ⟨e', j', g1, g2, g3⟩ := HGV.out m (by have := HPS.out; omega)
                          obtain ⟨A', o', hp', d1, d2⟩ := HAT.out m e' g1
                          have hA : A' = A ∧ o' = o := by cases hp'; exact ⟨rfl, rfl⟩
                          obtain ⟨rfl, rfl⟩ := hA
                          obtain ⟨pp', pcap', hv', hpt'⟩ := own_ints O2.out
                          obtain ⟨g', hg', hcm⟩ := hpt' m _ g3
                          obtain ⟨g'', hg'', hci⟩ := hpt' i _ HJE.out.2.2
                          have hg1 : g' = g := by rw [hg'] at hv'; cases hv'; rfl
                          have hg2 : g'' = g := by rw [hg''] at hv'; cases hv'; rfl
                          subst hg1 hg2
                          obtain ⟨bb, hbb⟩ : ∃ bb, (e'.1 == e.1 && e'.2 == e.2) = bb := ⟨_, rfl⟩
                          have heq : ∀ u, (binOp .eql 24 (.agg #[.int .i64 e'.1, .int .i64 e'.2]) (.agg #[.int .i64 e.1, .int .i64 e.2])).run Tryd.prog u = .ok (.bool bb) u := fun u => by rw [eql_end, hbb]
                          obtain ⟨pm, hpm⟩ : ∃ pm, 2000 + (d : Int) * 24 + (j' : Int) = pm := ⟨_, rfl⟩
                          have hpb : (pm == pi) = bb := by
                            rw [← hbb, ← hpm, ← HPI.out]
                            by_cases ee : e' = e
                            · have hjj : j' = jj := (List.getElem?_inj (List.getElem?_eq_some_iff.1 g2).1 HND.out).1 (by rw [g2, HJE.out.2.1, ee])
                              rw [ee, hjj]
                              simp
                            · have h1 : ¬ (e'.1 = e.1 ∧ e'.2 = e.2) := fun h => ee (Prod.ext h.1 h.2)
                              have h2 : ¬ j' = jj := fun h => ee (by have q := HJE.out.2.1; rw [← h, g2] at q; exact Option.some.inj q)
                              have h3 : (e'.1 == e.1 && e'.2 == e.2) = false := by rw [Bool.eq_false_iff]; intro h; exact h1 (by simpa using h)
                              rw [h3, beq_eq_false_iff_ne]
                              omega
                          rw [hpm] at hcm
                          rw [HPI.out] at hci
                          have b1 := t2 B1.out L2.out.bl
                          have a1 := tk HBZ.out (tk b1 c1)
                          have a2 := tk HBZ.out (tk b1 c2)
                          have a3 := tk HBZ.out (tk b1 d1)
                          have a4 := tk HBZ.out (tk b1 d2)
                          have a5 := tk HBZ.out hcm
                          have a6 := tk HBZ.out hci
                          have m0 : (0 : Int) ≤ (m : Int) := by omega
                          have m1 : (m : Int) < (i : Int) := by omega
                          have m2 : (m : Int) < (es.length : Int) := by omega
                          have m3 : (m : Int) < (ps.length : Int) := by omega
                          have m4 : (i : Int) < (ps.length : Int) := by omega
                          clear g1 g2 g3 hp' d1 d2 hv' hpt' hg' hg'' hcm hci hpm hbb b1
                          go_wp2_with fail
                          go_quiet (fail)
                          have D3 : Hid (Below wc.heap.size wc (wr.drewN nq)) := t2 HBZ.out ⟨rfl, rfl, rfl, Nat.le_refl _, fun _ _ => rfl⟩
                          go_wp2_with fail
                          exact ⟨⟨m + 1, by omega, by go_num, D3.out⟩, by simp [intOf]; omega⟩
                        · obtain rfl : m = i := by omega
                          have m1 : ¬ (m : Int) < (m : Int) := by omega
                          go_wp2_with fail
                          exact ⟨⟨m + 1, by omega, by go_num, (L2.out.below HBZ.out).cup (by omega), ownsRow_chgL (l := []) O2.out (ChgL.of HBZ.out) (by simp), Nat.le_trans BW.out HBZ.out.size⟩, by simp [intOf]; omega⟩
                  · have i1 : ¬ (i : Int) < (ps.length : Int) := by omega
                    go_wp2_with fail
                    go_ret
                    exact ⟨rfl, t2 B1.out LI.out.bl⟩
  · have HN : Hid (id < 0 ∨ 1 < id ∨ (24 : Int) < (es.length : Int) ∨ wait < 0 ∨ 8 < wait) := (by omega : id < 0 ∨ 1 < id ∨ (24 : Int) < (es.length : Int) ∨ wait < 0 ∨ 8 < wait)
    clear hlen
    by_cases x0 : id < 0
    · go_wp2_with fail
      go_ret
      exact ⟨rfl, B1.out⟩
    · by_cases x1 : 1 < id
      · go_wp2_with fail
        go_ret
        exact ⟨rfl, B1.out⟩
      · by_cases x2 : (24 : Int) < (es.length : Int)
        · go_wp2_with fail
          go_ret
          exact ⟨rfl, B1.out⟩
        · by_cases x3 : wait < 0
          · go_wp2_with fail
            go_ret
            exact ⟨rfl, B1.out⟩
          · have x4 : 8 < wait := by have := HN.out; omega
            go_wp2_with fail
            go_ret
            exact ⟨rfl, B1.out⟩
theorem back_law (id : Int) (v : Value) (es : List (Int × Int)) (fa fp pr wait : Int) (s : Nat → Addr) (w : World) (S : SeM w s) (L : EndsI w v es) :
    Calls Tryd.prog 3 #[.int .i64 id, v, .agg #[.int .i64 fa, .int .i64 fp], .int .i64 pr, .int .i64 wait] w fun e w' => e = .returned (.bool true) ∧ Below w.heap.size w w' := by
  by_cases hpr : pr = 2
  · exact back_tcp id v es fa fp pr wait hpr s w S L
  · exact back_udp id v es fa fp pr wait hpr s w S L
end Go.Proofs.YtjfhompbeengmaaDoor
