/-
  The law WorldTakes: where the one that is active falls, and the other one claims, answers come back to the same inner ends.
-/
import Derived.Test.YtpajlmmdnbdieaaGreatDoorPoP
import Derived.Test.YtpajlmmdnbdieaaGreatDoorWtV
import Derived.Test.YtpajlmmdnbdieaaGreatDoorEndO
import Derived.Maps.AppendAt
import Derived.Deep.DeepCutAuto
import Derived.Deep.CutRange
import Derived.Deep.RegionHeld3
namespace Go.Proofs.YtpajlmmdnbdieaaGreatDoor
open Go.RowKit

theorem Tryz.infoIk : (Tryz.prog.info? 3).map (fun i => (i.zero, i.size, i.bytes)) = some (some (.int .i64 0), 1, 8) := by kernel_rfl
/-- an end's own block. -/
structure End2 (w : World) (Z : Nat) (a p : Int) : Prop where
  c0 : w.cell? ⟨Z, 0, none⟩ = some (.int .i64 a)
  c1 : w.cell? ⟨Z, 1, none⟩ = some (.int .i64 p)
theorem End2.below {w w' : World} {Z : Nat} {a p : Int} (h : End2 w Z a p) (hb : Below w.heap.size w w') : End2 w' Z a p := ⟨tk hb h.c0, tk hb h.c1⟩
theorem end2_new (w : World) (a p : Int) : End2 (w.alloc (.cells #[.int .i64 a, .int .i64 p] 24)) w.heap.size a p := ⟨(nw _ _ _ _).trans rfl, (nw _ _ _ _).trans rfl⟩
/-- the ports that were given out. -/
def Given (es ds : List (Int × Int)) (ps : List Int) (low : Int) (n : Nat) : Prop := ∀ i, i < n → ∃ (e : Int × Int) (j : Nat), es[i]? = some e ∧ ds[j]? = some e ∧ ps[i]? = some (low + j)
theorem Given.more {es ds ds' : List (Int × Int)} {ps : List Int} {low : Int} {n j : Nat} {e : Int × Int} (h : Given es ds ps low n) (hn : ps.length = n) (he : es[n]? = some e) (hd : ds' = ds ∨ ds' = ds ++ [e]) (hj : ds'[j]? = some e) : Given es ds' (ps ++ [low + j]) low (n + 1) := fun i hi => by
  by_cases e2 : i = n
  · subst e2
    exact ⟨e, j, he, hj, by rw [List.getElem?_append_right (by omega)]; simp [hn]⟩
  · obtain ⟨e', j', h1, h2, h3⟩ := h i (by omega)
    refine ⟨e', j', h1, ?_, by rw [List.getElem?_append_left (by omega)]; exact h3⟩
    rcases hd with rfl | rfl
    · exact h2
    · obtain ⟨hlt, _⟩ := List.getElem?_eq_some_iff.1 h2
      rw [List.getElem?_append_left hlt]; exact h2
theorem own_ints {w : World} {B : Nat} {v : Value} {L : List Int} (h : w.ownsRow B 3 1 v L.length (L.map intVk)) : ∃ (p : Option Addr) (cap : Nat), v = .slice p L.length cap ∧ ∀ (j : Nat) x, L[j]? = some x → ∃ g, p = some ⟨g, 0, none⟩ ∧ w.cell? ⟨g, j, none⟩ = some (.int .i64 x) := by
  rcases h.2 with ⟨h1, h2⟩ | ⟨g, cap, cur, h1, h2, h3, h4, h5, h6, h7⟩
  · refine ⟨none, 0, by rw [h1, h2], fun j x hx => ?_⟩
    rw [List.length_eq_zero_iff.1 h2] at hx
    simp at hx
  · refine ⟨some ⟨g, 0, none⟩, cap, h1, fun j x hx => ⟨g, rfl, ?_⟩⟩
    have h8 : (L.map intVk)[j]? = some (.int .i64 x) := by rw [List.getElem?_map, hx]; rfl
    rw [← h7, List.getElem?_take] at h8
    split at h8
    · have h9 : cur[j]? = some (.int .i64 x) := by simpa using h8
      simp [World.cell?, h3, h9]
    · cases h8
theorem LW.own {w1 w : World} {wb t : Nat} {P : Wo → Prop} {pv : Value} {ps : List Int} (h : LW w1 w wb P t pv ps) : w.ownsRow w1.heap.size 3 1 pv ps.length (ps.map intVk) := by obtain ⟨K, W, wd, p, e, o, g⟩ := h; exact o
theorem LW.ex {α : Type} {w1 w : World} {wb t : Nat} {P : α → Wo → Prop} {pv : Value} {ps : List Int} (h : LW w1 w wb (fun W => ∃ a, P a W) t pv ps) : ∃ a, LW w1 w wb (P a) t pv ps := by obtain ⟨K, W, wd, ⟨a, p⟩, r⟩ := h; exact ⟨a, K, W, wd, p, r⟩
theorem LW.both {A : Prop} {w1 w : World} {wb t : Nat} {P : Wo → Prop} {pv : Value} {ps : List Int} (h : LW w1 w wb (fun W => A ∧ P W) t pv ps) : A ∧ LW w1 w wb P t pv ps := by obtain ⟨K, W, wd, ⟨a, p⟩, r⟩ := h; exact ⟨a, K, W, wd, p, r⟩
set_option maxRecDepth 100000 in
set_option maxHeartbeats 8000000 in
theorem takes_tcp (first : Int) (v : Value) (es : List (Int × Int)) (fa fp pr : Int) (hpr : pr = 2) (s : Nat → Addr) (w : World) (S : SeM w s) (L : EndsI w v es) :
    Calls Tryz.prog 3 #[.int .i64 first, v, .agg #[.int .i64 fa, .int .i64 fp], .int .i64 pr] w fun e w' => e = .returned (.bool true) ∧ Below w.heap.size w w' := by
  obtain ⟨sp, cap, rfl, hat⟩ := L
  obtain ⟨ii0, hii, hz0, hz1, hz2⟩ := info_parts Tryz.infoIk
  have HS : Hid (SeM w s) := S
  have HAT : Hid (∀ (i : Nat) e, es[i]? = some e → ∃ b o, sp = some ⟨b, o, none⟩ ∧ w.cell? ⟨b, o + i * 2, none⟩ = some (.int .i64 e.1) ∧ w.cell? ⟨b, o + i * 2 + 1, none⟩ = some (.int .i64 e.2)) := hat
  clear S hat
  go_enter Tryz.func3, Tryz.ntmps3
  go_wp2_with fail
  have B0 : Hid (Below w.heap.size w (w.alloc (.cells #[.int .i64 fa, .int .i64 fp] 24))) := aB _ _
  have E0 : Hid (End2 (w.alloc (.cells #[.int .i64 fa, .int .i64 fp] 24)) w.heap.size fa fp) := end2_new w fa fp
  generalize w.alloc (.cells #[.int .i64 fa, .int .i64 fp] 24) = w0 at *
  generalize w.heap.size = Z0 at E0 ⊢
  refine (born_any (HS.out.below B0.out)).mono ?_
  rintro e w1 ⟨rfl, hb1⟩
  have B1 : Hid (Below w.heap.size w w1) := t2 B0.out hb1
  have E1 : Hid (End2 w1 Z0 fa fp) := E0.out.below hb1
  clear hb1 B0 E0
  by_cases hlen : (0 ≤ first ∧ first ≤ 1) ∧ 1 ≤ es.length ∧ es.length ≤ 8
  · obtain ⟨⟨i0, i1⟩, hl1, hl8⟩ := hlen
    obtain ⟨d, rfl⟩ : ∃ d : Nat, first = d := ⟨first.toNat, by omega⟩
    have HD : Hid (d < 2) := (by omega : d < 2)
    have HL : Hid (1 ≤ es.length ∧ es.length ≤ 8) := ⟨hl1, hl8⟩
    have x0 : ¬ (d : Int) < 0 := by omega
    have x1 : ¬ 1 < (d : Int) := by omega
    have x4 : ¬ (es.length : Int) < 1 := by omega
    have x5 : ¬ (8 : Int) < (es.length : Int) := by omega
    clear i0 i1 hl1 hl8
    go_wp2_with fail
    clear x0 x1 x4 x5
    have B5 : Hid (Below w.heap.size w (w1.alloc (.cells #[.bool true, .bool true, .int .i64 0, .int .i64 1, .int .i64 65535] 32))) := t2 B1.out (aB _ _)
    have R5 : Hid (Sl (w1.alloc (.cells #[.bool true, .bool true, .int .i64 0, .int .i64 1, .int .i64 65535] 32)) (.slice (some ⟨w1.heap.size, 0, none⟩) 1 1) ruL) := ruL_sl w1
    have E5 : Hid (End2 (w1.alloc (.cells #[.bool true, .bool true, .int .i64 0, .int .i64 1, .int .i64 65535] 32)) Z0 fa fp) := E1.out.below (aB _ _)
    have LS : Hid (w1.heap.size < (w1.alloc (.cells #[.bool true, .bool true, .int .i64 0, .int .i64 1, .int .i64 65535] 32)).heap.size) := by show _ < _; simp [go_sem]
    generalize w1.alloc (.cells #[.bool true, .bool true, .int .i64 0, .int .i64 1, .int .i64 65535] 32) = w5 at *
    generalize w1.heap.size = G1 at R5 LS ⊢
    have S5 : Hid (SeM w5 s) := HS.out.below B5.out
    clear B1 E1
    refine (new_wd S5.out _ ruL R5.out (fun a n c e => by cases e; exact LS.out) (by decide)).mono ?_
    rintro e w6 hcase
    rcases hcase with ⟨_, K, rfl, wd6, _⟩ | ⟨hno, _⟩
    rotate_left
    · exact absurd ruL_ok hno
    have L6 : Hid (LW w5 w6 K.wb (Ph ruL d 0) 0 (.slice none 0 0) []) := ⟨K, _, wd6, Ph.zero ruL HD.out, rfl, ⟨rfl, .inl ⟨rfl, rfl⟩⟩, fun g hg => by cases hg⟩
    generalize K.wb = wb at L6 ⊢
    clear wd6 R5 LS
    go_wp2_with fail
    go_loopw [12] (fun t wr => ∃ j : Nat, j ≤ 10 ∧ t = .int .i64 j ∧ LW w5 wr wb (Ph ruL d j) j (.slice none 0 0) []) (fun t _ => 10 - (intOf t).toNat)
    case atStart => exact ⟨0, by omega, rfl, L6.out⟩
    case round =>
      obtain ⟨j, hj, rfl, lr⟩ := hrel
      have LR : Hid (LW w5 wr wb (Ph ruL d j) j (.slice none 0 0) []) := lr
      clear lr L6
      by_cases hlt : j < 10
      · have j9 : (j : Int) ≤ 9 := by omega
        have HJ : Hid (j ≤ 9) := (by omega : j ≤ 9)
        go_wp2_with fail
        refine (LR.out.tick S5.out (by have := HJ.out; omega) (d : Int) (fun W p => p.tick HJ.out)).mono ?_
        rintro e w7 ⟨rfl, l7⟩
        have L7 : Hid (LW w5 w7 wb (Ph ruL d (j + 1)) (j + 1) (.slice none 0 0) []) := l7
        clear l7 LR
        go_wp2_with fail
        exact ⟨⟨j + 1, by omega, by go_num, L7.out⟩, by simp [intOf]; omega⟩
      · obtain rfl : j = 10 := by omega
        rw [show ((10 : Nat) : Int) = 10 from rfl]
        go_wp2_with fail
        refine (LR.out.deliver S5.out (P' := PB d 2 fa fp 1 [] 0) (fun K W wd p => PB.zero p _ _ _ _)).mono ?_
        rintro e w7 ⟨⟨W, pW, rfl⟩, l7⟩
        rw [pW.deliver.1]
        have LB : Hid (LW w5 w7 wb (PB d 2 fa fp 1 [] 0) 10 (.slice none 0 0) []) := l7
        clear l7 LR pW W
        simp only [terr]
        subst hpr
        go_wp2_with fail
        go_loopw [15, 16, 17, 18, 19] (fun pv t _ _ _ wr => ∃ (i : Nat) (ds : List (Int × Int)) (ps : List Int), i ≤ es.length ∧ t = .int .i64 i ∧ ps.length = i ∧ LW w5 wr wb (PB d 2 fa fp 1 ds 0) (10 + i) pv ps ∧ ds.length ≤ i ∧ Given es ds ps (2000 + (d : Int) * 24) i ∧ (0 < i → okEnd fa fp)) (fun _ t _ _ _ _ => es.length - (intOf t).toNat)
        case atStart => exact ⟨0, [], [], by omega, rfl, rfl, LB.out, by simp, fun i hi => by omega, fun h => by omega⟩
        case round =>
          obtain ⟨i, ds, ps, hi, rfl, hps, lb, hds, hgv, hok⟩ := hrel
          have LI : Hid (LW w5 wr wb (PB d 2 fa fp 1 ds 0) (10 + i) u15 ps) := lb
          have HG : Hid (ps.length = i ∧ ds.length ≤ i ∧ Given es ds ps (2000 + (d : Int) * 24) i) := ⟨hps, hds, hgv⟩
          have HOK : Hid (0 < i → okEnd fa fp) := hok
          clear lb hps hds hgv hok LB
          by_cases hlt : i < es.length
          · obtain ⟨A, o, hp, c1, c2⟩ := HAT.out i es[i] (List.getElem?_eq_getElem hlt)
            have HE : Hid (es[i]? = some es[i]) := List.getElem?_eq_getElem hlt
            generalize es[i] = x at *
            subst hp
            have b1 := t2 B5.out LI.out.bl
            have q1 := tk b1 c1
            have q2 := tk b1 c2
            obtain ⟨z0, z1⟩ := E5.out.below LI.out.bl
            have i0 : (0 : Int) ≤ (i : Int) := by omega
            have i1 : (i : Int) < (es.length : Int) := by omega
            have hz : Z0 < wr.heap.size := tlt z0
            have ha : A < wr.heap.size := tlt q1
            clear b1 c1 c2
            go_wp2_with fail
            go_region
            have P2 : Hid (PkZ ((wr.alloc (.cells #[.int .i64 2, .int .i64 x.1, .int .i64 x.2, .int .i64 fa, .int .i64 fp, .int .i64 1] 37)).drew) wr.heap.size ⟨2, x.1, x.2, fa, fp, 1⟩) := (PkZ.new wr ⟨2, x.1, x.2, fa, fp, 1⟩).below (Below.refl _ _).drew
            have B2 : Hid (Below wr.heap.size wr ((wr.alloc (.cells #[.int .i64 2, .int .i64 x.1, .int .i64 x.2, .int .i64 fa, .int .i64 fp, .int .i64 1] 37)).drew)) := t2 (aB _ _) (Below.refl _ _).drew
            generalize (wr.alloc (.cells #[.int .i64 2, .int .i64 x.1, .int .i64 x.2, .int .i64 fa, .int .i64 fp, .int .i64 1] 37)).drew = w7 at *
            have L7 : Hid (LW w5 w7 wb (PB d 2 fa fp 1 ds 0) (10 + i) u15 ps) := LI.out.below B2.out
            clear q1 q2 z0 z1 hz ha
            generalize wr.heap.size = P at P2 ⊢
            obtain ⟨r0, r1, r2, r3, r4, r5⟩ := P2.out.b
            go_wp2_with fail
            clear r0 r1 r2 r3 r4 r5
            refine (perr_any 2 x.1 x.2 fa fp 1 w7).mono ?_
            rintro e w8 ⟨rfl, hb8⟩
            have P8 : Hid (PkZ w8 P ⟨2, x.1, x.2, fa, fp, 1⟩) := P2.out.below hb8
            have L8 : Hid (LW w5 w8 wb (PB d 2 fa fp 1 ds 0) (10 + i) u15 ps) := L7.out.below hb8
            clear hb8 P2 L7 LI B2
            by_cases he : pkErr 2 x.1 x.2 fa fp 1 = 0
            · have HPO : Hid (PkOk 2 x.1 x.2 fa fp 1) := pkErr_zero.1 he
              rw [he]
              clear he
              obtain ⟨r0, r1, r2, r3, r4, r5⟩ := P8.out.b
              go_wp2_with fail
              clear r0 r1 r2 r3 r4 r5
              refine (L8.out.inside S5.out (by have := HL.out; omega) ⟨2, x.1, x.2, fa, fp, 1⟩ (In6.small (by show (-1000000 : Int) ≤ (2 : Int); omega) (by show (2 : Int) ≤ 1000000; omega)) (R := fun W q => ∃ dj : List (Int × Int) × Nat, (q = ⟨2, 1, 2000 + (d : Int) * 24 + (dj.2 : Int), fa, fp, 1⟩ ∧ (dj.1 = ds ∨ dj.1 = ds ++ [x]) ∧ dj.1[dj.2]? = some x) ∧ PB d 2 fa fp 1 dj.1 0 W) (fun W pW => by
                obtain ⟨ds', j, h1, h2, h3, h4, h5⟩ := pW.inside x (pkErr_zero.2 HPO.out) (by decide) (by decide) (adm_one HPO.out.dst.2.2.1 HPO.out.dst.2.2.2) (by decide +kernel) (by decide +kernel) (by have := HG.out.2.1; have := HL.out; omega)
                exact ⟨h1, (ds', j), ⟨h2, h3, h4⟩, h5⟩)).mono ?_
              rintro e w9 ⟨q, rfl, l9⟩
              obtain ⟨⟨ds', j⟩, l9'⟩ := l9.ex
              obtain ⟨⟨hq, hd', hj⟩, l9''⟩ := l9'.both
              subst hq
              simp only [Pk.v]
              have L9 : Hid (LW w5 w9 wb (PB d 2 fa fp 1 ds' 0) (10 + i + 1) u15 ps) := l9''
              have HGV : Hid (Given es ds' (ps ++ [2000 + (d : Int) * 24 + j]) (2000 + (d : Int) * 24) (i + 1) ∧ ds'.length ≤ i + 1) := ⟨HG.out.2.2.more HG.out.1 HE.out hd' hj, by have := HG.out.2.1; rcases hd' with e | e <;> (have e' : ds' = _ := e; rw [e']; simp; omega)⟩
              clear l9 l9' l9'' hd' hj L8 P8
              go_upto_region 29 with fail
              have P10 : Hid (PkZ (w9.alloc (.cells #[.int .i64 2, .int .i64 1, .int .i64 (2000 + (d : Int) * 24 + j), .int .i64 fa, .int .i64 fp, .int .i64 1] 37)) w9.heap.size ⟨2, 1, 2000 + (d : Int) * 24 + j, fa, fp, 1⟩) := PkZ.new w9 ⟨2, 1, 2000 + (d : Int) * 24 + j, fa, fp, 1⟩
              have L10 : Hid (LW w5 (w9.alloc (.cells #[.int .i64 2, .int .i64 1, .int .i64 (2000 + (d : Int) * 24 + j), .int .i64 fa, .int .i64 fp, .int .i64 1] 37)) wb (PB d 2 fa fp 1 ds' 0) (10 + i + 1) u15 ps) := L9.out.below (aB _ _)
              generalize w9.alloc (.cells #[.int .i64 2, .int .i64 1, .int .i64 (2000 + (d : Int) * 24 + j), .int .i64 fa, .int .i64 fp, .int .i64 1] 37) = w10 at *
              generalize w9.heap.size = G at *
              clear L9
              have g2 := P10.out.b.c2
              go_wp2_with (at_builtin; refine wpList_append_own_at _ rfl _ _ 35 rfl w5.heap.size 3 ii0 (.int .i64 0) 1 8 Tryz.underlying35 hii hz0 hz1 hz2 rfl (by decide) _ _ _ rfl (L10.out.below (aB _ _)).own ⟨w10.heap.size, 0, none⟩ 1 1 [intVk (2000 + (d : Int) * 24 + j)] rfl rfl ?g1 ?g2 ?g3 ?g4 ?g5 ?_)
              case g2 => rfl
              case g3 => have := HG.out.1; have := HL.out; unfold maxLen; omega
              case g4 => have := HG.out.1; have := HL.out; omega
              case g5 => have := L10.out.bl.size; simp; omega
              intro v' w11 hown' hgrow _ hatv
              have L11 : Hid (LW w5 w11 wb (PB d 2 fa fp 1 ds' 0) (10 + i + 1) v' (ps ++ [2000 + (d : Int) * 24 + (j : Int)])) := (L10.out.below (aB _ _)).grow (by simpa using hown') hgrow (by simpa using hatv)
              have HOK2 : Hid (okEnd fa fp) := HPO.out.dst
              clear hown' hgrow hatv g2 L10 P10
              go_wp2_with fail
              exact ⟨⟨i + 1, ds', ps ++ [2000 + (d : Int) * 24 + j], by omega, by go_num, by have := HG.out.1; simp; omega, L11.out, HGV.out.2, HGV.out.1, fun _ => HOK2.out⟩, by simp [intOf]; omega⟩
            · have hgt : (0 : Int) < (pkErr 2 x.1 x.2 fa fp 1 : Int) := by omega
              go_wp2_with fail
              go_ret
              exact ⟨rfl, t2 B5.out L8.out.bl⟩
          · have i1 : ¬ (i : Int) < (es.length : Int) := by omega
            obtain rfl : i = es.length := by omega
            go_wp2_with fail
            clear i1
            have HFAR : Hid (okEnd fa fp) := HOK.out (by have := HL.out; omega)
            have LC : Hid (LW w5 wr wb (PB d 2 fa fp 1 ds (0 + 0)) (10 + es.length) u15 ps) := LI.out
            go_loopw [20] (fun t wr => ∃ j : Nat, j ≤ 3 ∧ t = .int .i64 j ∧ LW w5 wr wb (PB d 2 fa fp 1 ds j) (10 + es.length + j) u15 ps) (fun t _ => 3 - (intOf t).toNat)
            case atStart => exact ⟨0, by omega, rfl, LI.out⟩
            case round =>
              obtain ⟨j, hj, rfl, lj⟩ := hrel
              have LJ : Hid (LW w5 wr wb (PB d 2 fa fp 1 ds j) (10 + es.length + j) u15 ps) := lj
              clear lj LC
              by_cases hjw : j < 3
              · have j1 : (j : Int) < 3 := by omega
                have HJ : Hid (j ≤ 2) := (by omega : j ≤ 2)
                go_wp2_with fail
                refine (LJ.out.tick S5.out (by have := HJ.out; have := HL.out; omega) (d : Int) (fun W p => p.tick HJ.out (by decide))).mono ?_
                rintro e w7 ⟨rfl, l7⟩
                have L7 : Hid (LW w5 w7 wb (PB d 2 fa fp 1 ds (j + 1)) (10 + es.length + j + 1) u15 ps) := l7
                clear l7 LJ
                go_wp2_with fail
                exact ⟨⟨j + 1, by omega, by go_num, L7.out⟩, by simp [intOf]; omega⟩
              · obtain rfl : j = 3 := by omega
                rw [show ((3 : Nat) : Int) = 3 from rfl]
                have LD : Hid (LW w5 wr wb (PE d 2 fa fp 1 ds 0) (13 + es.length) u15 ps) := (LJ.out.imp (fun W p => .inl ⟨rfl, p⟩)).mono (by omega)
                have HD8 : Hid (ds.length ≤ 8) := by have := HG.out.2.1; have := HL.out; show ds.length ≤ 8; omega
                go_wp2_with fail
                go_loopw [21] (fun t wr => ∃ j : Nat, j ≤ 10 ∧ t = .int .i64 j ∧ LW w5 wr wb (PE d 2 fa fp 1 ds j) (13 + es.length) u15 ps) (fun t _ => 10 - (intOf t).toNat)
                case atStart => exact ⟨0, by omega, rfl, LD.out⟩
                case round =>
                  obtain ⟨j, hj, rfl, lj⟩ := hrel
                  have LE : Hid (LW w5 wr wb (PE d 2 fa fp 1 ds j) (13 + es.length) u15 ps) := lj
                  clear lj LD LJ
                  by_cases hjw : j < 10
                  · have j1 : (j : Int) < 10 := by omega
                    go_wp2_with fail
                    refine (LE.out.deliver S5.out (P' := PE d 2 fa fp 1 ds (j + 1)) (fun K W wd p => p.dlv (by decide) HD8.out (fun x hx => by obtain ⟨k, m, n, _, nd, _⟩ := wd.up HD.out hx; exact ⟨m, nd.vs⟩))).mono ?_
                    rintro e w7 ⟨⟨W, pW, rfl⟩, l7⟩
                    have L7 : Hid (LW w5 w7 wb (PE d 2 fa fp 1 ds (j + 1)) (13 + es.length) u15 ps) := l7
                    clear l7 LE
                    go_wp2_with fail
                    exact ⟨⟨j + 1, by omega, by go_num, L7.out⟩, by simp [intOf]; omega⟩
                  · obtain rfl : j = 10 := by omega
                    rw [show ((10 : Nat) : Int) = 10 from rfl]
                    have LF : Hid (LW w5 wr wb (PD d 2 fa fp 1 ds) (13 + es.length) u15 ps) := LE.out.imp (fun W p => by rcases p with ⟨q, _⟩ | ⟨q, _⟩ | ⟨_, q⟩; omega; omega; exact q)
                    clear LE
                    go_wp2_with fail
                    refine (LF.out.down S5.out (d : Int) (fun W p => p.down)).mono ?_
                    rintro e w7 ⟨rfl, l7⟩
                    have L7 : Hid (LW w5 w7 wb (PF d 2 fa fp 1 ds 0) (13 + es.length) u15 ps) := l7
                    have hsub : IntKind.i64.wrap (1 - (d : Int)) = ((1 - d : Nat) : Int) := by have := HD.out; rw [IntKind.wrap_i64]; omega
                    clear l7 LF
                    go_wp2_with fail
                    clear hsub
                    go_loopw [23] (fun t wr => ∃ j : Nat, j ≤ 10 ∧ t = .int .i64 j ∧ LW w5 wr wb (PF d 2 fa fp 1 ds j) (13 + es.length + j) u15 ps) (fun t _ => 10 - (intOf t).toNat)
                    case atStart => exact ⟨0, by omega, rfl, L7.out⟩
                    case round =>
                      obtain ⟨j, hj, rfl, lj⟩ := hrel
                      have LF : Hid (LW w5 wr wb (PF d 2 fa fp 1 ds j) (13 + es.length + j) u15 ps) := lj
                      clear lj L7
                      by_cases hjw : j < 10
                      · have j1 : (j : Int) ≤ 9 := by omega
                        have HJ : Hid (j ≤ 9) := (by omega : j ≤ 9)
                        go_wp2_with fail
                        refine (LF.out.tick S5.out (by have := HJ.out; have := HL.out; omega) ((1 - d : Nat) : Int) (fun W p => p.tick HJ.out)).mono ?_
                        rintro e w7 ⟨rfl, l7⟩
                        have L7 : Hid (LW w5 w7 wb (PF d 2 fa fp 1 ds (j + 1)) (13 + es.length + j + 1) u15 ps) := l7
                        clear l7 LF
                        go_wp2_with fail
                        exact ⟨⟨j + 1, by omega, by go_num, L7.out⟩, by simp [intOf]; omega⟩
                      · obtain rfl : j = 10 := by omega
                        rw [show ((10 : Nat) : Int) = 10 from rfl]
                        have LG : Hid (LW w5 wr wb (PG d 2 fa fp 1 ds 0) (23 + es.length) u15 ps) := (LF.out.imp (fun W p => .inl ⟨rfl, p⟩)).mono (by omega)
                        clear LF
                        go_wp2_with fail
                        go_loopw [24] (fun t wr => ∃ j : Nat, j ≤ 10 ∧ t = .int .i64 j ∧ LW w5 wr wb (PG d 2 fa fp 1 ds j) (23 + es.length) u15 ps) (fun t _ => 10 - (intOf t).toNat)
                        case atStart => exact ⟨0, by omega, rfl, LG.out⟩
                        case round =>
                          obtain ⟨j, hj, rfl, lj⟩ := hrel
                          have LE : Hid (LW w5 wr wb (PG d 2 fa fp 1 ds j) (23 + es.length) u15 ps) := lj
                          clear lj LG
                          by_cases hjw : j < 10
                          · have j1 : (j : Int) < 10 := by omega
                            go_wp2_with fail
                            refine (LE.out.deliver S5.out (P' := PG d 2 fa fp 1 ds (j + 1)) (fun K W wd p => p.dlv (by decide) HD8.out)).mono ?_
                            rintro e w7 ⟨⟨W, pW, rfl⟩, l7⟩
                            have L7 : Hid (LW w5 w7 wb (PG d 2 fa fp 1 ds (j + 1)) (23 + es.length) u15 ps) := l7
                            clear l7 LE
                            go_wp2_with fail
                            exact ⟨⟨j + 1, by omega, by go_num, L7.out⟩, by simp [intOf]; omega⟩
                          · obtain rfl : j = 10 := by omega
                            rw [show ((10 : Nat) : Int) = 10 from rfl]
                            have LH : Hid (LW w5 wr wb (PH d 2 fa fp ds) (23 + es.length) u15 ps) := LE.out.imp (fun W p => by rcases p with ⟨q, _⟩ | ⟨_, q⟩; omega; exact q)
                            clear LE
                            go_wp2_with fail
                            refine (LH.out.switch (a := ((1 - d : Nat) : Int)) (b := ((3 - d : Nat) : Int)) (fun W p => ⟨p.sw.1, p.sw.2, by have := HD.out; omega⟩)).mono ?_
                            rintro e w7 ⟨rfl, l7⟩
                            have L7 : Hid (LW w5 w7 wb (PH d 2 fa fp ds) (23 + es.length) u15 ps) := l7
                            clear l7 LH
                            go_wp2_with fail
                            have HPS : Hid (ps.length = es.length) := HG.out.1
                            have HGV : Hid (Given es ds ps (2000 + (d : Int) * 24) es.length) := HG.out.2.2
                            go_loopw [27, 28, 29] (fun t _ _ wr => ∃ i : Nat, i ≤ ps.length ∧ t = .int .i64 i ∧ LW w5 wr wb (PH d 2 fa fp ds) (23 + es.length + i) u15 ps) (fun t _ _ _ => ps.length - (intOf t).toNat)
                            case atStart => exact ⟨0, by omega, rfl, L7.out⟩
                            case round =>
                              obtain ⟨i, hi, rfl, li⟩ := hrel
                              have LI : Hid (LW w5 wr wb (PH d 2 fa fp ds) (23 + es.length + i) u15 ps) := li
                              clear li L7
                              obtain ⟨pp, pcap, hv20, hpt⟩ := own_ints LI.out.own
                              subst hv20
                              by_cases hlt : i < ps.length
                              · obtain ⟨e, jj, he1, he2, he3⟩ := HGV.out i (by have := HPS.out; omega)
                                obtain ⟨g, hpp, hcg⟩ := hpt i _ he3
                                subst hpp
                                have HJE : Hid (es[i]? = some e ∧ ds[jj]? = some e ∧ ps[i]? = some (2000 + (d : Int) * 24 + jj)) := ⟨he1, he2, he3⟩
                                have HJL : Hid (jj < 24) := by
                                  have := HD8.out
                                  obtain ⟨hlt, _⟩ := List.getElem?_eq_some_iff.1 he2
                                  show jj < 24
                                  omega
                                have HERR : Hid ((⟨2, fa, fp, 1, 2000 + (d : Int) * 24 + jj, 3⟩ : Pk).err = 0) := by
                                  have h24 : jj < 24 := HJL.out
                                  have hd2 : d < 2 := HD.out
                                  have h2 : okEnd 1 (2000 + (d : Int) * 24 + jj) := ⟨by omega, by omega, by omega, by omega⟩
                                  exact pkErr_zero.2 ⟨.inr rfl, HFAR.out, h2, (by decide : (0 : Int) ≤ 3), (by decide : (3 : Int) ≤ 15)⟩
                                obtain ⟨K, W, wd, pW, hwb, hown, htag⟩ := LI.out
                                have WD : Hid (Wd w5 wr K W (23 + es.length + i)) := wd
                                have HWB : Hid (K.wb = wb) := hwb
                                have HT9 : Hid (K.tag g = 9) := htag g rfl
                                have HGL : Hid (g < wr.heap.size ∧ w5.heap.size ≤ g) := ⟨(hown.lt g rfl).2, (hown.lt g rfl).1⟩
                                have HOW : Hid (wr.ownsRow w5.heap.size 3 1 (.slice (some ⟨g, 0, none⟩) ps.length pcap) ps.length (ps.map intVk)) := hown
                                have hps := pW.outside (by have := HD8.out; omega) HJE.out.2.1 3 HERR.out (by decide) (by decide +kernel)
                                have PW2 : Hid (PH d 2 fa fp ds (W.ots ⟨2, fa, fp, 1, 2000 + (d : Int) * 24 + jj, 3⟩)) := hps.2.2
                                have HOUT : Hid (∀ u, Below wr.heap.size wr u → Calls Tryz.prog 12 #[.pointer (some ⟨wb, 0, none⟩), .agg #[.int .i64 2, .int .i64 fa, .int .i64 fp, .int .i64 1, .int .i64 (2000 + (d : Int) * 24 + jj), .int .i64 3]] u fun r w' => r = .returned (.tuple #[.agg #[.int .i64 2, .int .i64 fa, .int .i64 fp, .int .i64 e.1, .int .i64 e.2, .int .i64 3], .nilIface]) ∧ Wd w5 w' K (W.ots ⟨2, fa, fp, 1, 2000 + (d : Int) * 24 + jj, 3⟩) (23 + es.length + i + 1) ∧ Mv K K u w') := fun u hu => by
                                  have := outside_wd S5.out (WD.out.below hu) (by have := HPS.out; have := HL.out; omega) ⟨2, fa, fp, 1, 2000 + (d : Int) * 24 + jj, 3⟩
                                  rw [HWB.out, hps.1, hps.2.1] at this
                                  exact this
                                have HZ5 : Hid (Z0 < w5.heap.size) := tlt E5.out.c0
                                have HSB : Hid (∀ u, Below wr.heap.size wr u → u.cell? ⟨Z0, 0, none⟩ = some (.int .i64 fa) ∧ u.cell? ⟨Z0, 1, none⟩ = some (.int .i64 fp) ∧ u.cell? ⟨g, i, none⟩ = some (.int .i64 (2000 + (d : Int) * 24 + jj))) := fun u hu => ⟨tk (t2 WD.out.bl hu) E5.out.c0, tk (t2 WD.out.bl hu) E5.out.c1, tk hu hcg⟩
                                have HSK : Hid (∀ u w', Below wr.heap.size wr u → Wd w5 w' K (W.ots ⟨2, fa, fp, 1, 2000 + (d : Int) * 24 + jj, 3⟩) (23 + es.length + i + 1) → Mv K K u w' → w'.cell? ⟨Z0, 0, none⟩ = some (.int .i64 fa) ∧ w'.cell? ⟨Z0, 1, none⟩ = some (.int .i64 fp) ∧ w'.cell? ⟨g, i, none⟩ = some (.int .i64 (2000 + (d : Int) * 24 + jj))) := fun u w' hu hw hm => ⟨tk hw.bl E5.out.c0, tk hw.bl E5.out.c1, by rw [World.cell?_of_block (w := u) (a := ⟨g, i, none⟩) (hm.block g (Nat.lt_of_lt_of_le HGL.out.1 hu.size) (.inl HT9.out))]; exact tk hu hcg⟩
                                have i0 : (0 : Int) ≤ (i : Int) := by omega
                                have i1 : (i : Int) < (ps.length : Int) := by omega
                                have z0 := (HSB.out wr (Below.refl _ _)).1
                                have z1 := (HSB.out wr (Below.refl _ _)).2.1
                                clear he1 he2 he3 hpt wd pW hwb hown htag hps
                                go_upto_region 57 with fail
                                go_cut [28, 29] (fun s28 s29 wx => ∃ q, s28 = .pointer (some ⟨q, 0, none⟩) ∧ s29 = .nilIface ∧ PkZ wx q ⟨2, fa, fp, e.1, e.2, 3⟩ ∧ LW w5 wx wb (PH d 2 fa fp ds) (23 + es.length + i + 1) (.slice (some ⟨g, 0, none⟩) ps.length pcap) ps)
                                case first =>
                                  have hS0 := HSB.out wr.drew (Below.refl _ _).drew
                                  clear z0 z1 hcg
                                  refine wp_region_noPanic ?_
                                  refine wp_region_held_drew (S := (fun w' : World => w'.cell? ⟨Z0, 0, none⟩ = some (.int .i64 fa) ∧ w'.cell? ⟨Z0, 1, none⟩ = some (.int .i64 fp) ∧ w'.cell? ⟨g, i, none⟩ = some (.int .i64 (2000 + (d : Int) * 24 + jj)))) (by kernel_rfl) hS0 (fun _ => ?_)
                                  refine wpAnyH_take (i := 0) (v := ?_) rfl (by kernel_rfl) (by kernel_rfl) (by kernel_rfl) (fun _ _ _ h => h) (Or.inl ⟨by rfl, ?_⟩) hS0 ?_
                                  rotate_left
                                  · intro w9 hSw; (try dsimp only at hSw); go_simp; try (with_reducible rfl)
                                  simp only [Act.put, List.getElem_toArray, List.getElem_cons_zero, List.setIfInBounds_toArray, List.set_cons_zero, List.set_cons_succ]
                                  refine wpAnyH_take (i := 1) (v := ?_) rfl (by kernel_rfl) (by kernel_rfl) (by kernel_rfl) (fun _ _ _ h => h) (Or.inl ⟨by rfl, ?_⟩) hS0 ?_
                                  rotate_left
                                  · intro w9 hSw; (try dsimp only at hSw); go_simp; try (with_reducible rfl)
                                  simp only [Act.put, List.getElem_toArray, List.getElem_cons_succ, List.getElem_cons_zero, List.setIfInBounds_toArray, List.set_cons_zero, List.set_cons_succ]
                                  refine wpAnyH_take (i := 2) (v := ?_) rfl (by kernel_rfl) (by kernel_rfl) (by kernel_rfl) (fun _ _ _ h => h) (Or.inl ⟨by rfl, ?_⟩) hS0 ?_
                                  rotate_left
                                  · intro w9 hSw; (try dsimp only at hSw); go_simp; try (with_reducible rfl)
                                  simp only [Act.put, List.getElem_toArray, List.getElem_cons_succ, List.getElem_cons_zero, List.setIfInBounds_toArray, List.set_cons_zero, List.set_cons_succ]
                                  refine wpAnyH_take (i := 3) (v := ?_) rfl (by kernel_rfl) (by kernel_rfl) (by kernel_rfl) (fun _ _ _ h => h) (Or.inl ⟨by rfl, ?_⟩) hS0 ?_
                                  rotate_left
                                  · intro w9 hSw; (try dsimp only at hSw); go_simp; try (with_reducible rfl)
                                  simp only [Act.put, List.getElem_toArray, List.getElem_cons_succ, List.getElem_cons_zero, List.setIfInBounds_toArray, List.set_cons_zero, List.set_cons_succ]
                                  refine wpAnyH_take (i := 4) (v := ?_) rfl (by kernel_rfl) (by kernel_rfl) (by kernel_rfl) (fun _ _ _ h => h) (Or.inl ⟨by rfl, ?_⟩) hS0 ?_
                                  rotate_left
                                  · intro w9 hSw; (try dsimp only at hSw); go_simp; try (with_reducible rfl)
                                  simp only [Act.put, List.getElem_toArray, List.getElem_cons_succ, List.getElem_cons_zero, List.setIfInBounds_toArray, List.set_cons_zero, List.set_cons_succ]
                                  refine wpAnyH_take (i := 5) (v := ?_) rfl (by kernel_rfl) (by kernel_rfl) (by kernel_rfl) (fun _ _ _ h => h) (Or.inl ⟨by rfl, ?_⟩) hS0 ?_
                                  rotate_left
                                  · intro w9 hSw; (try dsimp only at hSw); go_simp; try (with_reducible rfl)
                                  simp only [Act.put, List.getElem_toArray, List.getElem_cons_succ, List.getElem_cons_zero, List.setIfInBounds_toArray, List.set_cons_zero, List.set_cons_succ]
                                  refine wpAnyH_take (i := 6) (v := ?_) rfl (by kernel_rfl) (by kernel_rfl) (by kernel_rfl) (fun _ _ _ h => h) (Or.inl ⟨by rfl, ?_⟩) hS0 ?_
                                  rotate_left
                                  · intro w9 hSw; (try dsimp only at hSw); go_simp; try (with_reducible rfl)
                                  simp only [Act.put, List.getElem_toArray, List.getElem_cons_succ, List.getElem_cons_zero, List.setIfInBounds_toArray, List.set_cons_zero, List.set_cons_succ]
                                  refine wpAnyH_take (i := 7) (v := ?_) rfl (by kernel_rfl) (by kernel_rfl) (by kernel_rfl) (fun _ _ _ h => h) (Or.inl ⟨by rfl, ?_⟩) hS0 ?_
                                  rotate_left
                                  · intro w9 hSw; (try dsimp only at hSw); go_simp; try (with_reducible rfl)
                                  simp only [Act.put, List.getElem_toArray, List.getElem_cons_succ, List.getElem_cons_zero, List.setIfInBounds_toArray, List.set_cons_zero, List.set_cons_succ]
                                  refine wpAnyH_take (i := 8) (v := ?_) rfl (by kernel_rfl) (by kernel_rfl) (by kernel_rfl) (fun _ _ _ h => h) (Or.inl ⟨by rfl, ?_⟩) hS0 ?_
                                  rotate_left
                                  · intro w9 hSw; (try dsimp only at hSw); go_simp; try (with_reducible rfl)
                                  simp only [Act.put, List.getElem_toArray, List.getElem_cons_succ, List.getElem_cons_zero, List.setIfInBounds_toArray, List.set_cons_zero, List.set_cons_succ]
                                  refine wpAnyH_take (i := 9) (v := ?_) rfl (by kernel_rfl) (by kernel_rfl) (by kernel_rfl) (fun _ _ _ h => h) (Or.inl ⟨by rfl, ?_⟩) hS0 ?_
                                  rotate_left
                                  · intro w9 hSw; (try dsimp only at hSw); go_simp; try (with_reducible rfl)
                                  simp only [Act.put, List.getElem_toArray, List.getElem_cons_succ, List.getElem_cons_zero, List.setIfInBounds_toArray, List.set_cons_zero, List.set_cons_succ]
                                  have hX_xd : Hid (Below wr.heap.size wr wr.drew) := (Below.refl _ _).drew
                                  generalize wr.drew = xd at *
                                  refine wpAnyH_ready (rs := [10, 14]) (by kernel_rfl) (by simp) ?_
                                  refine AllReadyH.cons (o := _) rfl (fun K hK => ?_) (AllReadyH.cons (o := _) rfl (fun K hK => ?_) AllReadyH.nil)
                                  · go_simp
                                    refine (HOUT.out xd hX_xd.out).mono ?_
                                    rintro r y ⟨rfl, l3, m3⟩
                                    go_wp2_with fail
                                    have sy := HSK.out xd y hX_xd.out l3 m3
                                    refine hK.out _ _ sy (fun _ => ?_)
                                    clear hK K
                                    try simp only [Act.put, List.setIfInBounds_toArray, List.set_cons_zero, List.set_cons_succ]
                                    have LY : Hid (Wd w5 y K (W.ots ⟨2, fa, fp, 1, 2000 + (d : Int) * 24 + jj, 3⟩) (23 + es.length + i + 1)) := l3
                                    have MY : Hid (Mv K K xd y) := m3
                                    clear l3 m3
                                    refine wpAnyH_take (i := 11) (v := ?_) rfl (by kernel_rfl) (by kernel_rfl) (by kernel_rfl) (fun _ _ _ h => h) (Or.inl ⟨by rfl, ?_⟩) sy ?_
                                    rotate_left
                                    · intro w9 hSw; (try dsimp only at hSw); go_simp; try (with_reducible rfl)
                                    simp only [Act.put, List.getElem_toArray, List.getElem_cons_succ, List.getElem_cons_zero, List.setIfInBounds_toArray, List.set_cons_zero, List.set_cons_succ]
                                    refine wpAnyH_take (i := 12) (v := ?_) rfl (by kernel_rfl) (by kernel_rfl) (by kernel_rfl) (fun _ _ _ h => h) (Or.inl ⟨by rfl, ?_⟩) sy ?_
                                    rotate_left
                                    · intro w9 hSw; (try dsimp only at hSw); go_simp; try (with_reducible rfl)
                                    simp only [Act.put, List.getElem_toArray, List.getElem_cons_succ, List.getElem_cons_zero, List.setIfInBounds_toArray, List.set_cons_zero, List.set_cons_succ]
                                    refine wpAnyH_take (i := 13) (v := ?_) rfl (by kernel_rfl) (by kernel_rfl) (by kernel_rfl) (fun _ _ _ h => h) (Or.inl ⟨by rfl, ?_⟩) sy ?_
                                    rotate_left
                                    · intro w9 hSw; (try dsimp only at hSw); go_simp; try (with_reducible rfl)
                                    simp only [Act.put, List.getElem_toArray, List.getElem_cons_succ, List.getElem_cons_zero, List.setIfInBounds_toArray, List.set_cons_zero, List.set_cons_succ]
                                    refine wpAnyH_ready (rs := [14]) (by kernel_rfl) (by simp) ?_
                                    refine AllReadyH.cons (o := _) rfl (fun K hK => ?_) AllReadyH.nil
                                    go_simp
                                    have sz : (y.alloc (.cells #[.int .i64 0, .int .i64 0, .int .i64 0, .int .i64 0, .int .i64 0, .int .i64 0] 37)).cell? ⟨Z0, 0, none⟩ = some (.int .i64 fa) ∧ (y.alloc (.cells #[.int .i64 0, .int .i64 0, .int .i64 0, .int .i64 0, .int .i64 0, .int .i64 0] 37)).cell? ⟨Z0, 1, none⟩ = some (.int .i64 fp) ∧ (y.alloc (.cells #[.int .i64 0, .int .i64 0, .int .i64 0, .int .i64 0, .int .i64 0, .int .i64 0] 37)).cell? ⟨g, i, none⟩ = some (.int .i64 (2000 + (d : Int) * 24 + jj)) := ⟨tk (aB _ _) sy.1, tk (aB _ _) sy.2.1, tk (aB _ _) sy.2.2⟩
                                    refine hK.out _ _ sz (fun _ => ?_)
                                    clear hK K
                                    try simp only [Act.put, List.setIfInBounds_toArray, List.set_cons_zero, List.set_cons_succ]
                                    have QZ : Hid (PkZ (y.alloc (.cells #[.int .i64 0, .int .i64 0, .int .i64 0, .int .i64 0, .int .i64 0, .int .i64 0] 37)) y.heap.size noP) := PkZ.zero y
                                    have WZ : Hid (Wd w5 (y.alloc (.cells #[.int .i64 0, .int .i64 0, .int .i64 0, .int .i64 0, .int .i64 0, .int .i64 0] 37)) K (W.ots ⟨2, fa, fp, 1, 2000 + (d : Int) * 24 + jj, 3⟩) (23 + es.length + i + 1)) := LY.out.below (aB _ _)
                                    have MZ : Hid (Mv K K wr (y.alloc (.cells #[.int .i64 0, .int .i64 0, .int .i64 0, .int .i64 0, .int .i64 0, .int .i64 0] 37))) := ((Mv.of hX_xd.out).trans MY.out).then (aB _ _)
                                    have HQ9 : Hid (K.tag y.heap.size = 9 ∧ w5.heap.size ≤ y.heap.size ∧ g ≠ y.heap.size ∧ Z0 ≠ y.heap.size) := ⟨LY.out.al _ (Nat.le_refl _), LY.out.bl.size, by have := HGL.out; have := hX_xd.out.size; have := MY.out.size; omega, by have := HZ5.out; have := LY.out.bl.size; omega⟩
                                    generalize y.alloc (.cells #[.int .i64 0, .int .i64 0, .int .i64 0, .int .i64 0, .int .i64 0, .int .i64 0] 37) = z at *
                                    generalize y.heap.size = q at *
                                    obtain ⟨c0, c1, c2, c3, c4, c5⟩ := QZ.out.b
                                    have cf := QZ.out.fr
                                    simp only [noP] at c0 c1 c2 c3 c4 c5
                                    refine wpAnyH_ready (rs := [15]) (by kernel_rfl) (by simp) ?_
                                    refine AllReadyH.cons (o := _) rfl (fun K hK => ?_) AllReadyH.nil
                                    go_simp
                                    have q9 : Hid (PkZ ((((((z.setCell ⟨q, 0, none⟩ (.int .i64 2)).setCell ⟨q, 1, none⟩ (.int .i64 fa)).setCell ⟨q, 2, none⟩ (.int .i64 fp)).setCell ⟨q, 3, none⟩ (.int .i64 e.1)).setCell ⟨q, 4, none⟩ (.int .i64 e.2)).setCell ⟨q, 5, none⟩ (.int .i64 3)) q ⟨2, fa, fp, e.1, e.2, 3⟩) := pkz_putW QZ.out ⟨2, fa, fp, e.1, e.2, 3⟩
                                    have g9 : Chg q z ((((((z.setCell ⟨q, 0, none⟩ (.int .i64 2)).setCell ⟨q, 1, none⟩ (.int .i64 fa)).setCell ⟨q, 2, none⟩ (.int .i64 fp)).setCell ⟨q, 3, none⟩ (.int .i64 e.1)).setCell ⟨q, 4, none⟩ (.int .i64 e.2)).setCell ⟨q, 5, none⟩ (.int .i64 3)) := set6_chgW _ _ _ _ _ _ _ _
                                    have s9 : ((((((z.setCell ⟨q, 0, none⟩ (.int .i64 2)).setCell ⟨q, 1, none⟩ (.int .i64 fa)).setCell ⟨q, 2, none⟩ (.int .i64 fp)).setCell ⟨q, 3, none⟩ (.int .i64 e.1)).setCell ⟨q, 4, none⟩ (.int .i64 e.2)).setCell ⟨q, 5, none⟩ (.int .i64 3)).cell? ⟨Z0, 0, none⟩ = some (.int .i64 fa) ∧ ((((((z.setCell ⟨q, 0, none⟩ (.int .i64 2)).setCell ⟨q, 1, none⟩ (.int .i64 fa)).setCell ⟨q, 2, none⟩ (.int .i64 fp)).setCell ⟨q, 3, none⟩ (.int .i64 e.1)).setCell ⟨q, 4, none⟩ (.int .i64 e.2)).setCell ⟨q, 5, none⟩ (.int .i64 3)).cell? ⟨Z0, 1, none⟩ = some (.int .i64 fp) ∧ ((((((z.setCell ⟨q, 0, none⟩ (.int .i64 2)).setCell ⟨q, 1, none⟩ (.int .i64 fa)).setCell ⟨q, 2, none⟩ (.int .i64 fp)).setCell ⟨q, 3, none⟩ (.int .i64 e.1)).setCell ⟨q, 4, none⟩ (.int .i64 e.2)).setCell ⟨q, 5, none⟩ (.int .i64 3)).cell? ⟨g, i, none⟩ = some (.int .i64 (2000 + (d : Int) * 24 + jj)) := ⟨g9.keeps HQ9.out.2.2.2 (And.left sz), g9.keeps HQ9.out.2.2.2 (And.left (And.right sz)), g9.keeps HQ9.out.2.2.1 (And.right (And.right sz))⟩
                                    refine hK.out _ _ s9 (fun _ => ?_)
                                    clear hK K
                                    try simp only [Act.put, List.setIfInBounds_toArray]
                                    generalize ((((((z.setCell ⟨q, 0, none⟩ (.int .i64 2)).setCell ⟨q, 1, none⟩ (.int .i64 fa)).setCell ⟨q, 2, none⟩ (.int .i64 fp)).setCell ⟨q, 3, none⟩ (.int .i64 e.1)).setCell ⟨q, 4, none⟩ (.int .i64 e.2)).setCell ⟨q, 5, none⟩ (.int .i64 3)) = z9 at *
                                    refine wpAnyH_take (i := 16) (v := ?_) rfl (by kernel_rfl) (by kernel_rfl) (by kernel_rfl) (fun _ _ _ h => h) (Or.inl ⟨by rfl, ?_⟩) s9 ?_
                                    rotate_left
                                    · intro w9 hSw; (try dsimp only at hSw); go_simp; try (with_reducible rfl)
                                    simp only [Act.put, List.getElem_toArray, List.getElem_cons_succ, List.getElem_cons_zero, List.setIfInBounds_toArray, List.set_cons_zero, List.set_cons_succ]
                                    refine wpAnyH_done (by kernel_rfl) ?_ _
                                    refine NoPanic.normal ?_
                                    go_wp2_with fail
                                    go_meet
                                    case rel =>
                                      refine ⟨q, rfl, rfl, q9.out, K, _, WZ.out.fresh HQ9.out.1 HQ9.out.2.1 g9, PW2.out, HWB.out, ?_, ?_⟩
                                      · exact owns_chgW (own_mv WD.out HOW.out (fun b hb => by cases hb; exact HT9.out) MZ.out).1 g9 (by rw [ownBlock_some]; intro e2; cases e2; exact HQ9.out.2.2.1 rfl)
                                      · exact fun b hb => by cases hb; exact HT9.out
                                  · go_simp
                                    have sz := HSB.out (xd.alloc (.cells #[.int .i64 0, .int .i64 0, .int .i64 0, .int .i64 0, .int .i64 0, .int .i64 0] 37)) (t2 hX_xd.out (aB _ _))
                                    refine hK.out _ _ sz (fun _ => ?_)
                                    clear hK K
                                    try simp only [Act.put, List.setIfInBounds_toArray, List.set_cons_zero, List.set_cons_succ]
                                    have QX : Hid (PkZ (xd.alloc (.cells #[.int .i64 0, .int .i64 0, .int .i64 0, .int .i64 0, .int .i64 0, .int .i64 0] 37)) xd.heap.size noP) := PkZ.zero xd
                                    have hX_x2 : Hid (Below wr.heap.size wr (xd.alloc (.cells #[.int .i64 0, .int .i64 0, .int .i64 0, .int .i64 0, .int .i64 0, .int .i64 0] 37))) := t2 hX_xd.out (aB _ _)
                                    have HQ9 : Hid (K.tag xd.heap.size = 9 ∧ w5.heap.size ≤ xd.heap.size ∧ g ≠ xd.heap.size ∧ Z0 ≠ xd.heap.size) := ⟨WD.out.al _ hX_xd.out.size, by have := WD.out.bl.size; have := hX_xd.out.size; omega, by have := HGL.out; have := hX_xd.out.size; omega, by have := HZ5.out; have := WD.out.bl.size; have := hX_xd.out.size; omega⟩
                                    generalize xd.alloc (.cells #[.int .i64 0, .int .i64 0, .int .i64 0, .int .i64 0, .int .i64 0, .int .i64 0] 37) = x2 at *
                                    generalize xd.heap.size = q at *
                                    refine wpAnyH_ready (rs := [10]) (by kernel_rfl) (by simp) ?_
                                    refine AllReadyH.cons (o := _) rfl (fun K hK => ?_) AllReadyH.nil
                                    go_simp
                                    refine (HOUT.out x2 hX_x2.out).mono ?_
                                    rintro r y ⟨rfl, l3, m3⟩
                                    go_wp2_with fail
                                    have sy := HSK.out x2 y hX_x2.out l3 m3
                                    refine hK.out _ _ sy (fun _ => ?_)
                                    clear hK K
                                    try simp only [Act.put, List.setIfInBounds_toArray, List.set_cons_zero, List.set_cons_succ]
                                    have LY : Hid (Wd w5 y K (W.ots ⟨2, fa, fp, 1, 2000 + (d : Int) * 24 + jj, 3⟩) (23 + es.length + i + 1)) := l3
                                    have MY : Hid (Mv K K x2 y) := m3
                                    clear l3 m3
                                    refine wpAnyH_take (i := 11) (v := ?_) rfl (by kernel_rfl) (by kernel_rfl) (by kernel_rfl) (fun _ _ _ h => h) (Or.inl ⟨by rfl, ?_⟩) sy ?_
                                    rotate_left
                                    · intro w9 hSw; (try dsimp only at hSw); go_simp; try (with_reducible rfl)
                                    simp only [Act.put, List.getElem_toArray, List.getElem_cons_succ, List.getElem_cons_zero, List.setIfInBounds_toArray, List.set_cons_zero, List.set_cons_succ]
                                    refine wpAnyH_take (i := 12) (v := ?_) rfl (by kernel_rfl) (by kernel_rfl) (by kernel_rfl) (fun _ _ _ h => h) (Or.inl ⟨by rfl, ?_⟩) sy ?_
                                    rotate_left
                                    · intro w9 hSw; (try dsimp only at hSw); go_simp; try (with_reducible rfl)
                                    simp only [Act.put, List.getElem_toArray, List.getElem_cons_succ, List.getElem_cons_zero, List.setIfInBounds_toArray, List.set_cons_zero, List.set_cons_succ]
                                    refine wpAnyH_take (i := 13) (v := ?_) rfl (by kernel_rfl) (by kernel_rfl) (by kernel_rfl) (fun _ _ _ h => h) (Or.inl ⟨by rfl, ?_⟩) sy ?_
                                    rotate_left
                                    · intro w9 hSw; (try dsimp only at hSw); go_simp; try (with_reducible rfl)
                                    simp only [Act.put, List.getElem_toArray, List.getElem_cons_succ, List.getElem_cons_zero, List.setIfInBounds_toArray, List.set_cons_zero, List.set_cons_succ]
                                    have QZ : Hid (PkZ y q noP) := by show y.heap[q]? = _; rw [MY.out.block q QX.out.lt (.inl HQ9.out.1)]; exact QX.out
                                    have WZ : Hid (Wd w5 y K (W.ots ⟨2, fa, fp, 1, 2000 + (d : Int) * 24 + jj, 3⟩) (23 + es.length + i + 1)) := LY.out
                                    have MZ : Hid (Mv K K wr y) := (Mv.of hX_x2.out).trans MY.out
                                    obtain ⟨c0, c1, c2, c3, c4, c5⟩ := QZ.out.b
                                    have cf := QZ.out.fr
                                    simp only [noP] at c0 c1 c2 c3 c4 c5
                                    refine wpAnyH_ready (rs := [15]) (by kernel_rfl) (by simp) ?_
                                    refine AllReadyH.cons (o := _) rfl (fun K hK => ?_) AllReadyH.nil
                                    go_simp
                                    have q9 : Hid (PkZ ((((((y.setCell ⟨q, 0, none⟩ (.int .i64 2)).setCell ⟨q, 1, none⟩ (.int .i64 fa)).setCell ⟨q, 2, none⟩ (.int .i64 fp)).setCell ⟨q, 3, none⟩ (.int .i64 e.1)).setCell ⟨q, 4, none⟩ (.int .i64 e.2)).setCell ⟨q, 5, none⟩ (.int .i64 3)) q ⟨2, fa, fp, e.1, e.2, 3⟩) := pkz_putW QZ.out ⟨2, fa, fp, e.1, e.2, 3⟩
                                    have g9 : Chg q y ((((((y.setCell ⟨q, 0, none⟩ (.int .i64 2)).setCell ⟨q, 1, none⟩ (.int .i64 fa)).setCell ⟨q, 2, none⟩ (.int .i64 fp)).setCell ⟨q, 3, none⟩ (.int .i64 e.1)).setCell ⟨q, 4, none⟩ (.int .i64 e.2)).setCell ⟨q, 5, none⟩ (.int .i64 3)) := set6_chgW _ _ _ _ _ _ _ _
                                    have s9 : ((((((y.setCell ⟨q, 0, none⟩ (.int .i64 2)).setCell ⟨q, 1, none⟩ (.int .i64 fa)).setCell ⟨q, 2, none⟩ (.int .i64 fp)).setCell ⟨q, 3, none⟩ (.int .i64 e.1)).setCell ⟨q, 4, none⟩ (.int .i64 e.2)).setCell ⟨q, 5, none⟩ (.int .i64 3)).cell? ⟨Z0, 0, none⟩ = some (.int .i64 fa) ∧ ((((((y.setCell ⟨q, 0, none⟩ (.int .i64 2)).setCell ⟨q, 1, none⟩ (.int .i64 fa)).setCell ⟨q, 2, none⟩ (.int .i64 fp)).setCell ⟨q, 3, none⟩ (.int .i64 e.1)).setCell ⟨q, 4, none⟩ (.int .i64 e.2)).setCell ⟨q, 5, none⟩ (.int .i64 3)).cell? ⟨Z0, 1, none⟩ = some (.int .i64 fp) ∧ ((((((y.setCell ⟨q, 0, none⟩ (.int .i64 2)).setCell ⟨q, 1, none⟩ (.int .i64 fa)).setCell ⟨q, 2, none⟩ (.int .i64 fp)).setCell ⟨q, 3, none⟩ (.int .i64 e.1)).setCell ⟨q, 4, none⟩ (.int .i64 e.2)).setCell ⟨q, 5, none⟩ (.int .i64 3)).cell? ⟨g, i, none⟩ = some (.int .i64 (2000 + (d : Int) * 24 + jj)) := ⟨g9.keeps HQ9.out.2.2.2 (And.left sy), g9.keeps HQ9.out.2.2.2 (And.left (And.right sy)), g9.keeps HQ9.out.2.2.1 (And.right (And.right sy))⟩
                                    refine hK.out _ _ s9 (fun _ => ?_)
                                    clear hK K
                                    try simp only [Act.put, List.setIfInBounds_toArray]
                                    generalize ((((((y.setCell ⟨q, 0, none⟩ (.int .i64 2)).setCell ⟨q, 1, none⟩ (.int .i64 fa)).setCell ⟨q, 2, none⟩ (.int .i64 fp)).setCell ⟨q, 3, none⟩ (.int .i64 e.1)).setCell ⟨q, 4, none⟩ (.int .i64 e.2)).setCell ⟨q, 5, none⟩ (.int .i64 3)) = z9 at *
                                    refine wpAnyH_take (i := 16) (v := ?_) rfl (by kernel_rfl) (by kernel_rfl) (by kernel_rfl) (fun _ _ _ h => h) (Or.inl ⟨by rfl, ?_⟩) s9 ?_
                                    rotate_left
                                    · intro w9 hSw; (try dsimp only at hSw); go_simp; try (with_reducible rfl)
                                    simp only [Act.put, List.getElem_toArray, List.getElem_cons_succ, List.getElem_cons_zero, List.setIfInBounds_toArray, List.set_cons_zero, List.set_cons_succ]
                                    refine wpAnyH_done (by kernel_rfl) ?_ _
                                    refine NoPanic.normal ?_
                                    go_wp2_with fail
                                    go_meet
                                    case rel =>
                                      refine ⟨q, rfl, rfl, q9.out, K, _, WZ.out.fresh HQ9.out.1 HQ9.out.2.1 g9, PW2.out, HWB.out, ?_, ?_⟩
                                      · exact owns_chgW (own_mv WD.out HOW.out (fun b hb => by cases hb; exact HT9.out) MZ.out).1 g9 (by rw [ownBlock_some]; intro e2; cases e2; exact HQ9.out.2.2.1 rfl)
                                      · exact fun b hb => by cases hb; exact HT9.out
                                case rest =>
                                  obtain ⟨q, rfl, rfl, pz, lw2⟩ := hcut
                                  have PZ : Hid (PkZ wc q ⟨2, fa, fp, e.1, e.2, 3⟩) := pz
                                  have L2 : Hid (LW w5 wc wb (PH d 2 fa fp ds) (23 + es.length + i + 1) (.slice (some ⟨g, 0, none⟩) ps.length pcap) ps) := lw2
                                  clear pz lw2
                                  obtain ⟨A, o, hp, c1, c2⟩ := HAT.out i e HJE.out.1
                                  subst hp
                                  have b1 := t2 B5.out L2.out.bl
                                  have q1 := tk b1 c1
                                  have q2 := tk b1 c2
                                  obtain ⟨r0, r1, r2, r3, r4, r5⟩ := PZ.out.b
                                  have i2 : (i : Int) < (es.length : Int) := by have := HPS.out; omega
                                  have hn1 : ∀ u, (binOp .neq 24 (.agg #[.int .i64 e.1, .int .i64 e.2]) (.agg #[.int .i64 e.1, .int .i64 e.2])).run Tryz.prog u = .ok (.bool false) u := fun u => by rw [neq_end]; simp
                                  clear b1 c1 c2
                                  go_wp2_with fail
                                  go_quiet (fail)
                                  have D2 : Hid (Below wc.heap.size wc (wc.drewN nq)) := ⟨rfl, rfl, rfl, Nat.le_refl _, fun _ _ => rfl⟩
                                  generalize wc.drewN nq = wd at *
                                  clear q1 q2 r0 r1 r2 r3 r4 r5 hn1 PZ
                                  go_wp2_with fail
                                  exact ⟨⟨i + 1, by omega, by go_num, L2.out.below D2.out⟩, by simp [intOf]; omega⟩
                              · have i1 : ¬ (i : Int) < (ps.length : Int) := by omega
                                go_wp2_with fail
                                go_ret
                                exact ⟨rfl, t2 B5.out LI.out.bl⟩
  · have HN : Hid (first < 0 ∨ 1 < first ∨ (es.length : Int) < 1 ∨ (8 : Int) < (es.length : Int)) := (by omega : first < 0 ∨ 1 < first ∨ (es.length : Int) < 1 ∨ (8 : Int) < (es.length : Int))
    clear hlen
    by_cases x0 : first < 0
    · go_wp2_with fail
      go_ret
      exact ⟨rfl, B1.out⟩
    · by_cases x1 : 1 < first
      · go_wp2_with fail
        go_ret
        exact ⟨rfl, B1.out⟩
      · by_cases x2 : (es.length : Int) < 1
        · go_wp2_with fail
          go_ret
          exact ⟨rfl, B1.out⟩
        · have x4 : (8 : Int) < (es.length : Int) := by have := HN.out; omega
          go_wp2_with fail
          go_ret
          exact ⟨rfl, B1.out⟩
set_option maxRecDepth 100000 in
set_option maxHeartbeats 8000000 in
theorem takes_udp (first : Int) (v : Value) (es : List (Int × Int)) (fa fp pr : Int) (hpr : pr ≠ 2) (s : Nat → Addr) (w : World) (S : SeM w s) (L : EndsI w v es) :
    Calls Tryz.prog 3 #[.int .i64 first, v, .agg #[.int .i64 fa, .int .i64 fp], .int .i64 pr] w fun e w' => e = .returned (.bool true) ∧ Below w.heap.size w w' := by
  obtain ⟨sp, cap, rfl, hat⟩ := L
  obtain ⟨ii0, hii, hz0, hz1, hz2⟩ := info_parts Tryz.infoIk
  have HS : Hid (SeM w s) := S
  have HAT : Hid (∀ (i : Nat) e, es[i]? = some e → ∃ b o, sp = some ⟨b, o, none⟩ ∧ w.cell? ⟨b, o + i * 2, none⟩ = some (.int .i64 e.1) ∧ w.cell? ⟨b, o + i * 2 + 1, none⟩ = some (.int .i64 e.2)) := hat
  clear S hat
  go_enter Tryz.func3, Tryz.ntmps3
  go_wp2_with fail
  have B0 : Hid (Below w.heap.size w (w.alloc (.cells #[.int .i64 fa, .int .i64 fp] 24))) := aB _ _
  have E0 : Hid (End2 (w.alloc (.cells #[.int .i64 fa, .int .i64 fp] 24)) w.heap.size fa fp) := end2_new w fa fp
  generalize w.alloc (.cells #[.int .i64 fa, .int .i64 fp] 24) = w0 at *
  generalize w.heap.size = Z0 at E0 ⊢
  refine (born_any (HS.out.below B0.out)).mono ?_
  rintro e w1 ⟨rfl, hb1⟩
  have B1 : Hid (Below w.heap.size w w1) := t2 B0.out hb1
  have E1 : Hid (End2 w1 Z0 fa fp) := E0.out.below hb1
  clear hb1 B0 E0
  by_cases hlen : (0 ≤ first ∧ first ≤ 1) ∧ 1 ≤ es.length ∧ es.length ≤ 8
  · obtain ⟨⟨i0, i1⟩, hl1, hl8⟩ := hlen
    obtain ⟨d, rfl⟩ : ∃ d : Nat, first = d := ⟨first.toNat, by omega⟩
    have HD : Hid (d < 2) := (by omega : d < 2)
    have HL : Hid (1 ≤ es.length ∧ es.length ≤ 8) := ⟨hl1, hl8⟩
    have x0 : ¬ (d : Int) < 0 := by omega
    have x1 : ¬ 1 < (d : Int) := by omega
    have x4 : ¬ (es.length : Int) < 1 := by omega
    have x5 : ¬ (8 : Int) < (es.length : Int) := by omega
    clear i0 i1 hl1 hl8
    go_wp2_with fail
    clear x0 x1 x4 x5
    have B5 : Hid (Below w.heap.size w (w1.alloc (.cells #[.bool true, .bool true, .int .i64 0, .int .i64 1, .int .i64 65535] 32))) := t2 B1.out (aB _ _)
    have R5 : Hid (Sl (w1.alloc (.cells #[.bool true, .bool true, .int .i64 0, .int .i64 1, .int .i64 65535] 32)) (.slice (some ⟨w1.heap.size, 0, none⟩) 1 1) ruL) := ruL_sl w1
    have E5 : Hid (End2 (w1.alloc (.cells #[.bool true, .bool true, .int .i64 0, .int .i64 1, .int .i64 65535] 32)) Z0 fa fp) := E1.out.below (aB _ _)
    have LS : Hid (w1.heap.size < (w1.alloc (.cells #[.bool true, .bool true, .int .i64 0, .int .i64 1, .int .i64 65535] 32)).heap.size) := by show _ < _; simp [go_sem]
    generalize w1.alloc (.cells #[.bool true, .bool true, .int .i64 0, .int .i64 1, .int .i64 65535] 32) = w5 at *
    generalize w1.heap.size = G1 at R5 LS ⊢
    have S5 : Hid (SeM w5 s) := HS.out.below B5.out
    clear B1 E1
    refine (new_wd S5.out _ ruL R5.out (fun a n c e => by cases e; exact LS.out) (by decide)).mono ?_
    rintro e w6 hcase
    rcases hcase with ⟨_, K, rfl, wd6, _⟩ | ⟨hno, _⟩
    rotate_left
    · exact absurd ruL_ok hno
    have L6 : Hid (LW w5 w6 K.wb (Ph ruL d 0) 0 (.slice none 0 0) []) := ⟨K, _, wd6, Ph.zero ruL HD.out, rfl, ⟨rfl, .inl ⟨rfl, rfl⟩⟩, fun g hg => by cases hg⟩
    generalize K.wb = wb at L6 ⊢
    clear wd6 R5 LS
    go_wp2_with fail
    go_loopw [12] (fun t wr => ∃ j : Nat, j ≤ 10 ∧ t = .int .i64 j ∧ LW w5 wr wb (Ph ruL d j) j (.slice none 0 0) []) (fun t _ => 10 - (intOf t).toNat)
    case atStart => exact ⟨0, by omega, rfl, L6.out⟩
    case round =>
      obtain ⟨j, hj, rfl, lr⟩ := hrel
      have LR : Hid (LW w5 wr wb (Ph ruL d j) j (.slice none 0 0) []) := lr
      clear lr L6
      by_cases hlt : j < 10
      · have j9 : (j : Int) ≤ 9 := by omega
        have HJ : Hid (j ≤ 9) := (by omega : j ≤ 9)
        go_wp2_with fail
        refine (LR.out.tick S5.out (by have := HJ.out; omega) (d : Int) (fun W p => p.tick HJ.out)).mono ?_
        rintro e w7 ⟨rfl, l7⟩
        have L7 : Hid (LW w5 w7 wb (Ph ruL d (j + 1)) (j + 1) (.slice none 0 0) []) := l7
        clear l7 LR
        go_wp2_with fail
        exact ⟨⟨j + 1, by omega, by go_num, L7.out⟩, by simp [intOf]; omega⟩
      · obtain rfl : j = 10 := by omega
        rw [show ((10 : Nat) : Int) = 10 from rfl]
        go_wp2_with fail
        refine (LR.out.deliver S5.out (P' := PB d pr fa fp 0 [] 0) (fun K W wd p => PB.zero p _ _ _ _)).mono ?_
        rintro e w7 ⟨⟨W, pW, rfl⟩, l7⟩
        rw [pW.deliver.1]
        have LB : Hid (LW w5 w7 wb (PB d pr fa fp 0 [] 0) 10 (.slice none 0 0) []) := l7
        clear l7 LR pW W
        simp only [terr]
        have hne2 : (pr == 2) = false := by rw [beq_eq_false_iff_ne]; exact hpr
        go_wp2_with fail
        go_loopw [15, 16, 17, 18, 19] (fun pv t _ _ _ wr => ∃ (i : Nat) (ds : List (Int × Int)) (ps : List Int), i ≤ es.length ∧ t = .int .i64 i ∧ ps.length = i ∧ LW w5 wr wb (PB d pr fa fp 0 ds 0) (10 + i) pv ps ∧ ds.length ≤ i ∧ Given es ds ps (2000 + (d : Int) * 24) i ∧ (0 < i → okEnd fa fp ∧ pr = 1)) (fun _ t _ _ _ _ => es.length - (intOf t).toNat)
        case atStart => exact ⟨0, [], [], by omega, rfl, rfl, LB.out, by simp, fun i hi => by omega, fun h => by omega⟩
        case round =>
          obtain ⟨i, ds, ps, hi, rfl, hps, lb, hds, hgv, hok⟩ := hrel
          have LI : Hid (LW w5 wr wb (PB d pr fa fp 0 ds 0) (10 + i) u15 ps) := lb
          have HG : Hid (ps.length = i ∧ ds.length ≤ i ∧ Given es ds ps (2000 + (d : Int) * 24) i) := ⟨hps, hds, hgv⟩
          have HOK : Hid (0 < i → okEnd fa fp ∧ pr = 1) := hok
          clear lb hps hds hgv hok LB
          by_cases hlt : i < es.length
          · obtain ⟨A, o, hp, c1, c2⟩ := HAT.out i es[i] (List.getElem?_eq_getElem hlt)
            have HE : Hid (es[i]? = some es[i]) := List.getElem?_eq_getElem hlt
            generalize es[i] = x at *
            subst hp
            have b1 := t2 B5.out LI.out.bl
            have q1 := tk b1 c1
            have q2 := tk b1 c2
            obtain ⟨z0, z1⟩ := E5.out.below LI.out.bl
            have i0 : (0 : Int) ≤ (i : Int) := by omega
            have i1 : (i : Int) < (es.length : Int) := by omega
            have hz : Z0 < wr.heap.size := tlt z0
            have ha : A < wr.heap.size := tlt q1
            clear b1 c1 c2
            go_wp2_with fail
            go_region
            have P2 : Hid (PkZ ((wr.alloc (.cells #[.int .i64 pr, .int .i64 x.1, .int .i64 x.2, .int .i64 fa, .int .i64 fp, .int .i64 0] 37)).drew) wr.heap.size ⟨pr, x.1, x.2, fa, fp, 0⟩) := (PkZ.new wr ⟨pr, x.1, x.2, fa, fp, 0⟩).below (Below.refl _ _).drew
            have B2 : Hid (Below wr.heap.size wr ((wr.alloc (.cells #[.int .i64 pr, .int .i64 x.1, .int .i64 x.2, .int .i64 fa, .int .i64 fp, .int .i64 0] 37)).drew)) := t2 (aB _ _) (Below.refl _ _).drew
            generalize (wr.alloc (.cells #[.int .i64 pr, .int .i64 x.1, .int .i64 x.2, .int .i64 fa, .int .i64 fp, .int .i64 0] 37)).drew = w7 at *
            have L7 : Hid (LW w5 w7 wb (PB d pr fa fp 0 ds 0) (10 + i) u15 ps) := LI.out.below B2.out
            clear q1 q2 z0 z1 hz ha
            generalize wr.heap.size = P at P2 ⊢
            obtain ⟨r0, r1, r2, r3, r4, r5⟩ := P2.out.b
            go_wp2_with fail
            clear r0 r1 r2 r3 r4 r5
            refine (perr_any pr x.1 x.2 fa fp 0 w7).mono ?_
            rintro e w8 ⟨rfl, hb8⟩
            have P8 : Hid (PkZ w8 P ⟨pr, x.1, x.2, fa, fp, 0⟩) := P2.out.below hb8
            have L8 : Hid (LW w5 w8 wb (PB d pr fa fp 0 ds 0) (10 + i) u15 ps) := L7.out.below hb8
            clear hb8 P2 L7 LI B2
            by_cases he : pkErr pr x.1 x.2 fa fp 0 = 0
            · have HPO : Hid (PkOk pr x.1 x.2 fa fp 0) := pkErr_zero.1 he
              rw [he]
              clear he
              obtain rfl : pr = 1 := by have := HPO.out.proto; omega
              obtain ⟨r0, r1, r2, r3, r4, r5⟩ := P8.out.b
              go_wp2_with fail
              clear r0 r1 r2 r3 r4 r5
              refine (L8.out.inside S5.out (by have := HL.out; omega) ⟨1, x.1, x.2, fa, fp, 0⟩ (In6.small (by show (-1000000 : Int) ≤ (1 : Int); omega) (by show (1 : Int) ≤ 1000000; omega)) (R := fun W q => ∃ dj : List (Int × Int) × Nat, (q = ⟨1, 1, 2000 + (d : Int) * 24 + (dj.2 : Int), fa, fp, 0⟩ ∧ (dj.1 = ds ∨ dj.1 = ds ++ [x]) ∧ dj.1[dj.2]? = some x) ∧ PB d 1 fa fp 0 dj.1 0 W) (fun W pW => by
                obtain ⟨ds', j, h1, h2, h3, h4, h5⟩ := pW.inside x (pkErr_zero.2 HPO.out) (by decide) (by decide) (adm_one HPO.out.dst.2.2.1 HPO.out.dst.2.2.2) (by decide +kernel) (by decide +kernel) (by have := HG.out.2.1; have := HL.out; omega)
                exact ⟨h1, (ds', j), ⟨h2, h3, h4⟩, h5⟩)).mono ?_
              rintro e w9 ⟨q, rfl, l9⟩
              obtain ⟨⟨ds', j⟩, l9'⟩ := l9.ex
              obtain ⟨⟨hq, hd', hj⟩, l9''⟩ := l9'.both
              subst hq
              simp only [Pk.v]
              have L9 : Hid (LW w5 w9 wb (PB d 1 fa fp 0 ds' 0) (10 + i + 1) u15 ps) := l9''
              have HGV : Hid (Given es ds' (ps ++ [2000 + (d : Int) * 24 + j]) (2000 + (d : Int) * 24) (i + 1) ∧ ds'.length ≤ i + 1) := ⟨HG.out.2.2.more HG.out.1 HE.out hd' hj, by have := HG.out.2.1; rcases hd' with e | e <;> (have e' : ds' = _ := e; rw [e']; simp; omega)⟩
              clear l9 l9' l9'' hd' hj L8 P8
              go_upto_region 29 with fail
              have P10 : Hid (PkZ (w9.alloc (.cells #[.int .i64 1, .int .i64 1, .int .i64 (2000 + (d : Int) * 24 + j), .int .i64 fa, .int .i64 fp, .int .i64 0] 37)) w9.heap.size ⟨1, 1, 2000 + (d : Int) * 24 + j, fa, fp, 0⟩) := PkZ.new w9 ⟨1, 1, 2000 + (d : Int) * 24 + j, fa, fp, 0⟩
              have L10 : Hid (LW w5 (w9.alloc (.cells #[.int .i64 1, .int .i64 1, .int .i64 (2000 + (d : Int) * 24 + j), .int .i64 fa, .int .i64 fp, .int .i64 0] 37)) wb (PB d 1 fa fp 0 ds' 0) (10 + i + 1) u15 ps) := L9.out.below (aB _ _)
              generalize w9.alloc (.cells #[.int .i64 1, .int .i64 1, .int .i64 (2000 + (d : Int) * 24 + j), .int .i64 fa, .int .i64 fp, .int .i64 0] 37) = w10 at *
              generalize w9.heap.size = G at *
              clear L9
              have g2 := P10.out.b.c2
              go_wp2_with (at_builtin; refine wpList_append_own_at _ rfl _ _ 35 rfl w5.heap.size 3 ii0 (.int .i64 0) 1 8 Tryz.underlying35 hii hz0 hz1 hz2 rfl (by decide) _ _ _ rfl (L10.out.below (aB _ _)).own ⟨w10.heap.size, 0, none⟩ 1 1 [intVk (2000 + (d : Int) * 24 + j)] rfl rfl ?g1 ?g2 ?g3 ?g4 ?g5 ?_)
              case g2 => rfl
              case g3 => have := HG.out.1; have := HL.out; unfold maxLen; omega
              case g4 => have := HG.out.1; have := HL.out; omega
              case g5 => have := L10.out.bl.size; simp; omega
              intro v' w11 hown' hgrow _ hatv
              have L11 : Hid (LW w5 w11 wb (PB d 1 fa fp 0 ds' 0) (10 + i + 1) v' (ps ++ [2000 + (d : Int) * 24 + (j : Int)])) := (L10.out.below (aB _ _)).grow (by simpa using hown') hgrow (by simpa using hatv)
              have HOK2 : Hid (okEnd fa fp ∧ (1 : Int) = 1) := ⟨HPO.out.dst, rfl⟩
              clear hown' hgrow hatv g2 L10 P10
              go_wp2_with fail
              exact ⟨⟨i + 1, ds', ps ++ [2000 + (d : Int) * 24 + j], by omega, by go_num, by have := HG.out.1; simp; omega, L11.out, HGV.out.2, HGV.out.1, fun _ => ⟨HOK2.out.1, by trivial⟩⟩, by simp [intOf]; omega⟩
            · have hgt : (0 : Int) < (pkErr pr x.1 x.2 fa fp 0 : Int) := by omega
              go_wp2_with fail
              go_ret
              exact ⟨rfl, t2 B5.out L8.out.bl⟩
          · have i1 : ¬ (i : Int) < (es.length : Int) := by omega
            obtain rfl : i = es.length := by omega
            go_wp2_with fail
            clear i1
            have HFAR : Hid (okEnd fa fp ∧ pr = 1) := HOK.out (by have := HL.out; omega)
            obtain rfl : pr = 1 := HFAR.out.2
            have LC : Hid (LW w5 wr wb (PB d 1 fa fp 0 ds (0 + 0)) (10 + es.length) u15 ps) := LI.out
            go_loopw [20] (fun t wr => ∃ j : Nat, j ≤ 3 ∧ t = .int .i64 j ∧ LW w5 wr wb (PB d 1 fa fp 0 ds j) (10 + es.length + j) u15 ps) (fun t _ => 3 - (intOf t).toNat)
            case atStart => exact ⟨0, by omega, rfl, LI.out⟩
            case round =>
              obtain ⟨j, hj, rfl, lj⟩ := hrel
              have LJ : Hid (LW w5 wr wb (PB d 1 fa fp 0 ds j) (10 + es.length + j) u15 ps) := lj
              clear lj LC
              by_cases hjw : j < 3
              · have j1 : (j : Int) < 3 := by omega
                have HJ : Hid (j ≤ 2) := (by omega : j ≤ 2)
                go_wp2_with fail
                refine (LJ.out.tick S5.out (by have := HJ.out; have := HL.out; omega) (d : Int) (fun W p => p.tick HJ.out (by decide))).mono ?_
                rintro e w7 ⟨rfl, l7⟩
                have L7 : Hid (LW w5 w7 wb (PB d 1 fa fp 0 ds (j + 1)) (10 + es.length + j + 1) u15 ps) := l7
                clear l7 LJ
                go_wp2_with fail
                exact ⟨⟨j + 1, by omega, by go_num, L7.out⟩, by simp [intOf]; omega⟩
              · obtain rfl : j = 3 := by omega
                rw [show ((3 : Nat) : Int) = 3 from rfl]
                have LD : Hid (LW w5 wr wb (PE d 1 fa fp 0 ds 0) (13 + es.length) u15 ps) := (LJ.out.imp (fun W p => .inl ⟨rfl, p⟩)).mono (by omega)
                have HD8 : Hid (ds.length ≤ 8) := by have := HG.out.2.1; have := HL.out; show ds.length ≤ 8; omega
                go_wp2_with fail
                go_loopw [21] (fun t wr => ∃ j : Nat, j ≤ 10 ∧ t = .int .i64 j ∧ LW w5 wr wb (PE d 1 fa fp 0 ds j) (13 + es.length) u15 ps) (fun t _ => 10 - (intOf t).toNat)
                case atStart => exact ⟨0, by omega, rfl, LD.out⟩
                case round =>
                  obtain ⟨j, hj, rfl, lj⟩ := hrel
                  have LE : Hid (LW w5 wr wb (PE d 1 fa fp 0 ds j) (13 + es.length) u15 ps) := lj
                  clear lj LD LJ
                  by_cases hjw : j < 10
                  · have j1 : (j : Int) < 10 := by omega
                    go_wp2_with fail
                    refine (LE.out.deliver S5.out (P' := PE d 1 fa fp 0 ds (j + 1)) (fun K W wd p => p.dlv (by decide) HD8.out (fun x hx => by obtain ⟨k, m, n, _, nd, _⟩ := wd.up HD.out hx; exact ⟨m, nd.vs⟩))).mono ?_
                    rintro e w7 ⟨⟨W, pW, rfl⟩, l7⟩
                    have L7 : Hid (LW w5 w7 wb (PE d 1 fa fp 0 ds (j + 1)) (13 + es.length) u15 ps) := l7
                    clear l7 LE
                    go_wp2_with fail
                    exact ⟨⟨j + 1, by omega, by go_num, L7.out⟩, by simp [intOf]; omega⟩
                  · obtain rfl : j = 10 := by omega
                    rw [show ((10 : Nat) : Int) = 10 from rfl]
                    have LF : Hid (LW w5 wr wb (PD d 1 fa fp 0 ds) (13 + es.length) u15 ps) := LE.out.imp (fun W p => by rcases p with ⟨q, _⟩ | ⟨q, _⟩ | ⟨_, q⟩; omega; omega; exact q)
                    clear LE
                    go_wp2_with fail
                    refine (LF.out.down S5.out (d : Int) (fun W p => p.down)).mono ?_
                    rintro e w7 ⟨rfl, l7⟩
                    have L7 : Hid (LW w5 w7 wb (PF d 1 fa fp 0 ds 0) (13 + es.length) u15 ps) := l7
                    have hsub : IntKind.i64.wrap (1 - (d : Int)) = ((1 - d : Nat) : Int) := by have := HD.out; rw [IntKind.wrap_i64]; omega
                    clear l7 LF
                    go_wp2_with fail
                    clear hsub
                    go_loopw [23] (fun t wr => ∃ j : Nat, j ≤ 10 ∧ t = .int .i64 j ∧ LW w5 wr wb (PF d 1 fa fp 0 ds j) (13 + es.length + j) u15 ps) (fun t _ => 10 - (intOf t).toNat)
                    case atStart => exact ⟨0, by omega, rfl, L7.out⟩
                    case round =>
                      obtain ⟨j, hj, rfl, lj⟩ := hrel
                      have LF : Hid (LW w5 wr wb (PF d 1 fa fp 0 ds j) (13 + es.length + j) u15 ps) := lj
                      clear lj L7
                      by_cases hjw : j < 10
                      · have j1 : (j : Int) ≤ 9 := by omega
                        have HJ : Hid (j ≤ 9) := (by omega : j ≤ 9)
                        go_wp2_with fail
                        refine (LF.out.tick S5.out (by have := HJ.out; have := HL.out; omega) ((1 - d : Nat) : Int) (fun W p => p.tick HJ.out)).mono ?_
                        rintro e w7 ⟨rfl, l7⟩
                        have L7 : Hid (LW w5 w7 wb (PF d 1 fa fp 0 ds (j + 1)) (13 + es.length + j + 1) u15 ps) := l7
                        clear l7 LF
                        go_wp2_with fail
                        exact ⟨⟨j + 1, by omega, by go_num, L7.out⟩, by simp [intOf]; omega⟩
                      · obtain rfl : j = 10 := by omega
                        rw [show ((10 : Nat) : Int) = 10 from rfl]
                        have LG : Hid (LW w5 wr wb (PG d 1 fa fp 0 ds 0) (23 + es.length) u15 ps) := (LF.out.imp (fun W p => .inl ⟨rfl, p⟩)).mono (by omega)
                        clear LF
                        go_wp2_with fail
                        go_loopw [24] (fun t wr => ∃ j : Nat, j ≤ 10 ∧ t = .int .i64 j ∧ LW w5 wr wb (PG d 1 fa fp 0 ds j) (23 + es.length) u15 ps) (fun t _ => 10 - (intOf t).toNat)
                        case atStart => exact ⟨0, by omega, rfl, LG.out⟩
                        case round =>
                          obtain ⟨j, hj, rfl, lj⟩ := hrel
                          have LE : Hid (LW w5 wr wb (PG d 1 fa fp 0 ds j) (23 + es.length) u15 ps) := lj
                          clear lj LG
                          by_cases hjw : j < 10
                          · have j1 : (j : Int) < 10 := by omega
                            go_wp2_with fail
                            refine (LE.out.deliver S5.out (P' := PG d 1 fa fp 0 ds (j + 1)) (fun K W wd p => p.dlv (by decide) HD8.out)).mono ?_
                            rintro e w7 ⟨⟨W, pW, rfl⟩, l7⟩
                            have L7 : Hid (LW w5 w7 wb (PG d 1 fa fp 0 ds (j + 1)) (23 + es.length) u15 ps) := l7
                            clear l7 LE
                            go_wp2_with fail
                            exact ⟨⟨j + 1, by omega, by go_num, L7.out⟩, by simp [intOf]; omega⟩
                          · obtain rfl : j = 10 := by omega
                            rw [show ((10 : Nat) : Int) = 10 from rfl]
                            have LH : Hid (LW w5 wr wb (PH d 1 fa fp ds) (23 + es.length) u15 ps) := LE.out.imp (fun W p => by rcases p with ⟨q, _⟩ | ⟨_, q⟩; omega; exact q)
                            clear LE
                            go_wp2_with fail
                            refine (LH.out.switch (a := ((1 - d : Nat) : Int)) (b := ((3 - d : Nat) : Int)) (fun W p => ⟨p.sw.1, p.sw.2, by have := HD.out; omega⟩)).mono ?_
                            rintro e w7 ⟨rfl, l7⟩
                            have L7 : Hid (LW w5 w7 wb (PH d 1 fa fp ds) (23 + es.length) u15 ps) := l7
                            clear l7 LH
                            go_wp2_with fail
                            have HPS : Hid (ps.length = es.length) := HG.out.1
                            have HGV : Hid (Given es ds ps (2000 + (d : Int) * 24) es.length) := HG.out.2.2
                            go_loopw [27, 28, 29] (fun t _ _ wr => ∃ i : Nat, i ≤ ps.length ∧ t = .int .i64 i ∧ LW w5 wr wb (PH d 1 fa fp ds) (23 + es.length + i) u15 ps) (fun t _ _ _ => ps.length - (intOf t).toNat)
                            case atStart => exact ⟨0, by omega, rfl, L7.out⟩
                            case round =>
                              obtain ⟨i, hi, rfl, li⟩ := hrel
                              have LI : Hid (LW w5 wr wb (PH d 1 fa fp ds) (23 + es.length + i) u15 ps) := li
                              clear li L7
                              obtain ⟨pp, pcap, hv20, hpt⟩ := own_ints LI.out.own
                              subst hv20
                              by_cases hlt : i < ps.length
                              · obtain ⟨e, jj, he1, he2, he3⟩ := HGV.out i (by have := HPS.out; omega)
                                obtain ⟨g, hpp, hcg⟩ := hpt i _ he3
                                subst hpp
                                have HJE : Hid (es[i]? = some e ∧ ds[jj]? = some e ∧ ps[i]? = some (2000 + (d : Int) * 24 + jj)) := ⟨he1, he2, he3⟩
                                have HJL : Hid (jj < 24) := by
                                  have := HD8.out
                                  obtain ⟨hlt, _⟩ := List.getElem?_eq_some_iff.1 he2
                                  show jj < 24
                                  omega
                                have HERR : Hid ((⟨1, fa, fp, 1, 2000 + (d : Int) * 24 + jj, 0⟩ : Pk).err = 0) := by
                                  have h24 : jj < 24 := HJL.out
                                  have hd2 : d < 2 := HD.out
                                  have h2 : okEnd 1 (2000 + (d : Int) * 24 + jj) := ⟨by omega, by omega, by omega, by omega⟩
                                  exact pkErr_zero.2 ⟨.inl ⟨rfl, rfl⟩, HFAR.out.1, h2, (by decide : (0 : Int) ≤ 0), (by decide : (0 : Int) ≤ 15)⟩
                                obtain ⟨K, W, wd, pW, hwb, hown, htag⟩ := LI.out
                                have WD : Hid (Wd w5 wr K W (23 + es.length + i)) := wd
                                have HWB : Hid (K.wb = wb) := hwb
                                have HT9 : Hid (K.tag g = 9) := htag g rfl
                                have HGL : Hid (g < wr.heap.size ∧ w5.heap.size ≤ g) := ⟨(hown.lt g rfl).2, (hown.lt g rfl).1⟩
                                have HOW : Hid (wr.ownsRow w5.heap.size 3 1 (.slice (some ⟨g, 0, none⟩) ps.length pcap) ps.length (ps.map intVk)) := hown
                                have hps := pW.outside (by have := HD8.out; omega) HJE.out.2.1 0 HERR.out (by decide) (by decide +kernel)
                                have PW2 : Hid (PH d 1 fa fp ds (W.ots ⟨1, fa, fp, 1, 2000 + (d : Int) * 24 + jj, 0⟩)) := hps.2.2
                                have HOUT : Hid (∀ u, Below wr.heap.size wr u → Calls Tryz.prog 12 #[.pointer (some ⟨wb, 0, none⟩), .agg #[.int .i64 1, .int .i64 fa, .int .i64 fp, .int .i64 1, .int .i64 (2000 + (d : Int) * 24 + jj), .int .i64 0]] u fun r w' => r = .returned (.tuple #[.agg #[.int .i64 1, .int .i64 fa, .int .i64 fp, .int .i64 e.1, .int .i64 e.2, .int .i64 0], .nilIface]) ∧ Wd w5 w' K (W.ots ⟨1, fa, fp, 1, 2000 + (d : Int) * 24 + jj, 0⟩) (23 + es.length + i + 1) ∧ Mv K K u w') := fun u hu => by
                                  have := outside_wd S5.out (WD.out.below hu) (by have := HPS.out; have := HL.out; omega) ⟨1, fa, fp, 1, 2000 + (d : Int) * 24 + jj, 0⟩
                                  rw [HWB.out, hps.1, hps.2.1] at this
                                  exact this
                                have HZ5 : Hid (Z0 < w5.heap.size) := tlt E5.out.c0
                                have HSB : Hid (∀ u, Below wr.heap.size wr u → u.cell? ⟨Z0, 0, none⟩ = some (.int .i64 fa) ∧ u.cell? ⟨Z0, 1, none⟩ = some (.int .i64 fp) ∧ u.cell? ⟨g, i, none⟩ = some (.int .i64 (2000 + (d : Int) * 24 + jj))) := fun u hu => ⟨tk (t2 WD.out.bl hu) E5.out.c0, tk (t2 WD.out.bl hu) E5.out.c1, tk hu hcg⟩
                                have HSK : Hid (∀ u w', Below wr.heap.size wr u → Wd w5 w' K (W.ots ⟨1, fa, fp, 1, 2000 + (d : Int) * 24 + jj, 0⟩) (23 + es.length + i + 1) → Mv K K u w' → w'.cell? ⟨Z0, 0, none⟩ = some (.int .i64 fa) ∧ w'.cell? ⟨Z0, 1, none⟩ = some (.int .i64 fp) ∧ w'.cell? ⟨g, i, none⟩ = some (.int .i64 (2000 + (d : Int) * 24 + jj))) := fun u w' hu hw hm => ⟨tk hw.bl E5.out.c0, tk hw.bl E5.out.c1, by rw [World.cell?_of_block (w := u) (a := ⟨g, i, none⟩) (hm.block g (Nat.lt_of_lt_of_le HGL.out.1 hu.size) (.inl HT9.out))]; exact tk hu hcg⟩
                                have i0 : (0 : Int) ≤ (i : Int) := by omega
                                have i1 : (i : Int) < (ps.length : Int) := by omega
                                have z0 := (HSB.out wr (Below.refl _ _)).1
                                have z1 := (HSB.out wr (Below.refl _ _)).2.1
                                clear he1 he2 he3 hpt wd pW hwb hown htag hps
                                go_upto_region 57 with fail
                                go_cut [28, 29] (fun s28 s29 wx => ∃ q, s28 = .pointer (some ⟨q, 0, none⟩) ∧ s29 = .nilIface ∧ PkZ wx q ⟨1, fa, fp, e.1, e.2, 0⟩ ∧ LW w5 wx wb (PH d 1 fa fp ds) (23 + es.length + i + 1) (.slice (some ⟨g, 0, none⟩) ps.length pcap) ps)
                                case first =>
                                  have hS0 := HSB.out wr.drew (Below.refl _ _).drew
                                  clear z0 z1 hcg
                                  refine wp_region_noPanic ?_
                                  refine wp_region_held_drew (S := (fun w' : World => w'.cell? ⟨Z0, 0, none⟩ = some (.int .i64 fa) ∧ w'.cell? ⟨Z0, 1, none⟩ = some (.int .i64 fp) ∧ w'.cell? ⟨g, i, none⟩ = some (.int .i64 (2000 + (d : Int) * 24 + jj)))) (by kernel_rfl) hS0 (fun _ => ?_)
                                  refine wpAnyH_take (i := 0) (v := ?_) rfl (by kernel_rfl) (by kernel_rfl) (by kernel_rfl) (fun _ _ _ h => h) (Or.inl ⟨by rfl, ?_⟩) hS0 ?_
                                  rotate_left
                                  · intro w9 hSw; (try dsimp only at hSw); go_simp; try (with_reducible rfl)
                                  simp only [Act.put, List.getElem_toArray, List.getElem_cons_zero, List.setIfInBounds_toArray, List.set_cons_zero, List.set_cons_succ]
                                  refine wpAnyH_take (i := 1) (v := ?_) rfl (by kernel_rfl) (by kernel_rfl) (by kernel_rfl) (fun _ _ _ h => h) (Or.inl ⟨by rfl, ?_⟩) hS0 ?_
                                  rotate_left
                                  · intro w9 hSw; (try dsimp only at hSw); go_simp; try (with_reducible rfl)
                                  simp only [Act.put, List.getElem_toArray, List.getElem_cons_succ, List.getElem_cons_zero, List.setIfInBounds_toArray, List.set_cons_zero, List.set_cons_succ]
                                  refine wpAnyH_take (i := 2) (v := ?_) rfl (by kernel_rfl) (by kernel_rfl) (by kernel_rfl) (fun _ _ _ h => h) (Or.inl ⟨by rfl, ?_⟩) hS0 ?_
                                  rotate_left
                                  · intro w9 hSw; (try dsimp only at hSw); go_simp; try (with_reducible rfl)
                                  simp only [Act.put, List.getElem_toArray, List.getElem_cons_succ, List.getElem_cons_zero, List.setIfInBounds_toArray, List.set_cons_zero, List.set_cons_succ]
                                  refine wpAnyH_take (i := 3) (v := ?_) rfl (by kernel_rfl) (by kernel_rfl) (by kernel_rfl) (fun _ _ _ h => h) (Or.inl ⟨by rfl, ?_⟩) hS0 ?_
                                  rotate_left
                                  · intro w9 hSw; (try dsimp only at hSw); go_simp; try (with_reducible rfl)
                                  simp only [Act.put, List.getElem_toArray, List.getElem_cons_succ, List.getElem_cons_zero, List.setIfInBounds_toArray, List.set_cons_zero, List.set_cons_succ]
                                  refine wpAnyH_take (i := 4) (v := ?_) rfl (by kernel_rfl) (by kernel_rfl) (by kernel_rfl) (fun _ _ _ h => h) (Or.inl ⟨by rfl, ?_⟩) hS0 ?_
                                  rotate_left
                                  · intro w9 hSw; (try dsimp only at hSw); go_simp; try (with_reducible rfl)
                                  simp only [Act.put, List.getElem_toArray, List.getElem_cons_succ, List.getElem_cons_zero, List.setIfInBounds_toArray, List.set_cons_zero, List.set_cons_succ]
                                  refine wpAnyH_take (i := 5) (v := ?_) rfl (by kernel_rfl) (by kernel_rfl) (by kernel_rfl) (fun _ _ _ h => h) (Or.inl ⟨by rfl, ?_⟩) hS0 ?_
                                  rotate_left
                                  · intro w9 hSw; (try dsimp only at hSw); go_simp; try (with_reducible rfl)
                                  simp only [Act.put, List.getElem_toArray, List.getElem_cons_succ, List.getElem_cons_zero, List.setIfInBounds_toArray, List.set_cons_zero, List.set_cons_succ]
                                  refine wpAnyH_take (i := 6) (v := ?_) rfl (by kernel_rfl) (by kernel_rfl) (by kernel_rfl) (fun _ _ _ h => h) (Or.inl ⟨by rfl, ?_⟩) hS0 ?_
                                  rotate_left
                                  · intro w9 hSw; (try dsimp only at hSw); go_simp; try (with_reducible rfl)
                                  simp only [Act.put, List.getElem_toArray, List.getElem_cons_succ, List.getElem_cons_zero, List.setIfInBounds_toArray, List.set_cons_zero, List.set_cons_succ]
                                  refine wpAnyH_take (i := 7) (v := ?_) rfl (by kernel_rfl) (by kernel_rfl) (by kernel_rfl) (fun _ _ _ h => h) (Or.inl ⟨by rfl, ?_⟩) hS0 ?_
                                  rotate_left
                                  · intro w9 hSw; (try dsimp only at hSw); go_simp; try (with_reducible rfl)
                                  simp only [Act.put, List.getElem_toArray, List.getElem_cons_succ, List.getElem_cons_zero, List.setIfInBounds_toArray, List.set_cons_zero, List.set_cons_succ]
                                  refine wpAnyH_take (i := 8) (v := ?_) rfl (by kernel_rfl) (by kernel_rfl) (by kernel_rfl) (fun _ _ _ h => h) (Or.inl ⟨by rfl, ?_⟩) hS0 ?_
                                  rotate_left
                                  · intro w9 hSw; (try dsimp only at hSw); go_simp; try (with_reducible rfl)
                                  simp only [Act.put, List.getElem_toArray, List.getElem_cons_succ, List.getElem_cons_zero, List.setIfInBounds_toArray, List.set_cons_zero, List.set_cons_succ]
                                  refine wpAnyH_take (i := 9) (v := ?_) rfl (by kernel_rfl) (by kernel_rfl) (by kernel_rfl) (fun _ _ _ h => h) (Or.inl ⟨by rfl, ?_⟩) hS0 ?_
                                  rotate_left
                                  · intro w9 hSw; (try dsimp only at hSw); go_simp; try (with_reducible rfl)
                                  simp only [Act.put, List.getElem_toArray, List.getElem_cons_succ, List.getElem_cons_zero, List.setIfInBounds_toArray, List.set_cons_zero, List.set_cons_succ]
                                  have hX_xd : Hid (Below wr.heap.size wr wr.drew) := (Below.refl _ _).drew
                                  generalize wr.drew = xd at *
                                  refine wpAnyH_ready (rs := [10, 14]) (by kernel_rfl) (by simp) ?_
                                  refine AllReadyH.cons (o := _) rfl (fun K hK => ?_) (AllReadyH.cons (o := _) rfl (fun K hK => ?_) AllReadyH.nil)
                                  · go_simp
                                    refine (HOUT.out xd hX_xd.out).mono ?_
                                    rintro r y ⟨rfl, l3, m3⟩
                                    go_wp2_with fail
                                    have sy := HSK.out xd y hX_xd.out l3 m3
                                    refine hK.out _ _ sy (fun _ => ?_)
                                    clear hK K
                                    try simp only [Act.put, List.setIfInBounds_toArray, List.set_cons_zero, List.set_cons_succ]
                                    have LY : Hid (Wd w5 y K (W.ots ⟨1, fa, fp, 1, 2000 + (d : Int) * 24 + jj, 0⟩) (23 + es.length + i + 1)) := l3
                                    have MY : Hid (Mv K K xd y) := m3
                                    clear l3 m3
                                    refine wpAnyH_take (i := 11) (v := ?_) rfl (by kernel_rfl) (by kernel_rfl) (by kernel_rfl) (fun _ _ _ h => h) (Or.inl ⟨by rfl, ?_⟩) sy ?_
                                    rotate_left
                                    · intro w9 hSw; (try dsimp only at hSw); go_simp; try (with_reducible rfl)
                                    simp only [Act.put, List.getElem_toArray, List.getElem_cons_succ, List.getElem_cons_zero, List.setIfInBounds_toArray, List.set_cons_zero, List.set_cons_succ]
                                    refine wpAnyH_take (i := 12) (v := ?_) rfl (by kernel_rfl) (by kernel_rfl) (by kernel_rfl) (fun _ _ _ h => h) (Or.inl ⟨by rfl, ?_⟩) sy ?_
                                    rotate_left
                                    · intro w9 hSw; (try dsimp only at hSw); go_simp; try (with_reducible rfl)
                                    simp only [Act.put, List.getElem_toArray, List.getElem_cons_succ, List.getElem_cons_zero, List.setIfInBounds_toArray, List.set_cons_zero, List.set_cons_succ]
                                    refine wpAnyH_take (i := 13) (v := ?_) rfl (by kernel_rfl) (by kernel_rfl) (by kernel_rfl) (fun _ _ _ h => h) (Or.inl ⟨by rfl, ?_⟩) sy ?_
                                    rotate_left
                                    · intro w9 hSw; (try dsimp only at hSw); go_simp; try (with_reducible rfl)
                                    simp only [Act.put, List.getElem_toArray, List.getElem_cons_succ, List.getElem_cons_zero, List.setIfInBounds_toArray, List.set_cons_zero, List.set_cons_succ]
                                    refine wpAnyH_ready (rs := [14]) (by kernel_rfl) (by simp) ?_
                                    refine AllReadyH.cons (o := _) rfl (fun K hK => ?_) AllReadyH.nil
                                    go_simp
                                    have sz : (y.alloc (.cells #[.int .i64 0, .int .i64 0, .int .i64 0, .int .i64 0, .int .i64 0, .int .i64 0] 37)).cell? ⟨Z0, 0, none⟩ = some (.int .i64 fa) ∧ (y.alloc (.cells #[.int .i64 0, .int .i64 0, .int .i64 0, .int .i64 0, .int .i64 0, .int .i64 0] 37)).cell? ⟨Z0, 1, none⟩ = some (.int .i64 fp) ∧ (y.alloc (.cells #[.int .i64 0, .int .i64 0, .int .i64 0, .int .i64 0, .int .i64 0, .int .i64 0] 37)).cell? ⟨g, i, none⟩ = some (.int .i64 (2000 + (d : Int) * 24 + jj)) := ⟨tk (aB _ _) sy.1, tk (aB _ _) sy.2.1, tk (aB _ _) sy.2.2⟩
                                    refine hK.out _ _ sz (fun _ => ?_)
                                    clear hK K
                                    try simp only [Act.put, List.setIfInBounds_toArray, List.set_cons_zero, List.set_cons_succ]
                                    have QZ : Hid (PkZ (y.alloc (.cells #[.int .i64 0, .int .i64 0, .int .i64 0, .int .i64 0, .int .i64 0, .int .i64 0] 37)) y.heap.size noP) := PkZ.zero y
                                    have WZ : Hid (Wd w5 (y.alloc (.cells #[.int .i64 0, .int .i64 0, .int .i64 0, .int .i64 0, .int .i64 0, .int .i64 0] 37)) K (W.ots ⟨1, fa, fp, 1, 2000 + (d : Int) * 24 + jj, 0⟩) (23 + es.length + i + 1)) := LY.out.below (aB _ _)
                                    have MZ : Hid (Mv K K wr (y.alloc (.cells #[.int .i64 0, .int .i64 0, .int .i64 0, .int .i64 0, .int .i64 0, .int .i64 0] 37))) := ((Mv.of hX_xd.out).trans MY.out).then (aB _ _)
                                    have HQ9 : Hid (K.tag y.heap.size = 9 ∧ w5.heap.size ≤ y.heap.size ∧ g ≠ y.heap.size ∧ Z0 ≠ y.heap.size) := ⟨LY.out.al _ (Nat.le_refl _), LY.out.bl.size, by have := HGL.out; have := hX_xd.out.size; have := MY.out.size; omega, by have := HZ5.out; have := LY.out.bl.size; omega⟩
                                    generalize y.alloc (.cells #[.int .i64 0, .int .i64 0, .int .i64 0, .int .i64 0, .int .i64 0, .int .i64 0] 37) = z at *
                                    generalize y.heap.size = q at *
                                    obtain ⟨c0, c1, c2, c3, c4, c5⟩ := QZ.out.b
                                    have cf := QZ.out.fr
                                    simp only [noP] at c0 c1 c2 c3 c4 c5
                                    refine wpAnyH_ready (rs := [15]) (by kernel_rfl) (by simp) ?_
                                    refine AllReadyH.cons (o := _) rfl (fun K hK => ?_) AllReadyH.nil
                                    go_simp
                                    have q9 : Hid (PkZ ((((((z.setCell ⟨q, 0, none⟩ (.int .i64 1)).setCell ⟨q, 1, none⟩ (.int .i64 fa)).setCell ⟨q, 2, none⟩ (.int .i64 fp)).setCell ⟨q, 3, none⟩ (.int .i64 e.1)).setCell ⟨q, 4, none⟩ (.int .i64 e.2)).setCell ⟨q, 5, none⟩ (.int .i64 0)) q ⟨1, fa, fp, e.1, e.2, 0⟩) := pkz_putW QZ.out ⟨1, fa, fp, e.1, e.2, 0⟩
                                    have g9 : Chg q z ((((((z.setCell ⟨q, 0, none⟩ (.int .i64 1)).setCell ⟨q, 1, none⟩ (.int .i64 fa)).setCell ⟨q, 2, none⟩ (.int .i64 fp)).setCell ⟨q, 3, none⟩ (.int .i64 e.1)).setCell ⟨q, 4, none⟩ (.int .i64 e.2)).setCell ⟨q, 5, none⟩ (.int .i64 0)) := set6_chgW _ _ _ _ _ _ _ _
                                    have s9 : ((((((z.setCell ⟨q, 0, none⟩ (.int .i64 1)).setCell ⟨q, 1, none⟩ (.int .i64 fa)).setCell ⟨q, 2, none⟩ (.int .i64 fp)).setCell ⟨q, 3, none⟩ (.int .i64 e.1)).setCell ⟨q, 4, none⟩ (.int .i64 e.2)).setCell ⟨q, 5, none⟩ (.int .i64 0)).cell? ⟨Z0, 0, none⟩ = some (.int .i64 fa) ∧ ((((((z.setCell ⟨q, 0, none⟩ (.int .i64 1)).setCell ⟨q, 1, none⟩ (.int .i64 fa)).setCell ⟨q, 2, none⟩ (.int .i64 fp)).setCell ⟨q, 3, none⟩ (.int .i64 e.1)).setCell ⟨q, 4, none⟩ (.int .i64 e.2)).setCell ⟨q, 5, none⟩ (.int .i64 0)).cell? ⟨Z0, 1, none⟩ = some (.int .i64 fp) ∧ ((((((z.setCell ⟨q, 0, none⟩ (.int .i64 1)).setCell ⟨q, 1, none⟩ (.int .i64 fa)).setCell ⟨q, 2, none⟩ (.int .i64 fp)).setCell ⟨q, 3, none⟩ (.int .i64 e.1)).setCell ⟨q, 4, none⟩ (.int .i64 e.2)).setCell ⟨q, 5, none⟩ (.int .i64 0)).cell? ⟨g, i, none⟩ = some (.int .i64 (2000 + (d : Int) * 24 + jj)) := ⟨g9.keeps HQ9.out.2.2.2 (And.left sz), g9.keeps HQ9.out.2.2.2 (And.left (And.right sz)), g9.keeps HQ9.out.2.2.1 (And.right (And.right sz))⟩
                                    refine hK.out _ _ s9 (fun _ => ?_)
                                    clear hK K
                                    try simp only [Act.put, List.setIfInBounds_toArray]
                                    generalize ((((((z.setCell ⟨q, 0, none⟩ (.int .i64 1)).setCell ⟨q, 1, none⟩ (.int .i64 fa)).setCell ⟨q, 2, none⟩ (.int .i64 fp)).setCell ⟨q, 3, none⟩ (.int .i64 e.1)).setCell ⟨q, 4, none⟩ (.int .i64 e.2)).setCell ⟨q, 5, none⟩ (.int .i64 0)) = z9 at *
                                    refine wpAnyH_take (i := 16) (v := ?_) rfl (by kernel_rfl) (by kernel_rfl) (by kernel_rfl) (fun _ _ _ h => h) (Or.inl ⟨by rfl, ?_⟩) s9 ?_
                                    rotate_left
                                    · intro w9 hSw; (try dsimp only at hSw); go_simp; try (with_reducible rfl)
                                    simp only [Act.put, List.getElem_toArray, List.getElem_cons_succ, List.getElem_cons_zero, List.setIfInBounds_toArray, List.set_cons_zero, List.set_cons_succ]
                                    refine wpAnyH_done (by kernel_rfl) ?_ _
                                    refine NoPanic.normal ?_
                                    go_wp2_with fail
                                    go_meet
                                    case rel =>
                                      refine ⟨q, rfl, rfl, q9.out, K, _, WZ.out.fresh HQ9.out.1 HQ9.out.2.1 g9, PW2.out, HWB.out, ?_, ?_⟩
                                      · exact owns_chgW (own_mv WD.out HOW.out (fun b hb => by cases hb; exact HT9.out) MZ.out).1 g9 (by rw [ownBlock_some]; intro e2; cases e2; exact HQ9.out.2.2.1 rfl)
                                      · exact fun b hb => by cases hb; exact HT9.out
                                  · go_simp
                                    have sz := HSB.out (xd.alloc (.cells #[.int .i64 0, .int .i64 0, .int .i64 0, .int .i64 0, .int .i64 0, .int .i64 0] 37)) (t2 hX_xd.out (aB _ _))
                                    refine hK.out _ _ sz (fun _ => ?_)
                                    clear hK K
                                    try simp only [Act.put, List.setIfInBounds_toArray, List.set_cons_zero, List.set_cons_succ]
                                    have QX : Hid (PkZ (xd.alloc (.cells #[.int .i64 0, .int .i64 0, .int .i64 0, .int .i64 0, .int .i64 0, .int .i64 0] 37)) xd.heap.size noP) := PkZ.zero xd
                                    have hX_x2 : Hid (Below wr.heap.size wr (xd.alloc (.cells #[.int .i64 0, .int .i64 0, .int .i64 0, .int .i64 0, .int .i64 0, .int .i64 0] 37))) := t2 hX_xd.out (aB _ _)
                                    have HQ9 : Hid (K.tag xd.heap.size = 9 ∧ w5.heap.size ≤ xd.heap.size ∧ g ≠ xd.heap.size ∧ Z0 ≠ xd.heap.size) := ⟨WD.out.al _ hX_xd.out.size, by have := WD.out.bl.size; have := hX_xd.out.size; omega, by have := HGL.out; have := hX_xd.out.size; omega, by have := HZ5.out; have := WD.out.bl.size; have := hX_xd.out.size; omega⟩
                                    generalize xd.alloc (.cells #[.int .i64 0, .int .i64 0, .int .i64 0, .int .i64 0, .int .i64 0, .int .i64 0] 37) = x2 at *
                                    generalize xd.heap.size = q at *
                                    refine wpAnyH_ready (rs := [10]) (by kernel_rfl) (by simp) ?_
                                    refine AllReadyH.cons (o := _) rfl (fun K hK => ?_) AllReadyH.nil
                                    go_simp
                                    refine (HOUT.out x2 hX_x2.out).mono ?_
                                    rintro r y ⟨rfl, l3, m3⟩
                                    go_wp2_with fail
                                    have sy := HSK.out x2 y hX_x2.out l3 m3
                                    refine hK.out _ _ sy (fun _ => ?_)
                                    clear hK K
                                    try simp only [Act.put, List.setIfInBounds_toArray, List.set_cons_zero, List.set_cons_succ]
                                    have LY : Hid (Wd w5 y K (W.ots ⟨1, fa, fp, 1, 2000 + (d : Int) * 24 + jj, 0⟩) (23 + es.length + i + 1)) := l3
                                    have MY : Hid (Mv K K x2 y) := m3
                                    clear l3 m3
                                    refine wpAnyH_take (i := 11) (v := ?_) rfl (by kernel_rfl) (by kernel_rfl) (by kernel_rfl) (fun _ _ _ h => h) (Or.inl ⟨by rfl, ?_⟩) sy ?_
                                    rotate_left
                                    · intro w9 hSw; (try dsimp only at hSw); go_simp; try (with_reducible rfl)
                                    simp only [Act.put, List.getElem_toArray, List.getElem_cons_succ, List.getElem_cons_zero, List.setIfInBounds_toArray, List.set_cons_zero, List.set_cons_succ]
                                    refine wpAnyH_take (i := 12) (v := ?_) rfl (by kernel_rfl) (by kernel_rfl) (by kernel_rfl) (fun _ _ _ h => h) (Or.inl ⟨by rfl, ?_⟩) sy ?_
                                    rotate_left
                                    · intro w9 hSw; (try dsimp only at hSw); go_simp; try (with_reducible rfl)
                                    simp only [Act.put, List.getElem_toArray, List.getElem_cons_succ, List.getElem_cons_zero, List.setIfInBounds_toArray, List.set_cons_zero, List.set_cons_succ]
                                    refine wpAnyH_take (i := 13) (v := ?_) rfl (by kernel_rfl) (by kernel_rfl) (by kernel_rfl) (fun _ _ _ h => h) (Or.inl ⟨by rfl, ?_⟩) sy ?_
                                    rotate_left
                                    · intro w9 hSw; (try dsimp only at hSw); go_simp; try (with_reducible rfl)
                                    simp only [Act.put, List.getElem_toArray, List.getElem_cons_succ, List.getElem_cons_zero, List.setIfInBounds_toArray, List.set_cons_zero, List.set_cons_succ]
                                    have QZ : Hid (PkZ y q noP) := by show y.heap[q]? = _; rw [MY.out.block q QX.out.lt (.inl HQ9.out.1)]; exact QX.out
                                    have WZ : Hid (Wd w5 y K (W.ots ⟨1, fa, fp, 1, 2000 + (d : Int) * 24 + jj, 0⟩) (23 + es.length + i + 1)) := LY.out
                                    have MZ : Hid (Mv K K wr y) := (Mv.of hX_x2.out).trans MY.out
                                    obtain ⟨c0, c1, c2, c3, c4, c5⟩ := QZ.out.b
                                    have cf := QZ.out.fr
                                    simp only [noP] at c0 c1 c2 c3 c4 c5
                                    refine wpAnyH_ready (rs := [15]) (by kernel_rfl) (by simp) ?_
                                    refine AllReadyH.cons (o := _) rfl (fun K hK => ?_) AllReadyH.nil
                                    go_simp
                                    have q9 : Hid (PkZ ((((((y.setCell ⟨q, 0, none⟩ (.int .i64 1)).setCell ⟨q, 1, none⟩ (.int .i64 fa)).setCell ⟨q, 2, none⟩ (.int .i64 fp)).setCell ⟨q, 3, none⟩ (.int .i64 e.1)).setCell ⟨q, 4, none⟩ (.int .i64 e.2)).setCell ⟨q, 5, none⟩ (.int .i64 0)) q ⟨1, fa, fp, e.1, e.2, 0⟩) := pkz_putW QZ.out ⟨1, fa, fp, e.1, e.2, 0⟩
                                    have g9 : Chg q y ((((((y.setCell ⟨q, 0, none⟩ (.int .i64 1)).setCell ⟨q, 1, none⟩ (.int .i64 fa)).setCell ⟨q, 2, none⟩ (.int .i64 fp)).setCell ⟨q, 3, none⟩ (.int .i64 e.1)).setCell ⟨q, 4, none⟩ (.int .i64 e.2)).setCell ⟨q, 5, none⟩ (.int .i64 0)) := set6_chgW _ _ _ _ _ _ _ _
                                    have s9 : ((((((y.setCell ⟨q, 0, none⟩ (.int .i64 1)).setCell ⟨q, 1, none⟩ (.int .i64 fa)).setCell ⟨q, 2, none⟩ (.int .i64 fp)).setCell ⟨q, 3, none⟩ (.int .i64 e.1)).setCell ⟨q, 4, none⟩ (.int .i64 e.2)).setCell ⟨q, 5, none⟩ (.int .i64 0)).cell? ⟨Z0, 0, none⟩ = some (.int .i64 fa) ∧ ((((((y.setCell ⟨q, 0, none⟩ (.int .i64 1)).setCell ⟨q, 1, none⟩ (.int .i64 fa)).setCell ⟨q, 2, none⟩ (.int .i64 fp)).setCell ⟨q, 3, none⟩ (.int .i64 e.1)).setCell ⟨q, 4, none⟩ (.int .i64 e.2)).setCell ⟨q, 5, none⟩ (.int .i64 0)).cell? ⟨Z0, 1, none⟩ = some (.int .i64 fp) ∧ ((((((y.setCell ⟨q, 0, none⟩ (.int .i64 1)).setCell ⟨q, 1, none⟩ (.int .i64 fa)).setCell ⟨q, 2, none⟩ (.int .i64 fp)).setCell ⟨q, 3, none⟩ (.int .i64 e.1)).setCell ⟨q, 4, none⟩ (.int .i64 e.2)).setCell ⟨q, 5, none⟩ (.int .i64 0)).cell? ⟨g, i, none⟩ = some (.int .i64 (2000 + (d : Int) * 24 + jj)) := ⟨g9.keeps HQ9.out.2.2.2 (And.left sy), g9.keeps HQ9.out.2.2.2 (And.left (And.right sy)), g9.keeps HQ9.out.2.2.1 (And.right (And.right sy))⟩
                                    refine hK.out _ _ s9 (fun _ => ?_)
                                    clear hK K
                                    try simp only [Act.put, List.setIfInBounds_toArray]
                                    generalize ((((((y.setCell ⟨q, 0, none⟩ (.int .i64 1)).setCell ⟨q, 1, none⟩ (.int .i64 fa)).setCell ⟨q, 2, none⟩ (.int .i64 fp)).setCell ⟨q, 3, none⟩ (.int .i64 e.1)).setCell ⟨q, 4, none⟩ (.int .i64 e.2)).setCell ⟨q, 5, none⟩ (.int .i64 0)) = z9 at *
                                    refine wpAnyH_take (i := 16) (v := ?_) rfl (by kernel_rfl) (by kernel_rfl) (by kernel_rfl) (fun _ _ _ h => h) (Or.inl ⟨by rfl, ?_⟩) s9 ?_
                                    rotate_left
                                    · intro w9 hSw; (try dsimp only at hSw); go_simp; try (with_reducible rfl)
                                    simp only [Act.put, List.getElem_toArray, List.getElem_cons_succ, List.getElem_cons_zero, List.setIfInBounds_toArray, List.set_cons_zero, List.set_cons_succ]
                                    refine wpAnyH_done (by kernel_rfl) ?_ _
                                    refine NoPanic.normal ?_
                                    go_wp2_with fail
                                    go_meet
                                    case rel =>
                                      refine ⟨q, rfl, rfl, q9.out, K, _, WZ.out.fresh HQ9.out.1 HQ9.out.2.1 g9, PW2.out, HWB.out, ?_, ?_⟩
                                      · exact owns_chgW (own_mv WD.out HOW.out (fun b hb => by cases hb; exact HT9.out) MZ.out).1 g9 (by rw [ownBlock_some]; intro e2; cases e2; exact HQ9.out.2.2.1 rfl)
                                      · exact fun b hb => by cases hb; exact HT9.out
                                case rest =>
                                  obtain ⟨q, rfl, rfl, pz, lw2⟩ := hcut
                                  have PZ : Hid (PkZ wc q ⟨1, fa, fp, e.1, e.2, 0⟩) := pz
                                  have L2 : Hid (LW w5 wc wb (PH d 1 fa fp ds) (23 + es.length + i + 1) (.slice (some ⟨g, 0, none⟩) ps.length pcap) ps) := lw2
                                  clear pz lw2
                                  obtain ⟨A, o, hp, c1, c2⟩ := HAT.out i e HJE.out.1
                                  subst hp
                                  have b1 := t2 B5.out L2.out.bl
                                  have q1 := tk b1 c1
                                  have q2 := tk b1 c2
                                  obtain ⟨r0, r1, r2, r3, r4, r5⟩ := PZ.out.b
                                  have i2 : (i : Int) < (es.length : Int) := by have := HPS.out; omega
                                  have hn1 : ∀ u, (binOp .neq 24 (.agg #[.int .i64 e.1, .int .i64 e.2]) (.agg #[.int .i64 e.1, .int .i64 e.2])).run Tryz.prog u = .ok (.bool false) u := fun u => by rw [neq_end]; simp
                                  clear b1 c1 c2
                                  go_wp2_with fail
                                  go_quiet (fail)
                                  have D2 : Hid (Below wc.heap.size wc (wc.drewN nq)) := ⟨rfl, rfl, rfl, Nat.le_refl _, fun _ _ => rfl⟩
                                  generalize wc.drewN nq = wd at *
                                  clear q1 q2 r0 r1 r2 r3 r4 r5 hn1 PZ
                                  go_wp2_with fail
                                  exact ⟨⟨i + 1, by omega, by go_num, L2.out.below D2.out⟩, by simp [intOf]; omega⟩
                              · have i1 : ¬ (i : Int) < (ps.length : Int) := by omega
                                go_wp2_with fail
                                go_ret
                                exact ⟨rfl, t2 B5.out LI.out.bl⟩
  · have HN : Hid (first < 0 ∨ 1 < first ∨ (es.length : Int) < 1 ∨ (8 : Int) < (es.length : Int)) := (by omega : first < 0 ∨ 1 < first ∨ (es.length : Int) < 1 ∨ (8 : Int) < (es.length : Int))
    clear hlen
    by_cases x0 : first < 0
    · go_wp2_with fail
      go_ret
      exact ⟨rfl, B1.out⟩
    · by_cases x1 : 1 < first
      · go_wp2_with fail
        go_ret
        exact ⟨rfl, B1.out⟩
      · by_cases x2 : (es.length : Int) < 1
        · go_wp2_with fail
          go_ret
          exact ⟨rfl, B1.out⟩
        · have x4 : (8 : Int) < (es.length : Int) := by have := HN.out; omega
          go_wp2_with fail
          go_ret
          exact ⟨rfl, B1.out⟩
theorem takes_law (first : Int) (v : Value) (es : List (Int × Int)) (fa fp pr : Int) (s : Nat → Addr) (w : World) (S : SeM w s) (L : EndsI w v es) :
    Calls Tryz.prog 3 #[.int .i64 first, v, .agg #[.int .i64 fa, .int .i64 fp], .int .i64 pr] w fun e w' => e = .returned (.bool true) ∧ Below w.heap.size w w' := by
  by_cases hpr : pr = 2
  · exact takes_tcp first v es fa fp pr hpr s w S L
  · exact takes_udp first v es fa fp pr hpr s w S L
end Go.Proofs.YtpajlmmdnbdieaaGreatDoor
