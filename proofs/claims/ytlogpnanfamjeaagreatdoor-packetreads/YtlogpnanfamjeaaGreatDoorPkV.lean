/-
  Package packet's Read: what Text makes, just so.
-/
import Derived.Test.YtlogpnanfamjeaaGreatDoorPkW
namespace Go.Proofs.YtlogpnanfamjeaaGreatDoor
open Go.RowKit

set_option maxRecDepth 100000 in
set_option maxHeartbeats 4000000 in
theorem read_none (x : ByteArray) (hx : x.size ≤ 1000) (s : Nat → Addr) (w : World) (E : EnvL w s) (h : parseP x = none) :
    Calls Tryz.prog 12 #[.string x] w fun e w' => e = .returned (.tuple #[pkt 0 0 0 0 0 0, errV s 1]) ∧ Below w.heap.size w w' := by
  have HE : Hid (EnvL w s) := E
  have H : Hid (parseP x = none) := h
  clear h
  clear E
  have b1 : Hid (Below w.heap.size w (w.alloc (.cells #[.int .i64 0, .int .i64 0, .int .i64 0, .int .i64 0, .int .i64 0, .int .i64 0] 25))) := (Below.refl _ _).alloc (Nat.le_refl _) _
  go_enter Tryz.func12, Tryz.ntmps12
  go_wp2_with fail
  refine (parse_none x hx _ (HE.out.l.below b1.out) (HE.out.e.n.below b1.out) H.out).mono ?_
  rintro e w1 ⟨rfl, hb1⟩
  have R1 : Hid (Six (w1.alloc (.cells #[.int .i64 0, .int .i64 0, .int .i64 0, .int .i64 0, .int .i64 0, .int .i64 0] 25)) w.heap.size (fun _ => 0)) := ((six_new w _).below hb1).below ((Below.refl _ _).alloc (Nat.le_refl _) _)
  have HB1 : Hid (Below w.heap.size w w1) := below_all b1.out hb1
  have HB2 : Hid (Below w.heap.size w (w1.alloc (.cells #[.int .i64 0, .int .i64 0, .int .i64 0, .int .i64 0, .int .i64 0, .int .i64 0] 25))) := HB1.out.alloc HB1.out.size _
  have E2 : Hid (EnvL (w1.alloc (.cells #[.int .i64 0, .int .i64 0, .int .i64 0, .int .i64 0, .int .i64 0, .int .i64 0] 25)) s) := HE.out.below HB2.out
  clear hb1
  go_wp2_with fail
  generalize w1.alloc (.cells #[.int .i64 0, .int .i64 0, .int .i64 0, .int .i64 0, .int .i64 0, .int .i64 0] 25) = w2 at *
  have d0 := E2.out.e.s.c0
  have dx : (w2.setCell ⟨w.heap.size, 0, none⟩ (.int .i64 0)).cell? ⟨2, 0, none⟩ = some (.iface 164 (.pointer (some (s 0)))) := ((World.cell?_setCell_other _ _ _ _ (fun e => by have := congrArg Addr.block e; have h0 := block_lt HE.out.e.s.c0; simp at this h0; omega)).trans d0)
  have r0 : w2.cell? ⟨w.heap.size, 0, none⟩ = some (.int .i64 0) := R1.out.c 0 (by omega)
  have g0 := R1.out.cf 0 (by omega)
  have r1 : w2.cell? ⟨w.heap.size, 1, none⟩ = some (.int .i64 0) := R1.out.c 1 (by omega)
  have g1 := R1.out.cf 1 (by omega)
  have r2 : w2.cell? ⟨w.heap.size, 2, none⟩ = some (.int .i64 0) := R1.out.c 2 (by omega)
  have g2 := R1.out.cf 2 (by omega)
  have r3 : w2.cell? ⟨w.heap.size, 3, none⟩ = some (.int .i64 0) := R1.out.c 3 (by omega)
  have g3 := R1.out.cf 3 (by omega)
  have r4 : w2.cell? ⟨w.heap.size, 4, none⟩ = some (.int .i64 0) := R1.out.c 4 (by omega)
  have g4 := R1.out.cf 4 (by omega)
  have r5 : w2.cell? ⟨w.heap.size, 5, none⟩ = some (.int .i64 0) := R1.out.c 5 (by omega)
  have g5 := R1.out.cf 5 (by omega)
  go_region
  all_goals go_wp2_with fail
  all_goals exact bodyPost_ret (v := .tuple #[pkt 0 0 0 0 0 0, .iface 164 (.pointer (some (s 0)))]) (by simp [results, Tryz.results12, go_sem, r0, r1, r2, r3, r4, r5]) rfl ⟨rfl, by
    repeat (first | refine Below.setCell ?_ (by exact Nat.le_refl _) _ | refine Below.drew ?_ | exact HB2.out)⟩
set_option maxRecDepth 100000 in
set_option maxHeartbeats 4000000 in
theorem read_err (x : ByteArray) (hx : x.size ≤ 1000) (pr u v y z fl : Int) (k : Nat) (s : Nat → Addr) (w : World) (E : EnvL w s) (h : parseP x = some (pr, u, v, y, z, fl)) (h2 : pkErr pr u v y z fl = k + 1) :
    Calls Tryz.prog 12 #[.string x] w fun e w' => e = .returned (.tuple #[pkt 0 0 0 0 0 0, errV s 1]) ∧ Below w.heap.size w w' := by
  have HE : Hid (EnvL w s) := E
  have H : Hid (parseP x = some (pr, u, v, y, z, fl)) := h
  clear h
  have H2 : Hid (pkErr pr u v y z fl = k + 1) := h2
  clear h2
  clear E
  have b1 : Hid (Below w.heap.size w (w.alloc (.cells #[.int .i64 0, .int .i64 0, .int .i64 0, .int .i64 0, .int .i64 0, .int .i64 0] 25))) := (Below.refl _ _).alloc (Nat.le_refl _) _
  go_enter Tryz.func12, Tryz.ntmps12
  go_wp2_with fail
  refine (parse_some x hx _ (HE.out.l.below b1.out) (HE.out.e.n.below b1.out) pr u v y z fl H.out).mono ?_
  rintro e w1 ⟨rfl, hb1⟩
  have b2 : Below w1.heap.size w1 (w1.alloc (.cells #[.int .i64 pr, .int .i64 u, .int .i64 v, .int .i64 y, .int .i64 z, .int .i64 fl] 25)) := (Below.refl _ _).alloc (Nat.le_refl _) _
  have R1 : Hid (Six (w1.alloc (.cells #[.int .i64 pr, .int .i64 u, .int .i64 v, .int .i64 y, .int .i64 z, .int .i64 fl] 25)) w.heap.size (fun _ => 0)) := ((six_new w _).below hb1).below b2
  have HB2 : Hid (Below w.heap.size w (w1.alloc (.cells #[.int .i64 pr, .int .i64 u, .int .i64 v, .int .i64 y, .int .i64 z, .int .i64 fl] 25))) := below_all (below_all b1.out hb1) b2
  have K2 : Hid (Pk (w1.alloc (.cells #[.int .i64 pr, .int .i64 u, .int .i64 v, .int .i64 y, .int .i64 z, .int .i64 fl] 25)) w1.heap.size pr u v y z fl) := ⟨by simp, by simp, by simp, by simp, by simp, by simp⟩
  have E2 : Hid (EnvL (w1.alloc (.cells #[.int .i64 pr, .int .i64 u, .int .i64 v, .int .i64 y, .int .i64 z, .int .i64 fl] 25)) s) := HE.out.below HB2.out
  clear hb1 b2
  go_wp2_with fail
  refine (text_err k pr u v y z fl s _ (fun W S => by have := check_any pr u v y z fl s W S; rw [H2.out] at this; exact this) E2.out.e.s).mono ?_
  rintro e w3 ⟨rfl, hb3⟩
  have R3 : Hid (Six w3 w.heap.size (fun _ => 0)) := R1.out.below hb3
  have HB3 : Hid (Below w.heap.size w w3) := below_all HB2.out hb3
  have d0 := (E2.out.below hb3).e.s.c0
  have dx : (w3.setCell ⟨w.heap.size, 0, none⟩ (.int .i64 0)).cell? ⟨2, 0, none⟩ = some (.iface 164 (.pointer (some (s 0)))) := ((World.cell?_setCell_other _ _ _ _ (fun e => by have := congrArg Addr.block e; have h0 := block_lt HE.out.e.s.c0; simp at this h0; omega)).trans d0)
  rw [errV_pos]
  clear hb3
  have r0 : w3.cell? ⟨w.heap.size, 0, none⟩ = some (.int .i64 0) := R3.out.c 0 (by omega)
  have g0 := R3.out.cf 0 (by omega)
  have r1 : w3.cell? ⟨w.heap.size, 1, none⟩ = some (.int .i64 0) := R3.out.c 1 (by omega)
  have g1 := R3.out.cf 1 (by omega)
  have r2 : w3.cell? ⟨w.heap.size, 2, none⟩ = some (.int .i64 0) := R3.out.c 2 (by omega)
  have g2 := R3.out.cf 2 (by omega)
  have r3 : w3.cell? ⟨w.heap.size, 3, none⟩ = some (.int .i64 0) := R3.out.c 3 (by omega)
  have g3 := R3.out.cf 3 (by omega)
  have r4 : w3.cell? ⟨w.heap.size, 4, none⟩ = some (.int .i64 0) := R3.out.c 4 (by omega)
  have g4 := R3.out.cf 4 (by omega)
  have r5 : w3.cell? ⟨w.heap.size, 5, none⟩ = some (.int .i64 0) := R3.out.c 5 (by omega)
  have g5 := R3.out.cf 5 (by omega)
  go_wp2_with fail
  go_region
  all_goals go_wp2_with fail
  all_goals exact bodyPost_ret (v := .tuple #[pkt 0 0 0 0 0 0, .iface 164 (.pointer (some (s 0)))]) (by simp [results, Tryz.results12, go_sem, r0, r1, r2, r3, r4, r5]) rfl ⟨rfl, by
    repeat (first | refine Below.setCell ?_ (by exact Nat.le_refl _) _ | refine Below.drew ?_ | exact HB3.out)⟩
set_option maxRecDepth 100000 in
set_option maxHeartbeats 4000000 in
theorem read_diff (x : ByteArray) (hx : x.size ≤ 1000) (pr u v y z fl : Int) (s : Nat → Addr) (w : World) (E : EnvL w s) (h : parseP x = some (pr, u, v, y, z, fl)) (h2 : PkOk pr u v y z fl) (h3 : ¬ x = ⟨(pText pr u v y z fl).toArray⟩) :
    Calls Tryz.prog 12 #[.string x] w fun e w' => e = .returned (.tuple #[pkt 0 0 0 0 0 0, errV s 1]) ∧ Below w.heap.size w w' := by
  have HE : Hid (EnvL w s) := E
  have H : Hid (parseP x = some (pr, u, v, y, z, fl)) := h
  clear h
  have H2 : Hid (PkOk pr u v y z fl) := h2
  clear h2
  have H3 : Hid (¬ x = ⟨(pText pr u v y z fl).toArray⟩) := h3
  clear h3
  clear E
  have b1 : Hid (Below w.heap.size w (w.alloc (.cells #[.int .i64 0, .int .i64 0, .int .i64 0, .int .i64 0, .int .i64 0, .int .i64 0] 25))) := (Below.refl _ _).alloc (Nat.le_refl _) _
  go_enter Tryz.func12, Tryz.ntmps12
  go_wp2_with fail
  refine (parse_some x hx _ (HE.out.l.below b1.out) (HE.out.e.n.below b1.out) pr u v y z fl H.out).mono ?_
  rintro e w1 ⟨rfl, hb1⟩
  have b2 : Below w1.heap.size w1 (w1.alloc (.cells #[.int .i64 pr, .int .i64 u, .int .i64 v, .int .i64 y, .int .i64 z, .int .i64 fl] 25)) := (Below.refl _ _).alloc (Nat.le_refl _) _
  have R1 : Hid (Six (w1.alloc (.cells #[.int .i64 pr, .int .i64 u, .int .i64 v, .int .i64 y, .int .i64 z, .int .i64 fl] 25)) w.heap.size (fun _ => 0)) := ((six_new w _).below hb1).below b2
  have HB2 : Hid (Below w.heap.size w (w1.alloc (.cells #[.int .i64 pr, .int .i64 u, .int .i64 v, .int .i64 y, .int .i64 z, .int .i64 fl] 25))) := below_all (below_all b1.out hb1) b2
  have K2 : Hid (Pk (w1.alloc (.cells #[.int .i64 pr, .int .i64 u, .int .i64 v, .int .i64 y, .int .i64 z, .int .i64 fl] 25)) w1.heap.size pr u v y z fl) := ⟨by simp, by simp, by simp, by simp, by simp, by simp⟩
  have E2 : Hid (EnvL (w1.alloc (.cells #[.int .i64 pr, .int .i64 u, .int .i64 v, .int .i64 y, .int .i64 z, .int .i64 fl] 25)) s) := HE.out.below HB2.out
  clear hb1 b2
  go_wp2_with fail
  refine (text_ok pr u v y z fl s _ E2.out.e H2.out).mono ?_
  rintro e w3 ⟨rfl, hb3⟩
  have R3 : Hid (Six w3 w.heap.size (fun _ => 0)) := R1.out.below hb3
  have HB3 : Hid (Below w.heap.size w w3) := below_all HB2.out hb3
  have d0 := (E2.out.below hb3).e.s.c0
  have dx : (w3.setCell ⟨w.heap.size, 0, none⟩ (.int .i64 0)).cell? ⟨2, 0, none⟩ = some (.iface 164 (.pointer (some (s 0)))) := ((World.cell?_setCell_other _ _ _ _ (fun e => by have := congrArg Addr.block e; have h0 := block_lt HE.out.e.s.c0; simp at this h0; omega)).trans d0)
  have hne : (pText pr u v y z fl == x.toList) = false := by
    have := ba_ne H3.out
    rw [ByteArray.toList_mk] at this
    exact this
  clear hb3
  have r0 : w3.cell? ⟨w.heap.size, 0, none⟩ = some (.int .i64 0) := R3.out.c 0 (by omega)
  have g0 := R3.out.cf 0 (by omega)
  have r1 : w3.cell? ⟨w.heap.size, 1, none⟩ = some (.int .i64 0) := R3.out.c 1 (by omega)
  have g1 := R3.out.cf 1 (by omega)
  have r2 : w3.cell? ⟨w.heap.size, 2, none⟩ = some (.int .i64 0) := R3.out.c 2 (by omega)
  have g2 := R3.out.cf 2 (by omega)
  have r3 : w3.cell? ⟨w.heap.size, 3, none⟩ = some (.int .i64 0) := R3.out.c 3 (by omega)
  have g3 := R3.out.cf 3 (by omega)
  have r4 : w3.cell? ⟨w.heap.size, 4, none⟩ = some (.int .i64 0) := R3.out.c 4 (by omega)
  have g4 := R3.out.cf 4 (by omega)
  have r5 : w3.cell? ⟨w.heap.size, 5, none⟩ = some (.int .i64 0) := R3.out.c 5 (by omega)
  have g5 := R3.out.cf 5 (by omega)
  go_wp2_with fail
  go_region
  all_goals go_wp2_with fail
  all_goals exact bodyPost_ret (v := .tuple #[pkt 0 0 0 0 0 0, .iface 164 (.pointer (some (s 0)))]) (by simp [results, Tryz.results12, go_sem, r0, r1, r2, r3, r4, r5]) rfl ⟨rfl, by
    repeat (first | refine Below.setCell ?_ (by exact Nat.le_refl _) _ | refine Below.drew ?_ | exact HB3.out)⟩
set_option maxRecDepth 100000 in
set_option maxHeartbeats 4000000 in
theorem read_ok (x : ByteArray) (hx : x.size ≤ 1000) (pr u v y z fl : Int) (s : Nat → Addr) (w : World) (E : EnvL w s) (h : parseP x = some (pr, u, v, y, z, fl)) (h2 : PkOk pr u v y z fl) (h3 : x = ⟨(pText pr u v y z fl).toArray⟩) :
    Calls Tryz.prog 12 #[.string x] w fun e w' => e = .returned (.tuple #[pkt pr u v y z fl, .nilIface]) ∧ Below w.heap.size w w' := by
  have HE : Hid (EnvL w s) := E
  have H : Hid (parseP x = some (pr, u, v, y, z, fl)) := h
  clear h
  have H2 : Hid (PkOk pr u v y z fl) := h2
  clear h2
  have H3 : Hid (x = ⟨(pText pr u v y z fl).toArray⟩) := h3
  clear h3
  clear E
  have b1 : Hid (Below w.heap.size w (w.alloc (.cells #[.int .i64 0, .int .i64 0, .int .i64 0, .int .i64 0, .int .i64 0, .int .i64 0] 25))) := (Below.refl _ _).alloc (Nat.le_refl _) _
  go_enter Tryz.func12, Tryz.ntmps12
  go_wp2_with fail
  refine (parse_some x hx _ (HE.out.l.below b1.out) (HE.out.e.n.below b1.out) pr u v y z fl H.out).mono ?_
  rintro e w1 ⟨rfl, hb1⟩
  have b2 : Below w1.heap.size w1 (w1.alloc (.cells #[.int .i64 pr, .int .i64 u, .int .i64 v, .int .i64 y, .int .i64 z, .int .i64 fl] 25)) := (Below.refl _ _).alloc (Nat.le_refl _) _
  have R1 : Hid (Six (w1.alloc (.cells #[.int .i64 pr, .int .i64 u, .int .i64 v, .int .i64 y, .int .i64 z, .int .i64 fl] 25)) w.heap.size (fun _ => 0)) := ((six_new w _).below hb1).below b2
  have HB2 : Hid (Below w.heap.size w (w1.alloc (.cells #[.int .i64 pr, .int .i64 u, .int .i64 v, .int .i64 y, .int .i64 z, .int .i64 fl] 25))) := below_all (below_all b1.out hb1) b2
  have K2 : Hid (Pk (w1.alloc (.cells #[.int .i64 pr, .int .i64 u, .int .i64 v, .int .i64 y, .int .i64 z, .int .i64 fl] 25)) w1.heap.size pr u v y z fl) := ⟨by simp, by simp, by simp, by simp, by simp, by simp⟩
  have E2 : Hid (EnvL (w1.alloc (.cells #[.int .i64 pr, .int .i64 u, .int .i64 v, .int .i64 y, .int .i64 z, .int .i64 fl] 25)) s) := HE.out.below HB2.out
  clear hb1 b2
  go_wp2_with fail
  refine (text_ok pr u v y z fl s _ E2.out.e H2.out).mono ?_
  rintro e w3 ⟨rfl, hb3⟩
  have R3 : Hid (Six w3 w.heap.size (fun _ => 0)) := R1.out.below hb3
  have HB3 : Hid (Below w.heap.size w w3) := below_all HB2.out hb3
  have K3 : Hid (Pk w3 w1.heap.size pr u v y z fl) := K2.out.below hb3
  have heq : (pText pr u v y z fl == x.toList) = true := by rw [H3.out, ByteArray.toList_mk]; exact beq_self_eq_true _
  have k0 := K3.out.c0
  have k1 := K3.out.c1
  have k2 := K3.out.c2
  have k3 := K3.out.c3
  have k4 := K3.out.c4
  have k5 := K3.out.c5
  clear hb3
  have r0 : w3.cell? ⟨w.heap.size, 0, none⟩ = some (.int .i64 0) := R3.out.c 0 (by omega)
  have g0 := R3.out.cf 0 (by omega)
  have r1 : w3.cell? ⟨w.heap.size, 1, none⟩ = some (.int .i64 0) := R3.out.c 1 (by omega)
  have g1 := R3.out.cf 1 (by omega)
  have r2 : w3.cell? ⟨w.heap.size, 2, none⟩ = some (.int .i64 0) := R3.out.c 2 (by omega)
  have g2 := R3.out.cf 2 (by omega)
  have r3 : w3.cell? ⟨w.heap.size, 3, none⟩ = some (.int .i64 0) := R3.out.c 3 (by omega)
  have g3 := R3.out.cf 3 (by omega)
  have r4 : w3.cell? ⟨w.heap.size, 4, none⟩ = some (.int .i64 0) := R3.out.c 4 (by omega)
  have g4 := R3.out.cf 4 (by omega)
  have r5 : w3.cell? ⟨w.heap.size, 5, none⟩ = some (.int .i64 0) := R3.out.c 5 (by omega)
  have g5 := R3.out.cf 5 (by omega)
  go_wp2_with fail
  all_goals exact bodyPost_ret (v := .tuple #[pkt pr u v y z fl, .nilIface]) (by simp [results, Tryz.results12, go_sem, r0, r1, r2, r3, r4, r5]) rfl ⟨rfl, by
    repeat (first | refine Below.setCell ?_ (by exact Nat.le_refl _) _ | refine Below.drew ?_ | exact HB3.out)⟩
end Go.Proofs.YtlogpnanfamjeaaGreatDoor
