/-
  The law MirrorTells: any cells that are told.
-/
import Derived.Test.YtabbpdgamfoicabDoorMlC
import Derived.Deep.DeepCutAuto
import Derived.Deep.CutRange
import Derived.Deep.CutBlock
namespace Go.Proofs.YtabbpdgamfoicabDoor
open Go.RowKit

set_option maxRecDepth 100000 in
set_option maxHeartbeats 4000000 in
theorem tells_long (p : Option Addr) (n cp : Nat) (s : Nat → Addr) (w : World) (S : Sents w s) (h : 60 < n) :
    Calls Tryd.prog 5 #[.slice p n cp] w fun e w' => e = .returned (.bool true) ∧ Below w.heap.size w w' := by
  have HS : Hid (Sents w s) := S
  clear S
  go_enter Tryd.func5, Tryd.ntmps5
  go_wp2_with fail
  refine (mirrored_any s _ HS.out.se2).mono ?_
  rintro e w1 ⟨rfl, hb1⟩
  have B1 : Hid (Below w.heap.size w w1) := hb1
  clear hb1
  have h1' : (60 : Int) < (n : Int) := by omega
  go_wp2_with fail
  go_ret
  exact ⟨rfl, B1.out⟩
theorem mlS {w W : World} {b m g cap : Nat} {l1 l2 : Int} {T1 T2 : Tb} {A o : Nat} {lf : Int} {v : Value} (h0 : w.cell? ⟨A, o, none⟩ = some (.int .i64 lf)) (h1 : w.cell? ⟨A, o + 1, none⟩ = some v) (h : Ml w W b m g cap l1 T1 l2 T2) :
    W.cell? ⟨A, o, none⟩ = some (.int .i64 lf) ∧ W.cell? ⟨A, o + 1, none⟩ = some v := ⟨tk h.bl h0, tk h.bl h1⟩
/-- both mirrors, and all that was there at W0. -/
structure Mf (w W0 W : World) (b m g cap : Nat) (life : Int) (T : Tb) : Prop where
  l : Ml w W b m g cap life T life T
  k : Below W0.heap.size W0 W
theorem Mf.s {w W0 W : World} {b m g cap : Nat} {life : Int} {T : Tb} (h : Mf w W0 W b m g cap life T) : W.cell? ⟨m, 1, none⟩ = some (.slice (some ⟨g, 0, none⟩) 32 cap) := h.l.m1
theorem cells_mf {w W0 W : World} {b m g cap : Nat} {life : Int} {T : Tb} (h : Mf w W0 W b m g cap life T) :
    Calls Tryd.prog 32 #[.pointer (some ⟨b, 0, none⟩)] W fun e w' => ∃ Z, e = .returned (.slice (some ⟨Z, 0, none⟩) 32 32) ∧ Sl10 w' Z T ∧ Mf w W0 w' b m g cap life T :=
  (mcells_any b life T W h.l.x).mono fun _ _ ⟨he, hc, hb⟩ => ⟨_, he, hc.sl, h.l.below hb, t2 h.k hb⟩
theorem sameM_mf {w W0 W : World} {b m g cap Z : Nat} {life : Int} {T : Tb} (h : Mf w W0 W b m g cap life T) (hZ : Sl10 W Z T) :
    Calls Tryd.prog 33 #[.slice (some ⟨Z, 0, none⟩) 32 32, .slice (some ⟨g, 0, none⟩) 32 cap] W fun e w' => e = .returned (.bool true) ∧ Mf w W0 w' b m g cap life T :=
  (msame_any Z g 32 cap T W hZ h.l.r.sl).mono fun _ _ ⟨he, hb⟩ => ⟨he, h.l.below hb, t2 h.k hb⟩
set_option maxRecDepth 100000 in
set_option maxHeartbeats 8000000 in
theorem tells_ok (p : Option Addr) (cp : Nat) (ts : List Td) (s : Nat → Addr) (w : World) (S : Sents w s) (I : ∀ (i : Nat) t, ts[i]? = some t → ∃ b o, p = some ⟨b, o, none⟩ ∧ TdAt w b (o + i * 2) t) (hn : ts.length ≤ 60) :
    Calls Tryd.prog 5 #[.slice p ts.length cp] w fun e w' => e = .returned (.bool true) ∧ Below w.heap.size w w' := by
  have HS : Hid (Sents w s) := S
  have HI : Hid (∀ (i : Nat) t, ts[i]? = some t → ∃ b o, p = some ⟨b, o, none⟩ ∧ TdAt w b (o + i * 2) t) := I
  clear S I
  have h1' : ¬ (60 : Int) < (ts.length : Int) := by omega
  go_enter Tryd.func5, Tryd.ntmps5
  go_wp2_with fail
  refine (mirrored_any s _ HS.out.se2).mono ?_
  rintro e w1 ⟨rfl, hb1⟩
  have B1 : Hid (Below w.heap.size w w1) := hb1
  clear hb1
  go_wp2_with fail
  refine (mnew_any _).mono ?_
  rintro e w2 ⟨⟨b, rfl, hm2, hbb⟩, hb2⟩
  have M2 : Hid (Mir w2 b 0 newT) := hm2
  have HBB : Hid (w.heap.size ≤ b) := Nat.le_trans B1.out.size hbb
  have B2 : Hid (Below w.heap.size w w2) := t2 B1.out hb2
  clear hm2 hbb hb2 B1
  go_wp2_with fail
  refine (empty_any _).mono ?_
  rintro e w3 ⟨⟨g, cap, rfl, hg, hs⟩, hb3⟩
  have S3 : Hid (Sl10 w3 g newT) := hs
  have HGG : Hid (w2.heap.size ≤ g) := hg
  have B3 : Hid (Below w2.heap.size w2 w3) := hb3
  clear hs hg hb3
  go_wp2_with fail
  have M0 : Hid (Ml w (w3.alloc (.cells #[.int .i64 0, .slice (some ⟨g, 0, none⟩) 32 cap] 74)) b w3.heap.size g cap 0 newT 0 newT) := by
    have a1 := M2.out.lt
    have a2 := HGG.out
    have a3 := B3.out.size
    have a4 := S3.out.lt
    have a5 := B2.out.size
    exact ⟨(M2.out.below B3.out).below (aB _ _), ⟨(nw _ _ _ _).trans rfl, (nw _ _ _ _).trans rfl, frozen_of_row _ _ _ _ _ (heap_alloc_new _ _), frozen_of_row _ _ _ _ _ (heap_alloc_new _ _), S3.out.below (aB _ _), by omega⟩, t2 (t2 B2.out B3.out) (aB _ _), HBB.out, by omega, by omega, by omega, by omega⟩
  generalize w3.alloc (.cells #[.int .i64 0, .slice (some ⟨g, 0, none⟩) 32 cap] 74) = w4 at *
  obtain ⟨m, hm⟩ : ∃ m, m = w3.heap.size := ⟨_, rfl⟩
  rw [← hm] at M0 ⊢
  clear hm S3 HGG B3 M2 HBB B2
  go_loopw [6] (fun t wr => ∃ (i g cap : Nat) (life : Int) (T : Tb), i ≤ ts.length ∧ t = .int .i64 i ∧ Ml w wr b m g cap life T life T) (fun t _ => ts.length - (intOf t).toNat)
  case atStart => exact ⟨0, g, cap, 0, newT, Nat.zero_le _, rfl, M0.out⟩
  case round =>
    clear M0
    obtain ⟨i, gc, cc, life, T, hi, rfl, hml⟩ := hrel
    have M1 : Hid (Ml w wr b m gc cc life T life T) := hml
    clear hml
    by_cases hlt : i < ts.length
    · have j0 : (0 : Int) ≤ (i : Int) := by omega
      have j1 : (i : Int) < (ts.length : Int) := by omega
      have hr : ts[i]? = some ts[i] := List.getElem?_eq_getElem hlt
      obtain ⟨t, ht⟩ : ∃ t, t = ts[i] := ⟨_, rfl⟩
      rw [← ht] at hr
      obtain ⟨A, o, hpe, hc⟩ := HI.out i t hr
      subst hpe
      obtain ⟨lf, v, l⟩ := t
      obtain ⟨h0, h1, hs⟩ := hc
      simp only at h0 h1 hs
      obtain ⟨pl, cl, rfl, _⟩ := hs.open
      have H0 : Hid (w.cell? ⟨A, o + i * 2, none⟩ = some (.int .i64 lf)) := h0
      have H1 : Hid (w.cell? ⟨A, o + i * 2 + 1, none⟩ = some (.slice pl l.length cl)) := h1
      have HT : Hid (TcS w (.slice pl l.length cl) l) := hs
      have c1 := tk M1.out.bl h1
      clear ht hr h0 h1 hs
      by_cases h40 : 40 < l.length
      · have h40' : (40 : Int) < (l.length : Int) := by omega
        go_wp2_with fail
        go_ret
        exact ⟨rfl, M1.out.bl⟩
      · have h40' : ¬ (40 : Int) < (l.length : Int) := by omega
        have hl40 : l.length ≤ 40 := by omega
        obtain ⟨n, hn1⟩ : ∃ n, tellE life lf l = n := ⟨_, rfl⟩
        obtain ⟨LF, hn2⟩ : ∃ LF, tellLife life lf l = LF := ⟨_, rfl⟩
        obtain ⟨TT, hn3⟩ : ∃ TT, tellT life lf T l = TT := ⟨_, rfl⟩
        have HN : Hid (tellE life lf l = n ∧ tellLife life lf l = LF ∧ tellT life lf T l = TT) := ⟨hn1, hn2, hn3⟩
        have HN11 : Hid (n ≤ 11) := by show _ ≤ _; rw [← hn1]; exact tellE_le _ _ _
        clear hn1 hn2 hn3
        go_upto_region 13 with fail
        go_cut [83] (fun s83 wx => s83 = .bool false ∧ ∃ g' cap', Ml w wx b m g' cap' LF TT LF TT)
        case first =>
          have RD : Ml w wr.drew b m gc cc life T life T := M1.out.drew
          have hl1 : (LF != LF) = false := by simp
          have h5 : wr.drew.cell? ⟨A, o + i * 2, none⟩ = some (.int .i64 lf) ∧ wr.drew.cell? ⟨A, o + i * 2 + 1, none⟩ = some (.slice pl l.length cl) := mlS H0.out H1.out RD
          refine wp_region_noPanic ?_
          refine wp_region_held_drew (S := (fun w' : World => w'.cell? ⟨A, o + i * 2, none⟩ = some (.int .i64 lf) ∧ w'.cell? ⟨A, o + i * 2 + 1, none⟩ = some (.slice pl l.length cl))) (by kernel_rfl) h5 (fun _ => ?_)
          refine wpAnyH_take (i := 0) (v := ?_) rfl (by kernel_rfl) (by kernel_rfl) (by kernel_rfl) (fun _ _ _ h => h) (Or.inl ⟨by rfl, ?_⟩) (by assumption) ?_
          rotate_left
          · intro w9 hSw; (try dsimp only at hSw); go_simp; try (with_reducible rfl)
          simp only [Act.put, List.getElem_toArray, List.getElem_cons_zero, List.setIfInBounds_toArray, List.set_cons_zero, List.set_cons_succ]
          refine wpAnyH_take (i := 1) (v := ?_) rfl (by kernel_rfl) (by kernel_rfl) (by kernel_rfl) (fun _ _ _ h => h) (Or.inl ⟨by rfl, ?_⟩) (by assumption) ?_
          rotate_left
          · intro w9 hSw; (try dsimp only at hSw); go_simp; try (with_reducible rfl)
          simp only [Act.put, List.getElem_toArray, List.getElem_cons_succ, List.getElem_cons_zero, List.setIfInBounds_toArray, List.set_cons_zero, List.set_cons_succ]
          refine wpAnyH_take (i := 2) (v := ?_) rfl (by kernel_rfl) (by kernel_rfl) (by kernel_rfl) (fun _ _ _ h => h) (Or.inl ⟨by rfl, ?_⟩) (by assumption) ?_
          rotate_left
          · intro w9 hSw; (try dsimp only at hSw); go_simp; try (with_reducible rfl)
          simp only [Act.put, List.getElem_toArray, List.getElem_cons_succ, List.getElem_cons_zero, List.setIfInBounds_toArray, List.set_cons_zero, List.set_cons_succ]
          refine wpAnyH_take (i := 3) (v := ?_) rfl (by kernel_rfl) (by kernel_rfl) (by kernel_rfl) (fun _ _ _ h => h) (Or.inl ⟨by rfl, ?_⟩) (by assumption) ?_
          rotate_left
          · intro w9 hSw; (try dsimp only at hSw); go_simp; try (with_reducible rfl)
          simp only [Act.put, List.getElem_toArray, List.getElem_cons_succ, List.getElem_cons_zero, List.setIfInBounds_toArray, List.set_cons_zero, List.set_cons_succ]
          refine wpAnyH_take (i := 4) (v := ?_) rfl (by kernel_rfl) (by kernel_rfl) (by kernel_rfl) (fun _ _ _ h => h) (Or.inl ⟨by rfl, ?_⟩) (by assumption) ?_
          rotate_left
          · intro w9 hSw; (try dsimp only at hSw); go_simp; try (with_reducible rfl)
          simp only [Act.put, List.getElem_toArray, List.getElem_cons_succ, List.getElem_cons_zero, List.setIfInBounds_toArray, List.set_cons_zero, List.set_cons_succ]
          refine wpAnyH_take (i := 5) (v := ?_) rfl (by kernel_rfl) (by kernel_rfl) (by kernel_rfl) (fun _ _ _ h => h) (Or.inl ⟨by rfl, ?_⟩) (by assumption) ?_
          rotate_left
          · intro w9 hSw; (try dsimp only at hSw); go_simp; try (with_reducible rfl)
          simp only [Act.put, List.getElem_toArray, List.getElem_cons_succ, List.getElem_cons_zero, List.setIfInBounds_toArray, List.set_cons_zero, List.set_cons_succ]
          refine wpAnyH_take (i := 6) (v := ?_) rfl (by kernel_rfl) (by kernel_rfl) (by kernel_rfl) (fun _ _ _ h => h) (Or.inl ⟨by rfl, ?_⟩) (by assumption) ?_
          rotate_left
          · intro w9 hSw; (try dsimp only at hSw); go_simp; try (with_reducible rfl)
          simp only [Act.put, List.getElem_toArray, List.getElem_cons_succ, List.getElem_cons_zero, List.setIfInBounds_toArray, List.set_cons_zero, List.set_cons_succ]
          refine wpAnyH_take (i := 7) (v := ?_) rfl (by kernel_rfl) (by kernel_rfl) (by kernel_rfl) (fun _ _ _ h => h) (Or.inl ⟨by rfl, ?_⟩) (by assumption) ?_
          rotate_left
          · intro w9 hSw; (try dsimp only at hSw); go_simp; try (with_reducible rfl)
          simp only [Act.put, List.getElem_toArray, List.getElem_cons_succ, List.getElem_cons_zero, List.setIfInBounds_toArray, List.set_cons_zero, List.set_cons_succ]
          refine wpAnyH_take (i := 8) (v := ?_) rfl (by kernel_rfl) (by kernel_rfl) (by kernel_rfl) (fun _ _ _ h => h) (Or.inl ⟨by rfl, ?_⟩) (by assumption) ?_
          rotate_left
          · intro w9 hSw; (try dsimp only at hSw); go_simp; try (with_reducible rfl)
          simp only [Act.put, List.getElem_toArray, List.getElem_cons_succ, List.getElem_cons_zero, List.setIfInBounds_toArray, List.set_cons_zero, List.set_cons_succ]
          refine wpAnyH_take (i := 9) (v := ?_) rfl (by kernel_rfl) (by kernel_rfl) (by kernel_rfl) (fun _ _ _ h => h) (Or.inl ⟨by rfl, ?_⟩) (by assumption) ?_
          rotate_left
          · intro w9 hSw; (try dsimp only at hSw); go_simp; try (with_reducible rfl)
          simp only [Act.put, List.getElem_toArray, List.getElem_cons_succ, List.getElem_cons_zero, List.setIfInBounds_toArray, List.set_cons_zero, List.set_cons_succ]
          refine wpAnyH_take (i := 10) (v := ?_) rfl (by kernel_rfl) (by kernel_rfl) (by kernel_rfl) (fun _ _ _ h => h) (Or.inl ⟨by rfl, ?_⟩) (by assumption) ?_
          rotate_left
          · intro w9 hSw; (try dsimp only at hSw); go_simp; try (with_reducible rfl)
          simp only [Act.put, List.getElem_toArray, List.getElem_cons_succ, List.getElem_cons_zero, List.setIfInBounds_toArray, List.set_cons_zero, List.set_cons_succ]
          refine wpAnyH_take (i := 13) (v := ?_) rfl (by kernel_rfl) (by kernel_rfl) (by kernel_rfl) (fun _ _ _ h => h) (Or.inl ⟨by rfl, ?_⟩) (by assumption) ?_
          rotate_left
          · intro w9 hSw; (try dsimp only at hSw); go_simp; try (with_reducible rfl)
          simp only [Act.put, List.getElem_toArray, List.getElem_cons_succ, List.getElem_cons_zero, List.setIfInBounds_toArray, List.set_cons_zero, List.set_cons_succ]
          refine wpAnyH_take (i := 14) (v := ?_) rfl (by kernel_rfl) (by kernel_rfl) (by kernel_rfl) (fun _ _ _ h => h) (Or.inl ⟨by rfl, ?_⟩) (by assumption) ?_
          rotate_left
          · intro w9 hSw; (try dsimp only at hSw); go_simp; try (with_reducible rfl)
          simp only [Act.put, List.getElem_toArray, List.getElem_cons_succ, List.getElem_cons_zero, List.setIfInBounds_toArray, List.set_cons_zero, List.set_cons_succ]
          refine wpAnyH_take (i := 15) (v := ?_) rfl (by kernel_rfl) (by kernel_rfl) (by kernel_rfl) (fun _ _ _ h => h) (Or.inl ⟨by rfl, ?_⟩) (by assumption) ?_
          rotate_left
          · intro w9 hSw; (try dsimp only at hSw); go_simp; try (with_reducible rfl)
          simp only [Act.put, List.getElem_toArray, List.getElem_cons_succ, List.getElem_cons_zero, List.setIfInBounds_toArray, List.set_cons_zero, List.set_cons_succ]
          refine wpAnyH_take (i := 16) (v := ?_) rfl (by kernel_rfl) (by kernel_rfl) (by kernel_rfl) (fun _ _ _ h => h) (Or.inl ⟨by rfl, ?_⟩) (by assumption) ?_
          rotate_left
          · intro w9 hSw; (try dsimp only at hSw); go_simp; try (with_reducible rfl)
          simp only [Act.put, List.getElem_toArray, List.getElem_cons_succ, List.getElem_cons_zero, List.setIfInBounds_toArray, List.set_cons_zero, List.set_cons_succ]
          refine wpAnyH_take (i := 17) (v := ?_) rfl (by kernel_rfl) (by kernel_rfl) (by kernel_rfl) (fun _ _ _ h => h) (Or.inl ⟨by rfl, ?_⟩) (by assumption) ?_
          rotate_left
          · intro w9 hSw; (try dsimp only at hSw); go_simp; try (with_reducible rfl)
          simp only [Act.put, List.getElem_toArray, List.getElem_cons_succ, List.getElem_cons_zero, List.setIfInBounds_toArray, List.set_cons_zero, List.set_cons_succ]
          refine wpAnyH_take (i := 18) (v := ?_) rfl (by kernel_rfl) (by kernel_rfl) (by kernel_rfl) (fun _ _ _ h => h) (Or.inl ⟨by rfl, ?_⟩) (by assumption) ?_
          rotate_left
          · intro w9 hSw; (try dsimp only at hSw); go_simp; try (with_reducible rfl)
          simp only [Act.put, List.getElem_toArray, List.getElem_cons_succ, List.getElem_cons_zero, List.setIfInBounds_toArray, List.set_cons_zero, List.set_cons_succ]
          refine wpAnyH_take (i := 19) (v := ?_) rfl (by kernel_rfl) (by kernel_rfl) (by kernel_rfl) (fun _ _ _ h => h) (Or.inl ⟨by rfl, ?_⟩) (by assumption) ?_
          rotate_left
          · intro w9 hSw; (try dsimp only at hSw); go_simp; try (with_reducible rfl)
          simp only [Act.put, List.getElem_toArray, List.getElem_cons_succ, List.getElem_cons_zero, List.setIfInBounds_toArray, List.set_cons_zero, List.set_cons_succ]
          refine wpAnyH_take (i := 20) (v := ?_) rfl (by kernel_rfl) (by kernel_rfl) (by kernel_rfl) (fun _ _ _ h => h) (Or.inl ⟨by rfl, ?_⟩) (by assumption) ?_
          rotate_left
          · intro w9 hSw; (try dsimp only at hSw); go_simp; try (with_reducible rfl)
          simp only [Act.put, List.getElem_toArray, List.getElem_cons_succ, List.getElem_cons_zero, List.setIfInBounds_toArray, List.set_cons_zero, List.set_cons_succ]
          refine wpAnyH_take (i := 21) (v := ?_) rfl (by kernel_rfl) (by kernel_rfl) (by kernel_rfl) (fun _ _ _ h => h) (Or.inl ⟨by rfl, ?_⟩) (by assumption) ?_
          rotate_left
          · intro w9 hSw; (try dsimp only at hSw); go_simp; try (with_reducible rfl)
          simp only [Act.put, List.getElem_toArray, List.getElem_cons_succ, List.getElem_cons_zero, List.setIfInBounds_toArray, List.set_cons_zero, List.set_cons_succ]
          refine wpAnyH_take (i := 22) (v := ?_) rfl (by kernel_rfl) (by kernel_rfl) (by kernel_rfl) (fun _ _ _ h => h) (Or.inl ⟨by rfl, ?_⟩) (by assumption) ?_
          rotate_left
          · intro w9 hSw; (try dsimp only at hSw); go_simp; try (with_reducible rfl)
          simp only [Act.put, List.getElem_toArray, List.getElem_cons_succ, List.getElem_cons_zero, List.setIfInBounds_toArray, List.set_cons_zero, List.set_cons_succ]
          refine wpAnyH_take (i := 23) (v := ?_) rfl (by kernel_rfl) (by kernel_rfl) (by kernel_rfl) (fun _ _ _ h => h) (Or.inl ⟨by rfl, ?_⟩) (by assumption) ?_
          rotate_left
          · intro w9 hSw; (try dsimp only at hSw); go_simp; try (with_reducible rfl)
          simp only [Act.put, List.getElem_toArray, List.getElem_cons_succ, List.getElem_cons_zero, List.setIfInBounds_toArray, List.set_cons_zero, List.set_cons_succ]
          refine wpAnyH_ready (rs := [11]) (by kernel_rfl) (by simp) ?_
          refine AllReadyH.cons (o := _) rfl (fun K hK => ?_) AllReadyH.nil
          go_simp
          refine (own_ml HT.out hl40 RD).mono ?_
          rintro e w5 ⟨v5, rfl, N5, R5⟩
          go_wp2_with fail
          refine hK.out _ _ ?_ (fun _ => ?_)
          · exact mlS H0.out H1.out R5
          clear hK K
          try simp only [Act.put, List.setIfInBounds_toArray, List.set_cons_zero, List.set_cons_succ]
          refine wpAnyH_ready (rs := [12]) (by kernel_rfl) (by simp) ?_
          refine AllReadyH.cons (o := _) rfl (fun K hK => ?_) AllReadyH.nil
          go_simp
          refine (tell_ml HS.out hl40 HN.out R5 N5).mono ?_
          rintro e w6 ⟨rfl, R6⟩
          go_wp2_with fail
          refine hK.out _ _ ?_ (fun _ => ?_)
          · exact mlS H0.out H1.out R6
          clear hK K
          try simp only [Act.put, List.setIfInBounds_toArray, List.set_cons_zero, List.set_cons_succ]
          refine wpAnyH_ready (rs := [24]) (by kernel_rfl) (by simp) ?_
          refine AllReadyH.cons (o := _) rfl (fun K hK => ?_) AllReadyH.nil
          go_simp
          refine (rtell_mx HT.out hl40 HN.out R6).mono ?_
          rintro e w7 ⟨rfl, g7, cap7, p7, q7, R7⟩
          go_wp2_with fail
          refine hK.out _ _ ?_ (fun _ => ?_)
          · exact mlS H0.out H1.out R7
          clear hK K
          try simp only [Act.put, List.setIfInBounds_toArray, List.set_cons_zero, List.set_cons_succ]
          have h7 : (w7.cell? ⟨A, o + i * 2, none⟩ = some (.int .i64 lf) ∧ w7.cell? ⟨A, o + i * 2 + 1, none⟩ = some (.slice pl l.length cl)) ∧ w7.cell? ⟨m, 0, none⟩ = some (.int .i64 LF) ∧ w7.cell? ⟨m, 1, none⟩ = some (.slice (some ⟨g7, 0, none⟩) 32 cap7) := ⟨mlS H0.out H1.out R7, p7, q7⟩
          refine wpAnyH_more (S' := (fun w' : World => (w'.cell? ⟨A, o + i * 2, none⟩ = some (.int .i64 lf) ∧ w'.cell? ⟨A, o + i * 2 + 1, none⟩ = some (.slice pl l.length cl)) ∧ w'.cell? ⟨m, 0, none⟩ = some (.int .i64 LF) ∧ w'.cell? ⟨m, 1, none⟩ = some (.slice (some ⟨g7, 0, none⟩) 32 cap7))) (fun _ h => h.1) _ _ _ _ ?_
          refine wpAnyH_ready (rs := [25]) (by kernel_rfl) (by simp) ?_
          refine AllReadyH.cons (o := _) rfl (fun K hK => ?_) AllReadyH.nil
          go_simp
          refine (coded_ml HS.out n HN11.out R7).mono ?_
          rintro e w8 ⟨rfl, p8, q8, R8⟩
          go_wp2_with fail
          refine hK.out _ _ ?_ (fun _ => ?_)
          · exact ⟨mlS H0.out H1.out R8, p8, q8⟩
          clear hK K
          try simp only [Act.put, List.setIfInBounds_toArray, List.set_cons_zero, List.set_cons_succ]
          have h8 : (w8.cell? ⟨A, o + i * 2, none⟩ = some (.int .i64 lf) ∧ w8.cell? ⟨A, o + i * 2 + 1, none⟩ = some (.slice pl l.length cl)) ∧ w8.cell? ⟨m, 0, none⟩ = some (.int .i64 LF) ∧ w8.cell? ⟨m, 1, none⟩ = some (.slice (some ⟨g7, 0, none⟩) 32 cap7) := ⟨mlS H0.out H1.out R8, p8, q8⟩
          refine wpAnyH_take (i := 26) (v := ?_) rfl (by kernel_rfl) (by kernel_rfl) (by kernel_rfl) (fun _ _ _ h => h) (Or.inl ⟨by rfl, ?_⟩) (by assumption) ?_
          rotate_left
          · intro w9 hSw; (try dsimp only at hSw); go_simp; try (with_reducible rfl)
          simp only [Act.put, List.getElem_toArray, List.getElem_cons_succ, List.getElem_cons_zero, List.setIfInBounds_toArray, List.set_cons_zero, List.set_cons_succ]
          refine wpAnyH_take (i := 27) (v := ?_) rfl (by kernel_rfl) (by kernel_rfl) (by kernel_rfl) (fun _ _ _ h => h) (Or.inl ⟨by rfl, ?_⟩) (by assumption) ?_
          rotate_left
          · intro w9 hSw; (try dsimp only at hSw); go_simp; try (with_reducible rfl)
          simp only [Act.put, List.getElem_toArray, List.getElem_cons_succ, List.getElem_cons_zero, List.setIfInBounds_toArray, List.set_cons_zero, List.set_cons_succ]
          refine wpAnyH_take (i := 28) (v := ?_) rfl (by kernel_rfl) (by kernel_rfl) (by kernel_rfl) (fun _ _ _ h => h) (Or.inl ⟨by rfl, ?_⟩) (by assumption) ?_
          rotate_left
          · intro w9 hSw; (try dsimp only at hSw); go_simp; try (with_reducible rfl)
          simp only [Act.put, List.getElem_toArray, List.getElem_cons_succ, List.getElem_cons_zero, List.setIfInBounds_toArray, List.set_cons_zero, List.set_cons_succ]
          refine wpAnyH_take (i := 30) (v := ?_) rfl (by kernel_rfl) (by kernel_rfl) (by kernel_rfl) (fun _ _ _ h => h) (Or.inl ⟨by rfl, ?_⟩) (by assumption) ?_
          rotate_left
          · intro w9 hSw; (try dsimp only at hSw); go_simp; try (with_reducible rfl)
          simp only [Act.put, List.getElem_toArray, List.getElem_cons_succ, List.getElem_cons_zero, List.setIfInBounds_toArray, List.set_cons_zero, List.set_cons_succ]
          refine wpAnyH_take (i := 31) (v := ?_) rfl (by kernel_rfl) (by kernel_rfl) (by kernel_rfl) (fun _ _ _ h => h) (Or.inl ⟨by rfl, ?_⟩) (by assumption) ?_
          rotate_left
          · intro w9 hSw; (try dsimp only at hSw); go_simp; try (with_reducible rfl)
          simp only [Act.put, List.getElem_toArray, List.getElem_cons_succ, List.getElem_cons_zero, List.setIfInBounds_toArray, List.set_cons_zero, List.set_cons_succ]
          refine wpAnyH_take (i := 32) (v := ?_) rfl (by kernel_rfl) (by kernel_rfl) (by kernel_rfl) (fun _ _ _ h => h) (Or.inl ⟨by rfl, ?_⟩) (by assumption) ?_
          rotate_left
          · intro w9 hSw; (try dsimp only at hSw); go_simp; try (with_reducible rfl)
          simp only [Act.put, List.getElem_toArray, List.getElem_cons_succ, List.getElem_cons_zero, List.setIfInBounds_toArray, List.set_cons_zero, List.set_cons_succ]
          refine wpAnyH_take (i := 33) (v := ?_) rfl (by kernel_rfl) (by kernel_rfl) (by kernel_rfl) (fun _ _ _ h => h) (Or.inl ⟨by rfl, ?_⟩) (by assumption) ?_
          rotate_left
          · intro w9 hSw; (try dsimp only at hSw); go_simp; try (with_reducible rfl)
          simp only [Act.put, List.getElem_toArray, List.getElem_cons_succ, List.getElem_cons_zero, List.setIfInBounds_toArray, List.set_cons_zero, List.set_cons_succ]
          refine wpAnyH_ready (rs := [29]) (by kernel_rfl) (by simp) ?_
          refine AllReadyH.cons (o := _) rfl (fun K hK => ?_) AllReadyH.nil
          go_simp
          refine (life_ml R8).mono ?_
          rintro e wa ⟨rfl, pa, qa, Ra⟩
          go_wp2_with fail
          refine hK.out _ _ ?_ (fun _ => ?_)
          · exact ⟨mlS H0.out H1.out Ra, pa, qa⟩
          clear hK K
          try simp only [Act.put, List.setIfInBounds_toArray, List.set_cons_zero, List.set_cons_succ]
          have ha : (wa.cell? ⟨A, o + i * 2, none⟩ = some (.int .i64 lf) ∧ wa.cell? ⟨A, o + i * 2 + 1, none⟩ = some (.slice pl l.length cl)) ∧ wa.cell? ⟨m, 0, none⟩ = some (.int .i64 LF) ∧ wa.cell? ⟨m, 1, none⟩ = some (.slice (some ⟨g7, 0, none⟩) 32 cap7) := ⟨mlS H0.out H1.out Ra, pa, qa⟩
          refine wpAnyH_take (i := 34) (v := ?_) rfl (by kernel_rfl) (by kernel_rfl) (by kernel_rfl) (fun _ _ _ h => h) (Or.inl ⟨by rfl, ?_⟩) (by assumption) ?_
          rotate_left
          · intro w9 hSw; (try dsimp only at hSw); go_simp; try (with_reducible rfl)
          simp only [Act.put, List.getElem_toArray, List.getElem_cons_succ, List.getElem_cons_zero, List.setIfInBounds_toArray, List.set_cons_zero, List.set_cons_succ]
          refine wpAnyH_take (i := 35) (v := ?_) rfl (by kernel_rfl) (by kernel_rfl) (by kernel_rfl) (fun _ _ _ h => h) (Or.inl ⟨by rfl, ?_⟩) (by assumption) ?_
          rotate_left
          · intro w9 hSw; (try dsimp only at hSw); go_simp; try (with_reducible rfl)
          simp only [Act.put, List.getElem_toArray, List.getElem_cons_succ, List.getElem_cons_zero, List.setIfInBounds_toArray, List.set_cons_zero, List.set_cons_succ]
          refine wpAnyH_take (i := 36) (v := ?_) rfl (by kernel_rfl) (by kernel_rfl) (by kernel_rfl) (fun _ _ _ h => h) (Or.inl ⟨by rfl, ?_⟩) (by assumption) ?_
          rotate_left
          · intro w9 hSw; (try dsimp only at hSw); go_simp; try (with_reducible rfl)
          simp only [Act.put, List.getElem_toArray, List.getElem_cons_succ, List.getElem_cons_zero, List.setIfInBounds_toArray, List.set_cons_zero, List.set_cons_succ]
          refine wpAnyH_take (i := 37) (v := ?_) rfl (by kernel_rfl) (by kernel_rfl) (by kernel_rfl) (fun _ _ _ h => h) (Or.inl ⟨by rfl, ?_⟩) (by assumption) ?_
          rotate_left
          · intro w9 hSw; (try dsimp only at hSw); go_simp; try (with_reducible rfl)
          simp only [Act.put, List.getElem_toArray, List.getElem_cons_succ, List.getElem_cons_zero, List.setIfInBounds_toArray, List.set_cons_zero, List.set_cons_succ]
          refine wpAnyH_take (i := 39) (v := ?_) rfl (by kernel_rfl) (by kernel_rfl) (by kernel_rfl) (fun _ _ _ h => h) (Or.inl ⟨by rfl, ?_⟩) (by assumption) ?_
          rotate_left
          · intro w9 hSw; (try dsimp only at hSw); go_simp; try (with_reducible rfl)
          simp only [Act.put, List.getElem_toArray, List.getElem_cons_succ, List.getElem_cons_zero, List.setIfInBounds_toArray, List.set_cons_zero, List.set_cons_succ]
          refine wpAnyH_take (i := 40) (v := ?_) rfl (by kernel_rfl) (by kernel_rfl) (by kernel_rfl) (fun _ _ _ h => h) (Or.inl ⟨by rfl, ?_⟩) (by assumption) ?_
          rotate_left
          · intro w9 hSw; (try dsimp only at hSw); go_simp; try (with_reducible rfl)
          simp only [Act.put, List.getElem_toArray, List.getElem_cons_succ, List.getElem_cons_zero, List.setIfInBounds_toArray, List.set_cons_zero, List.set_cons_succ]
          refine wpAnyH_take (i := 41) (v := ?_) rfl (by kernel_rfl) (by kernel_rfl) (by kernel_rfl) (fun _ _ _ h => h) (Or.inl ⟨by rfl, ?_⟩) (by assumption) ?_
          rotate_left
          · intro w9 hSw; (try dsimp only at hSw); go_simp; try (with_reducible rfl)
          simp only [Act.put, List.getElem_toArray, List.getElem_cons_succ, List.getElem_cons_zero, List.setIfInBounds_toArray, List.set_cons_zero, List.set_cons_succ]
          refine wpAnyH_take (i := 42) (v := ?_) rfl (by kernel_rfl) (by kernel_rfl) (by kernel_rfl) (fun _ _ _ h => h) (Or.inl ⟨by rfl, ?_⟩) (by assumption) ?_
          rotate_left
          · intro w9 hSw; (try dsimp only at hSw); go_simp; try (with_reducible rfl)
          simp only [Act.put, List.getElem_toArray, List.getElem_cons_succ, List.getElem_cons_zero, List.setIfInBounds_toArray, List.set_cons_zero, List.set_cons_succ]
          refine wpAnyH_ready (rs := [38]) (by kernel_rfl) (by simp) ?_
          refine AllReadyH.cons (o := _) rfl (fun K hK => ?_) AllReadyH.nil
          go_simp
          refine (cells_ml Ra).mono ?_
          rintro e wb ⟨Z, rfl, Sb, qb, Rb⟩
          go_wp2_with fail
          refine hK.out _ _ ?_ (fun _ => ?_)
          · exact ⟨mlS H0.out H1.out Rb, Rb.m0, qb⟩
          clear hK K
          try simp only [Act.put, List.setIfInBounds_toArray, List.set_cons_zero, List.set_cons_succ]
          refine wpAnyH_ready (rs := [43]) (by kernel_rfl) (by simp) ?_
          refine AllReadyH.cons (o := _) rfl (fun K hK => ?_) AllReadyH.nil
          go_simp
          refine (sameR_ml Rb Sb).mono ?_
          rintro e wd ⟨rfl, Rd⟩
          go_wp2_with fail
          refine hK.out _ _ ?_ (fun _ => ?_)
          · exact ⟨mlS H0.out H1.out Rd, Rd.m0, Rd.m1⟩
          clear hK K
          try simp only [Act.put, List.setIfInBounds_toArray, List.set_cons_zero, List.set_cons_succ]
          have hd : (wd.cell? ⟨A, o + i * 2, none⟩ = some (.int .i64 lf) ∧ wd.cell? ⟨A, o + i * 2 + 1, none⟩ = some (.slice pl l.length cl)) ∧ wd.cell? ⟨m, 0, none⟩ = some (.int .i64 LF) ∧ wd.cell? ⟨m, 1, none⟩ = some (.slice (some ⟨g7, 0, none⟩) 32 cap7) := ⟨mlS H0.out H1.out Rd, Rd.m0, Rd.m1⟩
          refine wpAnyH_take (i := 44) (v := ?_) rfl (by kernel_rfl) (by kernel_rfl) (by kernel_rfl) (fun _ _ _ h => h) (Or.inl ⟨by rfl, ?_⟩) (by assumption) ?_
          rotate_left
          · intro w9 hSw; (try dsimp only at hSw); go_simp; try (with_reducible rfl)
          simp only [Act.put, List.getElem_toArray, List.getElem_cons_succ, List.getElem_cons_zero, List.setIfInBounds_toArray, List.set_cons_zero, List.set_cons_succ]
          refine wpAnyH_take (i := 45) (v := ?_) rfl (by kernel_rfl) (by kernel_rfl) (by kernel_rfl) (fun _ _ _ h => h) (Or.inl ⟨by rfl, ?_⟩) (by assumption) ?_
          rotate_left
          · intro w9 hSw; (try dsimp only at hSw); go_simp; try (with_reducible rfl)
          simp only [Act.put, List.getElem_toArray, List.getElem_cons_succ, List.getElem_cons_zero, List.setIfInBounds_toArray, List.set_cons_zero, List.set_cons_succ]
          refine wpAnyH_done (by kernel_rfl) ?_ _
          refine NoPanic.normal ?_
          have RE : Hid (Ml w wd b m g7 cap7 LF TT LF TT) := Rd
          clear hd ha h8 h7 h5 RD R5 N5 R6 R7 R8 Ra Rb Sb Rd p7 q7 p8 q8 pa qa qb
          go_wp2_with fail
          go_meet
          case rel => exact ⟨rfl, g7, cap7, RE.out⟩
        case rest =>
          obtain ⟨rfl, g', cap', hr1⟩ := hcut
          have R1 : Hid (Ml w wc b m g' cap' LF TT LF TT) := hr1
          clear hr1 M1
          have hfl := flL_len TT 32
          go_wp2_with fail
          refine (mflows_any b LF TT _ R1.out.x).mono ?_
          rintro e w5 ⟨⟨v5, rfl, ho5⟩, hb5⟩
          obtain ⟨p5, c5, rfl, f5⟩ := FlS.of_own ho5
          have F5 : Hid (FlS w5 p5 (flL TT 32)) := f5
          have R5 : Hid (Ml w w5 b m g' cap' LF TT LF TT) := R1.out.below hb5
          clear f5 ho5 hb5
          have q5 := R5.out.m1
          go_wp2_with fail
          refine (rflows_any g' cap' TT _ R5.out.r.sl).mono ?_
          rintro e w6 ⟨⟨v6, rfl, ho6⟩, hb6⟩
          obtain ⟨p6, c6, rfl, f6⟩ := FlS.of_own ho6
          have F6 : Hid (FlS w6 p6 (flL TT 32)) := f6
          have F5' : Hid (FlS w6 p5 (flL TT 32)) := F5.out.below hb6
          have R6 : Hid (Ml w w6 b m g' cap' LF TT LF TT) := R5.out.below hb6
          clear f6 ho6 hb6 F5 R5 R1 q5
          have q6 := R6.out.m1
          obtain ⟨xs, hxs⟩ : ∃ xs, xs = flL TT 32 := ⟨_, rfl⟩
          rw [← hxs] at F6 F5' hfl ⊢
          clear hxs
          have hne : ((xs.length : Int) != (xs.length : Int)) = false := by simp
          have RF : Mf w w6 w6.drew b m g' cap' LF TT := ⟨R6.out.drew, (Below.refl _ _).drew⟩
          go_wp2_with fail
          go_region_held3 (fun w' => w'.cell? ⟨m, 1, none⟩ = some (.slice (some ⟨g', 0, none⟩) 32 cap')) (first | assumption | exact Mf.s (by assumption))
            (first
              | (go_at_call 32; refine (cells_mf (by assumption)).mono ?_; rintro e w7 ⟨Z, rfl, S7, R7⟩)
              | (go_at_call 33; refine (sameM_mf (by assumption) (by assumption)).mono ?_; rintro e w8 ⟨rfl, R8⟩))
          have L8 : Hid (Ml w w8 b m g' cap' LF TT LF TT) := R8.l
          have F58 : Hid (FlS w8 p5 xs) := F5'.out.below R8.k
          have F68 : Hid (FlS w8 p6 xs) := F6.out.below R8.k
          clear R8 R7 S7 RF R6 F6 F5' q6
          go_wp2_with fail
          go_loopw [9] (fun t wi => ∃ k : Nat, k ≤ xs.length ∧ t = .int .i64 k ∧ Ml w wi b m g' cap' LF TT LF TT ∧ FlS wi p5 xs ∧ FlS wi p6 xs) (fun t _ => xs.length - (intOf t).toNat)
          case atStart => exact ⟨0, Nat.zero_le _, rfl, L8.out, F58.out, F68.out⟩
          case round =>
            obtain ⟨k, hk, rfl, hl9, hf5, hf6⟩ := hrel
            have L9 : Hid (Ml w wr b m g' cap' LF TT LF TT) := hl9
            have F59 : Hid (FlS wr p5 xs) := hf5
            have F69 : Hid (FlS wr p6 xs) := hf6
            clear hl9 hf5 hf6 L8 F58 F68
            by_cases hlt9 : k < xs.length
            · have k0 : (0 : Int) ≤ (k : Int) := by omega
              have k1 : (k : Int) < (xs.length : Int) := by omega
              have hr9 : xs[k]? = some xs[k] := List.getElem?_eq_getElem hlt9
              generalize xs[k] = c at hr9
              obtain ⟨g5, hp5, d5⟩ := F59.out k c hr9
              obtain ⟨g6, hp6, d6⟩ := F69.out k c hr9
              subst hp5 hp6
              have a0 := d5 0 _ rfl
              have a1 := d5 1 _ rfl
              have a2 := d5 2 _ rfl
              have a3 := d5 3 _ rfl
              have a4 := d5 4 _ rfl
              have a5 := d5 5 _ rfl
              have a6 := d5 6 _ rfl
              have a7 := d5 7 _ rfl
              have e0 := d6 0 _ rfl
              have e1 := d6 1 _ rfl
              have e2 := d6 2 _ rfl
              have e3 := d6 3 _ rfl
              have e4 := d6 4 _ rfl
              have e5 := d6 5 _ rfl
              have e6 := d6 6 _ rfl
              have e7 := d6 7 _ rfl
              simp only [Nat.add_zero] at a0 e0
              have hq : ∀ w : World, (binOp .neq 35 (.agg #[.int .i64 c.pr, .int .i64 c.ia, .int .i64 c.ip, .int .i64 c.fa, .int .i64 c.fp, .int .i64 c.po, .int .i64 c.st, .int .i64 c.un]) (.agg #[.int .i64 c.pr, .int .i64 c.ia, .int .i64 c.ip, .int .i64 c.fa, .int .i64 c.fp, .int .i64 c.po, .int .i64 c.st, .int .i64 c.un])).run Tryd.prog w = .ok (.bool false) w := neq_flow c
              have L10 : Hid (Ml w wr.drew b m g' cap' LF TT LF TT) := L9.out.drew
              have F510 : Hid (FlS wr.drew (some ⟨g5, 0, none⟩) xs) := F59.out.below (Below.refl _ _).drew
              have F610 : Hid (FlS wr.drew (some ⟨g6, 0, none⟩) xs) := F69.out.below (Below.refl _ _).drew
              clear d5 d6 hr9 hlt9
              go_wp2_with fail
              go_region
              all_goals
                go_wp2_with fail
                go_roundw
                case rel => exact ⟨k + 1, by omega, by go_num, L10.out, F510.out, F610.out⟩
                case measure => simp [intOf]; omega
            · obtain rfl : k = xs.length := by omega
              have hlt' : ¬ (xs.length : Int) < (xs.length : Int) := by omega
              go_wp2_with fail
              go_roundw
              case rel => exact ⟨i + 1, g', cap', LF, TT, by omega, by go_num, L9.out⟩
              case measure => simp [intOf]; omega
    · obtain rfl : i = ts.length := by omega
      have hdi : ¬ ((ts.length : Int) < (ts.length : Int)) := by omega
      go_wp2_with fail
      go_ret
      exact ⟨rfl, M1.out.bl⟩
theorem tells_any (v : Value) (ts : List Td) (s : Nat → Addr) (w : World) (S : Sents w s) (I : TdsIn w v ts) :
    Calls Tryd.prog 5 #[v] w fun e w' => e = .returned (.bool true) ∧ Below w.heap.size w w' := by
  obtain ⟨p, cp, rfl, hI⟩ := I
  by_cases h : 60 < ts.length
  · exact tells_long p _ cp s w S h
  · exact tells_ok p cp ts s w S hI (by omega)
end Go.Proofs.YtabbpdgamfoicabDoor
