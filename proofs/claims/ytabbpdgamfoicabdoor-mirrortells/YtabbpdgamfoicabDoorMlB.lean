/-
  The document's mirror: Tell.
-/
import Derived.Test.YtabbpdgamfoicabDoorMiE
import Derived.Deep.QuietTactic
import Derived.BigQuiet
namespace Go.Proofs.YtabbpdgamfoicabDoor
open Go.RowKit

/-- the document's mirror in memory. -/
structure RMir (w : World) (m g cap : Nat) (life : Int) (T : Tb) : Prop where
  c0 : w.cell? ⟨m, 0, none⟩ = some (.int .i64 life)
  c1 : w.cell? ⟨m, 1, none⟩ = some (.slice (some ⟨g, 0, none⟩) 32 cap)
  f0 : w.frozen? ⟨m, 0, none⟩ = false
  f1 : w.frozen? ⟨m, 1, none⟩ = false
  sl : Sl10 w g T
  ne : m ≠ g
theorem frozen_of_block {w w' : World} {a : Addr} (h : w'.heap[a.block]? = w.heap[a.block]?) : w'.frozen? a = w.frozen? a := by
  unfold World.frozen?; rw [h]
/-- all but two blocks is as it was. -/
structure Chg2 (m g : Nat) (w w' : World) : Prop where
  os : w'.os = w.os
  tape : w'.tape = w.tape
  output : w'.output = w.output
  size : w.heap.size ≤ w'.heap.size
  block : ∀ k, k < w.heap.size → k ≠ m → k ≠ g → w'.heap[k]? = w.heap[k]?
theorem Chg2.refl (m g : Nat) (w : World) : Chg2 m g w w := ⟨rfl, rfl, rfl, Nat.le_refl _, fun _ _ _ _ => rfl⟩
theorem Chg2.then {m g : Nat} {w v v' : World} (h : Chg2 m g w v) (k : Below v.heap.size v v') : Chg2 m g w v' :=
  ⟨k.os.trans h.os, k.tape.trans h.tape, k.output.trans h.output, Nat.le_trans h.size k.size, fun i hi h1 h2 => (k.block i (Nat.lt_of_lt_of_le hi h.size)).trans (h.block i hi h1 h2)⟩
theorem Chg2.on {m g b : Nat} {w v v' : World} (h : Chg2 m g w v) (k : Chg b v v') (hb : b = m ∨ b = g ∨ w.heap.size ≤ b) : Chg2 m g w v' :=
  ⟨k.os.trans h.os, k.tape.trans h.tape, k.output.trans h.output, Nat.le_trans h.size k.size, fun i hi h1 h2 => (k.block i (Nat.lt_of_lt_of_le hi h.size) (fun e => by
    rcases hb with rfl | rfl | hb
    · exact h1 e
    · exact h2 e
    · omega)).trans (h.block i hi h1 h2)⟩
theorem Chg2.keeps {m g : Nat} {w w' : World} (h : Chg2 m g w w') {a : Addr} {v : Value} (h1 : a.block ≠ m) (h2 : a.block ≠ g) (hc : w.cell? a = some v) : w'.cell? a = some v := by
  rw [World.cell?_of_block (w := w) (h.block a.block (tlt hc) h1 h2)]; exact hc
theorem TcAt.chg2 {w w' : World} {b o m g : Nat} {x : Tc} (h : TcAt w b o x) (hb : Chg2 m g w w') (h1 : b ≠ m) (h2 : b ≠ g) : TcAt w' b o x :=
  ⟨hb.keeps h1 h2 h.c0, hb.keeps h1 h2 h.c1, hb.keeps h1 h2 h.c2, hb.keeps h1 h2 h.c3, hb.keeps h1 h2 h.c4, hb.keeps h1 h2 h.c5, hb.keeps h1 h2 h.c6, hb.keeps h1 h2 h.c7, hb.keeps h1 h2 h.c8, hb.keeps h1 h2 h.c9⟩
theorem Mir.chg2 {w w' : World} {b m g : Nat} {life : Int} {T : Tb} (h : Mir w b life T) (k : Chg2 m g w w') (h1 : b ≠ m) (h2 : b ≠ g) : Mir w' b life T := by
  unfold Mir; rw [k.block b h.lt h1 h2]; exact h
theorem Chg2.below {m g : Nat} {w0 w w' : World} (h : Below w0.heap.size w0 w) (k : Chg2 m g w w') (h1 : w0.heap.size ≤ m) (h2 : w0.heap.size ≤ g) : Below w0.heap.size w0 w' :=
  h.trans ⟨k.os, k.tape, k.output, k.size, fun i hi => k.block i (Nat.lt_of_lt_of_le hi h.size) (by omega) (by omega)⟩
theorem RMir.below {w w' : World} {m g cap : Nat} {life : Int} {T : Tb} (h : RMir w m g cap life T) (hb : Below w.heap.size w w') : RMir w' m g cap life T :=
  ⟨tk hb h.c0, tk hb h.c1, (frozen_of_block (hb.block m (tlt h.c0))).trans h.f0, (frozen_of_block (hb.block m (tlt h.c0))).trans h.f1, h.sl.below hb, h.ne⟩
theorem RMir.chg {w w' : World} {m g cap b : Nat} {life : Int} {T : Tb} (h : RMir w m g cap life T) (hb : Chg b w w') (hm : m ≠ b) (hg : g ≠ b) : RMir w' m g cap life T :=
  ⟨hb.keeps hm h.c0, hb.keeps hm h.c1, (frozen_of_block (hb.block m (tlt h.c0) hm)).trans h.f0, (frozen_of_block (hb.block m (tlt h.c0) hm)).trans h.f1, h.sl.chg hb hg, h.ne⟩
theorem RMir.on {w w' : World} {m g cap : Nat} {life : Int} {T U : Tb} (h : RMir w m g cap life T) (hb : Chg g w w') (hs : Sl10 w' g U) : RMir w' m g cap life U :=
  ⟨hb.keeps h.ne h.c0, hb.keeps h.ne h.c1, (frozen_of_block (hb.block m (tlt h.c0) h.ne)).trans h.f0, (frozen_of_block (hb.block m (tlt h.c0) h.ne)).trans h.f1, hs, h.ne⟩
theorem put_all2 (d c : Ce) : (((((((((d.put c.ve 1).put c.pr 2).put c.ia 3).put c.ip 4).put c.fa 5).put c.fp 6).put c.po 7).put c.st 8).put c.un 9) = c := by
  cases c
  rfl
theorem sl_put10 {w : World} {b : Nat} {T : Tb} (h : Sl10 w b T) (k : Nat) (c : Ce) (hk : k < 32) : Sl10 ((((((((((w.setCell ⟨b, k * 10, none⟩ (.int .i64 k)).setCell ⟨b, k * 10 + 1, none⟩ (.int .i64 c.ve)).setCell ⟨b, k * 10 + 2, none⟩ (.int .i64 c.pr)).setCell ⟨b, k * 10 + 3, none⟩ (.int .i64 c.ia)).setCell ⟨b, k * 10 + 4, none⟩ (.int .i64 c.ip)).setCell ⟨b, k * 10 + 5, none⟩ (.int .i64 c.fa)).setCell ⟨b, k * 10 + 6, none⟩ (.int .i64 c.fp)).setCell ⟨b, k * 10 + 7, none⟩ (.int .i64 c.po)).setCell ⟨b, k * 10 + 8, none⟩ (.int .i64 c.st)).setCell ⟨b, k * 10 + 9, none⟩ (.int .i64 c.un)) b (upd T k c) := by
  have h := h.slot (i := k) hk
  have h := h.put (i := k) (k := 1) c.ve hk (by omega) (by omega)
  have h := h.put (i := k) (k := 2) c.pr hk (by omega) (by omega)
  have h := h.put (i := k) (k := 3) c.ia hk (by omega) (by omega)
  have h := h.put (i := k) (k := 4) c.ip hk (by omega) (by omega)
  have h := h.put (i := k) (k := 5) c.fa hk (by omega) (by omega)
  have h := h.put (i := k) (k := 6) c.fp hk (by omega) (by omega)
  have h := h.put (i := k) (k := 7) c.po hk (by omega) (by omega)
  have h := h.put (i := k) (k := 8) c.st hk (by omega) (by omega)
  have h := h.put (i := k) (k := 9) c.un hk (by omega) (by omega)
  simp only [upd_same, upd_upd, put_all2] at h
  exact h
theorem sl_chg10 (w : World) (b k : Nat) (c : Ce) : Chg b w ((((((((((w.setCell ⟨b, k * 10, none⟩ (.int .i64 k)).setCell ⟨b, k * 10 + 1, none⟩ (.int .i64 c.ve)).setCell ⟨b, k * 10 + 2, none⟩ (.int .i64 c.pr)).setCell ⟨b, k * 10 + 3, none⟩ (.int .i64 c.ia)).setCell ⟨b, k * 10 + 4, none⟩ (.int .i64 c.ip)).setCell ⟨b, k * 10 + 5, none⟩ (.int .i64 c.fa)).setCell ⟨b, k * 10 + 6, none⟩ (.int .i64 c.fp)).setCell ⟨b, k * 10 + 7, none⟩ (.int .i64 c.po)).setCell ⟨b, k * 10 + 8, none⟩ (.int .i64 c.st)).setCell ⟨b, k * 10 + 9, none⟩ (.int .i64 c.un)) :=
  (((((((((Chg.set b _ w _).trans (Chg.set b _ _ _)).trans (Chg.set b _ _ _)).trans (Chg.set b _ _ _)).trans (Chg.set b _ _ _)).trans (Chg.set b _ _ _)).trans (Chg.set b _ _ _)).trans (Chg.set b _ _ _)).trans (Chg.set b _ _ _)).trans (Chg.set b _ _ _)
theorem cS {w : World} {a : Addr} {u v : Value} (h : w.cell? a = some u) : (w.setCell a v).cell? a = some v := World.cell?_setCell_same' w a v (by rw [h]; rfl)
theorem cO {w : World} {a b : Addr} {v : Value} (h : a ≠ b) : (w.setCell a v).cell? b = w.cell? b := by
  apply World.cell?_setCell_other
  exact h
/-- what the document's Tell leaves. -/
def RTold (w w' : World) (m g : Nat) (life : Int) (T : Tb) : Prop := (∃ g' cap', RMir w' m g' cap' life T ∧ (g' = g ∨ w.heap.size ≤ g')) ∧ Chg2 m g w w'
set_option maxRecDepth 100000 in
set_option maxHeartbeats 8000000 in
theorem rtell_any (m g cap : Nat) (life old : Int) (T : Tb) (l : List Tc) (p : Option Addr) (cp : Nat) (w : World) (M : RMir w m g cap old T) (R : TcR w p l) (hp : l ≠ [] → ∀ b o, p = some ⟨b, o, none⟩ → b ≠ m ∧ b ≠ g) (hl : l.length ≤ 100000) :
    Calls Tryd.prog 36 #[.pointer (some ⟨m, 0, none⟩), .int .i64 life, .slice p l.length cp] w fun e w' => e = .returned (.int .i64 (tellE old life l : Nat)) ∧ RTold w w' m g (tellLife old life l) (tellT old life T l) := by
  have HM : Hid (RMir w m g cap old T) := M
  have HR : Hid (TcR w p l) := R
  have HP : Hid (l ≠ [] → ∀ b o, p = some ⟨b, o, none⟩ → b ≠ m ∧ b ≠ g) := hp
  clear M R hp
  have HBAD : Hid ((life < 1 ∨ 8 < l.length ∨ (l.any fun x => !okS x) = true) → tellE old life l = 2 ∧ RTold w w m g (tellLife old life l) (tellT old life T l)) := fun h => by
    have hE : tellE old life l = 2 := by unfold tellE; rw [if_pos h]
    refine ⟨hE, ?_⟩
    unfold tellLife tellT
    rw [hE]
    exact ⟨⟨g, cap, HM.out, .inl rfl⟩, Chg2.refl _ _ _⟩
  have HOLD : Hid (¬ (life < 1 ∨ 8 < l.length ∨ (l.any fun x => !okS x) = true) → life < old → tellE old life l = 10 ∧ RTold w w m g (tellLife old life l) (tellT old life T l)) := fun h h4 => by
    have hE : tellE old life l = 10 := by unfold tellE; rw [if_neg h, if_pos h4]
    refine ⟨hE, ?_⟩
    unfold tellLife tellT
    rw [hE]
    exact ⟨⟨g, cap, HM.out, .inl rfl⟩, Chg2.refl _ _ _⟩
  have HOK : Hid (¬ (life < 1 ∨ 8 < l.length ∨ (l.any fun x => !okS x) = true) → ¬ life < old → tellE old life l = 0 ∧ tellLife old life l = life ∧ tellT old life T l = takeL (if old < life then newT else T) l) := fun h h4 => by
    have hE : tellE old life l = 0 := by unfold tellE; rw [if_neg h, if_neg h4]
    unfold tellLife tellT
    rw [hE]
    exact ⟨rfl, rfl, rfl⟩
  obtain ⟨E, hE⟩ : ∃ E, E = tellE old life l := ⟨_, rfl⟩
  obtain ⟨LF, hLF⟩ : ∃ E, E = tellLife old life l := ⟨_, rfl⟩
  obtain ⟨TT, hTT⟩ : ∃ E, E = tellT old life T l := ⟨_, rfl⟩
  rw [← hE, ← hLF, ← hTT] at HBAD HOLD HOK ⊢
  clear hE hLF hTT
  go_enter Tryd.func36, Tryd.ntmps36
  by_cases h1 : life < 1
  · obtain ⟨hE, hT⟩ := HBAD.out (.inl h1)
    have HE : Hid (E = 2) := hE
    have HT : Hid (RTold w w m g LF TT) := hT
    clear hE hT
    go_wp2_with fail
    go_ret
    exact ⟨by rw [HE.out]; rfl, HT.out⟩
  by_cases h2 : 8 < l.length
  · have h2' : (8 : Int) < (l.length : Int) := by omega
    obtain ⟨hE, hT⟩ := HBAD.out (.inr (.inl h2))
    have HE : Hid (E = 2) := hE
    have HT : Hid (RTold w w m g LF TT) := hT
    clear hE hT
    go_wp2_with fail
    go_ret
    exact ⟨by rw [HE.out]; rfl, HT.out⟩
  have h2' : ¬ (8 : Int) < (l.length : Int) := by omega
  have H1 : Hid (¬ life < 1) := h1
  have H2 : Hid (¬ 8 < l.length) := h2
  go_wp2_with fail
  go_loopw [7] (fun t wr => ∃ j : Nat, j ≤ l.length ∧ t = .int .i64 j ∧ ((l.take j).any fun x => !okS x) = false ∧ wr = w) (fun t _ => l.length - (intOf t).toNat)
  case atStart => exact ⟨0, Nat.zero_le _, rfl, rfl, rfl⟩
  case round =>
    obtain ⟨j, hj, rfl, hno, rfl⟩ := hrel
    have HN : Hid (((l.take j).any fun x => !okS x) = false) := hno
    clear hno
    by_cases hlt : j < l.length
    · have hr : l[j]? = some l[j] := List.getElem?_eq_getElem hlt
      obtain ⟨y, hy⟩ : ∃ y, y = l[j] := ⟨_, rfl⟩
      rw [← hy] at hr
      have HY : Hid (l[j]? = some y) := hr
      clear hy
      obtain ⟨b, o, rfl, hc⟩ := HR.out j y hr
      have c0 := hc.c0
      have j0 : (0 : Int) ≤ (j : Int) := by omega
      have j1 : (j : Int) < (l.length : Int) := by omega
      clear hr hc
      by_cases hbad : y.sl < 0 ∨ 32 ≤ y.sl
      · have HT0 : Hid ((l.any fun x => !okS x) = true) := by
          show _ = _
          rw [List.any_eq_true]
          refine ⟨y, List.mem_of_getElem? HY.out, ?_⟩
          cases hd : okS y
          · rfl
          · have := okS_iff.1 hd; omega
        obtain ⟨hE, hT⟩ := HBAD.out (.inr (.inr HT0.out))
        have HE : Hid (E = 2) := hE
        have HT : Hid (RTold wr wr m g LF TT) := hT
        clear hE hT HT0
        by_cases hneg : y.sl < 0
        · clear hbad
          go_wp2_with fail
          go_ret
          exact ⟨by rw [HE.out]; rfl, HT.out⟩
        · have hge : 32 ≤ y.sl := by omega
          clear hbad
          go_wp2_with fail
          go_ret
          exact ⟨by rw [HE.out]; rfl, HT.out⟩
      · have n1 : ¬ y.sl < 0 := by omega
        have n2 : ¬ 32 ≤ y.sl := by omega
        have HT : Hid (((l.take (j + 1)).any fun x => !okS x) = false) := by
          show _ = _
          have hd : okS y = true := okS_iff.2 ⟨by omega, by omega⟩
          rw [List.take_add_one, HY.out, List.any_append, HN.out]
          simp only [Option.toList_some, List.any_cons, List.any_nil, hd, Bool.or_false, Bool.not_true]
        clear hbad
        go_wp2_with fail
        go_roundw
        case rel => exact ⟨j + 1, by omega, by go_num, HT.out, by first | rfl | trivial⟩
        case measure => simp [intOf]; omega
    · obtain rfl : j = l.length := by omega
      rw [List.take_length] at HN
      have hdi : ¬ ((l.length : Int) < (l.length : Int)) := by omega
      have HG : Hid (¬ (life < 1 ∨ 8 < l.length ∨ (l.any fun x => !okS x) = true)) := by
        show ¬ _
        rintro (h | h | h)
        · have := H1.out; omega
        · have := H2.out; omega
        · rw [HN.out] at h; cases h
      have m0 := HM.out.c0
      by_cases h4 : life < old
      · obtain ⟨hE, hT⟩ := HOLD.out HG.out h4
        have HE : Hid (E = 10) := hE
        have HT : Hid (RTold wr wr m g LF TT) := hT
        clear hE hT
        go_wp2_with fail
        go_ret
        exact ⟨by rw [HE.out]; rfl, HT.out⟩
      · obtain ⟨hE, hL, hT⟩ := HOK.out HG.out (by omega)
        obtain ⟨U, hU⟩ : ∃ U, U = if old < life then newT else T := ⟨_, rfl⟩
        rw [← hU] at hT
        have HE : Hid (E = 0) := hE
        have HLF : Hid (LF = life) := hL
        have HTT : Hid (TT = takeL U l) := hT
        have HU : Hid (U = if old < life then newT else T) := hU
        clear hE hL hT hU HOK HOLD HBAD
        go_upto_if 47 with fail
        go_cut [48, 49, 50, 51, 52, 53, 54, 55] (fun _ _ _ _ _ _ _ _ wx => ∃ g1 cap1, RMir wx m g1 cap1 life U ∧ (g1 = g ∨ wr.heap.size ≤ g1) ∧ Chg2 m g wr wx)
        case first =>
          by_cases h5 : old < life
          · have HNW : Hid (U = newT) := by show _ = _; rw [HU.out, if_pos h5]
            have f0 := HM.out.f0
            go_wp2_with fail
            have C1 : Hid (Chg m wr (wr.setCell ⟨m, 0, none⟩ (.int .i64 life))) := Chg.set m 0 _ _
            have D0 : Hid ((wr.setCell ⟨m, 0, none⟩ (.int .i64 life)).cell? ⟨m, 0, none⟩ = some (.int .i64 life)) := cS m0
            have D1 : Hid ((wr.setCell ⟨m, 0, none⟩ (.int .i64 life)).cell? ⟨m, 1, none⟩ = some (.slice (some ⟨g, 0, none⟩) 32 cap)) := by
              show _ = _
              rw [cO (by simp)]; exact HM.out.c1
            have F0 : Hid ((wr.setCell ⟨m, 0, none⟩ (.int .i64 life)).frozen? ⟨m, 0, none⟩ = false) := by show _ = _; rw [World.frozen?_setCell]; exact HM.out.f0
            have F1 : Hid ((wr.setCell ⟨m, 0, none⟩ (.int .i64 life)).frozen? ⟨m, 1, none⟩ = false) := by show _ = _; rw [World.frozen?_setCell]; exact HM.out.f1
            generalize wr.setCell ⟨m, 0, none⟩ (.int .i64 life) = w1 at *
            refine (empty_any _).mono ?_
            rintro e w2 ⟨⟨ge, ce, rfl, hge, hs⟩, hb2⟩
            have S2 : Hid (Sl10 w2 ge newT) := hs
            have GE : Hid (w1.heap.size ≤ ge) := hge
            have B2 : Hid (Below w1.heap.size w1 w2) := hb2
            have HML : Hid (m < w1.heap.size) := tlt D0.out
            have e1 := tk hb2 D1.out
            have E0 : Hid (w2.cell? ⟨m, 0, none⟩ = some (.int .i64 life)) := tk hb2 D0.out
            have e2 : w2.frozen? ⟨m, 1, none⟩ = false := (frozen_of_block (hb2.block m HML.out)).trans F1.out
            have E3 : Hid (w2.frozen? ⟨m, 0, none⟩ = false) := (frozen_of_block (hb2.block m HML.out)).trans F0.out
            have E1 : Hid (w2.cell? ⟨m, 1, none⟩ = some (.slice (some ⟨g, 0, none⟩) 32 cap)) := e1
            have E2 : Hid (w2.frozen? ⟨m, 1, none⟩ = false) := e2
            clear hs hge hb2
            go_wp2_with fail
            go_meet
            case rel =>
              have hne : m ≠ ge := fun e => by have := HML.out; have := GE.out; omega
              refine ⟨ge, ce, ⟨?_, cS E1.out, ?_, ?_, ?_, hne⟩, .inr (Nat.le_trans C1.out.size GE.out), ?_⟩
              · rw [cO (by simp)]; exact E0.out
              · rw [World.frozen?_setCell]; exact E3.out
              · rw [World.frozen?_setCell]; exact E2.out
              · rw [HNW.out]; exact S2.out.chg (Chg.set m 1 _ _) hne.symm
              · exact (((Chg2.refl m g _).on C1.out (.inl rfl)).then B2.out).on (Chg.set m 1 _ _) (.inl rfl)
          · have HNW : Hid (U = T) := by show _ = _; rw [HU.out, if_neg h5]
            have HLE : Hid (old = life) := by show _ = _; omega
            go_wp2_with fail
            go_meet
            case rel =>
              refine ⟨g, cap, ?_, .inl rfl, Chg2.refl _ _ _⟩
              rw [HNW.out, ← HLE.out]
              exact HM.out
        case rest =>
          obtain ⟨g1, cap1, hm1, hg1, hc1⟩ := hcut
          have M2 : Hid (RMir wc m g1 cap1 life U) := hm1
          have G2 : Hid (g1 = g ∨ wr.heap.size ≤ g1) := hg1
          have C2 : Hid (Chg2 m g wr wc) := hc1
          clear hm1 hg1 hc1 m0
          obtain ⟨w0, rfl⟩ : ∃ w0, w0 = wr := ⟨_, rfl⟩
          go_wp2_with fail
          go_loopw [8] (fun t wi => ∃ j : Nat, j ≤ l.length ∧ t = .int .i64 j ∧ RMir wi m g1 cap1 life (takeL U (l.take j)) ∧ Chg2 m g w0 wi) (fun t _ => l.length - (intOf t).toNat)
          case atStart => exact ⟨0, Nat.zero_le _, rfl, M2.out, C2.out⟩
          case round =>
            obtain ⟨j, hj, rfl, hm3, hc3⟩ := hrel
            have M3 : Hid (RMir wr m g1 cap1 life (takeL U (l.take j))) := hm3
            have C3 : Hid (Chg2 m g w0 wr) := hc3
            clear hm3 hc3
            by_cases hlt : j < l.length
            · have hr : l[j]? = some l[j] := List.getElem?_eq_getElem hlt
              obtain ⟨y, hy⟩ : ∃ y, y = l[j] := ⟨_, rfl⟩
              rw [← hy] at hr
              have hok : okS y = true := by
                have h := List.any_eq_false.1 HN.out y (List.mem_of_getElem? hr)
                cases hd : okS y
                · rw [hd] at h; simp at h
                · rfl
              have hsl := okS_iff.1 hok
              obtain ⟨b, o, hpe, hc⟩ := HR.out j y hr
              subst hpe
              have hne : l ≠ [] := fun e => by rw [e] at hlt; simp at hlt
              have hc := hc.chg2 C3.out (HP.out hne b o rfl).1 (HP.out hne b o rfl).2
              clear hne
              have HY : Hid (takeL U (l.take (j + 1)) = takeT (takeL U (l.take j)) y) := takeL_take U l j y hr
              clear hy hr hok
              obtain ⟨sl, c⟩ := y
              simp only at hsl
              obtain ⟨k, rfl⟩ : ∃ k : Nat, sl = k := ⟨sl.toNat, by omega⟩
              have hk : k < 32 := by omega
              have k0 : (0 : Int) ≤ (k : Int) := by omega
              have k1 : (k : Int) < 32 := by omega
              have j0 : (0 : Int) ≤ (j : Int) := by omega
              have j1 : (j : Int) < (l.length : Int) := by omega
              clear hsl
              obtain ⟨TJ, hTJ⟩ : ∃ TJ, TJ = takeL U (l.take j) := ⟨_, rfl⟩
              rw [← hTJ] at HY M3
              clear hTJ
              have HC : Hid (TcAt wr b (o + j * 10) ⟨k, c⟩) := hc
              clear hc
              obtain ⟨x, hx⟩ : ∃ x, x = (TJ k).ve := ⟨_, rfl⟩
              have HX : Hid (x = (TJ k).ve) := hx
              have m1 : wr.cell? ⟨g1, k * 10 + 1, none⟩ = some (.int .i64 x) := by rw [hx]; exact M3.out.sl.at' hk (by omega)
              have m2 := M3.out.c1
              have c0 : wr.cell? ⟨b, o + j * 10, none⟩ = some (.int .i64 k) := HC.out.c0
              have c1 : wr.cell? ⟨b, o + j * 10 + 1, none⟩ = some (.int .i64 c.ve) := HC.out.c1
              clear hx
              by_cases hv : x < c.ve
              · have HT : Hid (takeL U (l.take (j + 1)) = upd TJ k c) := by
                  show _ = _
                  rw [HY.out]
                  unfold takeT
                  simp only [Int.toNat_natCast]
                  rw [if_pos (by rw [← HX.out]; exact hv)]
                go_wp2_with fail
                go_quiet (fail)
                have M4 : Hid (RMir (wr.drewN nq) m g1 cap1 life TJ) := M3.out.below ⟨rfl, rfl, rfl, Nat.le_refl _, fun _ _ => rfl⟩
                have C4 : Hid (Chg2 m g w0 (wr.drewN nq)) := C3.out.then ⟨rfl, rfl, rfl, Nat.le_refl _, fun _ _ => rfl⟩
                have HC4 : Hid (TcAt (wr.drewN nq) b (o + j * 10) ⟨k, c⟩) := HC.out.below ⟨rfl, rfl, rfl, Nat.le_refl _, fun _ _ => rfl⟩
                generalize wr.drewN nq = w4 at *
                clear m1 m2 c0 c1 M3 C3 HC
                have m2 := M4.out.c1
                have c0 : w4.cell? ⟨b, o + j * 10, none⟩ = some (.int .i64 k) := HC4.out.c0
                obtain ⟨_, c1, c2, c3, c4, c5, c6, c7, c8, c9⟩ := HC4.out
                have g0 := M4.out.sl.at' (k := 0) hk (by omega)
                have q1 := M4.out.sl.at' (k := 1) hk (by omega)
                have q2 := M4.out.sl.at' (k := 2) hk (by omega)
                have q3 := M4.out.sl.at' (k := 3) hk (by omega)
                have q4 := M4.out.sl.at' (k := 4) hk (by omega)
                have q5 := M4.out.sl.at' (k := 5) hk (by omega)
                have q6 := M4.out.sl.at' (k := 6) hk (by omega)
                have q7 := M4.out.sl.at' (k := 7) hk (by omega)
                have q8 := M4.out.sl.at' (k := 8) hk (by omega)
                have q9 := M4.out.sl.at' (k := 9) hk (by omega)
                simp only [Nat.add_zero] at g0
                simp only at c1 c2 c3 c4 c5 c6 c7 c8 c9
                have fz := M4.out.sl.fr
                go_wp2_with fail
                go_region
                have M5 : Hid (RMir ((((((((((w4.setCell ⟨g1, k * 10, none⟩ (.int .i64 k)).setCell ⟨g1, k * 10 + 1, none⟩ (.int .i64 c.ve)).setCell ⟨g1, k * 10 + 2, none⟩ (.int .i64 c.pr)).setCell ⟨g1, k * 10 + 3, none⟩ (.int .i64 c.ia)).setCell ⟨g1, k * 10 + 4, none⟩ (.int .i64 c.ip)).setCell ⟨g1, k * 10 + 5, none⟩ (.int .i64 c.fa)).setCell ⟨g1, k * 10 + 6, none⟩ (.int .i64 c.fp)).setCell ⟨g1, k * 10 + 7, none⟩ (.int .i64 c.po)).setCell ⟨g1, k * 10 + 8, none⟩ (.int .i64 c.st)).setCell ⟨g1, k * 10 + 9, none⟩ (.int .i64 c.un)).drew m g1 cap1 life (takeL U (l.take (j + 1)))) := by
                  show RMir _ _ _ _ _ _
                  rw [HT.out]
                  exact (M4.out.on (sl_chg10 w4 g1 k c) (sl_put10 M4.out.sl k c hk)).below (Below.refl _ _).drew
                have C5 : Hid (Chg2 m g w0 ((((((((((w4.setCell ⟨g1, k * 10, none⟩ (.int .i64 k)).setCell ⟨g1, k * 10 + 1, none⟩ (.int .i64 c.ve)).setCell ⟨g1, k * 10 + 2, none⟩ (.int .i64 c.pr)).setCell ⟨g1, k * 10 + 3, none⟩ (.int .i64 c.ia)).setCell ⟨g1, k * 10 + 4, none⟩ (.int .i64 c.ip)).setCell ⟨g1, k * 10 + 5, none⟩ (.int .i64 c.fa)).setCell ⟨g1, k * 10 + 6, none⟩ (.int .i64 c.fp)).setCell ⟨g1, k * 10 + 7, none⟩ (.int .i64 c.po)).setCell ⟨g1, k * 10 + 8, none⟩ (.int .i64 c.st)).setCell ⟨g1, k * 10 + 9, none⟩ (.int .i64 c.un)).drew) := (C4.out.on (sl_chg10 w4 g1 k c) (.inr G2.out)).then (Below.refl _ _).drew
                generalize ((((((((((w4.setCell ⟨g1, k * 10, none⟩ (.int .i64 k)).setCell ⟨g1, k * 10 + 1, none⟩ (.int .i64 c.ve)).setCell ⟨g1, k * 10 + 2, none⟩ (.int .i64 c.pr)).setCell ⟨g1, k * 10 + 3, none⟩ (.int .i64 c.ia)).setCell ⟨g1, k * 10 + 4, none⟩ (.int .i64 c.ip)).setCell ⟨g1, k * 10 + 5, none⟩ (.int .i64 c.fa)).setCell ⟨g1, k * 10 + 6, none⟩ (.int .i64 c.fp)).setCell ⟨g1, k * 10 + 7, none⟩ (.int .i64 c.po)).setCell ⟨g1, k * 10 + 8, none⟩ (.int .i64 c.st)).setCell ⟨g1, k * 10 + 9, none⟩ (.int .i64 c.un)).drew = w5 at *
                clear c0 c1 c2 c3 c4 c5 c6 c7 c8 c9 g0 q1 q2 q3 q4 q5 q6 q7 q8 q9 fz m2
                go_wp2_with fail
                go_roundw
                case rel => exact ⟨j + 1, by omega, by go_num, M5.out, C5.out⟩
                case measure => simp [intOf]; omega
              · have HT : Hid (takeL U (l.take (j + 1)) = TJ) := by
                  show _ = _
                  rw [HY.out]
                  unfold takeT
                  simp only [Int.toNat_natCast]
                  rw [if_neg (by rw [← HX.out]; exact hv)]
                go_wp2_with fail
                go_quiet (fail)
                have M4 : Hid (RMir (wr.drewN nq) m g1 cap1 life (takeL U (l.take (j + 1)))) := by
                  show RMir _ _ _ _ _ _
                  rw [HT.out]
                  exact M3.out.below ⟨rfl, rfl, rfl, Nat.le_refl _, fun _ _ => rfl⟩
                have C4 : Hid (Chg2 m g w0 (wr.drewN nq)) := C3.out.then ⟨rfl, rfl, rfl, Nat.le_refl _, fun _ _ => rfl⟩
                generalize wr.drewN nq = w4 at *
                go_wp2_with fail
                go_roundw
                case rel => exact ⟨j + 1, by omega, by go_num, M4.out, C4.out⟩
                case measure => simp [intOf]; omega
            · obtain rfl : j = l.length := by omega
              have hdi' : ¬ ((l.length : Int) < (l.length : Int)) := by omega
              go_wp2_with fail
              go_ret
              refine ⟨by rw [HE.out]; rfl, ⟨g1, cap1, ?_, G2.out⟩, C3.out⟩
              have h := M3.out
              rw [List.take_length] at h
              rw [HLF.out, HTT.out]
              exact h
end Go.Proofs.YtabbpdgamfoicabDoor
