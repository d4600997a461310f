/-
  The law TableApart, walked: its acts.
-/
import Derived.Test.YteiaamboijimnaaDoorTbL
import Derived.Test.YteiaamboijimnaaDoorTaM
import Derived.Test.YteiaamboijimnaaDoorTbQ
import Derived.Test.YteiaamboijimnaaDoorTbK
import Derived.Deep.DeepCutAuto
import Derived.Deep.CutRange
namespace Go.Proofs.YteiaamboijimnaaDoor
open Go.RowKit

set_option maxRecDepth 100000 in
set_option maxHeartbeats 4000000 in
theorem apart_none (node : Int) (v : Value) (l : List Ac) (s : Nat → Addr) (w : World) (S : Se4 w s) (I : ActsIn w v l) (h : 100 < l.length ∨ node < 0 ∨ 1 < node) :
    Calls Tryd.prog 9 #[.int .i64 node, v] w fun e w' => e = .returned (.bool true) ∧ Below w.heap.size w w' := by
  have HS : Hid (Se4 w s) := S
  obtain ⟨p, cap, rfl, _⟩ := I
  clear S
  go_enter Tryd.func9, Tryd.ntmps9
  go_wp2_with fail
  refine (listed_any s _ HS.out).mono ?_
  rintro e w1 ⟨rfl, hb1⟩
  have B1 : Hid (Below w.heap.size w w1) := hb1
  clear hb1
  by_cases h1 : (100 : Int) < (l.length : Int)
  · clear h
    go_wp2_with fail
    all_goals go_ret
    all_goals exact ⟨rfl, B1.out⟩
  by_cases h2 : node < 0
  · clear h
    go_wp2_with fail
    all_goals go_ret
    all_goals exact ⟨rfl, B1.out⟩
  have h3 : 1 < node := by omega
  clear h
  go_wp2_with fail
  all_goals go_ret
  all_goals exact ⟨rfl, B1.out⟩
set_option maxRecDepth 100000 in
set_option maxHeartbeats 4000000 in
theorem apart_ok (node : Nat) (v : Value) (l : List Ac) (s : Nat → Addr) (w : World) (S : Se4 w s) (I : ActsIn w v l) (hl : l.length ≤ 100) (hn : node < 2) :
    Calls Tryd.prog 9 #[.int .i64 node, v] w fun e w' => e = .returned (.bool true) ∧ Below w.heap.size w w' := by
  have HS : Hid (Se4 w s) := S
  obtain ⟨p, cap, rfl, I0⟩ := I
  have HI : Hid (∀ (i : Nat) a, l[i]? = some a → ∃ b o, p = some ⟨b, o, none⟩ ∧ AcAt w b (o + i * 10) a) := I0
  clear S I0
  have h1 : ¬ (100 : Int) < (l.length : Int) := by omega
  have h2 : ¬ (node : Int) < 0 := by omega
  have h3 : ¬ (1 : Int) < (node : Int) := by omega
  have hl1 : Hid (2000 + (node : Int) * 24 ≤ 100000) := by show _ ≤ _; omega
  have hl0 : Hid (0 ≤ 2000 + (node : Int) * 24) := by show _ ≤ _; omega
  have hw1 : IntKind.i64.wrap ((node : Int) * 24) = (node : Int) * 24 := by rw [IntKind.wrap_i64]; omega
  have hw2 : IntKind.i64.wrap (2000 + (node : Int) * 24) = 2000 + (node : Int) * 24 := by rw [IntKind.wrap_i64]; omega
  have hw3 : IntKind.i64.wrap (2000 + (node : Int) * 24 + 24) = 2000 + (node : Int) * 24 + 24 := by rw [IntKind.wrap_i64]; omega
  go_enter Tryd.func9, Tryd.ntmps9
  go_wp2_with fail
  refine (listed_any s _ HS.out).mono ?_
  rintro e w1 ⟨rfl, hb1⟩
  have B1 : Hid (Below w.heap.size w w1) := hb1
  clear hb1
  go_wp2_with fail
  refine (new_ok node w1 hn).mono ?_
  rintro e w2 ⟨b, rfl, t2', hbb, hb2⟩
  have T2 : Hid (Tab w2 b (2000 + node * 24) newT) := t2'
  have B2 : Hid (Below w.heap.size w w2) := t2 B1.out hb2
  have HW : Hid (w.heap.size ≤ b) := Nat.le_trans B1.out.size hbb
  clear t2' hbb hb2 B1
  obtain ⟨low, hlow⟩ : ∃ low, low = 2000 + (node : Int) * 24 := ⟨_, rfl⟩
  have HLow : Hid (low = 2000 + (node : Int) * 24) := hlow
  rw [← hlow] at T2 hl1 hl0 hw2 hw3
  clear hlow
  go_wp2_with fail
  go_loopw [8] (fun t wr => ∃ (j : Nat) (T : Tb), j ≤ l.length ∧ t = .int .i64 j ∧ Tab wr b low T ∧ Vers T j ∧ Apart T ∧ Below w.heap.size w wr) (fun t _ => l.length - (intOf t).toNat)
  case atStart => exact ⟨0, newT, by omega, rfl, T2.out, Vers.new, apart_new, B2.out⟩
  case round =>
    obtain ⟨j, T, hj, rfl, htb, hve, hap, hbr⟩ := hrel
    have HT : Hid (Tab wr b low T) := htb
    have HV : Hid (Vers T j) := hve
    have HA : Hid (Apart T) := hap
    have HB : Hid (Below w.heap.size w wr) := hbr
    clear htb hve hap hbr T2 B2
    by_cases hlt : j < l.length
    · have hr : l[j]? = some l[j] := List.getElem?_eq_getElem hlt
      generalize l[j] = a at hr
      obtain ⟨x, o, rfl, g⟩ := HI.out j a hr
      obtain ⟨c0, c1, c2, c3, c4, c5, c6, c7, c8, c9⟩ := g.below HB.out
      clear g HI
      have i0 : (0 : Int) ≤ (j : Int) := by omega
      have i1 : (j : Int) < (l.length : Int) := by omega
      clear hr
      have T3 : Hid (Tab (wr.alloc (.cells #[.string a.ki, .int .i64 a.sl, .int .i64 a.f.pr, .int .i64 a.f.ia, .int .i64 a.f.ip, .int .i64 a.f.fa, .int .i64 a.f.fp, .int .i64 a.f.po, .int .i64 a.f.st, .int .i64 a.f.un] 74)) b low T) := HT.out.alloc _
      have B3 : Hid (Below w.heap.size w (wr.alloc (.cells #[.string a.ki, .int .i64 a.sl, .int .i64 a.f.pr, .int .i64 a.f.ia, .int .i64 a.f.ip, .int .i64 a.f.fa, .int .i64 a.f.fp, .int .i64 a.f.po, .int .i64 a.f.st, .int .i64 a.f.un] 74))) := HB.out.alloc HB.out.size _
      rcases qa : (a.ki.toList == [97, 100, 100]) with _ | _
      · rcases qp : (a.ki.toList == [112, 117, 116]) with _ | _
        · rcases qd : (a.ki.toList == [100, 114, 111, 112]) with _ | _
          · go_wp2_with fail
            exact ⟨⟨j + 1, T, by omega, by go_num, T3.out, HV.out.more (by omega), HA.out, B3.out⟩, by simp [intOf]; omega⟩
          · go_wp2_with fail
            clear c0 c1 c2 c3 c4 c5 c6 c7 c8 c9 qa qp qd
            refine (drop_any b low T a.sl j s _ (HS.out.below B3.out) T3.out HV.out (by omega)).mono ?_
            rintro e w4 ⟨rfl, t4, k4⟩
            have T4 : Hid (Tab w4 b low (dropT T a.sl)) := t4
            have B4 : Hid (Below w.heap.size w w4) := Chg.below B3.out k4 HW.out
            clear t4 k4
            go_wp2_with fail
            exact ⟨⟨j + 1, dropT T a.sl, by omega, by go_num, T4.out, HV.out.drop _, apart_drop HA.out _, B4.out⟩, by simp [intOf]; omega⟩
        · go_wp2_with fail
          clear c0 c1 c2 c3 c4 c5 c6 c7 c8 c9 qa qp
          refine (put_any b low T a.f j s _ (HS.out.below B3.out) T3.out HV.out (by omega)).mono ?_
          rintro e w4 ⟨rfl, t4, k4⟩
          have B4 : Hid (Below w.heap.size w w4) := Chg.below B3.out k4 HW.out
          have V4 : Hid (Vers (putT T a.f.pr a.f.ia a.f.ip a.f.fa a.f.fp a.f.po a.f.st a.f.un).2.2 (j + 1)) := HV.out.put _ _ _ _ _ _ _ _
          have A4 : Hid (Apart (putT T a.f.pr a.f.ia a.f.ip a.f.fa a.f.fp a.f.po a.f.st a.f.un).2.2) := apart_put HA.out _ _ _ _ _ _ _ _
          generalize putT T a.f.pr a.f.ia a.f.ip a.f.fa a.f.fp a.f.po a.f.st a.f.un = R at *
          obtain ⟨rk, rc, rT⟩ := R
          have T4 : Hid (Tab w4 b low rT) := t4
          clear t4 k4
          simp only at V4 A4 ⊢
          go_wp2_with fail
          exact ⟨⟨j + 1, rT, by omega, by go_num, T4.out, V4.out, A4.out, B4.out⟩, by simp [intOf]; omega⟩
      · go_wp2_with fail
        clear c0 c1 c2 c3 c4 c5 c6 c7 c8 c9 qa
        refine (add_any b low T a.f.pr a.f.ia a.f.ip a.f.fa a.f.fp a.f.st a.f.un j s _ (HS.out.below B3.out) T3.out hl0.out hl1.out HV.out (by omega)).mono ?_
        rintro e w4 ⟨rfl, t4, k4⟩
        have B4 : Hid (Below w.heap.size w w4) := Chg.below B3.out k4 HW.out
        have V4 : Hid (Vers (addT T low a.f.pr a.f.ia a.f.ip a.f.fa a.f.fp a.f.st a.f.un).2.2 (j + 1)) := HV.out.add _ _ _ _ _ _ _ _
        have A4 : Hid (Apart (addT T low a.f.pr a.f.ia a.f.ip a.f.fa a.f.fp a.f.st a.f.un).2.2) := apart_add HA.out _ _ _ _ _ _ _ _
        have P4 : Hid ((addT T low a.f.pr a.f.ia a.f.ip a.f.fa a.f.fp a.f.st a.f.un).2.1 = 0 → (addT T low a.f.pr a.f.ia a.f.ip a.f.fa a.f.fp a.f.st a.f.un).1 < 32 ∧ low ≤ ((addT T low a.f.pr a.f.ia a.f.ip a.f.fa a.f.fp a.f.st a.f.un).2.2 (addT T low a.f.pr a.f.ia a.f.ip a.f.fa a.f.fp a.f.st a.f.un).1).po ∧ ((addT T low a.f.pr a.f.ia a.f.ip a.f.fa a.f.fp a.f.st a.f.un).2.2 (addT T low a.f.pr a.f.ia a.f.ip a.f.fa a.f.fp a.f.st a.f.un).1).po < low + 24) := add_port
        generalize addT T low a.f.pr a.f.ia a.f.ip a.f.fa a.f.fp a.f.st a.f.un = R at *
        obtain ⟨rk, rc, rT⟩ := R
        have T4 : Hid (Tab w4 b low rT) := t4
        clear t4 k4
        simp only at V4 A4 P4 ⊢
        cases rc with
        | succ rc =>
          clear P4
          simp only [terr]
          go_wp2_with fail
          exact ⟨⟨j + 1, rT, by omega, by go_num, T4.out, V4.out, A4.out, B4.out⟩, by simp [intOf]; omega⟩
        | zero =>
          obtain ⟨p1, p2, p3⟩ := P4.out rfl
          clear P4
          simp only [terr]
          go_wp2_with fail
          refine (get_ok b low rT rk w4 T4.out p1).mono ?_
          rintro e w5 ⟨rfl, hb5⟩
          have B5 : Hid (Below w.heap.size w w5) := t2 B4.out hb5
          have T5 : Hid (Tab w5 b low rT) := T4.out.below hb5
          clear hb5 T4 B4
          obtain ⟨C, hC⟩ : ∃ C, C = rT rk := ⟨_, rfl⟩
          rw [← hC] at p2 p3 ⊢
          clear hC
          simp only [cellV]
          have hlo := HLow.out
          have q1 : ¬ C.po < 2000 + (node : Int) * 24 := by omega
          have q2 : ¬ 2000 + (node : Int) * 24 + 24 ≤ C.po := by omega
          subst hlo
          go_wp2_with fail
          exact ⟨⟨j + 1, rT, by omega, by go_num, T5.out.alloc _, V4.out, A4.out, B5.out.alloc B5.out.size _⟩, by simp [intOf]; omega⟩
    · have hle : ¬ (j : Int) < (l.length : Int) := by omega
      go_wp2_with fail
      refine (cells_any b low T wr HT.out).mono ?_
      rintro e w3 ⟨rfl, hc3, hb3⟩
      obtain ⟨Z, hZ⟩ : ∃ Z, Z = wr.heap.size := ⟨_, rfl⟩
      rw [← hZ] at hc3 ⊢
      have C3 : Hid (CellsB w3 Z T) := hc3
      have B3 : Hid (Below w.heap.size w w3) := t2 HB.out hb3
      clear hc3 hb3 hZ
      go_wp2_with fail
      go_loopw [16] (fun t wi => ∃ i : Nat, i ≤ 32 ∧ t = .int .i64 i ∧ CellsB wi Z T ∧ Below w.heap.size w wi) (fun t _ => 32 - (intOf t).toNat)
      case atStart => exact ⟨0, by omega, rfl, C3.out, B3.out⟩
      case round =>
        obtain ⟨i, hi, rfl, hci, hbi⟩ := hrel
        have CI : Hid (CellsB wr Z T) := hci
        have BI : Hid (Below w.heap.size w wr) := hbi
        clear hci hbi C3 B3
        by_cases hi32 : i < 32
        · have hdi : decide ((i : Int) < 32) = true := decide_eq_true (by omega)
          go_wp2_with fail
          try rw [hdi]
          go_loopw [17] (fun t wi => ∃ k : Nat, k ≤ i ∧ t = .int .i64 k ∧ CellsB wi Z T ∧ Below w.heap.size w wi) (fun t _ => i - (intOf t).toNat)
          case atStart => exact ⟨0, by omega, rfl, CI.out, BI.out⟩
          case round =>
            obtain ⟨k, hk, rfl, hck, hbk⟩ := hrel
            have CK : Hid (CellsB wr Z T) := hck
            have BK : Hid (Below w.heap.size w wr) := hbk
            clear hck hbk CI BI
            by_cases hki : k < i
            · have hki' : (k : Int) < (i : Int) := by omega
              have j0 : (0 : Int) ≤ (i : Int) := by omega
              have j1 : (i : Int) < 32 := by omega
              have j2 : (0 : Int) ≤ (k : Int) := by omega
              have j3 : (k : Int) < 32 := by omega
              have AP : Hid ((T i).pr ≠ 0 → (T i).pr = (T k).pr → (T i).fa = (T k).fa → (T i).fp = (T k).fp → (T i).po ≠ (T k).po ∧ ¬ ((T i).ia = (T k).ia ∧ (T i).ip = (T k).ip)) := HA.out i k hi32 (by omega) (by omega)
              have a2 := CK.out.at' (i := i) (k := 2) hi32 (by omega)
              have a3 := CK.out.at' (i := i) (k := 3) hi32 (by omega)
              have a4 := CK.out.at' (i := i) (k := 4) hi32 (by omega)
              have a5 := CK.out.at' (i := i) (k := 5) hi32 (by omega)
              have a6 := CK.out.at' (i := i) (k := 6) hi32 (by omega)
              have a7 := CK.out.at' (i := i) (k := 7) hi32 (by omega)
              have a8 := CK.out.at' (i := i) (k := 8) hi32 (by omega)
              have a9 := CK.out.at' (i := i) (k := 9) hi32 (by omega)
              have b2 := CK.out.at' (i := k) (k := 2) (by omega) (by omega)
              have b3 := CK.out.at' (i := k) (k := 3) (by omega) (by omega)
              have b4 := CK.out.at' (i := k) (k := 4) (by omega) (by omega)
              have b5 := CK.out.at' (i := k) (k := 5) (by omega) (by omega)
              have b6 := CK.out.at' (i := k) (k := 6) (by omega) (by omega)
              have b7 := CK.out.at' (i := k) (k := 7) (by omega) (by omega)
              have b8 := CK.out.at' (i := k) (k := 8) (by omega) (by omega)
              have b9 := CK.out.at' (i := k) (k := 9) (by omega) (by omega)
              simp only [Ce.get] at a2 a3 a4 a5 a6 a7 a8 a9 b2 b3 b4 b5 b6 b7 b8 b9
              have hZl := CK.out.lt
              generalize T i = A at a2 a3 a4 a5 a6 a7 a8 a9 AP
              generalize T k = B at b2 b3 b4 b5 b6 b7 b8 b9 AP
              have f1 : ∀ w : World, (binOp .neq 37 (.agg #[.int .i64 A.fa, .int .i64 A.fp]) (.agg #[.int .i64 B.fa, .int .i64 B.fp])).run Tryd.prog w = .ok (.bool (!(A.fa == B.fa && A.fp == B.fp))) w := neq_end _ _ _ _
              have f2 : ∀ w : World, (binOp .eql 37 (.agg #[.int .i64 A.ia, .int .i64 A.ip]) (.agg #[.int .i64 B.ia, .int .i64 B.ip])).run Tryd.prog w = .ok (.bool (A.ia == B.ia && A.ip == B.ip)) w := eql_end _ _ _ _
              have HQ : Hid ((A.fa == B.fa && A.fp == B.fp) = true → A.fa = B.fa ∧ A.fp = B.fp) := fun h => by simpa using h
              have HI2 : Hid ((A.ia == B.ia && A.ip == B.ip) = true → A.ia = B.ia ∧ A.ip = B.ip) := fun h => by simpa using h
              generalize hq2 : (A.fa == B.fa && A.fp == B.fp) = q2 at f1 HQ
              generalize hq3 : (A.ia == B.ia && A.ip == B.ip) = q3 at f2 HI2
              clear hq2 hq3
              have BK2 : ∀ o1 o2 : Obj, Below w.heap.size w ((wr.alloc o1).alloc o2) := fun o1 o2 => (BK.out.alloc BK.out.size _).alloc (by have := BK.out.size; simp; omega) _
              have HBK2 : Hid (∀ o1 o2 : Obj, Below w.heap.size w ((wr.alloc o1).alloc o2)) := BK2
              have HCK2 : Hid (∀ o1 o2 : Obj, CellsB ((wr.alloc o1).alloc o2) Z T) := fun o1 o2 => (CK.out.below (aB _ _)).below (aB _ _)
              clear BK2
              rcases h0 : (A.pr == 0) with _ | _
              · rcases h1' : (A.pr != B.pr) with _ | _
                · cases q2
                  · go_wp2_with fail
                    go_roundw
                    case rel => exact ⟨k + 1, by omega, by go_num, HCK2.out _ _, HBK2.out _ _⟩
                    case measure => simp [intOf]; omega
                  · obtain ⟨r1, r2⟩ := AP.out (beq_eq_false_iff_ne.1 h0) (by simpa using h1') (HQ.out rfl).1 (HQ.out rfl).2
                    have h3 : (A.po == B.po) = false := beq_eq_false_iff_ne.2 r1
                    cases q3
                    · clear r1 r2
                      go_wp2_with fail
                      go_roundw
                      case rel => exact ⟨k + 1, by omega, by go_num, HCK2.out _ _, HBK2.out _ _⟩
                      case measure => simp [intOf]; omega
                    · exact absurd (HI2.out rfl) r2
                · go_wp2_with fail
                  go_roundw
                  case rel => exact ⟨k + 1, by omega, by go_num, HCK2.out _ _, HBK2.out _ _⟩
                  case measure => simp [intOf]; omega
              · go_wp2_with fail
                go_roundw
                case rel => exact ⟨k + 1, by omega, by go_num, HCK2.out _ _, HBK2.out _ _⟩
                case measure => simp [intOf]; omega
            · have hki' : ¬ (k : Int) < (i : Int) := by omega
              go_wp2_with fail
              go_roundw
              case rel => exact ⟨i + 1, by omega, by go_num, CK.out, BK.out⟩
              case measure => simp [intOf]; omega
        · have hdi : ¬ ((i : Int) < 32) := by omega
          go_wp2_with fail
          go_ret
          exact ⟨rfl, BI.out⟩
theorem apart_any (node : Int) (v : Value) (l : List Ac) (s : Nat → Addr) (w : World) (S : Se4 w s) (I : ActsIn w v l) :
    Calls Tryd.prog 9 #[.int .i64 node, v] w fun e w' => e = .returned (.bool true) ∧ Below w.heap.size w w' := by
  by_cases h : 100 < l.length ∨ node < 0 ∨ 1 < node
  · exact apart_none node v l s w S I h
  · obtain ⟨n, rfl⟩ : ∃ n : Nat, node = n := ⟨node.toNat, by omega⟩
    exact apart_ok n v l s w S I (by omega) (by omega)
end Go.Proofs.YteiaamboijimnaaDoor
