/-
  The law MirrorTurned: told in another order, and twice, a mirror is the same.
-/
import Derived.Test.YtabbpdgamfoicabDoorMiG
import Derived.Deep.QuietTactic
import Derived.BigQuiet
namespace Go.Proofs.YtabbpdgamfoicabDoor
open Go.RowKit

/-- told cells, and numbers, that came in. -/
def TcsIn (w : World) (v : Value) (l : List Tc) : Prop := ∃ (p : Option Addr) (cap : Nat), v = .slice p l.length cap ∧ TcR w p l
def IntR (w : World) (q : Option Addr) (xs : List Int) : Prop := ∀ (j : Nat) x, xs[j]? = some x → ∃ b o, q = some ⟨b, o, none⟩ ∧ w.cell? ⟨b, o + j, none⟩ = some (.int .i64 x)
def IntsIn (w : World) (v : Value) (xs : List Int) : Prop := ∃ (p : Option Addr) (cap : Nat), v = .slice p xs.length cap ∧ IntR w p xs
theorem qB (w : World) (m : Nat) : Below w.heap.size w (w.drewN m) := ⟨rfl, rfl, rfl, Nat.le_refl _, fun _ _ => rfl⟩
/-- a mirror that was told these, one by one, of life 7. -/
structure One (w : World) (b : Nat) (life : Int) (T : Tb) (m : List Tc) : Prop where
  mi : Mir w b life T
  li : life = 7 ∨ (life = 0 ∧ T = newT)
  ha : Has m T
theorem One.below {w w' : World} {b : Nat} {life : Int} {T : Tb} {m : List Tc} (h : One w b life T m) (hb : Below w.heap.size w w') : One w' b life T m := ⟨h.mi.below hb, h.li, h.ha⟩
theorem One.chg {w w' : World} {b c : Nat} {life : Int} {T : Tb} {m : List Tc} (h : One w c life T m) (hb : Chg b w w') (hn : c ≠ b) : One w' c life T m := ⟨h.mi.chg hb hn, h.li, h.ha⟩
theorem one_any (b : Nat) (life : Int) (T : Tb) (m : List Tc) (x : Tc) (s : Nat → Addr) (w : World) (S : Se2 w s) (O : One w b life T m) :
    Calls Tryd.prog 31 #[.pointer (some ⟨b, 0, none⟩), .int .i64 7, .slice (some ⟨w.heap.size, 0, none⟩) 1 1] (w.alloc (.cells #[.int .i64 x.sl, .int .i64 x.c.ve, .int .i64 x.c.pr, .int .i64 x.c.ia, .int .i64 x.c.ip, .int .i64 x.c.fa, .int .i64 x.c.fp, .int .i64 x.c.po, .int .i64 x.c.st, .int .i64 x.c.un] 58)) fun e w' => (∃ v, e = .returned v) ∧ (∃ life' T', One w' b life' T' (m ++ [x])) ∧ Chg b w w' := by
  have h1 := O.mi.lt
  refine (tell_any b 7 life T [x] (some ⟨w.heap.size, 0, none⟩) 1 s _ (S.below (aB _ _)) (O.mi.below (aB _ _)) (tcR_one (tcAt_new w x _)) ?_ (by simp)).mono ?_
  · intro g o e he
    injection e with e
    injection e with e1
    omega
  rintro e w' ⟨rfl, hm, hc⟩
  refine ⟨⟨_, rfl⟩, ⟨_, _, hm, tell_life life T x O.li, ?_⟩, (Chg.of (aB _ _)).trans hc⟩
  rw [tell_one life T x O.li]
  exact O.ha.one x
set_option maxRecDepth 100000 in
set_option maxHeartbeats 4000000 in
theorem turned_long (p q : Option Addr) (cp cq : Nat) (n m : Nat) (s : Nat → Addr) (w : World) (S : Se2 w s) (h : 40 < n ∨ 80 < m) :
    Calls Tryd.prog 4 #[.slice p n cp, .slice q m cq] w fun e w' => e = .returned (.bool true) ∧ Below w.heap.size w w' := by
  have HS : Hid (Se2 w s) := S
  clear S
  go_enter Tryd.func4, Tryd.ntmps4
  go_wp2_with fail
  refine (mirrored_any s _ HS.out).mono ?_
  rintro e w1 ⟨rfl, hb1⟩
  have B1 : Hid (Below w.heap.size w w1) := hb1
  clear hb1
  by_cases h1 : 40 < n
  · have h1' : (40 : Int) < (n : Int) := by omega
    go_wp2_with fail
    go_ret
    exact ⟨rfl, B1.out⟩
  · have h1' : ¬ (40 : Int) < (n : Int) := by omega
    have h2' : (80 : Int) < (m : Int) := by omega
    go_wp2_with fail
    go_ret
    exact ⟨rfl, B1.out⟩
/-- the pairs that were looked at are apart. -/
def ApI (l : List Tc) (i : Nat) : Prop := ∀ (i' k : Nat) x y, i' < i → k < i' → l[i']? = some x → l[k]? = some y → ¬ (x.sl = y.sl ∧ x.c.ve = y.c.ve)
def ApK (l : List Tc) (i j : Nat) : Prop := ∀ (k : Nat) x y, k < j → l[i]? = some x → l[k]? = some y → ¬ (x.sl = y.sl ∧ x.c.ve = y.c.ve)
theorem ApI.next {l : List Tc} {i : Nat} (h : ApI l i) (k : ApK l i i) : ApI l (i + 1) := fun i' j x y h1 h2 h3 h4 => by
  by_cases e : i' = i
  · subst e; exact k j x y h2 h3 h4
  · exact h i' j x y (by omega) h2 h3 h4
theorem ApK.next {l : List Tc} {i j : Nat} {a b : Tc} (h : ApK l i j) (ha : l[i]? = some a) (hb : l[j]? = some b) (hn : ¬ (a.sl = b.sl ∧ a.c.ve = b.c.ve)) : ApK l i (j + 1) := fun k x y h1 h2 h3 => by
  by_cases e : k = j
  · subst e
    rw [ha] at h2
    rw [hb] at h3
    obtain rfl := Option.some.inj h2
    obtain rfl := Option.some.inj h3
    exact hn
  · exact h k x y (by omega) h2 h3
/-- what the second mirror was told so far. -/
structure Tld (l : List Tc) (N i : Nat) (m : List Tc) : Prop where
  sub : ∀ x ∈ m, x ∈ l
  all : ∀ (k : Nat) x, N ≤ k + i → l[k]? = some x → x ∈ m
set_option maxRecDepth 100000 in
set_option maxHeartbeats 8000000 in
theorem turned_ok (p q : Option Addr) (cp cq : Nat) (l : List Tc) (xs : List Int) (s : Nat → Addr) (w : World) (S : Se2 w s) (L : TcR w p l) (I : IntR w q xs) (hl : l.length ≤ 40) (hx : xs.length ≤ 80) :
    Calls Tryd.prog 4 #[.slice p l.length cp, .slice q xs.length cq] w fun e w' => e = .returned (.bool true) ∧ Below w.heap.size w w' := by
  have HS : Hid (Se2 w s) := S
  have HL : Hid (TcR w p l) := L
  have HI : Hid (IntR w q xs) := I
  clear S L I
  have h1' : ¬ (40 : Int) < (l.length : Int) := by omega
  have h2' : ¬ (80 : Int) < (xs.length : Int) := by omega
  go_enter Tryd.func4, Tryd.ntmps4
  go_wp2_with fail
  refine (mirrored_any s _ HS.out).mono ?_
  rintro e w1 ⟨rfl, hb1⟩
  have B1 : Hid (Below w.heap.size w w1) := hb1
  clear hb1
  go_wp2_with fail
  go_loopw [6] (fun t wr => ∃ i : Nat, i ≤ l.length ∧ t = .int .i64 i ∧ ApI l i ∧ Below w.heap.size w wr) (fun t _ => l.length - (intOf t).toNat)
  case atStart => exact ⟨0, Nat.zero_le _, rfl, fun i' k x y h => by omega, B1.out⟩
  case round =>
    obtain ⟨i, hi, rfl, hap, hbr⟩ := hrel
    have HA : Hid (ApI l i) := hap
    have HB : Hid (Below w.heap.size w wr) := hbr
    clear hap hbr B1
    by_cases hlt : i < l.length
    · have hdi : decide ((i : Int) < (l.length : Int)) = true := decide_eq_true (by omega)
      have hr : l[i]? = some l[i] := List.getElem?_eq_getElem hlt
      obtain ⟨a, ha⟩ : ∃ a, a = l[i] := ⟨_, rfl⟩
      rw [← ha] at hr
      have HY : Hid (l[i]? = some a) := hr
      obtain ⟨g, o, hpe, hc⟩ := HL.out i a hr
      have HC : Hid (TcAt w g (o + i * 10) a) := hc
      subst hpe
      clear ha hr hc
      go_wp2_with fail
      try rw [hdi]
      go_loopw [7] (fun t wi => ∃ k : Nat, k ≤ i ∧ t = .int .i64 k ∧ ApK l i k ∧ Below w.heap.size w wi) (fun t _ => i - (intOf t).toNat)
      case atStart => exact ⟨0, Nat.zero_le _, rfl, fun k x y h => by omega, HB.out⟩
      case round =>
        obtain ⟨k, hk, rfl, hap, hbr⟩ := hrel
        have HK : Hid (ApK l i k) := hap
        have HB2 : Hid (Below w.heap.size w wr) := hbr
        clear hap hbr HB
        by_cases hki : k < i
        · have hki' : (k : Int) < (i : Int) := by omega
          have j0 : (0 : Int) ≤ (i : Int) := by omega
          have j1 : (i : Int) < (l.length : Int) := by omega
          have j2 : (0 : Int) ≤ (k : Int) := by omega
          have j3 : (k : Int) < (l.length : Int) := by omega
          have hr : l[k]? = some l[k] := List.getElem?_eq_getElem (by omega)
          obtain ⟨b, hb⟩ : ∃ b, b = l[k] := ⟨_, rfl⟩
          rw [← hb] at hr
          have HZ : Hid (l[k]? = some b) := hr
          obtain ⟨g', o', hpe, hc⟩ := HL.out k b hr
          obtain ⟨e1, e2⟩ : g' = g ∧ o' = o := by
            injection hpe with e
            injection e with e1 e2
            exact ⟨e1.symm, e2.symm⟩
          subst e1 e2
          have hd := hc.below HB2.out
          have he := HC.out.below HB2.out
          have c0 := hd.c0
          have c1 := hd.c1
          have d0 := he.c0
          have d1 := he.c1
          clear hb hr hc hd he hpe
          have B3 : Hid (∀ nq, Below w.heap.size w (wr.drewN nq)) := fun nq => t2 HB2.out (qB _ _)
          by_cases hsame : a.sl = b.sl ∧ a.c.ve = b.c.ve
          · obtain ⟨q1, q2⟩ := hsame
            rw [q1] at d0
            rw [q2] at d1
            go_wp2_with fail
            go_quiet (fail)
            go_wp2_with fail
            go_ret
            exact ⟨rfl, B3.out _⟩
          · have HN : Hid (ApK l i (k + 1)) := HK.out.next HY.out HZ.out hsame
            have hq : (a.sl == b.sl) = true → (a.c.ve == b.c.ve) = false := fun h => by
              rw [beq_eq_false_iff_ne]
              intro e
              exact hsame ⟨by simpa using h, e⟩
            clear hsame
            rcases q1 : (a.sl == b.sl) with _ | _
            · clear hq
              go_wp2_with fail
              go_quiet (fail)
              go_wp2_with fail
              go_roundw
              case rel => exact ⟨k + 1, by omega, by go_num, HN.out, B3.out _⟩
              case measure => simp [intOf]; omega
            · have q2 := hq q1
              clear hq
              go_wp2_with fail
              go_quiet (fail)
              go_wp2_with fail
              go_roundw
              case rel => exact ⟨k + 1, by omega, by go_num, HN.out, B3.out _⟩
              case measure => simp [intOf]; omega
        · obtain rfl : k = i := by omega
          have hki' : ¬ (k : Int) < (k : Int) := by omega
          go_wp2_with fail
          go_roundw
          case rel => exact ⟨k + 1, by omega, by go_num, HA.out.next HK.out, HB2.out⟩
          case measure => simp [intOf]; omega
    · obtain rfl : i = l.length := by omega
      have hdi : ¬ ((l.length : Int) < (l.length : Int)) := by omega
      go_wp2_with fail
      have HAP : Hid (TApart l) := fun i k x y h1 h2 h3 => HA.out i k x y (List.getElem?_eq_some_iff.1 h2).1 h1 h2 h3
      clear HA hi hlt hdi
      refine (mnew_any _).mono ?_
      rintro e w2 ⟨⟨A, rfl, hmA, hA⟩, hb2⟩
      have B2 : Hid (Below w.heap.size w w2) := t2 HB.out hb2
      have MA : Hid (One w2 A 0 newT []) := ⟨hmA, .inr ⟨rfl, rfl⟩, Has.nil⟩
      have LA : Hid (w.heap.size ≤ A) := Nat.le_trans HB.out.size hA
      clear hmA hA hb2 HB
      go_wp2_with fail
      refine (mnew_any _).mono ?_
      rintro e w3 ⟨⟨B, rfl, hmB, hB⟩, hb3⟩
      have B3 : Hid (Below w.heap.size w w3) := t2 B2.out hb3
      have MA3 : Hid (One w3 A 0 newT []) := MA.out.below hb3
      have MB3 : Hid (One w3 B 0 newT []) := ⟨hmB, .inr ⟨rfl, rfl⟩, Has.nil⟩
      have LB : Hid (w.heap.size ≤ B) := Nat.le_trans B2.out.size hB
      have NE : Hid (B ≠ A) := fun e => by have := MA.out.mi.lt; omega
      clear hmB hB hb3 B2 MA
      go_wp2_with fail
      go_loopw [10] (fun t wr => ∃ j : Nat, j ≤ l.length ∧ t = .int .i64 j ∧ (∃ life T, One wr A life T (l.take j)) ∧ One wr B 0 newT [] ∧ Below w.heap.size w wr) (fun t _ => l.length - (intOf t).toNat)
      case atStart => exact ⟨0, Nat.zero_le _, rfl, ⟨0, newT, MA3.out⟩, MB3.out, B3.out⟩
      case round =>
        obtain ⟨j, hj, rfl, ⟨life, T, hoa⟩, hob, hbr⟩ := hrel
        have OA : Hid (One wr A life T (l.take j)) := hoa
        have OB : Hid (One wr B 0 newT []) := hob
        have HB : Hid (Below w.heap.size w wr) := hbr
        clear hoa hob hbr MA3 MB3 B3
        by_cases hlt : j < l.length
        · have j0 : (0 : Int) ≤ (j : Int) := by omega
          have j1 : (j : Int) < (l.length : Int) := by omega
          have hr : l[j]? = some l[j] := List.getElem?_eq_getElem hlt
          obtain ⟨a, ha⟩ : ∃ a, a = l[j] := ⟨_, rfl⟩
          rw [← ha] at hr
          have HY : Hid (l.take (j + 1) = l.take j ++ [a]) := by show _ = _; rw [List.take_add_one, hr]; rfl
          obtain ⟨g, o, hpe, hc⟩ := HL.out j a hr
          subst hpe
          obtain ⟨c0, c1, c2, c3, c4, c5, c6, c7, c8, c9⟩ := hc.below HB.out
          clear ha hr hc
          go_wp2_with fail
          clear c0 c1 c2 c3 c4 c5 c6 c7 c8 c9
          refine (one_any A life T (l.take j) a s wr (HS.out.below HB.out) OA.out).mono ?_
          rintro e w4 ⟨⟨v, rfl⟩, ⟨life', T', h4⟩, hc4⟩
          rw [← HY.out] at h4
          have OA4 : Hid (One w4 A life' T' (l.take (j + 1))) := h4
          have OB4 : Hid (One w4 B 0 newT []) := OB.out.chg hc4 NE.out
          have HB4 : Hid (Below w.heap.size w w4) := Chg.below HB.out hc4 LA.out
          clear h4 hc4
          go_wp2_with fail
          go_roundw
          case rel => exact ⟨j + 1, by omega, by go_num, ⟨_, _, OA4.out⟩, OB4.out, HB4.out⟩
          case measure => simp [intOf]; omega
        · obtain rfl : j = l.length := by omega
          have hdi : ¬ ((l.length : Int) < (l.length : Int)) := by omega
          rw [List.take_length] at OA
          clear hlt hj
          have hw1 : IntKind.i64.wrap ((xs.length : Int) + (l.length : Int)) = (xs.length : Int) + (l.length : Int) := by rw [IntKind.wrap_i64]; omega
          have hw2 : IntKind.i64.wrap ((xs.length : Int) + (l.length : Int) - 1) = (xs.length : Int) + (l.length : Int) - 1 := by rw [IntKind.wrap_i64]; omega
          go_wp2_with fail
          go_loopw [11] (fun t wr => ∃ (i : Nat) (m : List Tc) (lb : Int) (U : Tb), i ≤ xs.length + l.length ∧ t = .int .i64 i ∧ Tld l (xs.length + l.length) i m ∧ One wr B lb U m ∧ One wr A life T l ∧ Below w.heap.size w wr) (fun t _ => xs.length + l.length - (intOf t).toNat)
          case atStart => exact ⟨0, [], 0, newT, Nat.zero_le _, rfl, ⟨fun x hx => by simp at hx, fun k x h1 h2 => by have := (List.getElem?_eq_some_iff.1 h2).1; omega⟩, OB.out, OA.out, HB.out⟩
          case round =>
            obtain ⟨i, m, lb, U, hi, rfl, htl, hob, hoa, hbr⟩ := hrel
            have OA5 : Hid (One wr A life T l) := hoa
            have OB5 : Hid (One wr B lb U m) := hob
            have HT : Hid (Tld l (xs.length + l.length) i m) := htl
            have HB5 : Hid (Below w.heap.size w wr) := hbr
            clear hoa hob htl hbr OA OB HB
            by_cases hlt : i < xs.length + l.length
            · have hlt' : (i : Int) < (xs.length : Int) + (l.length : Int) := by omega
              have j0 : (0 : Int) ≤ (i : Int) := by omega
              by_cases hix : i < xs.length
              · have hix' : (i : Int) < (xs.length : Int) := by omega
                have hr : xs[i]? = some xs[i] := List.getElem?_eq_getElem hix
                generalize xs[i] = z at hr
                obtain ⟨gx, ox, hqe, hcx⟩ := HI.out i z hr
                subst hqe
                have cx := tk HB5.out hcx
                clear hr hcx
                have HT6 : Hid (Tld l (xs.length + l.length) (i + 1) m) := ⟨HT.out.sub, fun k x h1 h2 => by have := (List.getElem?_eq_some_iff.1 h2).1; omega⟩
                by_cases hz0 : z < 0
                · have hz0' : ¬ 0 ≤ z := by omega
                  go_wp2_with fail
                  go_roundw
                  case rel => exact ⟨i + 1, m, lb, U, by omega, by go_num, HT6.out, OB5.out, OA5.out, HB5.out⟩
                  case measure => simp [intOf]; omega
                · obtain ⟨k, rfl⟩ : ∃ k : Nat, z = k := ⟨z.toNat, by omega⟩
                  have hz0' : (0 : Int) ≤ (k : Int) := by omega
                  by_cases hkl : k < l.length
                  · have hkl' : (k : Int) < (l.length : Int) := by omega
                    have hr : l[k]? = some l[k] := List.getElem?_eq_getElem hkl
                    obtain ⟨a, ha⟩ : ∃ a, a = l[k] := ⟨_, rfl⟩
                    rw [← ha] at hr
                    have HY : Hid (a ∈ l) := List.mem_of_getElem? hr
                    obtain ⟨g, o, hpe, hc⟩ := HL.out k a hr
                    subst hpe
                    obtain ⟨c0, c1, c2, c3, c4, c5, c6, c7, c8, c9⟩ := hc.below HB5.out
                    clear ha hr hc
                    go_wp2_with fail
                    clear c0 c1 c2 c3 c4 c5 c6 c7 c8 c9
                    refine (one_any B lb U m a s wr (HS.out.below HB5.out) OB5.out).mono ?_
                    rintro e w6 ⟨⟨v, rfl⟩, ⟨life', T', h6⟩, hc6⟩
                    have OB6 : Hid (One w6 B life' T' (m ++ [a])) := h6
                    have OA6 : Hid (One w6 A life T l) := OA5.out.chg hc6 (fun e => NE.out e.symm)
                    have HB6 : Hid (Below w.heap.size w w6) := Chg.below HB5.out hc6 LB.out
                    have HT7 : Hid (Tld l (xs.length + l.length) (i + 1) (m ++ [a])) := ⟨fun x hx => by
                      rcases List.mem_append.1 hx with hx | hx
                      · exact HT6.out.sub x hx
                      · simp at hx; subst hx; exact HY.out, fun k x h1 h2 => List.mem_append.2 (.inl (HT6.out.all k x h1 h2))⟩
                    clear h6 hc6
                    go_wp2_with fail
                    go_roundw
                    case rel => exact ⟨i + 1, _, _, _, by omega, by go_num, HT7.out, OB6.out, OA6.out, HB6.out⟩
                    case measure => simp [intOf]; omega
                  · have hkl' : ¬ (k : Int) < (l.length : Int) := by omega
                    go_wp2_with fail
                    go_roundw
                    case rel => exact ⟨i + 1, m, lb, U, by omega, by go_num, HT6.out, OB5.out, OA5.out, HB5.out⟩
                    case measure => simp [intOf]; omega
              · have hix' : ¬ (i : Int) < (xs.length : Int) := by omega
                obtain ⟨k, hk⟩ : ∃ k : Nat, k = xs.length + l.length - 1 - i := ⟨_, rfl⟩
                have hw3 : IntKind.i64.wrap ((xs.length : Int) + (l.length : Int) - 1 - (i : Int)) = (k : Int) := by rw [IntKind.wrap_i64]; omega
                have hz0' : (0 : Int) ≤ (k : Int) := by omega
                have hkl : k < l.length := by omega
                have hkl' : (k : Int) < (l.length : Int) := by omega
                have hr : l[k]? = some l[k] := List.getElem?_eq_getElem hkl
                obtain ⟨a, ha⟩ : ∃ a, a = l[k] := ⟨_, rfl⟩
                rw [← ha] at hr
                have HY : Hid (l[k]? = some a) := hr
                have HKE : Hid (k = xs.length + l.length - 1 - i) := hk
                obtain ⟨g, o, hpe, hc⟩ := HL.out k a hr
                subst hpe
                obtain ⟨c0, c1, c2, c3, c4, c5, c6, c7, c8, c9⟩ := hc.below HB5.out
                clear ha hr hc hk
                go_wp2_with fail
                clear c0 c1 c2 c3 c4 c5 c6 c7 c8 c9
                refine (one_any B lb U m a s wr (HS.out.below HB5.out) OB5.out).mono ?_
                rintro e w6 ⟨⟨v, rfl⟩, ⟨life', T', h6⟩, hc6⟩
                have OB6 : Hid (One w6 B life' T' (m ++ [a])) := h6
                have OA6 : Hid (One w6 A life T l) := OA5.out.chg hc6 (fun e => NE.out e.symm)
                have HB6 : Hid (Below w.heap.size w w6) := Chg.below HB5.out hc6 LB.out
                have HT7 : Hid (Tld l (xs.length + l.length) (i + 1) (m ++ [a])) := ⟨fun x hx => by
                  rcases List.mem_append.1 hx with hx | hx
                  · exact HT.out.sub x hx
                  · simp at hx; subst hx; exact List.mem_of_getElem? HY.out, fun k' x h1 h2 => by
                    by_cases e : k' = k
                    · subst e
                      rw [HY.out] at h2
                      obtain rfl := Option.some.inj h2
                      simp
                    · have := HKE.out
                      exact List.mem_append.2 (.inl (HT.out.all k' x (by omega) h2))⟩
                clear h6 hc6
                go_wp2_with fail
                go_roundw
                case rel => exact ⟨i + 1, _, _, _, by omega, by go_num, HT7.out, OB6.out, OA6.out, HB6.out⟩
                case measure => simp [intOf]; omega
            · obtain rfl : i = xs.length + l.length := by omega
              have hlt' : ¬ ((xs.length + l.length : Nat) : Int) < (xs.length : Int) + (l.length : Int) := by omega
              have HE : Hid (U = T) := by
                show _ = _
                refine OB5.out.ha.same OA5.out.ha (fun x => ⟨HT.out.sub x, fun hx => ?_⟩) (fun x hx y hy => HAP.out.mem x (HT.out.sub x hx) y (HT.out.sub y hy))
                obtain ⟨k, hk⟩ := List.getElem?_of_mem hx
                exact HT.out.all k x (by omega) hk
              have MB6 : Hid (Mir wr B lb T) := by
                show Mir _ _ _ _
                rw [← HE.out]
                exact OB5.out.mi
              have MA6 : Hid (Mir wr A life T) := OA5.out.mi
              clear OB5 OA5 HT HE hi hlt
              go_wp2_with fail
              refine (mcells_any A life T _ MA6.out).mono ?_
              rintro e w7 ⟨rfl, hc7, hb7⟩
              have C7 : Hid (CellsB w7 wr.heap.size T) := hc7
              have B7 : Hid (Below wr.heap.size wr w7) := hb7
              clear hc7 hb7
              go_wp2_with fail
              refine (mcells_any B lb T _ (MB6.out.below B7.out)).mono ?_
              rintro e w8 ⟨rfl, hc8, hb8⟩
              have C8 : Hid (CellsB w8 w7.heap.size T) := hc8
              have C7' : Hid (CellsB w8 wr.heap.size T) := C7.out.below hb8
              have B8 : Hid (Below wr.heap.size wr w8) := t2 B7.out hb8
              clear hc8 hb8 C7 B7
              go_wp2_with fail
              refine (sameC_any wr.heap.size w7.heap.size 32 32 T _ C7'.out.sl C8.out.sl).mono ?_
              rintro e w9 ⟨rfl, hb9⟩
              have B9 : Hid (Below wr.heap.size wr w9) := t2 B8.out hb9
              clear hb9 C7' C8 B8
              go_wp2_with fail
              refine (mcells_any A life T _ (MA6.out.below B9.out)).mono ?_
              rintro e w10 ⟨rfl, hc7, hb7⟩
              have C10 : Hid (CellsB w10 w9.heap.size T) := hc7
              have B10 : Hid (Below wr.heap.size wr w10) := t2 B9.out hb7
              clear hc7 hb7
              go_wp2_with fail
              refine (mcells_any B lb T _ (MB6.out.below B10.out)).mono ?_
              rintro e w11 ⟨rfl, hc8, hb8⟩
              have C11 : Hid (CellsB w11 w10.heap.size T) := hc8
              have C10' : Hid (CellsB w11 w9.heap.size T) := C10.out.below hb8
              have B11 : Hid (Below wr.heap.size wr w11) := t2 B10.out hb8
              clear hc8 hb8 C10
              go_wp2_with fail
              refine (msame_any w9.heap.size w10.heap.size 32 32 T _ C10'.out.sl C11.out.sl).mono ?_
              rintro e w12 ⟨rfl, hb12⟩
              have B12 : Hid (Below w.heap.size w w12) := t2 HB5.out (t2 B11.out hb12)
              clear hb12
              go_wp2_with fail
              go_ret
              exact ⟨rfl, B12.out⟩
theorem turned_any (v0 v1 : Value) (l : List Tc) (xs : List Int) (s : Nat → Addr) (w : World) (S : Se2 w s) (L : TcsIn w v0 l) (I : IntsIn w v1 xs) :
    Calls Tryd.prog 4 #[v0, v1] w fun e w' => e = .returned (.bool true) ∧ Below w.heap.size w w' := by
  obtain ⟨p, cp, rfl, hL⟩ := L
  obtain ⟨q, cq, rfl, hI⟩ := I
  by_cases h : 40 < l.length ∨ 80 < xs.length
  · exact turned_long p q cp cq _ _ s w S h
  · exact turned_ok p q cp cq l xs s w S hL hI (by omega) (by omega)
end Go.Proofs.YtabbpdgamfoicabDoor
