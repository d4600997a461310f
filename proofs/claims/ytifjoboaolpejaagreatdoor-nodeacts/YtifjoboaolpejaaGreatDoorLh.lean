/-
  Texts in one: NaO PoL NaI.
-/
import Derived.Test.YtifjoboaolpejaaGreatDoorKh
import Derived.Test.YtifjoboaolpejaaGreatDoorNoV
import Derived.Test.YtifjoboaolpejaaGreatDoorLb
import Derived.Deep.DeepCutAuto
import Derived.Deep.CutRange
import Derived.ProofKit
import Derived.OpenShut
import Derived.Lib.SmallJoins
import Derived.Deep.Slices
namespace Go.Proofs.YtifjoboaolpejaaGreatDoor
open Go.RowKit

/-- an act: its kind, a number, a packet, a note, rules. -/
structure Ac where
  kd : ByteArray
  n : Int
  p : Pk
  x : Nf
  xv : Value
  rv : Value
  ru : List Rl
instance : Inhabited Ac := ⟨⟨⟨#[]⟩, 0, ⟨0, 0, 0, 0, 0, 0⟩, ⟨0, 0, 0, false, []⟩, .slice none 0 0, .slice none 0 0, []⟩⟩
def acC (a : Ac) : List Value := [.string a.kd, .int .i64 a.n, .int .i64 a.p.pr, .int .i64 a.p.a1, .int .i64 a.p.p1, .int .i64 a.p.a2, .int .i64 a.p.p2, .int .i64 a.p.fl, .int .i64 a.x.fr, .int .i64 a.x.li, .int .i64 a.x.ep, .bool a.x.cl, a.xv, a.rv]
/-- what an act has of the world that it came in. -/
structure AcOk (w : World) (a : Ac) : Prop where
  ru : Sl w a.rv a.ru
  cs : TcS w a.xv a.x.cs
  ok : OkT a.x.cs
  pr : In6 a.p.pr
theorem AcOk.below {w w' : World} {a : Ac} (h : AcOk w a) (hb : Below w.heap.size w w') : AcOk w' a := ⟨h.ru.below hb, h.cs.below hb, h.ok, h.pr⟩
/-- a slice of acts that came in. -/
def AcsI (w : World) (v : Value) (l : List Ac) : Prop := ∃ (p : Option Addr) (cap : Nat), v = .slice p l.length cap ∧ l.length ≤ maxLen ∧ ∀ (i : Nat) a, l[i]? = some a → AcOk w a ∧ ∃ b o, p = some ⟨b, o, none⟩ ∧ ∀ (j : Nat) u, (acC a)[j]? = some u → w.cell? ⟨b, o + i * 14 + j, none⟩ = some u
theorem AcsI.below {w w' : World} {v : Value} {l : List Ac} (h : AcsI w v l) (hb : Below w.heap.size w w') : AcsI w' v l := by
  obtain ⟨p, cap, e, hm, h⟩ := h
  refine ⟨p, cap, e, hm, fun i x hx => ?_⟩
  obtain ⟨k, b, o, e2, q⟩ := h i x hx
  exact ⟨k.below hb, b, o, e2, fun j u hu => tk hb (q j u hu)⟩
/-- an act that fits. -/
def Ac.Fit (a : Ac) : Prop := a.x.cs.length ≤ 20 ∧ a.ru.length ≤ 30 ∧ a.n ≤ 1000
/-- what actsFit answers. -/
def AFit (l : List Ac) (e : Ending) : Prop := ∃ b, e = .returned (.bool b) ∧ (b = true → l.length ≤ 80 ∧ ∀ a ∈ l, a.Fit)
set_option maxRecDepth 100000 in
set_option maxHeartbeats 2000000 in
theorem afit_any (v : Value) (l : List Ac) (w : World) (h : AcsI w v l) :
    Calls Tryz.prog 5 #[v] w fun e w' => AFit l e ∧ Below w.heap.size w w' := by
  obtain ⟨p, cap, rfl, hmx, hl⟩ := h
  unfold maxLen at hmx
  have hm1 : (l.length : Int) ≤ 9223372036854775807 := by omega
  clear hmx
  have HL : Hid (∀ (i : Nat) a, l[i]? = some a → AcOk w a ∧ ∃ b o, p = some ⟨b, o, none⟩ ∧ ∀ (j : Nat) u, (acC a)[j]? = some u → w.cell? ⟨b, o + i * 14 + j, none⟩ = some u) := hl
  clear hl
  go_enter Tryz.func5, Tryz.ntmps5
  go_wp2_with fail
  go_loopw [3, 4] (fun tv ti wr => ∃ (i : Nat) (t : Int), i ≤ l.length ∧ ti = .int .i64 i ∧ tv = .int .i64 t ∧ 0 ≤ t ∧ t ≤ 1000 ∧ (∀ (j : Nat) a, j < i → l[j]? = some a → a.Fit) ∧ Below w.heap.size w wr) (fun _ ti _ => l.length - (intOf ti).toNat)
  case atStart => exact ⟨0, 0, by omega, rfl, rfl, by omega, by omega, fun j x hj _ => by omega, Below.refl _ _⟩
  case round =>
    obtain ⟨i, t, hi, rfl, rfl, ht0, ht1, hall, hbr⟩ := hrel
    have HA : Hid (∀ (j : Nat) a, j < i → l[j]? = some a → a.Fit) := hall
    have HB : Hid (Below w.heap.size w wr) := hbr
    have HT : Hid (0 ≤ t ∧ t ≤ 1000) := ⟨ht0, ht1⟩
    clear hall hbr ht0 ht1
    by_cases hlt : i < l.length
    · have i0 : (0 : Int) ≤ (i : Int) := by omega
      have i1 : (i : Int) < (l.length : Int) := by omega
      obtain ⟨a, ha⟩ : ∃ a, l[i]? = some a := ⟨l[i], List.getElem?_eq_getElem hlt⟩
      obtain ⟨ok, b, o, rfl, hc⟩ := HL.out i a ha
      obtain ⟨rp, rc, hrv, _⟩ := ok.ru.open
      obtain ⟨xp, xc, hxv, _⟩ := ok.cs.open
      have c0 : wr.cell? ⟨b, o + i * 14, none⟩ = some (.string a.kd) := tk HB.out (hc 0 _ rfl)
      have c1 : wr.cell? ⟨b, o + i * 14 + 1, none⟩ = some (.int .i64 a.n) := tk HB.out (hc 1 _ rfl)
      have c12 : wr.cell? ⟨b, o + i * 14 + 8 + 4, none⟩ = some (.slice xp a.x.cs.length xc) := tk HB.out (hc 12 _ (by rw [← hxv]; rfl))
      have c13 : wr.cell? ⟨b, o + i * 14 + 13, none⟩ = some (.slice rp a.ru.length rc) := tk HB.out (hc 13 _ (by rw [← hrv]; rfl))
      have HX : Hid (l[i]? = some a) := ha
      clear ok hc hrv hxv ha
      have i2 : (i : Int) + 1 ≤ 9223372036854775807 := by omega
      by_cases h1 : (20 : Int) < (a.x.cs.length : Int)
      · go_wp2_with fail
        go_ret
        exact ⟨⟨false, rfl, fun e => by cases e⟩, HB.out⟩
      · by_cases h2 : (30 : Int) < (a.ru.length : Int)
        · go_wp2_with fail
          go_ret
          exact ⟨⟨false, rfl, fun e => by cases e⟩, HB.out⟩
        · by_cases h3 : 1000 < a.n
          · go_wp2_with fail
            go_ret
            exact ⟨⟨false, rfl, fun e => by cases e⟩, HB.out⟩
          · have HF : Hid (a.Fit) := ⟨by omega, by omega, by omega⟩
            have HN : Hid (a.n ≤ 1000) := (by omega : a.n ≤ 1000)
            go_upto_region 7 with fail
            clear h1 h2 h3
            obtain ⟨kb, hkb⟩ : ∃ kb, (a.kd.toList == [116, 105, 99, 107]) = kb := ⟨_, rfl⟩
            obtain ⟨t', hwr⟩ : ∃ t', IntKind.i64.wrap (t + a.n) = t' := ⟨_, rfl⟩
            have HT' : Hid (0 < a.n → 0 ≤ t') := fun h => by have := HT.out; have := HN.out; rw [← hwr, IntKind.wrap_i64]; omega
            have HSt : Hid (∀ j b, j < i + 1 → l[j]? = some b → b.Fit) := fun j y hj hy => by
              by_cases e : j = i
              · subst e; rw [HX.out] at hy; cases hy; exact HF.out
              · exact HA.out j y (by omega) hy
            have HI : Hid (i + 1 ≤ l.length) := hlt
            have hmv : l.length - (i + 1) < l.length - i := by omega
            have htt : ¬ 1000 < t := by have := HT.out; omega
            cases kb
            · go_wp2_with fail
              go_roundw
              case rel => exact ⟨i + 1, t, HI.out, by go_num, rfl, HT.out.1, HT.out.2, HSt.out, HB.out⟩
              case measure => simp [intOf]; omega
            · by_cases h4 : 0 < a.n
              · clear htt
                by_cases h5 : 1000 < t'
                · go_wp2_with fail
                  go_ret
                  exact ⟨⟨false, rfl, fun e => by cases e⟩, HB.out⟩
                · go_wp2_with fail
                  go_roundw
                  case rel => exact ⟨i + 1, t', HI.out, by go_num, rfl, HT'.out h4, by omega, HSt.out, HB.out⟩
                  case measure => simp [intOf]; omega
              · go_wp2_with fail
                go_roundw
                case rel => exact ⟨i + 1, t, HI.out, by go_num, rfl, HT.out.1, HT.out.2, HSt.out, HB.out⟩
                case measure => simp [intOf]; omega
    · obtain rfl : i = l.length := by omega
      go_wp2_with fail
      go_ret
      refine ⟨⟨_, rfl, fun e => ⟨?_, fun x hx => ?_⟩⟩, HB.out⟩
      · have := of_decide_eq_true e; omega
      · obtain ⟨j, hj⟩ := List.getElem?_of_mem hx
        exact HA.out j x (List.getElem?_eq_some_iff.1 hj).1 hj
end Go.Proofs.YtifjoboaolpejaaGreatDoor

namespace Go.Proofs.YtifjoboaolpejaaGreatDoor
open Go.ChangeShapes Go.WideShapes Go.ChangeAt Go.RowKit

theorem Tryz.cellsPk : Tryz.prog.cellsOf 50 = 6 := by kernel_rfl
theorem Tryz.cellsEnd : Tryz.prog.cellsOf 48 = 2 := by kernel_rfl
theorem Tryz.cellsI : Tryz.prog.cellsOf 3 = 1 := by kernel_rfl
theorem array6 {α : Type} {cs : Array α} (h : cs.size = 6) : ∃ c0 c1 c2 c3 c4 c5, cs = #[c0, c1, c2, c3, c4, c5] := by
  obtain ⟨l⟩ := cs
  match l, h with
  | [c0, c1, c2, c3, c4, c5], _ => exact ⟨c0, c1, c2, c3, c4, c5, rfl⟩
set_option maxRecDepth 100000 in
theorem open_pkt {H : Type} {enc : TypeId × Value → H} {W : World} {b0 : Nat} {v : Value} {d : DataW H} {p : List MemPlace} {sp : Nat → Bool}
    (hv : Value.okWide Tryz.prog W .any b0 50 v) (h : DataW.Trod enc Tryz.prog W 0 sp true 50 v d p) :
    ∃ a1 a2 a3 a4 a5 a6 : Int, v = pkt a1 a2 a3 a4 a5 a6 ∧ p = [] := by
  obtain ⟨cs, rfl, hsz⟩ := okWide_struct Tryz.underlying50 hv
  obtain ⟨c0, c1, c2, c3, c4, c5, rfl⟩ := array6 (hsz.trans Tryz.cellsPk)
  obtain ⟨fuel, hf⟩ := h
  obtain ⟨y0, y1, y2, y3, n, hx, _, h0, h1, h2, h3⟩ := Joins.trod_struct4 Tryz.underlying50 hf
  simp only [Tryz.cellsI, Tryz.cellsEnd] at h0 h1 h2 h3
  obtain ⟨x0, e0, r0, _⟩ := DataW.trod_int Tryz.underlying3 h0
  obtain ⟨x3, e3, r3, _⟩ := DataW.trod_int Tryz.underlying3 h3
  obtain ⟨z0, z1, n1, hx1, _, k0, k1⟩ := trod_struct2 Tryz.underlying48 h1
  obtain ⟨z2, z3, n2, hx2, _, k2, k3⟩ := trod_struct2 Tryz.underlying48 h2
  simp only [Tryz.cellsI] at k0 k1 k2 k3
  obtain ⟨q0, f0, s0, _⟩ := DataW.trod_int Tryz.underlying3 k0
  obtain ⟨q1, f1, s1, _⟩ := DataW.trod_int Tryz.underlying3 k1
  obtain ⟨q2, f2, s2, _⟩ := DataW.trod_int Tryz.underlying3 k2
  obtain ⟨q3, f3, s3, _⟩ := DataW.trod_int Tryz.underlying3 k3
  simp [Value.cells] at e0 e3 f0 f1 f2 f3
  subst e0 e3 f0 f1 f2 f3
  refine ⟨_, _, _, _, _, _, rfl, ?_⟩
  have := (Prod.mk.inj hx).2
  rw [this, hx1, hx2, r0, r3, s0, s1, s2, s3]
  rfl

theorem Tryz.cellsRl : Tryz.prog.cellsOf 83 = 5 := by kernel_rfl
theorem Tryz.cellsB : Tryz.prog.cellsOf 4 = 1 := by kernel_rfl
set_option maxRecDepth 100000 in
theorem rl_cells {H : Type} {enc : TypeId × Value → H} {W : World} {b0 : Nat} {sp : Nat → Bool} {held : Bool} {fuel : Nat} {cs : List Value} {x : DataW H × List MemPlace}
    (h : DataW.trod enc Tryz.prog W b0 sp held fuel 83 cs = some x) : ∃ r : Rl, cs = rlC r := by
  obtain ⟨xs, n, _, _, hlen, hxl, hf⟩ := DataW.trod_struct Tryz.underlying83 h
  rw [Tryz.cellsRl] at hlen
  have hxl : xs.length = 5 := hxl
  match cs, hlen with
  | [c0, c1, c2, c3, c4], _ =>
    have g0 : DataW.trod enc Tryz.prog W b0 sp held n 4 (([c0, c1, c2, c3, c4].drop 0).take (Tryz.prog.cellsOf 4)) = xs[0]? := hf 0 _ rfl
    have g1 : DataW.trod enc Tryz.prog W b0 sp held n 4 (([c0, c1, c2, c3, c4].drop 1).take (Tryz.prog.cellsOf 4)) = xs[1]? := hf 1 _ rfl
    have g2 : DataW.trod enc Tryz.prog W b0 sp held n 3 (([c0, c1, c2, c3, c4].drop 2).take (Tryz.prog.cellsOf 3)) = xs[2]? := hf 2 _ rfl
    have g3 : DataW.trod enc Tryz.prog W b0 sp held n 3 (([c0, c1, c2, c3, c4].drop 3).take (Tryz.prog.cellsOf 3)) = xs[3]? := hf 3 _ rfl
    have g4 : DataW.trod enc Tryz.prog W b0 sp held n 3 (([c0, c1, c2, c3, c4].drop 4).take (Tryz.prog.cellsOf 3)) = xs[4]? := hf 4 _ rfl
    rw [Tryz.cellsB] at g0 g1
    rw [Tryz.cellsI] at g2 g3 g4
    rw [List.getElem?_eq_getElem (by omega)] at g0 g1 g2 g3 g4
    obtain ⟨y0, e0, _⟩ := DataW.trod_bool Tryz.underlying4 g0
    obtain ⟨y1, e1, _⟩ := DataW.trod_bool Tryz.underlying4 g1
    obtain ⟨y2, e2, _⟩ := DataW.trod_int Tryz.underlying3 g2
    obtain ⟨y3, e3, _⟩ := DataW.trod_int Tryz.underlying3 g3
    obtain ⟨y4, e4, _⟩ := DataW.trod_int Tryz.underlying3 g4
    simp at e0 e1 e2 e3 e4
    subst e0 e1 e2 e3 e4
    exact ⟨⟨y0, y1, y2, y3, y4⟩, rfl⟩
set_option maxRecDepth 100000 in
theorem open_rl {H : Type} {enc : TypeId × Value → H} {W : World} {b0 : Nat} {v : Value} {d : DataW H} {p : List MemPlace} {sp : Nat → Bool}
    (hv : Value.okWide Tryz.prog W .any b0 83 v) (h : DataW.Trod enc Tryz.prog W 0 sp true 83 v d p) :
    ∃ r : Rl, v = .agg #[.bool r.al, .bool r.ou, .int .i64 r.pr, .int .i64 r.lo, .int .i64 r.tp] := by
  obtain ⟨cs, rfl, hsz⟩ := okWide_struct Tryz.underlying83 hv
  obtain ⟨fuel, hf⟩ := h
  obtain ⟨r, hr⟩ := rl_cells hf
  have hr' : cs.toList = rlC r := hr
  refine ⟨r, ?_⟩
  obtain ⟨l⟩ := cs
  have : l = rlC r := hr'
  subst this
  rfl
theorem mapM_at {α β : Type} {f : α → Option β} : ∀ {l : List α} {r : List β}, l.mapM f = some r → ∀ (i : Nat) x, l[i]? = some x → f x = r[i]?
  | [], r, h, i, x, hx => by simp at hx
  | a :: l, r, h, i, x, hx => by
    rw [List.mapM_cons] at h
    obtain ⟨y, hy, h⟩ := Option.bind_eq_some_iff.1 h
    obtain ⟨ys, hys, h⟩ := Option.bind_eq_some_iff.1 h
    obtain rfl := Option.some.inj h
    cases i with
    | zero => simp at hx; subst hx; simpa using hy
    | succ i => simp at hx; simpa using mapM_at hys i x hx
set_option maxRecDepth 100000 in
theorem open_rules {H : Type} {enc : TypeId × Value → H} {W : World} {b0 : Nat} {v : Value} {d : DataW H} {p : List MemPlace} {sp : Nat → Bool}
    (hv : Value.okWide Tryz.prog W .any b0 22 v) (h : DataW.Trod enc Tryz.prog W 0 sp true 22 v d p) : ∃ l, Sl W v l := by
  obtain ⟨a0, len0, cap0, rfl⟩ := okWide_slice Tryz.underlying22 hv
  obtain ⟨fuel, hf⟩ := h
  rcases Go.Deep.open_slice Tryz.underlying22 hf with ⟨h0, _⟩ | ⟨a, len, cap, m, n, D, Pl, hcs, _, hlc, hmx, hm, _, hx⟩
  · have h0 : [Value.slice a0 len0 cap0] = [.slice none 0 0] := h0
    exact ⟨[], .inl ⟨by simpa using h0, rfl⟩⟩
  · have hcs : [Value.slice a0 len0 cap0] = [.slice (some a) len cap] := hcs
    have hcs : Value.slice a0 len0 cap0 = .slice (some a) len cap := by simpa using hcs
    rw [hcs]
    have hlm : len ≤ m := by rw [hm]; split <;> omega
    obtain ⟨R, hR⟩ := Go.Deep.choose_lt (α := Rl) (n := len) (p := fun i r => W.cells? 0 (a.add (i * 5)) 5 = some (rlC r)) (fun i hi => by
      obtain ⟨cs', h1, h2⟩ := hx i (by omega)
      rw [Tryz.cellsRl] at h1
      obtain ⟨r, rfl⟩ := rl_cells h2
      exact ⟨r, h1⟩)
    refine ⟨(List.range len).map R, .inr ⟨a, cap, by simp, by simpa using hlc, hmx, fun i r hr => ?_⟩⟩
    rw [List.getElem?_map] at hr
    obtain ⟨i', hi', rfl⟩ := Option.map_eq_some_iff.1 hr
    obtain ⟨hlt, e⟩ := List.getElem?_eq_some_iff.1 hi'
    simp at hlt e
    subst e
    have key : ∀ j k u, j < len → k < 5 → (rlC (R j))[k]? = some u → W.cell? ((a.add (j * 5)).add k) = some u := fun j k u hj hk hu => by
      have h1 := hR j hj
      unfold World.cells? at h1
      rw [if_pos (Nat.zero_le _)] at h1
      have := mapM_at h1 k k (by rw [List.getElem?_range hk])
      rw [this]; exact hu
    have hsp : a.spot = none := by
      have h0 := key 0 0 _ (by omega) (by omega) rfl
      have e : (a.add (0 * 5)).add 0 = a := rfl
      rw [e] at h0
      unfold World.cell? at h0
      split at h0
      · cases hs : a.spot with
        | none => rfl
        | some q => simp [hs] at h0
      · cases h0
    obtain ⟨b, o, sp'⟩ := a
    obtain rfl : sp' = none := hsp
    refine ⟨b, o, rfl, ?_⟩
    have k2 : ∀ k u, k < 5 → (rlC (R i))[k]? = some u → W.cell? ⟨b, o + i * 5 + k, none⟩ = some u := fun k u hk hu => by
      have := key i k u hlt hk hu
      rw [addr_add, addr_add] at this
      exact this
    exact ⟨k2 0 _ (by omega) rfl, k2 1 _ (by omega) rfl, k2 2 _ (by omega) rfl, k2 3 _ (by omega) rfl, k2 4 _ (by omega) rfl⟩
end Go.Proofs.YtifjoboaolpejaaGreatDoor

namespace Go.Proofs.YtifjoboaolpejaaGreatDoor
open Go.ChangeShapes Go.WideShapes Go.ChangeAt Go.RowKit

theorem Tryz.cellsAct : Tryz.prog.cellsOf 55 = 14 := by kernel_rfl
theorem Tryz.cellsStrA : Tryz.prog.cellsOf 9 = 1 := by kernel_rfl
theorem Tryz.cellsRlsA : Tryz.prog.cellsOf 22 = 1 := by kernel_rfl
theorem Tryz.cellsTcs : Tryz.prog.cellsOf 51 = 1 := by kernel_rfl
theorem Tryz.cellsNt : Tryz.prog.cellsOf 53 = 5 := by kernel_rfl
theorem Tryz.cellsBo : Tryz.prog.cellsOf 4 = 1 := by kernel_rfl
theorem Tryz.cellsFlA : Tryz.prog.cellsOf 136 = 8 := by kernel_rfl
theorem addr_addA (b o j : Nat) : Addr.add ⟨b, o, none⟩ j = ⟨b, o + j, none⟩ := by
  unfold Addr.add
  by_cases h : j = 0
  · subst h; rfl
  · rw [if_neg h]
theorem wf_in6A {n : Int} (k : (Lit.int .i64 n).wf = true) : In6 n := by
  simp only [Lit.wf, Bool.and_eq_true, decide_eq_true_eq] at k
  have e1 : IntKind.i64.min = -9223372036854775808 := by decide
  have e2 : IntKind.i64.max = 9223372036854775807 := by decide
  unfold In6
  omega
theorem spot_none {W : World} {a : Addr} {u : Value} (h0 : W.cell? a = some u) : a.spot = none := by
  unfold World.cell? at h0
  split at h0
  · cases hs : a.spot with
    | none => rfl
    | some q => simp [hs] at h0
  · cases h0
theorem cells_key {W : World} {a : Addr} {n len : Nat} {C : Nat → List Value} (h : ∀ j, j < len → W.cells? 0 (a.add (j * n)) n = some (C j)) : ∀ j k u, j < len → k < n → (C j)[k]? = some u → W.cell? ((a.add (j * n)).add k) = some u := fun j k u hj hk hu => by
  have h1 := h j hj
  unfold World.cells? at h1
  rw [if_pos (Nat.zero_le _)] at h1
  have := mapM_at h1 k k (by rw [List.getElem?_range hk])
  rw [this]; exact hu
set_option maxRecDepth 100000 in
theorem slA_of {H : Type} {enc : TypeId × Value → H} {W : World} {sp : Nat → Bool} {held : Bool} {fuel : Nat} {v : Value} {x : DataW H × List MemPlace}
    (hf : DataW.trod enc Tryz.prog W 0 sp held fuel 22 [v] = some x) : ∃ l, Sl W v l := by
  rcases Go.Deep.open_slice Tryz.underlying22 hf with ⟨h0, _⟩ | ⟨a, len, cap, m, n, D, Pl, hcs, _, hlc, hmx, hm, _, hx⟩
  · exact ⟨[], .inl ⟨by simpa using h0, rfl⟩⟩
  · have hcs : v = .slice (some a) len cap := by simpa using hcs
    rw [hcs]
    have hlm : len ≤ m := by rw [hm]; split <;> omega
    obtain ⟨R, hR⟩ := Go.Deep.choose_lt (α := Rl) (n := len) (p := fun i r => W.cells? 0 (a.add (i * 5)) 5 = some (rlC r)) (fun i hi => by
      obtain ⟨cs', h1, h2⟩ := hx i (by omega)
      rw [Tryz.cellsRl] at h1
      obtain ⟨r, rfl⟩ := rl_cells h2
      exact ⟨r, h1⟩)
    refine ⟨(List.range len).map R, .inr ⟨a, cap, by simp, by simpa using hlc, hmx, fun i r hr => ?_⟩⟩
    rw [List.getElem?_map] at hr
    obtain ⟨i', hi', rfl⟩ := Option.map_eq_some_iff.1 hr
    obtain ⟨hlt, e⟩ := List.getElem?_eq_some_iff.1 hi'
    simp at hlt e
    subst e
    have key := cells_key hR
    have hsp : a.spot = none := spot_none (key 0 0 _ (by omega) (by omega) rfl : W.cell? a = some _)
    obtain ⟨b, o, sp'⟩ := a
    obtain rfl : sp' = none := hsp
    refine ⟨b, o, rfl, ?_⟩
    have k2 : ∀ k u, k < 5 → (rlC (R i))[k]? = some u → W.cell? ⟨b, o + i * 5 + k, none⟩ = some u := fun k u hk hu => by
      have := key i k u hlt hk hu
      rw [addr_addA, addr_addA] at this
      exact this
    exact ⟨k2 0 _ (by omega) rfl, k2 1 _ (by omega) rfl, k2 2 _ (by omega) rfl, k2 3 _ (by omega) rfl, k2 4 _ (by omega) rfl⟩
theorem Tryz.cellsCel : Tryz.prog.cellsOf 138 = 10 := by kernel_rfl
set_option maxRecDepth 100000 in
theorem flowA_cells {H : Type} {enc : TypeId × Value → H} {W : World} {sp : Nat → Bool} {held : Bool} {fuel : Nat} {c0 c1 c2 c3 c4 c5 c6 c7 : Value} {x : DataW H × List MemPlace}
    (h : DataW.trod enc Tryz.prog W 0 sp held fuel 136 [c0, c1, c2, c3, c4, c5, c6, c7] = some x) : ∃ c : Ce, c0 = .int .i64 c.pr ∧ c1 = .int .i64 c.ia ∧ c2 = .int .i64 c.ip ∧ c3 = .int .i64 c.fa ∧ c4 = .int .i64 c.fp ∧ c5 = .int .i64 c.po ∧ c6 = .int .i64 c.st ∧ c7 = .int .i64 c.un ∧ In6 c.pr ∧ In6 c.st := by
  obtain ⟨xs, n, _, _, hlen, hxl, hf⟩ := DataW.trod_struct Tryz.underlying136 h
  have hxl : xs.length = 6 := hxl
  have g0 : DataW.trod enc Tryz.prog W 0 sp held n 3 (([c0, c1, c2, c3, c4, c5, c6, c7].drop 0).take (Tryz.prog.cellsOf 3)) = xs[0]? := hf 0 _ rfl
  have g1 : DataW.trod enc Tryz.prog W 0 sp held n 48 (([c0, c1, c2, c3, c4, c5, c6, c7].drop 1).take (Tryz.prog.cellsOf 48)) = xs[1]? := hf 1 _ rfl
  have g2 : DataW.trod enc Tryz.prog W 0 sp held n 48 (([c0, c1, c2, c3, c4, c5, c6, c7].drop 3).take (Tryz.prog.cellsOf 48)) = xs[2]? := hf 2 _ rfl
  have g3 : DataW.trod enc Tryz.prog W 0 sp held n 3 (([c0, c1, c2, c3, c4, c5, c6, c7].drop 5).take (Tryz.prog.cellsOf 3)) = xs[3]? := hf 3 _ rfl
  have g4 : DataW.trod enc Tryz.prog W 0 sp held n 3 (([c0, c1, c2, c3, c4, c5, c6, c7].drop 6).take (Tryz.prog.cellsOf 3)) = xs[4]? := hf 4 _ rfl
  have g5 : DataW.trod enc Tryz.prog W 0 sp held n 3 (([c0, c1, c2, c3, c4, c5, c6, c7].drop 7).take (Tryz.prog.cellsOf 3)) = xs[5]? := hf 5 _ rfl
  rw [Tryz.cellsI] at g0 g3 g4 g5
  rw [Tryz.cellsEnd] at g1 g2
  rw [List.getElem?_eq_getElem (by omega)] at g0 g1 g2 g3 g4 g5
  obtain ⟨y0, e0, _, k0⟩ := DataW.trod_int Tryz.underlying3 g0
  obtain ⟨y3, e3, _⟩ := DataW.trod_int Tryz.underlying3 g3
  obtain ⟨y4, e4, _, k4⟩ := DataW.trod_int Tryz.underlying3 g4
  obtain ⟨y5, e5, _⟩ := DataW.trod_int Tryz.underlying3 g5
  obtain ⟨z0, z1, n1, hx1, _, r0, r1⟩ := trod_struct2 Tryz.underlying48 (show DataW.trod enc Tryz.prog W 0 sp held n 48 [c1, c2] = some _ by simpa using g1)
  obtain ⟨z2, z3, n2, hx2, _, r2, r3⟩ := trod_struct2 Tryz.underlying48 (show DataW.trod enc Tryz.prog W 0 sp held n 48 [c3, c4] = some _ by simpa using g2)
  simp only [Tryz.cellsI] at r0 r1 r2 r3
  obtain ⟨q0, f0, _⟩ := DataW.trod_int Tryz.underlying3 r0
  obtain ⟨q1, f1, _⟩ := DataW.trod_int Tryz.underlying3 r1
  obtain ⟨q2, f2, _⟩ := DataW.trod_int Tryz.underlying3 r2
  obtain ⟨q3, f3, _⟩ := DataW.trod_int Tryz.underlying3 r3
  simp at e0 e3 e4 e5 f0 f1 f2 f3
  exact ⟨⟨0, y0, q0, q1, q2, q3, y3, y4, y5⟩, e0, f0, f1, f2, f3, e3, e4, e5, wf_in6A k0, wf_in6A k4⟩
set_option maxRecDepth 100000 in
theorem cellA_cells {H : Type} {enc : TypeId × Value → H} {W : World} {sp : Nat → Bool} {held : Bool} {fuel : Nat} {cs : List Value} {x : DataW H × List MemPlace}
    (h : DataW.trod enc Tryz.prog W 0 sp held fuel 138 cs = some x) : ∃ a : Tc, cs = tcC a ∧ In6 a.c.pr ∧ In6 a.c.st := by
  obtain ⟨xs, n, _, _, hlen, hxl, hf⟩ := DataW.trod_struct Tryz.underlying138 h
  rw [Tryz.cellsCel] at hlen
  have hxl : xs.length = 3 := hxl
  match cs, hlen with
  | [c0, c1, c2, c3, c4, c5, c6, c7, c8, c9], _ =>
    have g0 : DataW.trod enc Tryz.prog W 0 sp held n 3 (([c0, c1, c2, c3, c4, c5, c6, c7, c8, c9].drop 0).take (Tryz.prog.cellsOf 3)) = xs[0]? := hf 0 _ rfl
    have g1 : DataW.trod enc Tryz.prog W 0 sp held n 3 (([c0, c1, c2, c3, c4, c5, c6, c7, c8, c9].drop 1).take (Tryz.prog.cellsOf 3)) = xs[1]? := hf 1 _ rfl
    have g2 : DataW.trod enc Tryz.prog W 0 sp held n 136 (([c0, c1, c2, c3, c4, c5, c6, c7, c8, c9].drop 2).take (Tryz.prog.cellsOf 136)) = xs[2]? := hf 2 _ rfl
    rw [Tryz.cellsI] at g0 g1
    rw [Tryz.cellsFlA] at g2
    rw [List.getElem?_eq_getElem (by omega)] at g0 g1 g2
    obtain ⟨y0, e0, _⟩ := DataW.trod_int Tryz.underlying3 g0
    obtain ⟨y1, e1, _⟩ := DataW.trod_int Tryz.underlying3 g1
    obtain ⟨c, f0, f1, f2, f3, f4, f5, f6, f7, k0, k1⟩ := flowA_cells (c0 := c2) (c1 := c3) (c2 := c4) (c3 := c5) (c4 := c6) (c5 := c7) (c6 := c8) (c7 := c9) (by simpa using g2)
    simp at e0 e1
    subst e0 e1 f0 f1 f2 f3 f4 f5 f6 f7
    exact ⟨⟨y0, { c with ve := y1 }⟩, rfl, k0, k1⟩
set_option maxRecDepth 100000 in
theorem tcA_of {H : Type} {enc : TypeId × Value → H} {W : World} {sp : Nat → Bool} {held : Bool} {fuel : Nat} {v : Value} {x : DataW H × List MemPlace}
    (hf : DataW.trod enc Tryz.prog W 0 sp held fuel 51 [v] = some x) : ∃ l, TcS W v l ∧ OkT l := by
  rcases Go.Deep.open_slice Tryz.underlying51 hf with ⟨h0, _⟩ | ⟨a, len, cap, m, n, D, Pl, hcs, _, hlc, hmx, hm, _, hx⟩
  · exact ⟨[], .inl ⟨by simpa using h0, rfl⟩, fun x hx => by simp at hx⟩
  · have hcs : v = .slice (some a) len cap := by simpa using hcs
    rw [hcs]
    have hlm : len ≤ m := by rw [hm]; split <;> omega
    obtain ⟨R, hR⟩ := Go.Deep.choose_lt (α := Tc) (n := len) (p := fun i r => W.cells? 0 (a.add (i * 10)) 10 = some (tcC r) ∧ In6 r.c.pr ∧ In6 r.c.st) (fun i hi => by
      obtain ⟨cs', h1, h2⟩ := hx i (by omega)
      rw [Tryz.cellsCel] at h1
      obtain ⟨r, rfl, k⟩ := cellA_cells h2
      exact ⟨r, h1, k⟩)
    refine ⟨(List.range len).map R, .inr ⟨a, cap, by simp, fun i r hr => ?_⟩, fun y hy => ?_⟩
    · rw [List.getElem?_map] at hr
      obtain ⟨i', hi', rfl⟩ := Option.map_eq_some_iff.1 hr
      obtain ⟨hlt, e⟩ := List.getElem?_eq_some_iff.1 hi'
      simp at hlt e
      subst e
      have key := cells_key (fun j hj => (hR j hj).1)
      have hsp : a.spot = none := spot_none (key 0 0 _ (by omega) (by omega) rfl : W.cell? a = some _)
      obtain ⟨b, o, sp'⟩ := a
      obtain rfl : sp' = none := hsp
      refine ⟨b, o, rfl, tcAt_of fun k u hk hu => ?_⟩
      have := key i k u hlt hk hu
      rw [addr_addA, addr_addA] at this
      exact this
    · obtain ⟨j, hj, rfl⟩ := List.mem_map.1 hy
      exact (hR j (List.mem_range.1 hj)).2
set_option maxRecDepth 100000 in
theorem pkA_cells {H : Type} {enc : TypeId × Value → H} {W : World} {sp : Nat → Bool} {held : Bool} {fuel : Nat} {c0 c1 c2 c3 c4 c5 : Value} {x : DataW H × List MemPlace}
    (hf : DataW.trod enc Tryz.prog W 0 sp held fuel 50 [c0, c1, c2, c3, c4, c5] = some x) : ∃ p : Pk, In6 p.pr ∧ c0 = .int .i64 p.pr ∧ c1 = .int .i64 p.a1 ∧ c2 = .int .i64 p.p1 ∧ c3 = .int .i64 p.a2 ∧ c4 = .int .i64 p.p2 ∧ c5 = .int .i64 p.fl := by
  obtain ⟨y0, y1, y2, y3, n, hx, _, h0, h1, h2, h3⟩ := Joins.trod_struct4 Tryz.underlying50 hf
  simp only [Tryz.cellsI, Tryz.cellsEnd] at h0 h1 h2 h3
  obtain ⟨x0, e0, _, k0⟩ := DataW.trod_int Tryz.underlying3 h0
  obtain ⟨x3, e3, _⟩ := DataW.trod_int Tryz.underlying3 h3
  obtain ⟨z0, z1, n1, hx1, _, g0, g1⟩ := trod_struct2 Tryz.underlying48 h1
  obtain ⟨z2, z3, n2, hx2, _, g2, g3⟩ := trod_struct2 Tryz.underlying48 h2
  simp only [Tryz.cellsI] at g0 g1 g2 g3
  obtain ⟨q0, f0, _⟩ := DataW.trod_int Tryz.underlying3 g0
  obtain ⟨q1, f1, _⟩ := DataW.trod_int Tryz.underlying3 g1
  obtain ⟨q2, f2, _⟩ := DataW.trod_int Tryz.underlying3 g2
  obtain ⟨q3, f3, _⟩ := DataW.trod_int Tryz.underlying3 g3
  simp at e0 e3 f0 f1 f2 f3
  exact ⟨⟨x0, q0, q1, q2, q3, x3⟩, wf_in6A k0, e0, f0, f1, f2, f3, e3⟩
set_option maxRecDepth 100000 in
theorem nt_cells {H : Type} {enc : TypeId × Value → H} {W : World} {sp : Nat → Bool} {held : Bool} {fuel : Nat} {c0 c1 c2 c3 c4 : Value} {x : DataW H × List MemPlace}
    (h : DataW.trod enc Tryz.prog W 0 sp held fuel 53 [c0, c1, c2, c3, c4] = some x) : ∃ t : Nf, c0 = .int .i64 t.fr ∧ c1 = .int .i64 t.li ∧ c2 = .int .i64 t.ep ∧ c3 = .bool t.cl ∧ TcS W c4 t.cs ∧ OkT t.cs := by
  obtain ⟨xs, n, _, _, hlen, hxl, hf⟩ := DataW.trod_struct Tryz.underlying53 h
  have hxl : xs.length = 5 := hxl
  have g0 : DataW.trod enc Tryz.prog W 0 sp held n 3 (([c0, c1, c2, c3, c4].drop 0).take (Tryz.prog.cellsOf 3)) = xs[0]? := hf 0 _ rfl
  have g1 : DataW.trod enc Tryz.prog W 0 sp held n 3 (([c0, c1, c2, c3, c4].drop 1).take (Tryz.prog.cellsOf 3)) = xs[1]? := hf 1 _ rfl
  have g2 : DataW.trod enc Tryz.prog W 0 sp held n 3 (([c0, c1, c2, c3, c4].drop 2).take (Tryz.prog.cellsOf 3)) = xs[2]? := hf 2 _ rfl
  have g3 : DataW.trod enc Tryz.prog W 0 sp held n 4 (([c0, c1, c2, c3, c4].drop 3).take (Tryz.prog.cellsOf 4)) = xs[3]? := hf 3 _ rfl
  have g4 : DataW.trod enc Tryz.prog W 0 sp held n 51 (([c0, c1, c2, c3, c4].drop 4).take (Tryz.prog.cellsOf 51)) = xs[4]? := hf 4 _ rfl
  rw [Tryz.cellsI] at g0 g1 g2
  rw [Tryz.cellsBo] at g3
  rw [Tryz.cellsTcs] at g4
  rw [List.getElem?_eq_getElem (by omega)] at g0 g1 g2 g3 g4
  obtain ⟨y0, e0, _⟩ := DataW.trod_int Tryz.underlying3 g0
  obtain ⟨y1, e1, _⟩ := DataW.trod_int Tryz.underlying3 g1
  obtain ⟨y2, e2, _⟩ := DataW.trod_int Tryz.underlying3 g2
  obtain ⟨y3, e3, _⟩ := DataW.trod_bool Tryz.underlying4 g3
  obtain ⟨l, hl, ho⟩ := tcA_of (v := c4) (by simpa using g4)
  simp at e0 e1 e2 e3
  exact ⟨⟨y0, y1, y2, y3, l⟩, e0, e1, e2, e3, hl, ho⟩
set_option maxRecDepth 100000 in
theorem ac_cells {H : Type} {enc : TypeId × Value → H} {W : World} {sp : Nat → Bool} {held : Bool} {fuel : Nat} {cs : List Value} {x : DataW H × List MemPlace}
    (h : DataW.trod enc Tryz.prog W 0 sp held fuel 55 cs = some x) : ∃ a : Ac, cs = acC a ∧ AcOk W a := by
  obtain ⟨xs, n, _, _, hlen, hxl, hf⟩ := DataW.trod_struct Tryz.underlying55 h
  rw [Tryz.cellsAct] at hlen
  have hxl : xs.length = 5 := hxl
  match cs, hlen with
  | [c0, c1, c2, c3, c4, c5, c6, c7, c8, c9, c10, c11, c12, c13], _ =>
    have g0 : DataW.trod enc Tryz.prog W 0 sp held n 9 (([c0, c1, c2, c3, c4, c5, c6, c7, c8, c9, c10, c11, c12, c13].drop 0).take (Tryz.prog.cellsOf 9)) = xs[0]? := hf 0 _ rfl
    have g1 : DataW.trod enc Tryz.prog W 0 sp held n 3 (([c0, c1, c2, c3, c4, c5, c6, c7, c8, c9, c10, c11, c12, c13].drop 1).take (Tryz.prog.cellsOf 3)) = xs[1]? := hf 1 _ rfl
    have g2 : DataW.trod enc Tryz.prog W 0 sp held n 50 (([c0, c1, c2, c3, c4, c5, c6, c7, c8, c9, c10, c11, c12, c13].drop 2).take (Tryz.prog.cellsOf 50)) = xs[2]? := hf 2 _ rfl
    have g3 : DataW.trod enc Tryz.prog W 0 sp held n 53 (([c0, c1, c2, c3, c4, c5, c6, c7, c8, c9, c10, c11, c12, c13].drop 8).take (Tryz.prog.cellsOf 53)) = xs[3]? := hf 3 _ rfl
    have g4 : DataW.trod enc Tryz.prog W 0 sp held n 22 (([c0, c1, c2, c3, c4, c5, c6, c7, c8, c9, c10, c11, c12, c13].drop 13).take (Tryz.prog.cellsOf 22)) = xs[4]? := hf 4 _ rfl
    rw [Tryz.cellsStrA] at g0
    rw [Tryz.cellsI] at g1
    rw [Tryz.cellsPk] at g2
    rw [Tryz.cellsNt] at g3
    rw [Tryz.cellsRlsA] at g4
    rw [List.getElem?_eq_getElem (by omega)] at g0 g1 g2 g3 g4
    obtain ⟨y0, e0, _⟩ := DataW.trod_string Tryz.underlying9 g0
    obtain ⟨y1, e1, _⟩ := DataW.trod_int Tryz.underlying3 g1
    obtain ⟨p, hp, f0, f1, f2, f3, f4, f5⟩ := pkA_cells (c0 := c2) (c1 := c3) (c2 := c4) (c3 := c5) (c4 := c6) (c5 := c7) (by simpa using g2)
    obtain ⟨t, u0, u1, u2, u3, hcs, ho⟩ := nt_cells (c0 := c8) (c1 := c9) (c2 := c10) (c3 := c11) (c4 := c12) (by simpa using g3)
    obtain ⟨l, hl⟩ := slA_of (v := c13) (by simpa using g4)
    simp at e0 e1
    subst e0 e1 f0 f1 f2 f3 f4 f5 u0 u1 u2 u3
    exact ⟨⟨y0, y1, p, t, c12, c13, l⟩, rfl, hl, hcs, ho, hp⟩
set_option maxRecDepth 100000 in
theorem open_acts {H : Type} {enc : TypeId × Value → H} {W : World} {b0 : Nat} {v : Value} {d : DataW H} {p : List MemPlace} {sp : Nat → Bool}
    (hv : Value.okWide Tryz.prog W .any b0 23 v) (h : DataW.Trod enc Tryz.prog W 0 sp true 23 v d p) : ∃ l, AcsI W v l := by
  obtain ⟨a0, len0, cap0, rfl⟩ := okWide_slice Tryz.underlying23 hv
  obtain ⟨fuel, hf⟩ := h
  rcases Go.Deep.open_slice Tryz.underlying23 hf with ⟨h0, _⟩ | ⟨a, len, cap, m, n, D, Pl, hcs, _, hlc, hmx, hm, _, hx⟩
  · have h0 : [Value.slice a0 len0 cap0] = [.slice none 0 0] := h0
    have h0 : Value.slice a0 len0 cap0 = .slice none 0 0 := by simpa using h0
    exact ⟨[], none, 0, h0, Nat.zero_le _, fun j x hx => by simp at hx⟩
  · have hcs : [Value.slice a0 len0 cap0] = [.slice (some a) len cap] := hcs
    have hcs : Value.slice a0 len0 cap0 = .slice (some a) len cap := by simpa using hcs
    rw [hcs]
    have hlm : len ≤ m := by rw [hm]; split <;> omega
    obtain ⟨R, hR⟩ := Go.Deep.choose_lt (α := Ac) (n := len) (p := fun i r => W.cells? 0 (a.add (i * 14)) 14 = some (acC r) ∧ AcOk W r) (fun i hi => by
      obtain ⟨cs', h1, h2⟩ := hx i (by omega)
      rw [Tryz.cellsAct] at h1
      obtain ⟨r, rfl, ok⟩ := ac_cells h2
      exact ⟨r, h1, ok⟩)
    refine ⟨(List.range len).map R, some a, cap, by simp, by rw [List.length_map, List.length_range]; exact Nat.le_trans hlc hmx, fun i r hr => ?_⟩
    rw [List.getElem?_map] at hr
    obtain ⟨i', hi', rfl⟩ := Option.map_eq_some_iff.1 hr
    obtain ⟨hlt, e⟩ := List.getElem?_eq_some_iff.1 hi'
    simp at hlt e
    subst e
    have key := cells_key (fun j hj => (hR j hj).1)
    have hsp : a.spot = none := spot_none (key 0 0 _ (by omega) (by omega) rfl : W.cell? a = some _)
    obtain ⟨b, o, sp'⟩ := a
    obtain rfl : sp' = none := hsp
    refine ⟨(hR i hlt).2, b, o, rfl, fun k u hu => ?_⟩
    have hk : k < 14 := by
      rcases Nat.lt_or_ge k 14 with q | q
      · exact q
      · rw [List.getElem?_eq_none (by simpa [acC] using q)] at hu; cases hu
    have := key i k u hlt hk hu
    rw [addr_addA, addr_addA] at this
    exact this
end Go.Proofs.YtifjoboaolpejaaGreatDoor
