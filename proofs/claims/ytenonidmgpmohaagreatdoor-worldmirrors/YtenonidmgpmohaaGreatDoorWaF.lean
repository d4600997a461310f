/-
  A law's steps: few, and short; a world that goes through them; claims in a slice of one's own.
-/
import Derived.Test.YtenonidmgpmohaaGreatDoorWaA
import Derived.Test.YtenonidmgpmohaaGreatDoorKs
namespace Go.Proofs.YtenonidmgpmohaaGreatDoor
open Go.RowKit

/-- a world behind so many steps. -/
def LA (w1 wr : World) (wb q : Nat) (P : Nat → Wo → Prop) : Prop := ∃ K W t, Wd w1 wr K W t ∧ t ≤ q ∧ In (q + 1) W ∧ P q W ∧ K.wb = wb ∧ ∀ i, i < 2 → ∃ b, K.yk i = some b
section
variable {w1 wr : World} {wb q : Nat} {P : Nat → Wo → Prop} {s : Nat → Addr}
theorem LA.bl (h : LA w1 wr wb q P) : Below w1.heap.size w1 wr := by obtain ⟨K, W, t, wd, _⟩ := h; exact wd.bl
theorem LA.below {w' : World} (h : LA w1 wr wb q P) (hb : Below wr.heap.size wr w') : LA w1 w' wb q P := by
  obtain ⟨K, W, t, wd, r⟩ := h
  exact ⟨K, W, t, wd.below hb, r⟩
theorem LA.act (S : SeM w1 s) (h : LA w1 wr wb q P) (hq : q ≤ 2600) (x : Sp) (hx : SpOk w1 x) (h30 : x.ru.length ≤ 30) (hP : ∀ W W', P q W → In (q + 1) W → RulesOk W.ru → Stp W W' → P (q + 1) W') :
    Calls Tryz.prog 8 #[.pointer (some ⟨wb, 0, none⟩), .agg #[.string x.kd, .int .i64 x.s, .int .i64 x.n, .int .i64 x.p.pr, .int .i64 x.p.a1, .int .i64 x.p.p1, .int .i64 x.p.a2, .int .i64 x.p.p2, .int .i64 x.p.fl, x.rv]] wr fun e w' => e = .returned (.tuple #[]) ∧ LA w1 w' wb (q + 1) P := by
  obtain ⟨K, W, t, wd, ht, hI, hp, rfl, hy⟩ := h
  refine (act_wd S wd hI (by omega) (by omega) hy x (hx.below wd.bl) h30).mono ?_
  rintro e w' ⟨rfl, K', W', wd', st, m⟩
  refine ⟨rfl, K', W', t + 1, wd', by omega, hI.stp (by omega) wd.ro st, hP W W' hp hI wd.ro st, m.wb, fun i hi => ?_⟩
  rw [m.yk]
  exact hy i hi
end
/-- what stepsFit answers. -/
def FitV (l : List Sp) (most : Nat) (e : Ending) : Prop := ∃ b, e = .returned (.bool b) ∧ (b = true → l.length ≤ most ∧ ∀ x ∈ l, x.ru.length ≤ 30)
set_option maxRecDepth 100000 in
set_option maxHeartbeats 2000000 in
theorem fit_any (v : Value) (l : List Sp) (most : Nat) (w : World) (h : SpsI w v l) :
    Calls Tryz.prog 5 #[v, .int .i64 most] w fun e w' => FitV l most e ∧ w' = w := by
  obtain ⟨p, cap, rfl, hmx, hl⟩ := h
  unfold maxLen at hmx
  have hm1 : (l.length : Int) ≤ 9223372036854775807 := by omega
  clear hmx
  have HL : Hid (∀ (i : Nat) x, l[i]? = some x → SpOk w x ∧ ∃ b o, p = some ⟨b, o, none⟩ ∧ ∀ (j : Nat) u, (spC x)[j]? = some u → w.cell? ⟨b, o + i * 10 + j, none⟩ = some u) := hl
  clear hl
  go_enter Tryz.func5, Tryz.ntmps5
  go_wp2_with fail
  go_loop [5] (fun t => ∃ i : Nat, i ≤ l.length ∧ t = .int .i64 i ∧ ∀ (j : Nat) x, j < i → l[j]? = some x → x.ru.length ≤ 30) (fun t => l.length - (intOf t).toNat)
  case atStart => exact ⟨0, by omega, rfl, fun j x hj _ => by omega⟩
  case round =>
    obtain ⟨i, hi, rfl, hall⟩ := hrel
    have HA : Hid (∀ (j : Nat) x, j < i → l[j]? = some x → x.ru.length ≤ 30) := hall
    clear hall
    by_cases hlt : i < l.length
    · have i0 : (0 : Int) ≤ (i : Int) := by omega
      have i1 : (i : Int) < (l.length : Int) := by omega
      obtain ⟨x, hx⟩ : ∃ x, l[i]? = some x := ⟨l[i], List.getElem?_eq_getElem hlt⟩
      obtain ⟨ok, b, o, rfl, hc⟩ := HL.out i x hx
      obtain ⟨rp, rc, hrv, _⟩ := ok.ru.open
      have c9 : w.cell? ⟨b, o + i * 10 + 9, none⟩ = some (.slice rp x.ru.length rc) := hc 9 _ (by rw [← hrv]; rfl)
      have HX : Hid (l[i]? = some x) := hx
      clear ok hc hrv hx
      have i2 : (i : Int) + 1 ≤ 9223372036854775807 := by omega
      by_cases h30 : (30 : Int) < (x.ru.length : Int)
      · go_wp2_with fail
        go_ret
        exact ⟨⟨false, rfl, fun e => by cases e⟩, rfl⟩
      · go_wp2_with fail
        exact ⟨⟨i + 1, by omega, by go_num, fun j y hj hy => by
          by_cases e : j = i
          · subst e; rw [HX.out] at hy; cases hy; omega
          · exact HA.out j y (by omega) hy⟩, by simp [intOf]; omega⟩
    · obtain rfl : i = l.length := by omega
      go_wp2_with fail
      go_ret
      refine ⟨⟨_, rfl, fun e => ⟨?_, fun x hx => ?_⟩⟩, rfl⟩
      · have := of_decide_eq_true e; omega
      · obtain ⟨j, hj⟩ := List.getElem?_of_mem hx
        exact HA.out j x (List.getElem?_eq_some_iff.1 hj).1 hj
end Go.Proofs.YtenonidmgpmohaaGreatDoor
