/-
  The world of WorldTakes in a law's walk, beside a slice of ports of the law's own.
-/
import Derived.Test.YtpajlmmdnbdieaaGreatDoorWtQ
import Derived.Laws.AppendOwn
namespace Go.Proofs.YtpajlmmdnbdieaaGreatDoor
open Go.RowKit

abbrev intVk (z : Int) : Value := .int .i64 z
/-- a world of which P holds, and numbers in a slice of one's own. -/
def LW (w1 w : World) (wb : Nat) (P : Wo → Prop) (t : Nat) (pv : Value) (ps : List Int) : Prop := ∃ K W, Wd w1 w K W t ∧ P W ∧ K.wb = wb ∧ w.ownsRow w1.heap.size 3 1 pv ps.length (ps.map intVk) ∧ ∀ g, pv.ownBlock = some g → K.tag g = 9
section
variable {w1 w : World} {wb t : Nat} {P : Wo → Prop} {pv : Value} {ps : List Int} {s : Nat → Addr}
theorem LW.bl (h : LW w1 w wb P t pv ps) : Below w1.heap.size w1 w := by obtain ⟨K, W, wd, _⟩ := h; exact wd.bl
theorem LW.mono {t' : Nat} (h : LW w1 w wb P t pv ps) (ht : t ≤ t') : LW w1 w wb P t' pv ps := by obtain ⟨K, W, wd, r⟩ := h; exact ⟨K, W, wd.mono ht, r⟩
theorem LW.imp {P' : Wo → Prop} (h : LW w1 w wb P t pv ps) (hp : ∀ W, P W → P' W) : LW w1 w wb P' t pv ps := by obtain ⟨K, W, wd, p, r⟩ := h; exact ⟨K, W, wd, hp W p, r⟩
theorem LW.below {w' : World} (h : LW w1 w wb P t pv ps) (hb : Below w.heap.size w w') : LW w1 w' wb P t pv ps := by
  obtain ⟨K, W, wd, p, e, o, g⟩ := h
  exact ⟨K, W, wd.below hb, p, e, owns_chgL o (ChgL.of (l := []) hb) (by simp), g⟩
theorem own_mv {K K' : WK} {w' : World} {W : Wo} (_wd : Wd w1 w K W t) (o : w.ownsRow w1.heap.size 3 1 pv ps.length (ps.map intVk)) (g : ∀ g, pv.ownBlock = some g → K.tag g = 9) (m : Mv K K' w w') : w'.ownsRow w1.heap.size 3 1 pv ps.length (ps.map intVk) ∧ ∀ g, pv.ownBlock = some g → K'.tag g = 9 := by
  rcases ownsRow_cases o with ⟨rfl, e0⟩ | ⟨b, cap, rfl, q1, q2, _⟩
  · exact ⟨⟨by simp, .inl ⟨rfl, e0⟩⟩, fun g hg => by cases hg⟩
  · have h9 := g b rfl
    refine ⟨⟨o.1, ?_⟩, fun g' hg => by cases hg; rw [m.tag b q2]; exact h9⟩
    rcases o.2 with a | ⟨b', cap', cur, h1, h2, h3, h4⟩
    · cases a.1
    · have e : b' = b := by cases h1; rfl
      subst e
      exact .inr ⟨b', cap', cur, h1, h2, by rw [m.block b' q2 (.inl h9)]; exact h3, h4⟩
theorem LW.tick (S : SeM w1 s) (h : LW w1 w wb P t pv ps) (ht : t ≤ 2700) (n : Int) {P' : Wo → Prop} (hp : ∀ W, P W → (∀ (i : Nat) y, n = i → W.nd i = some y → y.tkE = 0 ∨ y.tkE = 7) ∧ W.tcE n = 0 ∧ P' (W.tcd n)) :
    Calls Tryz.prog 6 #[.pointer (some ⟨wb, 0, none⟩), .int .i64 n] w fun e w' => e = .returned .nilIface ∧ LW w1 w' wb P' (t + 1) pv ps := by
  obtain ⟨K, W, wd, p, rfl, o, g⟩ := h
  obtain ⟨h1, h2, h3⟩ := hp W p
  refine (tick_wd S wd ht n h1).mono ?_
  rintro e w' ⟨rfl, K', wd', m⟩
  obtain ⟨o', g'⟩ := own_mv wd o g m
  exact ⟨by rw [h2]; rfl, K', _, wd', h3, m.wb, o', g'⟩
theorem LW.deliver (S : SeM w1 s) (h : LW w1 w wb P t pv ps) {P' : Wo → Prop} (hp : ∀ K W, Wd w1 w K W t → P W → P' (W.dlv 0)) :
    Calls Tryz.prog 7 #[.pointer (some ⟨wb, 0, none⟩), .int .i64 0] w fun e w' => (∃ W, P W ∧ e = .returned (terr s (W.flE 0))) ∧ LW w1 w' wb P' t pv ps := by
  obtain ⟨K, W, wd, p, rfl, o, g⟩ := h
  refine (deliver_wd S wd 0).mono ?_
  rintro e w' ⟨rfl, K', wd', m⟩
  obtain ⟨o', g'⟩ := own_mv wd o g m
  exact ⟨⟨W, p, rfl⟩, K', _, wd', hp K W wd p, m.wb, o', g'⟩
theorem LW.down (S : SeM w1 s) (h : LW w1 w wb P t pv ps) (n : Int) {P' : Wo → Prop} (hp : ∀ W, P W → W.upE n = 0 ∧ P' (W.downed n)) :
    Calls Tryz.prog 10 #[.pointer (some ⟨wb, 0, none⟩), .int .i64 n] w fun e w' => e = .returned .nilIface ∧ LW w1 w' wb P' t pv ps := by
  obtain ⟨K, W, wd, p, rfl, o, g⟩ := h
  obtain ⟨h1, h2⟩ := hp W p
  refine (down_wd S wd n).mono ?_
  rintro e w' ⟨rfl, K', wd', m⟩
  obtain ⟨o', g'⟩ := own_mv wd o g m
  exact ⟨by rw [h1]; rfl, K', _, wd', h2, m.wb, o', g'⟩
theorem LW.inside (S : SeM w1 s) (h : LW w1 w wb P t pv ps) (ht : t ≤ 2700) (p : Pk) (hpp : In6 p.pr) {R : Wo → Pk → Prop} (hp : ∀ W, P W → W.inE p = 0 ∧ R (W.ins p) (W.inP p)) :
    Calls Tryz.prog 9 #[.pointer (some ⟨wb, 0, none⟩), p.v] w fun e w' => ∃ q, e = .returned (.tuple #[q.v, .nilIface]) ∧ LW w1 w' wb (fun W => R W q) (t + 1) pv ps := by
  obtain ⟨K, W, wd, pp, rfl, o, g⟩ := h
  obtain ⟨h1, h2⟩ := hp W pp
  refine (inside_wd S wd ht p hpp).mono ?_
  rintro e w' ⟨rfl, wd', m⟩
  obtain ⟨o', g'⟩ := own_mv wd o g m
  exact ⟨W.inP p, by rw [h1]; rfl, K, _, wd', h2, rfl, o', g'⟩
theorem LW.outside (S : SeM w1 s) (h : LW w1 w wb P t pv ps) (ht : t ≤ 2700) (p q : Pk) {P' : Wo → Prop} (hp : ∀ W, P W → W.otE p = 0 ∧ W.otP p = q ∧ P' (W.ots p)) :
    Calls Tryz.prog 12 #[.pointer (some ⟨wb, 0, none⟩), p.v] w fun e w' => e = .returned (.tuple #[q.v, .nilIface]) ∧ LW w1 w' wb P' (t + 1) pv ps := by
  obtain ⟨K, W, wd, pp, rfl, o, g⟩ := h
  obtain ⟨h1, h2, h3⟩ := hp W pp
  refine (outside_wd S wd ht p).mono ?_
  rintro e w' ⟨rfl, wd', m⟩
  obtain ⟨o', g'⟩ := own_mv wd o g m
  exact ⟨by rw [h1, h2]; rfl, K, _, wd', h3, rfl, o', g'⟩
theorem LW.switch (h : LW w1 w wb P t pv ps) {a b : Int} (hp : ∀ W, P W → W.hn = a ∧ W.he = b ∧ b ≠ 0) :
    Calls Tryz.prog 11 #[.pointer (some ⟨wb, 0, none⟩)] w fun e w' => e = .returned (.tuple #[.int .i64 a, .int .i64 b]) ∧ LW w1 w' wb P t pv ps := by
  have h' := h
  obtain ⟨K, W, wd, pp, rfl, o, g⟩ := h
  obtain ⟨h1, h2, h3⟩ := hp W pp
  refine (switch_any wd.wb).mono ?_
  rintro e w' ⟨rfl, hb⟩
  exact ⟨by rw [h1, h2, if_neg h3], h'.below hb⟩
/-- a block of nobody's is written, which is not the slice's. -/
theorem LW.fresh {w' : World} {Q : Nat} {K0 : WK} (h : LW w1 w wb P t pv ps) {wB : World} {W0 : Wo} {t0 : Nat} (_hB : Wd w1 wB K0 W0 t0) (g : Chg Q w w') (hQ : w.heap.size ≤ Q ∨ ∀ K W, Wd w1 w K W t → K.tag Q = 9) (h0 : w1.heap.size ≤ Q) (hn : pv.ownBlock ≠ some Q) : LW w1 w' wb P t pv ps := by
  obtain ⟨K, W, wd, pp, e, o, gg⟩ := h
  have h9 : K.tag Q = 9 := by
    rcases hQ with a | a
    · exact wd.al Q a
    · exact a K W wd
  exact ⟨K, W, wd.fresh h9 h0 g, pp, e, owns_chgW o g hn, gg⟩
/-- the slice grows. -/
theorem LW.grow {w' : World} {v' : Value} {x : Int} (h : LW w1 w wb P t pv ps) (o : w'.ownsRow w1.heap.size 3 1 v' (ps ++ [x]).length ((ps ++ [x]).map intVk)) (g : w.grownBy w' pv.ownBlock) (hat : v'.ownBlock = pv.ownBlock ∨ v'.ownBlock = some w.heap.size) : LW w1 w' wb P t v' (ps ++ [x]) := by
  obtain ⟨K, W, wd, pp, e, o1, gg⟩ := h
  have wd' : Wd w1 w' K W t := by
    cases hb : pv.ownBlock with
    | none => exact wd.below ⟨g.os, g.tape, g.output, g.size, fun k hk => g.block k hk (by rw [hb]; simp)⟩
    | some q =>
      have h0 : w1.heap.size ≤ q := by
        rcases ownsRow_cases o1 with ⟨rfl, _⟩ | ⟨b, cap, rfl, q1, _⟩
        · cases hb
        · cases hb; exact q1
      exact wd.fresh (gg q hb) h0 ⟨g.os, g.tape, g.output, g.size, fun k hk hn => g.block k hk (by rw [hb]; intro e2; cases e2; exact hn rfl)⟩
  refine ⟨K, W, wd', pp, e, o, fun b hb => ?_⟩
  rcases hat with q | q
  · exact gg b (q ▸ hb)
  · rw [q] at hb
    cases hb
    exact wd.al _ (Nat.le_refl _)
end
end Go.Proofs.YtpajlmmdnbdieaaGreatDoor
