/-
  A world of which something holds, in a law's walk: each call, by what it makes of the world.
-/
import Derived.Test.YtegihhjddnckgaaGreatDoorWaF
import Derived.Test.YtegihhjddnckgaaGreatDoorWnP
import Derived.Test.YtegihhjddnckgaaGreatDoorWoNd
namespace Go.Proofs.YtegihhjddnckgaaGreatDoor
open Go.RowKit

/-- a world of which P holds; its numbers are small. -/
def LP (w1 wr : World) (wb q : Nat) (P : Wo → Prop) : Prop := ∃ K W t, Wd w1 wr K W t ∧ t ≤ q ∧ In (q + 1) W ∧ P W ∧ K.wb = wb ∧ ∀ i, i < 2 → ∃ b, K.yk i = some b
section
variable {w1 wr : World} {wb q : Nat} {P : Wo → Prop} {s : Nat → Addr}
theorem LP.bl (h : LP w1 wr wb q P) : Below w1.heap.size w1 wr := by obtain ⟨K, W, t, wd, _⟩ := h; exact wd.bl
theorem LP.below {w' : World} (h : LP w1 wr wb q P) (hb : Below wr.heap.size wr w') : LP w1 w' wb q P := by
  obtain ⟨K, W, t, wd, r⟩ := h
  exact ⟨K, W, t, wd.below hb, r⟩
theorem LP.mono {q' : Nat} (h : LP w1 wr wb q P) (hq : q ≤ q') : LP w1 wr wb q' P := by
  obtain ⟨K, W, t, wd, ht, hI, r⟩ := h
  exact ⟨K, W, t, wd, by omega, hI.mono (by omega), r⟩
theorem LP.imp {P' : Wo → Prop} (h : LP w1 wr wb q P) (hp : ∀ W, P W → P' W) : LP w1 wr wb q P' := by
  obtain ⟨K, W, t, wd, ht, hI, p, r⟩ := h
  exact ⟨K, W, t, wd, ht, hI, hp W p, r⟩
theorem LP.ex {α : Type} {P : α → Wo → Prop} (h : LP w1 wr wb q (fun W => ∃ a, P a W)) : ∃ a, LP w1 wr wb q (P a) := by
  obtain ⟨K, W, t, wd, ht, hI, ⟨a, p⟩, r⟩ := h
  exact ⟨a, K, W, t, wd, ht, hI, p, r⟩
theorem LP.both {A : Prop} (h : LP w1 wr wb q (fun W => A ∧ P W)) : A ∧ LP w1 wr wb q P := by
  obtain ⟨K, W, t, wd, ht, hI, ⟨a, p⟩, r⟩ := h
  exact ⟨a, K, W, t, wd, ht, hI, p, r⟩
theorem LP.tick (S : SeM w1 s) (h : LP w1 wr wb q P) (hq : q ≤ 2600) (n : Int) {P' : Wo → Prop} (hp : ∀ W, P W → W.tcE n = 0 ∧ P' (W.tcd n)) :
    Calls Tryz.prog 12 #[.pointer (some ⟨wb, 0, none⟩), .int .i64 n] wr fun e w' => e = .returned .nilIface ∧ LP w1 w' wb (q + 1) P' := by
  obtain ⟨K, W, t, wd, ht, hI, p, rfl, hy⟩ := h
  obtain ⟨h1, h2⟩ := hp W p
  refine (tick_wd S wd (by omega) n (fun i y _ hy => (hI.up i y hy).tkE (by omega))).mono ?_
  rintro e w' ⟨rfl, K', wd', m⟩
  exact ⟨by rw [h1]; rfl, K', _, t + 1, wd', by omega, hI.tick (by omega) n, h2, m.wb, fun i hi => by rw [m.yk]; exact hy i hi⟩
theorem LP.drop (S : SeM w1 s) (h : LP w1 wr wb q P) (n : Int) {P' : Wo → Prop} (hp : ∀ W, P W → P' (W.dropped n)) :
    Calls Tryz.prog 9 #[.pointer (some ⟨wb, 0, none⟩), .int .i64 n] wr fun e w' => (∃ v, e = .returned v) ∧ LP w1 w' wb q P' := by
  obtain ⟨K, W, t, wd, ht, hI, p, rfl, hy⟩ := h
  refine (drop_wd S wd n).mono ?_
  rintro e w' ⟨rfl, K', wd', m⟩
  exact ⟨⟨_, rfl⟩, K', _, t, wd', ht, hI.drop n, hp W p, m.wb, fun i hi => by rw [m.yk]; exact hy i hi⟩
theorem LP.dlv (S : SeM w1 s) (h : LP w1 wr wb q P) (n : Int) {P' : Wo → Prop} (hp : ∀ W, P W → P' (W.dlv n)) :
    Calls Tryz.prog 13 #[.pointer (some ⟨wb, 0, none⟩), .int .i64 n] wr fun e w' => (∃ v, e = .returned v) ∧ LP w1 w' wb q P' := by
  obtain ⟨K, W, t, wd, ht, hI, p, rfl, hy⟩ := h
  refine (deliver_wd S wd n).mono ?_
  rintro e w' ⟨rfl, K', wd', m⟩
  exact ⟨⟨_, rfl⟩, K', _, t, wd', ht, hI.dlv n, hp W p, m.wb, fun i hi => by rw [m.yk]; exact hy i hi⟩
theorem downed_none (W : Wo) {i : Nat} (hi : i < 2) : (W.downed (i : Int)).nd i = none := by
  unfold Wo.downed Wo.upE
  rw [if_pos (by omega : (0 : Int) ≤ (i : Int) ∧ (i : Int) < 2), Int.toNat_natCast]
  cases hx : W.nd i with
  | none => rw [if_neg (by simp)]; exact hx
  | some x =>
    rw [if_pos (by simp)]
    exact setN_same _ _ _
theorem LP.down (S : SeM w1 s) (h : LP w1 wr wb q P) (i : Nat) (hi : i < 2) {P' : Wo → Prop} (hp : ∀ W, P W → ((W.downed (i : Int)).yb i).left ≤ 9223372036854775807 → P' (W.downed (i : Int))) :
    Calls Tryz.prog 10 #[.pointer (some ⟨wb, 0, none⟩), .int .i64 i] wr fun e w' => (∃ v, e = .returned v) ∧ LP w1 w' wb q P' := by
  obtain ⟨K, W, t, wd, ht, hI, p, rfl, hy⟩ := h
  refine (down_wd S wd i).mono ?_
  rintro e w' ⟨rfl, K', wd', m⟩
  have hy' : ∀ j, j < 2 → ∃ b, K'.yk j = some b := fun j hj => by rw [m.yk]; exact hy j hj
  refine ⟨⟨_, rfl⟩, K', _, t, wd', ht, hI.down i, hp W p ?_, m.wb, hy'⟩
  have hn := downed_none W hi
  obtain ⟨b, hb⟩ := hy' i hi
  rcases wd'.sd hi with ⟨k, y, _, _, _, e2, _⟩ | ⟨b', _, _, _, _, r⟩ | ⟨_, _, e3⟩
  · rw [hn] at e2; cases e2
  · exact r
  · rw [hb] at e3; cases e3
theorem LP.up (S : SeM w1 s) (h : LP w1 wr wb q P) (hq : q ≤ 2600) (i : Nat) (hi : i < 2) {P' : Wo → Prop} (hp : ∀ W, P W → In (q + 1) W → RulesOk W.ru → W.nd i = none ∧ P' (W.upped (i : Int))) :
    Calls Tryz.prog 11 #[.pointer (some ⟨wb, 0, none⟩), .int .i64 i] wr fun e w' => e = .returned .nilIface ∧ LP w1 w' wb (q + 1) P' := by
  obtain ⟨K, W, t, wd, ht, hI, p, rfl, hy⟩ := h
  obtain ⟨hn, h2⟩ := hp W p hI wd.ro
  have hro : W.roE (i : Int) = 0 := by unfold Wo.roE; rw [if_pos (by omega), Int.toNat_natCast, hn]; rfl
  refine (rup_wd S wd i (fun j ej hj hjn => ?_)).mono ?_
  · obtain ⟨b, hb⟩ := hy j hj
    exact ⟨b, hb, (hI.dn j hj hjn).newOk (by omega) hj wd.ro⟩
  rintro e w' ⟨rfl, K', wd', m⟩
  exact ⟨by rw [hro]; rfl, K', _, t, wd', by omega, hI.upN (by omega) wd.ro i, h2, m.wb, fun j hj => by rw [m.yk]; exact hy j hj⟩
/-- a node of it that is up. -/
theorem LP.node (S : SeM w1 s) (h : LP w1 wr wb q P) (i : Nat) (hi : i < 2) {R : No → Prop} (hp : ∀ W, P W → ∃ x, W.nd i = some x ∧ R x) :
    Calls Tryz.prog 14 #[.pointer (some ⟨wb, 0, none⟩), .int .i64 i] wr fun e w' => (∃ b r, e = .returned (.tuple #[.pointer (some ⟨b, 0, none⟩), .nilIface]) ∧ (∃ x, w'.cell? ⟨b, 0, none⟩ = some (.pointer (some ⟨r, 0, none⟩)) ∧ Rol w' r x.ro ∧ R x)) ∧ LP w1 w' wb q P ∧ Below wr.heap.size wr w' := by
  have h' := h
  obtain ⟨K, W, t, wd, ht, hI, p, rfl, hy⟩ := h
  obtain ⟨x, hx, hr⟩ := hp W p
  refine (node_wd S wd i).mono ?_
  rintro e w' ⟨hc, hb⟩
  refine ⟨?_, h'.below hb, hb⟩
  rcases hc with ⟨j, y, k, ej, hj, hn, hk, rfl⟩ | ⟨e1, hu, rfl⟩
  · obtain rfl : i = j := by omega
    rw [hx] at hn
    cases hn
    obtain ⟨k2, m, n, hk2, nd, _⟩ := (wd.below hb).up hi hx
    rw [hk] at hk2
    cases hk2
    exact ⟨k.nd, k.ro, rfl, x, nd.c0, nd.ro, hr⟩
  · have : W.upE (i : Int) = 0 := by unfold Wo.upE; rw [if_pos (by omega), Int.toNat_natCast, hx]; rfl
    omega
theorem LP.switch (h : LP w1 wr wb q P) {R : Int → Int → Prop} (hp : ∀ W, P W → W.he ≠ 0 ∧ R W.hn W.he) :
    Calls Tryz.prog 16 #[.pointer (some ⟨wb, 0, none⟩)] wr fun e w' => (∃ a b, e = .returned (.tuple #[.int .i64 a, .int .i64 b]) ∧ R a b) ∧ LP w1 w' wb q P ∧ Below wr.heap.size wr w' := by
  have h' := h
  obtain ⟨K, W, t, wd, ht, hI, p, rfl, hy⟩ := h
  obtain ⟨h1, h2⟩ := hp W p
  refine (switch_any wd.wb).mono ?_
  rintro e w' ⟨rfl, hb⟩
  exact ⟨⟨W.hn, W.he, by rw [if_neg h1], h2⟩, h'.below hb, hb⟩
end
/-- notes are dropped, so many. -/
def dr : Nat → Wo → Wo
  | 0, W => W
  | d + 1, W => (dr d W).dropped 0
theorem dr_same (W : Wo) : ∀ d, (dr d W).nd = W.nd ∧ (dr d W).yb = W.yb ∧ (dr d W).ru = W.ru ∧ (dr d W).fl.length = W.fl.length - d
  | 0 => ⟨rfl, rfl, rfl, rfl⟩
  | d + 1 => by
    obtain ⟨a1, a2, a3, a4⟩ := dr_same W d
    rw [dr]
    unfold Wo.dropped Wo.flE
    by_cases h : (0 : Int) ≤ 0 ∧ (0 : Int) < ((dr d W).fl.length : Int)
    · rw [if_pos (by rw [if_pos h])]
      refine ⟨a1, a2, a3, ?_⟩
      show ((dr d W).fl.eraseIdx (Int.toNat 0)).length = _
      rw [List.length_eraseIdx_of_lt (by show 0 < _; omega)]
      omega
    · rw [if_neg (by rw [if_neg h]; decide)]
      exact ⟨a1, a2, a3, by omega⟩
theorem Ap.dr {q : Nat} {W : Wo} (h : Ap q W) : ∀ d, Ap q (dr d W)
  | 0 => h
  | d + 1 => (Ap.dr h d).drop 0
/-- behind so many that are up anew. -/
structure Ud (q j : Nat) (W : Wo) : Prop where
  fl : W.fl = []
  ap : Ap q W
  nw : ∀ i, i < j → ∃ y, W.nd i = some (No.new i y.oned W.ru) ∧ YI q y ∧ y.left ≤ 9223372036854775807
theorem dr_ud {q q' n : Nat} {W : Wo} (h : Ap q W) (hf : W.fl.length ≤ n) (hq : q ≤ q') : Ud q' 0 (dr n W) :=
  ⟨List.length_eq_zero_iff.1 (by rw [(dr_same W n).2.2.2]; omega), (h.dr n).mono hq, fun i hi => by omega⟩
/-- one is down. -/
structure Dn (q j : Nat) (W : Wo) : Prop where
  fl : W.fl = []
  ap : Ap q W
  nw : ∀ i, i < j → ∃ y, W.nd i = some (No.new i y.oned W.ru) ∧ YI q y ∧ y.left ≤ 9223372036854775807
  dn : W.nd j = none
  lf : (W.yb j).left ≤ 9223372036854775807
theorem downed_same (W : Wo) (n : Int) : (W.downed n).fl = W.fl ∧ (W.downed n).ru = W.ru ∧ ∀ i : Nat, n ≠ i → (W.downed n).nd i = W.nd i := by
  unfold Wo.downed
  split
  · rename_i hu
    have h0 : 0 ≤ n := by unfold Wo.upE at hu; split at hu; omega; omega
    split
    · exact ⟨rfl, rfl, fun i hi => setN_other _ _ (by omega)⟩
    · exact ⟨rfl, rfl, fun _ _ => rfl⟩
  · exact ⟨rfl, rfl, fun _ _ => rfl⟩
theorem Ud.down {q j : Nat} {W : Wo} (h : Ud q j W) (hj : j < 2) (hl : ((W.downed (j : Int)).yb j).left ≤ 9223372036854775807) : Dn q j (W.downed (j : Int)) := by
  obtain ⟨s1, s2, s3⟩ := downed_same W j
  refine ⟨s1.trans h.fl, h.ap.down j, fun i hi => ?_, downed_none W hj, hl⟩
  rw [s3 i (by omega), s2]
  exact h.nw i hi
theorem Dn.up {q j : Nat} {W : Wo} (h : Dn q j W) (hj : j < 2) (hI : In q W) (hq : q ≤ 900) (hr : RulesOk W.ru) : Ud q (j + 1) (W.upped (j : Int)) := by
  have hro : W.roE (j : Int) = 0 := by unfold Wo.roE; rw [if_pos (by omega), Int.toNat_natCast, h.dn]; rfl
  have hup : W.upped (j : Int) = W.risen j := by unfold Wo.upped; rw [if_pos hro, Int.toNat_natCast]
  have hap := h.ap.upN hI hq hr j
  rw [hup] at hap ⊢
  refine ⟨h.fl, hap, fun i hi => ?_⟩
  by_cases e : i = j
  · subst e
    exact ⟨W.yb i, setN_same _ _ _, hI.dn i hj h.dn, h.lf⟩
  · obtain ⟨y, a1, a2, a3⟩ := h.nw i (by omega)
    exact ⟨y, (setN_other _ _ e).trans a1, a2, a3⟩
/-- a node that is up anew can claim. -/
theorem up_put {q i : Nat} {y : By} {l : List Rl} (h : YI q y) (hq : q ≤ 400) (hl : y.left ≤ 9223372036854775807) : (putE false (No.new i y.oned l).y (Ro.new i (newest y.B).e).nx (((newest y.B).l + 1 : Nat) : Int)).1 = 0 := by
  have B : Beg y.oned (newest y.B).n (newest y.B).e (newest y.B).l := ⟨⟨rfl, rfl, h.len, hl⟩, rfl, by have := h.n; omega, by have := h.e; omega, by have := h.l; omega⟩
  have N := B.new
  have B2 : Beg (yNew y.oned) ((newest y.B).n + 1) (newest y.B).e ((newest y.B).l + 1) := ⟨N.2.1, N.2.2, by have := h.n; omega, by have := h.e; omega, by have := h.l; omega⟩
  have hb := nxN_lt i (newest y.B).e
  have := (B2.put (ep := nxN i (newest y.B).e) (li := (newest y.B).l + 1) (by omega) (by have := h.e; omega) (Nat.le_refl _) (by have := h.l; omega)).1
  rw [nxN_eq]
  exact this
/-- both are up anew. -/
theorem Ud.both {q : Nat} {W : Wo} (h : Ud q 2 W) (hq : q ≤ 400) {f : Nat} (hf : f < 2) (hr : RulesOk W.ru) : ∃ e L Y, Bg2 e L Y ∧ PO e L Y f 0 W := by
  have hy : ∀ i, ∃ y, i < 2 → W.nd i = some (No.new i y.oned W.ru) ∧ YI q y ∧ y.left ≤ 9223372036854775807 := fun i => by
    by_cases hi : i < 2
    · obtain ⟨y, k⟩ := h.nw i hi
      exact ⟨y, fun _ => k⟩
    · exact ⟨new0, fun z => absurd z hi⟩
  obtain ⟨y, hy⟩ : ∃ y : Nat → By, ∀ i, i < 2 → W.nd i = some (No.new i (y i).oned W.ru) ∧ YI q (y i) ∧ (y i).left ≤ 9223372036854775807 := ⟨fun i => Classical.choose (hy i), fun i => Classical.choose_spec (hy i)⟩
  refine ⟨fun i => (newest (y i).B).e, fun i => (newest (y i).B).l + 1, fun i => (No.new i (y i).oned W.ru).y, ⟨fun i hi => ?_, fun i _ => ?_, fun i hi => ?_⟩, .inl ⟨by omega, ?_⟩⟩
  · have := (hy i hi).2.1.e
    show (newest (y i).B).e ≤ 5000
    omega
  · show 1 ≤ (newest (y i).B).l + 1
    omega
  · exact up_put (hy i hi).2.1 hq (hy i hi).2.2
  · have hq2 : ∀ i, Qn i (newest (y i).B).e ((newest (y i).B).l + 1) (No.new i (y i).oned W.ru).y 0 (No.new i (y i).oned W.ru) := fun i => Qn.new (id := i) (y := (y i).oned) (l := W.ru)
    refine ⟨No.new f (y f).oned W.ru, No.new (1 - f) (y (1 - f)).oned W.ru, (hy f hf).1, (hy (1 - f) (by omega)).1, h.fl, hq2 f, hq2 (1 - f), ?_, ?_, .inl ⟨by omega, ?_⟩⟩
    · show (0 : Int) ≤ (((newest (y (1 - f)).B).l + 1 : Nat) : Int)
      omega
    · show (0 : Int) ≤ (((newest (y f).B).l + 1 : Nat) : Int)
      omega
    · by_cases h0 : W.he = 0
      · left
        rw [h0]
        show (0 : Int) ≤ (((newest (y f).B).e : Nat) : Int)
        omega
      · have hev := h.ap.ev _ (h.ap.sw h0)
        have hd : ∀ i, i < 2 → W.dur i = ((newest (y i).B).e : Int) := fun i hi => by
          unfold Wo.dur
          rw [byt_up (hy i hi).1, new_newest (hy i hi).2.1 (by omega) hi hr]
        have e4 := hev.2.2.2
        simp only at e4
        have hi : W.hn.toNat < 2 := by have := hev.1; simp only at this; omega
        rw [hd _ hi] at e4
        by_cases e5 : W.hn.toNat = f
        · left; rw [e5] at e4; exact e4
        · right
          have e6 : W.hn.toNat = 1 - f := by omega
          rw [e6] at e4
          exact e4
end Go.Proofs.YtegihhjddnckgaaGreatDoor
