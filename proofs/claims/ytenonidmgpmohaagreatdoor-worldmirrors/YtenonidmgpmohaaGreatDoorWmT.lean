/-
  A node that is active settles: eight batches make the other one's mirror whole.
-/
import Derived.Test.YtenonidmgpmohaaGreatDoorWmM
import Derived.Test.YtenonidmgpmohaaGreatDoorWnM
namespace Go.Proofs.YtenonidmgpmohaaGreatDoor
open Go.RowKit

theorem dl_more {V : Wo} {k : Nat} (h : (dl k V).fl = []) : ∀ m, dl (k + m) V = dl k V
  | 0 => rfl
  | m + 1 => by
    show (dl (k + m) V).dlv 0 = _
    rw [dl_more h m, dlv_nil h]
theorem dlv_fl (W : Wo) : (W.dlv 0).fl = W.fl.eraseIdx 0 := by
  cases hf : W.fl with
  | nil => rw [dlv_nil hf, hf]; rfl
  | cons t l =>
    rw [dlv_cons hf]
    unfold Wo.delivered
    split
    · rw [(heard_same _ t).2.1]; show W.fl.eraseIdx 0 = _; rw [hf]
    · rw [(handed_same _ t).1]; show W.fl.eraseIdx 0 = _; rw [hf]
theorem dl_fl (V : Wo) : ∀ k, (dl k V).fl.length = V.fl.length - k
  | 0 => rfl
  | k + 1 => by
    show ((dl k V).dlv 0).fl.length = _
    rw [dlv_fl]
    have := dl_fl V k
    by_cases h : (dl k V).fl = []
    · rw [h] at this ⊢
      simp at this ⊢
      omega
    · rw [List.length_eraseIdx_of_lt (by have := List.length_pos_iff.2 h; omega)]
      omega
theorem dl_all (V : Wo) {k : Nat} (hk : V.fl.length ≤ k) : (dl k V).fl = [] := List.length_eq_zero_iff.1 (by rw [dl_fl]; omega)
/-- a node ticks, and all is delivered. -/
def rnd (n : Nat) (W : Wo) : Wo := dl (W.tcd (n : Int)).fl.length (W.tcd (n : Int))
def rnds (n : Nat) : Nat → Wo → Wo
  | 0, W => W
  | r + 1, W => rnd n (rnds n r W)
theorem rnd_half {n : Nat} {W : Wo} (h : (W.tcd (n : Int)).fl.length ≤ 8) : rnd n W = half n W := by
  unfold rnd half
  have := dl_more (dl_all (W.tcd (n : Int)) (Nat.le_refl _)) (8 - (W.tcd (n : Int)).fl.length)
  rw [show (W.tcd (n : Int)).fl.length + (8 - (W.tcd (n : Int)).fl.length) = 8 by omega] at this
  exact this.symm
/-- what a node that is active tells. -/
def tolds (T : Tb) (D : To) (c : Nat) : List Tc := (nxL T D c).map fun (j : Nat) => (⟨(j : Int), T j⟩ : Tc)
theorem act_gen {x : No} (ha : x.ro.ac = true) : x.tkE = 0 ∧ x.tick.ro = x.ro ∧ x.tick.T = expT x.T (x.now + 1) 32 ∧ x.tick.now = x.now + 1 ∧ x.tick.life = x.life ∧ x.tick.id = x.id ∧ (((x.now + 1) % 3 ≠ 0 ∧ x.tickL.map x.tk1.fly = [] ∧ x.tick.D = x.D ∧ x.tick.cu = x.cu) ∨ ((x.now + 1) % 3 = 0 ∧ x.tickL.map x.tk1.fly = [⟨x.id, x.life, x.ro.ep, true, []⟩, ⟨x.id, x.life, x.ro.ep, false, tolds x.tick.T x.D x.cu⟩] ∧ x.tick.D = toldD x.tick.T x.D (nxL x.tick.T x.D x.cu) ∧ x.tick.cu = nxC x.tick.T x.D x.cu)) := by
  have htk : x.ro.tick = x.ro := by unfold Ro.tick; rw [if_pos ha]
  have hring : x.ro.rings = false := by unfold Ro.rings; rw [if_pos ha]
  have hE : x.tkE = 0 := by unfold No.tkE; rw [hring]; rfl
  have hk : x.tk1 = x.ticked := by unfold No.tk1; rw [hring]; rfl
  have ht : x.tick = x.ticked.noted := by unfold No.tick; rw [if_pos hE, hk]
  obtain ⟨t1, t2', t3, t4, t5, t6, t7, t8⟩ := tick_tk1 x
  rw [hk] at t1 t2' t3 t6 t8
  have hT : x.tick.T = expT x.T (x.now + 1) 32 := t3
  refine ⟨hE, t2'.trans htk, hT, t8, t6, t1, ?_⟩
  have hacT : x.ticked.ro.ac = true := by show x.ro.tick.ac = true; rw [htk]; exact ha
  have hepT : x.ticked.ro.ep = x.ro.ep := by show x.ro.tick.ep = _; rw [htk]
  have hL : x.tickL = (if x.ticked.due then [⟨true, []⟩] else []) ++ (if x.ticked.due then [⟨false, nxL x.ticked.T x.ticked.D x.ticked.cu⟩] else []) := by
    unfold No.tickL No.notes
    rw [if_pos hE, hk, if_pos hacT, ha]
    rfl
  by_cases h3 : (x.now + 1) % 3 = 0
  · have hd : x.ticked.due = true := by unfold No.due; exact decide_eq_true h3
    refine .inr ⟨h3, ?_, ?_, ?_⟩
    · rw [hL, hd, hk]
      show [x.ticked.fly ⟨true, []⟩, x.ticked.fly ⟨false, nxL x.ticked.T x.ticked.D x.ticked.cu⟩] = _
      unfold No.fly tolds
      rw [hepT, hT]
      rfl
    · rw [ht]
      unfold No.noted
      rw [hacT, hd]
      rfl
    · rw [ht]
      unfold No.noted
      rw [hacT, hd]
      rfl
  · have hd : x.ticked.due = false := by unfold No.due; exact decide_eq_false h3
    refine .inl ⟨h3, by rw [hL, hd]; rfl, ?_, ?_⟩
    · rw [ht]; unfold No.noted; rw [hd, Bool.and_false]; rfl
    · rw [ht]; unfold No.noted; rw [hd, Bool.and_false]; rfl
/-- a node that is active, the other one, and nothing on its way. -/
structure Sa (q n : Nat) (W : Wo) (x y : No) : Prop where
  nx : W.nd n = some x
  ny : W.nd (1 - n) = some y
  fl : W.fl = []
  ac : x.ro.ac = true
  mi : Mi W
  ap : Ap q W
  iq : In q W
theorem Ap.dl {q : Nat} {W : Wo} (h : Ap q W) : ∀ d, Ap q (dl d W)
  | 0 => h
  | d + 1 => (Ap.dl h d).dlv 0
theorem In.dl {q : Nat} {W : Wo} (h : In q W) : ∀ d, In q (dl d W)
  | 0 => h
  | d + 1 => (In.dl h d).dlv 0
theorem Mi.dl {W : Wo} (h : Mi W) : ∀ d, Mi (dl d W)
  | 0 => h
  | d + 1 => (Mi.dl h d).dlv 0
theorem Sa.step {q n : Nat} {W : Wo} {x y : No} (h : Sa q n W x y) (hn : n < 2) (hq : q ≤ 800) : W.tcE (n : Int) = 0 ∧ ∃ y', Sa (q + 1) n (rnd n W) x.tick y' ∧ (((x.now + 1) % 3 ≠ 0 ∧ y' = y ∧ x.tick.D = x.D ∧ x.tick.cu = x.cu) ∨ ((x.now + 1) % 3 = 0 ∧ y' = y.hrd ⟨n, x.life, x.ro.ep, false, tolds x.tick.T x.D x.cu⟩ ∧ x.tick.D = toldD x.tick.T x.D (nxL x.tick.T x.D x.cu) ∧ x.tick.cu = nxC x.tick.T x.D x.cu)) := by
  obtain ⟨hE, hro, hT, hnow, hli, hid, hc⟩ := act_gen h.ac
  have hidx : x.id = (n : Int) := (h.ap.nd n x h.nx).2.id
  have htc := tcd_up hn h.nx hE
  have hac : x.tick.ro.ac = true := by rw [hro]; exact h.ac
  have m1 := h.mi.tick h.iq h.ap (by omega) (n : Int)
  have a1 := h.ap.tick h.iq (by omega) (n : Int)
  have i1 := h.iq.tick (by omega) (n : Int)
  refine ⟨htc.1, ?_⟩
  rcases hc with ⟨c1, c2, c3, c4⟩ | ⟨c1, c2, c3, c4⟩
  · have k := half_quiet hn h.nx h.fl hE c2
    have hlen : (W.tcd (n : Int)).fl.length ≤ 8 := by
      rw [htc.2, (ticked_is (i := n) hE h.fl c2 (by simp)).2.1]
      simp
    have hr := rnd_half hlen
    refine ⟨y, ⟨by rw [hr, k.1, setN_same], by rw [hr, k.1, setN_other _ _ (by omega)]; exact h.ny, by rw [hr]; exact k.2.1, hac, m1.dl _, a1.dl _, i1.dl _⟩, .inl ⟨c1, rfl, c3, c4⟩⟩
  · rw [hidx] at c2
    have k := half_both hn h.nx h.ny h.fl hE (u := ⟨n, x.life, x.ro.ep, false, tolds x.tick.T x.D x.cu⟩) rfl rfl rfl c2
    have hlen : (W.tcd (n : Int)).fl.length ≤ 8 := by
      rw [htc.2, (ticked_is (i := n) hE h.fl c2 (by simp)).2.1]
      simp
    have hr := rnd_half hlen
    refine ⟨y.hrd ⟨n, x.life, x.ro.ep, false, tolds x.tick.T x.D x.cu⟩, ⟨by rw [hr, k.1, setN_other _ _ (by omega), setN_same], by rw [hr, k.1, setN_same], by rw [hr]; exact k.2.1, hac, m1.dl _, a1.dl _, i1.dl _⟩, .inr ⟨c1, rfl, c3, c4⟩⟩
/-- told cells as they are. -/
theorem takeL_keep {T : Tb} : ∀ (l : List Tc) {M : Tb} {j : Nat}, (∀ c ∈ l, c.c = T c.sl.toNat) → M j = T j → takeL M l j = T j
  | [], _, _, _, h => h
  | c :: l, M, j, hl, h => by
    refine takeL_keep l (M := takeT M c) (fun d hd => hl d (by simp [hd])) ?_
    unfold takeT
    split
    · unfold Go.Proofs.YtenonidmgpmohaaGreatDoor.upd
      split
      · rename_i e; rw [hl c (by simp), e]
      · exact h
    · exact h
theorem takeL_in {T : Tb} : ∀ (l : List Tc) {M : Tb} {j : Nat}, Sub M T → (∀ c ∈ l, COk T c ∧ c.c = T c.sl.toNat) → (∃ c ∈ l, c.sl.toNat = j) → j < 32 → takeL M l j = T j
  | [], _, _, _, _, ⟨c, hc, _⟩, _ => by simp at hc
  | c :: l, M, j, hs, hl, ⟨d, hd, hj⟩, h32 => by
    have hcc := hl c (by simp)
    by_cases e : c.sl.toNat = j
    · refine takeL_keep l (M := takeT M c) (fun d hd => (hl d (by simp [hd])).2) ?_
      unfold takeT
      split
      · unfold Go.Proofs.YtenonidmgpmohaaGreatDoor.upd
        rw [if_pos e.symm, hcc.2, e]
      · rename_i hlt
        rw [e] at hlt
        have hk := hs j h32
        refine hk.2 ?_
        have h1 : c.c.ve = (T j).ve := by rw [hcc.2, e]
        omega
    · refine takeL_in l (hs.take hcc.1) (fun d hd => hl d (by simp [hd])) ?_ h32
      rcases List.mem_cons.1 hd with q | q
      · rw [q] at hj; exact absurd hj e
      · exact ⟨d, q, hj⟩
theorem wk_upto (B : List Nat) (c : Nat) : ∀ j, (wk B c j).length ≤ B.length + j
  | 0 => Nat.le_refl _
  | j + 1 => by have := wk_upto B c j; have := (wk_len B c j).2; omega
/-- how a node settles: so many slots from the first cursor on are told. -/
structure Sv (T : Tb) (c0 N0 b : Nat) (x y : No) (S : Nat) : Prop where
  tt : x.T = T
  nw : (newsL T x.D).length ≤ N0 - 8 * b
  nl : (newsL T x.D).length ≤ N0
  cv : 8 * b ≤ S + (N0 - (newsL T x.D).length)
  cu : x.cu % 32 = (c0 + S) % 32
  in' : ∀ i, i < S → y.mt ((c0 + i) % 32) = T ((c0 + i) % 32)
  ml : 0 < b → y.ml = x.life
  z : b = 0 → S = 0
theorem Sv.batch {q n : Nat} {W : Wo} {x y : No} {T : Tb} {c0 N0 b S : Nat} (h : Sa q n W x y) (hn : n < 2) (hq : q ≤ 800) (v : Sv T c0 N0 b x y S) (hT : x.tick.T = T) (hD : x.tick.D = toldD x.tick.T x.D (nxL x.tick.T x.D x.cu)) (hcu : x.tick.cu = nxC x.tick.T x.D x.cu) :
    ∃ S', Sv T c0 N0 (b + 1) x.tick (y.hrd ⟨n, x.life, x.ro.ep, false, tolds x.tick.T x.D x.cu⟩) S' := by
  rw [hT] at hD hcu ⊢
  have sp := nx_spec T x.D x.cu
  obtain ⟨hE, hro, _, hnow, hli, hid, _⟩ := act_gen h.ac
  obtain ⟨m1, m2, m3, m4, m5⟩ := h.mi.nd n x h.nx
  obtain ⟨k1, k2, k3, k4, k5⟩ := h.mi.nd (1 - n) y h.ny
  rw [show 1 - (1 - n) = n by omega, ← m4] at k5
  have hX := h.iq.up n x h.nx
  have hep := hX.eq
  have hep0 := hX.ep
  have hyid : y.id = ((1 - n : Nat) : Int) := (h.ap.nd _ y h.ny).2.id
  have hcs : ∀ c ∈ tolds T x.D x.cu, COk T c ∧ c.c = T c.sl.toNat := fun c hc => by
    obtain ⟨j, hj, rfl⟩ := List.mem_map.1 hc
    have hj32 := sp.lt j hj
    have e1 : ((j : Nat) : Int).toNat = j := Int.toNat_natCast j
    have e2 : T j = T ((j : Nat) : Int).toNat := by rw [e1]
    exact ⟨⟨okS_iff.2 ⟨by show (0 : Int) ≤ (j : Int); omega, by show (j : Int) < 32; omega⟩, by show (T j).ve ≤ (T ((j : Nat) : Int).toNat).ve; rw [e1]; exact Int.le_refl _, fun _ => e2⟩, e2⟩
  have hlen : (tolds T x.D x.cu).length = 8 := by unfold tolds; rw [List.length_map, sp.len]
  have hte : tellE y.ml x.life (tolds T x.D x.cu) = 0 := by
    unfold tellE
    rw [if_neg, if_neg (by omega)]
    rintro (a | a | a)
    · omega
    · omega
    · obtain ⟨c, hm, hq⟩ := List.any_eq_true.1 a
      rw [(hcs c hm).1.1] at hq
      cases hq
  have he : y.heE ⟨n, x.life, x.ro.ep, false, tolds T x.D x.cu⟩ = 0 := by
    unfold No.heE
    rw [if_pos ⟨by show (n : Int) = 1 - y.id; rw [hyid]; omega, by show (0 : Int) ≤ x.ro.ep; omega, by show x.ro.ep ≤ 1073741824; omega⟩]
    exact hte
  have hx : y.hrd ⟨n, x.life, x.ro.ep, false, tolds T x.D x.cu⟩ = { y with ml := tellLife y.ml x.life (tolds T x.D x.cu), mt := tellT y.ml x.life y.mt (tolds T x.D x.cu), ro := y.ro.hear x.ro.ep } := by
    unfold No.hrd
    rw [if_pos he]
  obtain ⟨J, hJ⟩ : ∃ J, J = nxJ T x.D x.cu := ⟨_, rfl⟩
  have hL : nxL T x.D x.cu = wk ((newsL T x.D).take 8) x.cu J := by rw [hJ]; rfl
  have hC : nxC T x.D x.cu = (x.cu + J) % 32 := by rw [hJ]; rfl
  have h8 : 8 ≤ ((newsL T x.D).take 8).length + J := by
    have := wk_upto ((newsL T x.D).take 8) x.cu J
    rw [← hL, sp.len] at this
    exact this
  have hnews := sp.news
  have hN' : (newsL T (toldD T x.D (nxL T x.D x.cu))).length = (newsL T x.D).length - 8 := by rw [hnews, List.length_drop]
  have htk8 : ((newsL T x.D).take 8).length = min 8 (newsL T x.D).length := List.length_take
  have hV : VZ T := by rw [← v.tt]; exact m2
  -- the mirror ahead of it
  obtain ⟨M0, hM0, hsub, hkeep⟩ : ∃ M0, tellT y.ml x.life y.mt (tolds T x.D x.cu) = takeL M0 (tolds T x.D x.cu) ∧ Sub M0 T ∧ (0 < b → M0 = y.mt) := by
    unfold tellT
    rw [if_pos hte]
    by_cases hlt : y.ml < x.life
    · rw [if_pos hlt]
      exact ⟨newT, rfl, Sub.new hV, fun hb => by have := v.ml hb; omega⟩
    · rw [if_neg hlt]
      have := h.mi.mi n x y h.nx h.ny (by omega)
      rw [v.tt] at this
      exact ⟨y.mt, rfl, this, fun _ => rfl⟩
  have hinL : ∀ j, j ∈ nxL T x.D x.cu → takeL M0 (tolds T x.D x.cu) j = T j := fun j hj =>
    takeL_in _ hsub hcs ⟨⟨(j : Int), T j⟩, List.mem_map.2 ⟨j, hj, rfl⟩, Int.toNat_natCast j⟩ (sp.lt j hj)
  rw [hx]
  refine ⟨S + J, hT, ?_, ?_, ?_, ?_, ?_, fun _ => ?_, fun e => by omega⟩
  · rw [hD, hN']; have := v.nw; omega
  · rw [hD, hN']; have := v.nl; omega
  · rw [hD, hN']; have := v.nl; have := v.cv; omega
  · rw [hcu, hC]
    have := v.cu
    omega
  · intro i hi
    show tellT y.ml x.life y.mt (tolds T x.D x.cu) ((c0 + i) % 32) = _
    rw [hM0]
    by_cases hiS : i < S
    · refine takeL_keep _ (fun c hc => (hcs c hc).2) ?_
      rw [hkeep (by rcases Nat.eq_zero_or_pos b with e | e; (have := v.z e; omega); exact e)]
      exact v.in' i hiS
    · refine hinL _ ?_
      rw [hL, wk_mem]
      refine .inr ⟨i - S, by omega, ?_⟩
      have := v.cu
      omega
  · show tellLife y.ml x.life (tolds T x.D x.cu) = x.tick.life
    unfold tellLife
    rw [if_pos hte, hli]
theorem rnds_add (n : Nat) (W : Wo) (a : Nat) : ∀ b, rnds n (a + b) W = rnds n b (rnds n a W)
  | 0 => rfl
  | b + 1 => by
    show rnd n (rnds n (a + b) W) = rnd n (rnds n b (rnds n a W))
    rw [rnds_add n W a b]
/-- so many rounds. -/
theorem Sa.go {q n : Nat} {W : Wo} {x y : No} (h : Sa q n W x y) (hn : n < 2) : ∀ r, q + r ≤ 800 → (∀ k, k < r → (rnds n k W).tcE (n : Int) = 0) ∧ ∃ x' y', Sa (q + r) n (rnds n r W) x' y' ∧ x'.now = x.now + r ∧ Grw x.T x'.T ∧ ∀ j, 32 ≤ j → x'.T j = x.T j
  | 0, _ => ⟨fun k hk => by omega, x, y, h, by simp, Grw.refl _, fun _ _ => rfl⟩
  | r + 1, hr => by
    obtain ⟨h1, x', y', s, hnow, hg, hT⟩ := Sa.go h hn r (by omega)
    obtain ⟨h2, y2, s2, _⟩ := s.step hn (by omega)
    obtain ⟨_, _, k3, k4, _⟩ := act_gen s.ac
    refine ⟨fun k hk => ?_, x'.tick, y2, s2, by rw [k4, hnow]; omega, hg.trans (by rw [k3]; exact Grw.exp _ _ _), fun j hj => ?_⟩
    · by_cases e : k = r
      · subst e; exact h2
      · exact h1 k (by omega)
    · rw [k3]
      unfold expT
      rw [if_neg (by omega)]
      exact hT j hj
theorem newsL_le (T : Tb) (D : To) : (newsL T D).length ≤ 32 := by
  unfold newsL
  have := List.length_filter_le (fun j => decide ((T j).ve ≠ D j)) (List.range 32)
  simp at this ⊢
  exact this
theorem Sv.run {q n : Nat} {W : Wo} {x y : No} (h : Sa q n W x y) (hn : n < 2) (hq : q + 24 ≤ 800) (h0 : 0 ≤ x.now) (hc : ∀ r, r ≤ 24 → ∀ x', (rnds n r W).nd n = some x' → x'.T = x.T) : ∀ r, r ≤ 24 → ∃ x' y' S, Sa (q + r) n (rnds n r W) x' y' ∧ x'.now = x.now + r ∧ Sv x.T x.cu (newsL x.T x.D).length ((x.now.toNat + r) / 3 - x.now.toNat / 3) x' y' S
  | 0, _ => ⟨x, y, 0, h, by simp, ⟨rfl, by omega, Nat.le_refl _, by omega, rfl, fun i hi => by omega, fun e => by omega, fun _ => rfl⟩⟩
  | r + 1, hr => by
    obtain ⟨x', y', S, s, hnow, v⟩ := Sv.run h hn hq h0 hc r (by omega)
    obtain ⟨_, y2, s2, hcase⟩ := s.step hn (by omega)
    obtain ⟨_, _, _, k4, k5, _⟩ := act_gen s.ac
    have hT : x'.tick.T = x.T := hc (r + 1) hr x'.tick s2.nx
    have hnow2 : x'.tick.now = x.now + ((r + 1 : Nat) : Int) := by rw [k4, hnow]; omega
    rcases hcase with ⟨c1, rfl, c3, c4⟩ | ⟨c1, rfl, c3, c4⟩
    · have e1 : (x.now.toNat + (r + 1)) / 3 - x.now.toNat / 3 = (x.now.toNat + r) / 3 - x.now.toNat / 3 := by omega
      refine ⟨x'.tick, y2, S, s2, hnow2, ?_⟩
      rw [e1]
      exact ⟨hT, by rw [c3]; exact v.nw, by rw [c3]; exact v.nl, by rw [c3]; exact v.cv, by rw [c4]; exact v.cu, v.in', fun e => by rw [k5]; exact v.ml e, v.z⟩
    · have e1 : (x.now.toNat + (r + 1)) / 3 - x.now.toNat / 3 = (x.now.toNat + r) / 3 - x.now.toNat / 3 + 1 := by omega
      obtain ⟨S', v'⟩ := v.batch s hn (by omega) hT c3 c4
      refine ⟨x'.tick, _, S', s2, hnow2, ?_⟩
      rw [e1]
      exact v'
/-- a node settles: where its table has not changed, the other one's mirror is its table. -/
theorem settled {q n : Nat} {W : Wo} {x y : No} (h : Sa q n W x y) (hn : n < 2) (hq : q + 24 ≤ 800) (h0 : 0 ≤ x.now) : (∀ k, k < 24 → (rnds n k W).tcE (n : Int) = 0) ∧ ∃ x' y', Sa (q + 24) n (rnds n 24 W) x' y' ∧ Grw x.T x'.T ∧ ((∀ j, j < 32 → x'.T j = x.T j) → ∀ j, j < 32 → y'.mt j = x'.T j) := by
  obtain ⟨h1, x', y', s, _, hg, _⟩ := h.go hn 24 hq
  refine ⟨h1, x', y', s, hg, fun heq => ?_⟩
  have hc : ∀ r, r ≤ 24 → ∀ x2, (rnds n r W).nd n = some x2 → x2.T = x.T := fun r hr x2 hx2 => by
    obtain ⟨_, x3, y3, s3, _, hg3, hT3⟩ := h.go hn r (by omega)
    have e : x2 = x3 := by have := s3.nx; rw [hx2] at this; exact Option.some.inj this
    subst e
    obtain ⟨_, x4, y4, s4, _, hg4, _⟩ := s3.go hn (24 - r) (by omega)
    have e2 : x4 = x' := by
      have e5 := s4.nx
      rw [← rnds_add, show r + (24 - r) = 24 by omega, s.nx] at e5
      exact (Option.some.inj e5).symm
    subst e2
    funext j
    by_cases hj : j < 32
    · rcases hg3 j hj with e3 | e3
      · exact e3
      · have e6 := heq j hj
        rcases hg4 j hj with e4 | e4
        · rw [e4] at e6
          rw [e6] at e3
          omega
        · rw [e6] at e4
          omega
    · exact hT3 j (by omega)
  obtain ⟨x2, y2, S, s2, _, v⟩ := Sv.run h hn hq h0 hc 24 (by omega)
  have ex : x2 = x' := by have := s2.nx; rw [s.nx] at this; exact (Option.some.inj this).symm
  have ey : y2 = y' := by have := s2.ny; rw [s.ny] at this; exact (Option.some.inj this).symm
  subst ex
  subst ey
  intro j hj
  have hb : (x.now.toNat + 24) / 3 - x.now.toNat / 3 = 8 := by omega
  have hN := newsL_le x.T x.D
  have v1 := v.nw
  have v2 := v.cv
  rw [hb] at v1 v2
  have hS : 32 ≤ S := by omega
  have hi := v.in' ((j + 32 - x.cu % 32) % 32) (by omega)
  have e : (x.cu + (j + 32 - x.cu % 32) % 32) % 32 = j := by omega
  rw [e] at hi
  rw [hi, v.tt]
end Go.Proofs.YtenonidmgpmohaaGreatDoor
