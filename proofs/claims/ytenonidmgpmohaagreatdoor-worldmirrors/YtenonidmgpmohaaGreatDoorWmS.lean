/-
  Package play's Settle: a node ticks, and all is delivered.
-/
import Derived.Test.YtenonidmgpmohaaGreatDoorWmT
import Derived.Test.YtenonidmgpmohaaGreatDoorWoMy
import Derived.Test.YtenonidmgpmohaaGreatDoorWaF
import Derived.Test.YtenonidmgpmohaaGreatDoorNoTb
import Derived.Test.YtenonidmgpmohaaGreatDoorMiK
namespace Go.Proofs.YtenonidmgpmohaaGreatDoor
open Go.RowKit

/-- a world of which P holds; its nodes lie where they lay, and a block of nobody's is as it was. -/
def LQ (w1 wr : World) (wb q : Nat) (nk0 : Nat → Option Bk) (fr : Option (Nat × Obj)) (P : Wo → Prop) : Prop := ∃ K W t, Wd w1 wr K W t ∧ t ≤ q ∧ In (q + 1) W ∧ P W ∧ K.wb = wb ∧ (∀ i k, K.nk i = some k → nk0 i = some k) ∧ ∀ Z o, fr = some (Z, o) → K.tag Z = 9 ∧ Z < wr.heap.size ∧ wr.heap[Z]? = some o
section
variable {w1 wr : World} {wb q : Nat} {nk0 : Nat → Option Bk} {fr : Option (Nat × Obj)} {P : Wo → Prop} {s : Nat → Addr}
theorem LQ.bl (h : LQ w1 wr wb q nk0 fr P) : Below w1.heap.size w1 wr := by obtain ⟨K, W, t, wd, _⟩ := h; exact wd.bl
theorem LQ.below {w' : World} (h : LQ w1 wr wb q nk0 fr P) (hb : Below wr.heap.size wr w') : LQ w1 w' wb q nk0 fr P := by
  obtain ⟨K, W, t, wd, ht, hI, p, e, hk, hf⟩ := h
  exact ⟨K, W, t, wd.below hb, ht, hI, p, e, hk, fun Z o ez => by obtain ⟨a, b, c⟩ := hf Z o ez; exact ⟨a, Nat.lt_of_lt_of_le b hb.size, by rw [hb.block Z b]; exact c⟩⟩
theorem LQ.imp {P' : Wo → Prop} (h : LQ w1 wr wb q nk0 fr P) (hp : ∀ W, P W → P' W) : LQ w1 wr wb q nk0 fr P' := by
  obtain ⟨K, W, t, wd, ht, hI, p, r⟩ := h
  exact ⟨K, W, t, wd, ht, hI, hp W p, r⟩
theorem LQ.fix (h : LQ w1 wr wb q nk0 fr P) : ∃ W, P W ∧ W.fl.length ≤ 200 ∧ (∀ i x, W.nd i = some x → i < 2 → 0 ≤ x.now) ∧ In (q + 1) W ∧ LQ w1 wr wb q nk0 fr (fun V => V = W) := by
  obtain ⟨K, W, t, wd, ht, hI, p, r⟩ := h
  refine ⟨W, p, wd.fl.le, fun i x hx hi => ?_, hI, K, W, t, wd, ht, hI, rfl, r⟩
  obtain ⟨k, m, n, _, _, _, _, _, q3, _⟩ := wd.up hi hx
  exact q3
/-- a node of it, where it lay. -/
theorem LQ.at' {W : Wo} (h : LQ w1 wr wb q nk0 fr (fun V => V = W)) {i : Nat} (hi : i < 2) {x : No} {k : Bk} (hx : W.nd i = some x) (hk : nk0 i = some k) : ∃ m n, Nd w1 wr k x m n := by
  obtain ⟨K, V, t, wd, ht, hI, p, e, hn, hf⟩ := h
  subst p
  obtain ⟨k2, m, n, hk2, nd, _⟩ := wd.up hi hx
  have := hn i k2 hk2
  rw [hk] at this
  cases this
  exact ⟨m, n, nd⟩
theorem mw_fr {K K' : WK} {w w' : World} (m : Mw K K' w w') (hf : ∀ Z o, fr = some (Z, o) → K.tag Z = 9 ∧ Z < w.heap.size ∧ w.heap[Z]? = some o) : ∀ Z o, fr = some (Z, o) → K'.tag Z = 9 ∧ Z < w'.heap.size ∧ w'.heap[Z]? = some o := fun Z o e => by
  obtain ⟨a, b, c⟩ := hf Z o e
  exact ⟨by rw [m.tag Z b]; exact a, Nat.lt_of_lt_of_le b m.size, by rw [m.block Z b (.inl a)]; exact c⟩
theorem LQ.dlv (S : SeM w1 s) (h : LQ w1 wr wb q nk0 fr P) {P' : Wo → Prop} (hp : ∀ W, P W → P' (W.dlv 0)) :
    Calls Tryz.prog 10 #[.pointer (some ⟨wb, 0, none⟩), .int .i64 0] wr fun e w' => (∃ v, e = .returned v) ∧ LQ w1 w' wb q nk0 fr P' := by
  obtain ⟨K, W, t, wd, ht, hI, p, rfl, hk, hf⟩ := h
  refine (deliver_wm S wd 0).mono ?_
  rintro e w' ⟨rfl, K', wd', m⟩
  exact ⟨⟨_, rfl⟩, K', _, t, wd', ht, hI.dlv 0, hp W p, m.wb, fun i k e => hk i k (m.nk i k e), mw_fr m hf⟩
theorem LQ.tick (S : SeM w1 s) (h : LQ w1 wr wb q nk0 fr P) (hq : q ≤ 2600) (n : Int) {P' : Nat → Wo → Prop} (hp : ∀ W, P W → P' (W.tcE n) (W.tcd n)) :
    Calls Tryz.prog 16 #[.pointer (some ⟨wb, 0, none⟩), .int .i64 n] wr fun e w' => ∃ c, e = .returned (terr s c) ∧ LQ w1 w' wb (q + 1) nk0 fr (P' c) := by
  obtain ⟨K, W, t, wd, ht, hI, p, rfl, hk, hf⟩ := h
  refine (tick_wm S wd (by omega) n (fun i y _ hy => (hI.up i y hy).tkE (by omega))).mono ?_
  rintro e w' ⟨rfl, K', wd', m⟩
  exact ⟨W.tcE n, rfl, K', _, t + 1, wd', by omega, hI.tick (by omega) n, hp W p, m.wb, fun i k e => hk i k (m.nk i k e), mw_fr m hf⟩
theorem LQ.many {W : Wo} (h : LQ w1 wr wb q nk0 fr (fun V => V = W)) :
    Calls Tryz.prog 60 #[.pointer (some ⟨wb, 0, none⟩)] wr fun e w' => e = .returned (.int .i64 W.fl.length) ∧ w' = wr := by
  obtain ⟨K, V, t, wd, ht, hI, p, rfl, hn, hf⟩ := h
  subst p
  exact many_wd wd.wb wd.fl
/-- how many notes are on their way, in memory. -/
def flM (wb : Nat) (w : World) : Nat := match w.cell? ⟨wb, 7, none⟩ with | some (.slice _ n _) => n | _ => 0
theorem LQ.flM {W : Wo} (h : LQ w1 wr wb q nk0 fr (fun V => V = W)) : flM wb wr = W.fl.length := by
  obtain ⟨K, V, t, wd, ht, hI, p, rfl, hn, hf⟩ := h
  subst p
  have c7 : wr.cell? ⟨K.wb, 7, none⟩ = some (slV K.fg V.fl.length) := wd.wb.c 7
  obtain ⟨p, c, e⟩ := wd.fl.sl
  rw [e] at c7
  unfold Go.Proofs.YtenonidmgpmohaaGreatDoor.flM
  rw [c7]
end
set_option maxRecDepth 100000 in
set_option maxHeartbeats 2000000 in
theorem dall_lq {w1 wr : World} {wb q : Nat} {nk0 : Nat → Option Bk} {fr : Option (Nat × Obj)} {s : Nat → Addr} {W : Wo} (S : SeM w1 s) (h : LQ w1 wr wb q nk0 fr (fun V => V = W)) :
    Calls Tryz.prog 35 #[.pointer (some ⟨wb, 0, none⟩)] wr fun e w' => e = .returned (.tuple #[]) ∧ LQ w1 w' wb q nk0 fr (fun V => V = dl W.fl.length W) := by
  have HS : Hid (SeM w1 s) := S
  have L0 : Hid (LQ w1 wr wb q nk0 fr (fun V => V = dl 0 W)) := h
  clear S h
  go_enter Tryz.func35, Tryz.ntmps35
  go_wp2_with fail
  go_loopw [] (fun u => ∃ d : Nat, d ≤ W.fl.length ∧ LQ w1 u wb q nk0 fr (fun V => V = dl d W)) (fun u => flM wb u)
  case atStart => exact ⟨0, by omega, L0.out⟩
  case round =>
    obtain ⟨d, hd, ld⟩ := hrel
    have LD : Hid (LQ w1 wr wb q nk0 fr (fun V => V = dl d W)) := ld
    have HM : Hid (flM wb wr = (dl d W).fl.length) := ld.flM
    have HD : Hid ((dl d W).fl.length = W.fl.length - d) := dl_fl W d
    clear ld L0
    go_wp2_with fail
    refine LD.out.many.mono ?_
    rintro e w2 ⟨rfl, hw⟩
    obtain rfl := hw.symm
    clear hw
    rw [HD.out]
    by_cases hlt : d < W.fl.length
    · have i1 : (0 : Int) < ((W.fl.length - d : Nat) : Int) := by omega
      go_wp2_with fail
      refine (LD.out.dlv HS.out (P' := fun V => V = dl (d + 1) W) (fun V e => by rw [e]; rfl)).mono ?_
      rintro e w3 ⟨⟨v3, rfl⟩, l3⟩
      have L3 : Hid (LQ w1 w3 wb q nk0 fr (fun V => V = dl (d + 1) W)) := l3
      clear l3 LD
      go_wp2_with fail
      refine ⟨⟨d + 1, by omega, L3.out⟩, ?_⟩
      rw [L3.out.flM, HM.out, HD.out, dl_fl]
      omega
    · obtain rfl : d = W.fl.length := by omega
      have i1 : ¬ (0 : Int) < ((W.fl.length - W.fl.length : Nat) : Int) := by omega
      go_wp2_with fail
      go_end0
      exact ⟨rfl, LD.out⟩
/-- what Settle answers. -/
def SetV (w1 : World) (wb q n : Nat) (nk0 : Nat → Option Bk) (fr : Option (Nat × Obj)) (W : Wo) (e : Ending) (w' : World) : Prop := ((e = .returned .nilIface ∧ LQ w1 w' wb (q + 24) nk0 fr (fun V => V = rnds n 24 W)) ∨ ∃ a b, e = .returned (.iface a b)) ∧ Below w1.heap.size w1 w'
set_option maxRecDepth 100000 in
set_option maxHeartbeats 2000000 in
theorem settle_lq {w1 wr : World} {wb q n : Nat} {nk0 : Nat → Option Bk} {fr : Option (Nat × Obj)} {s : Nat → Addr} {W : Wo} (S : SeM w1 s) (hq : q ≤ 2000) (h : LQ w1 wr wb q nk0 fr (fun V => V = W)) :
    Calls Tryz.prog 13 #[.pointer (some ⟨wb, 0, none⟩), .int .i64 n] wr fun e w' => SetV w1 wb q n nk0 fr W e w' := by
  have HS : Hid (SeM w1 s) := S
  have HQ : Hid (q ≤ 2000) := hq
  have L0 : Hid (LQ w1 wr wb (q + 0) nk0 fr (fun V => V = rnds n 0 W)) := h
  clear S h hq
  go_enter Tryz.func13, Tryz.ntmps13
  go_wp2_with fail
  go_loopw [5, 6] (fun _ t u => ∃ r : Nat, r ≤ 24 ∧ t = .int .i64 r ∧ LQ w1 u wb (q + r) nk0 fr (fun V => V = rnds n r W)) (fun _ t _ => 24 - (intOf t).toNat)
  case atStart => exact ⟨0, by omega, rfl, L0.out⟩
  case round =>
    obtain ⟨r, hr, rfl, lr⟩ := hrel
    have LR : Hid (LQ w1 wr wb (q + r) nk0 fr (fun V => V = rnds n r W)) := lr
    clear lr L0
    by_cases hlt : r < 24
    · have r1 : (r : Int) < 24 := by omega
      go_wp2_with fail
      refine (LR.out.tick HS.out (by have := HQ.out; omega) (n : Int) (P' := fun c V => V = (rnds n r W).tcd (n : Int)) (fun V e => by rw [e])).mono ?_
      rintro e w2 ⟨c, rfl, l2⟩
      have L2 : Hid (LQ w1 w2 wb (q + r + 1) nk0 fr (fun V => V = (rnds n r W).tcd (n : Int))) := l2
      clear l2 LR
      cases c with
      | zero =>
        simp only [terr]
        go_wp2_with fail
        refine (dall_lq HS.out L2.out).mono ?_
        rintro e w3 ⟨rfl, l3⟩
        have L3 : Hid (LQ w1 w3 wb (q + (r + 1)) nk0 fr (fun V => V = rnds n (r + 1) W)) := l3
        clear l3 L2
        go_wp2_with fail
        exact ⟨⟨r + 1, by omega, by go_num, L3.out⟩, by simp [intOf]; omega⟩
      | succ c =>
        simp only [terr]
        go_wp2_with fail
        go_ret
        exact ⟨.inr ⟨_, _, rfl⟩, L2.out.bl⟩
    · obtain rfl : r = 24 := by omega
      go_wp2_with fail
      go_ret
      exact ⟨.inl ⟨rfl, LR.out⟩, LR.out.bl⟩
theorem mirror_nd {w0 w : World} {k : Bk} {x : No} {m n : Nat} (h : Nd w0 w k x m n) :
    Calls Tryz.prog 15 #[.pointer (some ⟨k.nd, 0, none⟩)] w fun e w' => (∃ Z, e = .returned (.slice (some ⟨Z, 0, none⟩) 32 32) ∧ CellsB w' Z x.mt) ∧ Below w.heap.size w w' := by
  have HN : Hid (Nd w0 w k x m n) := h
  have c := h.c7
  clear h
  go_enter Tryz.func15, Tryz.ntmps15
  go_wp2_with fail
  refine (mcells_any k.mi x.ml x.mt w HN.out.mi).mono ?_
  rintro e w1 ⟨rfl, cb, b1⟩
  have CB : Hid (CellsB w1 w.heap.size x.mt ∧ Below w.heap.size w w1) := ⟨cb, b1⟩
  clear cb b1
  go_wp2_with fail
  go_ret
  exact ⟨⟨_, rfl, CB.out.1⟩, CB.out.2⟩
end Go.Proofs.YtenonidmgpmohaaGreatDoor
