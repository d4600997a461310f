/-
  Two roles in memory, what each has claimed, and all that was claimed; each call over them.
-/
import Derived.Test.YtneoflcfhdjcoabDoorRpM
import Derived.Test.YtneoflcfhdjcoabDoorRoB
import Derived.Laws.OwnMore
namespace Go.Proofs.YtneoflcfhdjcoabDoor
open Go.RowKit

abbrev intVp (n : Int) : Value := .int .i64 n
theorem Tryd.infoIp : (Tryd.prog.info? 3).map (fun i => (i.zero, i.size, i.bytes)) = some (some (.int .i64 0), 1, 8) := by kernel_rfl
/-- blocks that lie apart. -/
structure Dst (w0 : World) (bk : Nat → Nat) (bo bl B : Nat) : Prop where
  n01 : bk 0 ≠ bk 1
  no : ∀ c, c < 2 → bk c ≠ bo
  nl : ∀ c, c < 2 → bk c ≠ bl
  nol : bo ≠ bl
  h : ∀ c, c < 2 → w0.heap.size ≤ bk c ∧ bk c < B
  ho : w0.heap.size ≤ bo ∧ bo < B
  hl : w0.heap.size ≤ bl ∧ bl < B
theorem Dst.two {w0 : World} {bk : Nat → Nat} {bo bl B : Nat} (D : Dst w0 bk bo bl B) {c d : Nat} (hc : c < 2) (hd : d < 2) (h : d ≠ c) : bk d ≠ bk c := by
  have := D.n01
  have e : (c = 0 ∧ d = 1) ∨ (c = 1 ∧ d = 0) := by omega
  rcases e with ⟨rfl, rfl⟩ | ⟨rfl, rfl⟩
  · exact fun e => this e.symm
  · exact this
/-- both roles, the slice of them, the last epochs, all epochs. -/
structure Ap (w0 w : World) (bk : Nat → Nat) (bo bl B : Nat) (rr : Nat → Ro) (la : Nat → Int) (v : Value) (L : List Int) : Prop where
  r : ∀ c, c < 2 → Rol w (bk c) (rr c)
  o : ∀ c, c < 2 → w.cell? ⟨bo, c, none⟩ = some (.pointer (some ⟨bk c, 0, none⟩))
  l : w.heap[bl]? = some (.cells #[.int .i64 (la 0), .int .i64 (la 1)] 3 (0, 0))
  own : w.ownsRow B 3 1 v L.length (L.map intVp)
  d : Dst w0 bk bo bl B
  hB : B ≤ w.heap.size
  bl : Below w0.heap.size w0 w
section
variable {w0 w w' : World} {bk : Nat → Nat} {bo bl B : Nat} {rr : Nat → Ro} {la : Nat → Int} {v : Value} {L : List Int}
theorem Ap.llt (h : Ap w0 w bk bo bl B rr la v L) : bl < w.heap.size := by have := h.d.hl; have := h.hB; omega
theorem Ap.lac (h : Ap w0 w bk bo bl B rr la v L) {c : Nat} (hc : c < 2) : w.cell? ⟨bl, c, none⟩ = some (.int .i64 (la c)) := by
  rw [cell_of_row w bl _ _ _ _ h.l]
  have e : c = 0 ∨ c = 1 := by omega
  rcases e with rfl | rfl <;> rfl
theorem Ap.fr (h : Ap w0 w bk bo bl B rr la v L) (c : Nat) : w.frozen? ⟨bl, c, none⟩ = false := frozen_of_row w bl c _ _ h.l
theorem Ap.grow (h : Ap w0 w bk bo bl B rr la v L) (k : Below w.heap.size w w') : Ap w0 w' bk bo bl B rr la v L :=
  ⟨fun c hc => (h.r c hc).below k, fun c hc => tk k (h.o c hc), by rw [k.block bl h.llt]; exact h.l,
   h.own.kept (row := none) ⟨k.os, k.tape, k.output, k.size, fun j hj _ => k.block j hj⟩ (by cases hv : v.ownBlock <;> simp), h.d, Nat.le_trans h.hB k.size, t2 h.bl k⟩
theorem Ap.role (h : Ap w0 w bk bo bl B rr la v L) {c : Nat} (hc : c < 2) {r' : Ro} (a : Rol w' (bk c) r') (k : Chg (bk c) w w') : Ap w0 w' bk bo bl B (upd rr c r') la v L :=
  ⟨fun d hd => by
    by_cases hdc : d = c
    · subst hdc; rw [upd_same]; exact a
    · rw [upd_other _ _ hdc]; exact (h.r d hd).chg k (h.d.two hc hd hdc),
   fun d hd => k.keeps (fun e => h.d.no c hc e.symm) (h.o d hd),
   by rw [k.block bl h.llt (fun e => h.d.nl c hc e.symm)]; exact h.l,
   h.own.kept (row := some (bk c)) ⟨k.os, k.tape, k.output, k.size, fun j hj hn => k.block j hj (fun e => hn (by rw [e]))⟩ (by
     cases hv : v.ownBlock with
     | none => exact Or.inl rfl
     | some g =>
       refine Or.inr (fun e => ?_)
       have e := Option.some.inj e
       have := (h.own.lt g hv).1
       have := (h.d.h c hc).2
       omega),
   h.d, Nat.le_trans h.hB k.size, Chg.below h.bl k (h.d.h c hc).1⟩
theorem Ap.put (h : Ap w0 w bk bo bl B rr la v L) {c : Nat} (hc : c < 2) (x : Int) : Ap w0 (w.setCell ⟨bl, c, none⟩ (.int .i64 x)) bk bo bl B rr (upd la c x) v L :=
  ⟨fun d hd => (h.r d hd).chg (Chg.set bl c w _) (h.d.nl d hd),
   fun d hd => (Chg.set bl c w _).keeps h.d.nol (h.o d hd),
   by
    rw [heap_setCell_same w bl _ _ _ _ h.l]
    have e : c = 0 ∨ c = 1 := by omega
    rcases e with rfl | rfl <;> rfl,
   ownsRow_setCell_below h.own (a := ⟨bl, c, none⟩) h.d.hl.2 _, h.d, Nat.le_trans h.hB (Chg.set bl c w _).size, Chg.below h.bl (Chg.set bl c w _) h.d.hl.1⟩
theorem Ap.more (h : Ap w0 w bk bo bl B rr la v L) {y v' : Value} {z : Int} (o' : w'.ownsRow B 3 1 v' (L.length + 1) (L.map intVp ++ [intVp z]))
    (hg : (w.alloc (.cells #[y] 3)).grownBy w' v.ownBlock) : Ap w0 w' bk bo bl B rr la v' (L ++ [z]) := by
  have A := h.grow (aB w (.cells #[y] 3))
  have hv : ∀ j, j < B → some j ≠ v.ownBlock := fun j hj e => by have := (h.own.lt j e.symm).1; omega
  have blk : ∀ j, j < B → w'.heap[j]? = (w.alloc (.cells #[y] 3)).heap[j]? := fun j hj => hg.block j (Nat.lt_of_lt_of_le hj A.hB) (hv j hj)
  refine ⟨fun c hc => ?_, fun c hc => ?_, ?_, by simpa using o', h.d, Nat.le_trans A.hB hg.size, ?_⟩
  · unfold Rol; rw [blk _ (h.d.h c hc).2]; exact A.r c hc
  · rw [World.cell?_of_block (w := w.alloc (.cells #[y] 3)) (blk _ h.d.ho.2)]; exact A.o c hc
  · rw [blk _ h.d.hl.2]; exact A.l
  · refine A.bl.trans ⟨hg.os, hg.tape, hg.output, hg.size, fun j hj => blk j ?_⟩
    have := h.d.ho
    omega
theorem Ap.all (h : Ap w0 w bk bo bl B rr la v L) : ∃ (p : Option Addr) (cap : Nat), v = .slice p L.length cap ∧ ∀ (j : Nat) x, L[j]? = some x → ∃ g, p = some ⟨g, 0, none⟩ ∧ w.cell? ⟨g, j, none⟩ = some (.int .i64 x) := by
  rcases h.own.2 with ⟨h1, h2⟩ | ⟨g, cap, cur, h1, h2, h3, h4, h5, h6, h7⟩
  · refine ⟨none, 0, by rw [h1, h2], fun j x hx => ?_⟩
    rw [List.length_eq_zero_iff.1 h2] at hx
    simp at hx
  · refine ⟨some ⟨g, 0, none⟩, cap, h1, fun j x hx => ⟨g, rfl, ?_⟩⟩
    have h8 : (L.map intVp)[j]? = some (.int .i64 x) := by rw [List.getElem?_map, hx]; rfl
    rw [← h7, List.getElem?_take] at h8
    split at h8
    · have h9 : cur[j]? = some (.int .i64 x) := by simpa using h8
      simp [World.cell?, h3, h9]
    · cases h8
theorem ap_active (h : Ap w0 w bk bo bl B rr la v L) {c : Nat} (hc : c < 2) :
    Calls Tryd.prog 75 #[.pointer (some ⟨bk c, 0, none⟩)] w fun e w' => e = .returned (.bool (rr c).ac) ∧ w' = w := active_any _ _ w (h.r c hc)
theorem ap_epoch (h : Ap w0 w bk bo bl B rr la v L) {c : Nat} (hc : c < 2) :
    Calls Tryd.prog 78 #[.pointer (some ⟨bk c, 0, none⟩)] w fun e w' => e = .returned (.int .i64 (rr c).ep) ∧ w' = w := epochR_any _ _ w (h.r c hc)
theorem ap_next (h : Ap w0 w bk bo bl B rr la v L) {c : Nat} (hc : c < 2) (K : (rr c).Ok) (s : Nat → Addr) (S : Se3 w0 s) :
    Calls Tryd.prog 74 #[.pointer (some ⟨bk c, 0, none⟩)] w fun e w' => e = .returned (.tuple #[.int .i64 (rr c).nxV, terr s (rr c).nxE]) ∧ Ap w0 w' bk bo bl B rr la v L := by
  refine (next_any _ _ s w (h.r c hc) K (S.below h.bl)).mono ?_
  rintro e w1 ⟨rfl, a1⟩
  exact ⟨rfl, h.grow a1⟩
theorem ap_claim (h : Ap w0 w bk bo bl B rr la v L) {c : Nat} (hc : c < 2) (K : (rr c).Ok) (n : Int) (s : Nat → Addr) (S : Se3 w0 s) :
    Calls Tryd.prog 76 #[.pointer (some ⟨bk c, 0, none⟩), .int .i64 n] w fun e w' => e = .returned (terr s ((rr c).clE n)) ∧ Ap w0 w' bk bo bl B (upd rr c ((rr c).claim n)) la v L := by
  refine (claim_any _ _ n s w (h.r c hc) K (S.below h.bl)).mono ?_
  rintro e w1 ⟨rfl, a1, a2⟩
  exact ⟨rfl, h.role hc a1 a2⟩
theorem ap_hear (h : Ap w0 w bk bo bl B rr la v L) {c : Nat} (hc : c < 2) (n : Int) :
    Calls Tryd.prog 77 #[.pointer (some ⟨bk c, 0, none⟩), .int .i64 n] w fun e w' => e = .returned (.bool ((rr c).falls n)) ∧ Ap w0 w' bk bo bl B (upd rr c ((rr c).hear n)) la v L := by
  refine (hear_any _ _ n w (h.r c hc)).mono ?_
  rintro e w1 ⟨rfl, a1, a2⟩
  exact ⟨rfl, h.role hc a1 a2⟩
end
end Go.Proofs.YtneoflcfhdjcoabDoor
