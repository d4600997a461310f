/-
  Package packet's taker and Decode.
-/
import Derived.Test.YtlogpnanfamjeaaGreatDoorPkX
import Derived.Laws.BitsLemmas
namespace Go.Proofs.YtlogpnanfamjeaaGreatDoor
open Go.RowKit

theorem taker_any (x : ByteArray) (w : World) : Calls Tryz.prog 24 #[.string x] w fun e w' =>
    e = .returned (.func (.func 38) #[] #[.pointer (some ⟨w.heap.size, 0, none⟩), .pointer (some ⟨w.heap.size + 1, 0, none⟩)]) ∧ w' = (w.alloc (.cells #[.string x] 9)).alloc (.cells #[.int .i64 0] 3) := by
  go_enter Tryz.func24, Tryz.ntmps24
  go_wp2
  go_ret
  exact ⟨rfl, rfl⟩

structure Src (w : World) (ps pat : Nat) (x : ByteArray) (k : Nat) : Prop where
  b : w.cell? ⟨ps, 0, none⟩ = some (.string x)
  at' : w.cell? ⟨pat, 0, none⟩ = some (.int .i64 k)
  atf : w.frozen? ⟨pat, 0, none⟩ = false
  ne : ps ≠ pat
/-- the number that m bytes from place k on make, the highest first. -/
def numB (l : List UInt8) (k : Nat) : Nat → Nat
  | 0 => 0
  | m + 1 => 256 * numB l k m + (l.getD (k + m) 0).toNat
theorem numB_lt (l : List UInt8) (k : Nat) : ∀ m, numB l k m < 256 ^ m
  | 0 => by simp [numB]
  | m + 1 => by
    have := numB_lt l k m
    have h2 := (l.getD (k + m) 0).toNat_lt
    unfold numB
    rw [Nat.pow_succ]
    omega

theorem or_byte (a b : Nat) (ha : a < 4294967296) (hb : b < 256) : bits BinOp.or IntKind.i64 (wrap64 ((a : Int) * 256)) (wrap64 b) = ((256 * a + b : Nat) : Int) := by
  have e1 : wrap64 ((a : Int) * 256) = (a : Int) * 256 := by unfold wrap64; omega
  have e2 : wrap64 (b : Int) = b := by unfold wrap64; omega
  rw [e1, e2]
  have h := bits_join .i64 63 (by decide) (fun n h0 h1 => by rw [IntKind.wrap_i64]; omega) 8 ((a : Int) * 256) (b : Int) (by omega) (by omega) (by omega) (by omega) (by omega) (by omega)
  rw [h]; omega
theorem Src.step {wr : World} {ps pat q : Nat} {x : ByteArray} (B : Src wr ps pat x q) : Src (wr.setCell ⟨pat, 0, none⟩ (.int .i64 ((q : Int) + 1))) ps pat x (q + 1) where
  b := by rw [World.cell?_setCell_other _ _ _ _ (by have := B.ne; simp <;> omega)]; exact B.b
  at' := by rw [World.cell?_setCell_same _ _ _ (u := .int .i64 q) B.at']; simp
  atf := by rw [World.frozen?_setCell]; exact B.atf
  ne := B.ne
theorem But2.step1 {w wr : World} {pat : Nat} (h : But2 pat pat w wr) (y : Value) : But2 pat pat w (wr.setCell ⟨pat, 0, none⟩ y) := by
  obtain ⟨h1, h2, h3, h4, h5⟩ := h
  refine ⟨by simpa using h1, fun k e1 e2 => ?_, h3, h4, h5⟩
  rw [Below.heap_setCell _ _ _ _ e2]; exact h2 k e1 e2
theorem getD_byte (x : ByteArray) (i : Nat) (h : i < x.size) : x.data.toList.getD i 0 = x[i] := by
  rw [List.getD_eq_getElem?_getD, List.getElem?_eq_getElem (by simpa using h)]; rfl

set_option maxRecDepth 100000 in
set_option maxHeartbeats 1000000 in
theorem take_any (n k : Nat) (hn : n ≤ 4) (x : ByteArray) (hk : k + n ≤ x.size) (hx : x.size ≤ 1000) (ps pat : Nat) (w : World) (B : Src w ps pat x k) :
    Calls Tryz.prog 38 #[.int .i64 n, .pointer (some ⟨ps, 0, none⟩), .pointer (some ⟨pat, 0, none⟩)] w fun e w' =>
      e = .returned (.int .i64 (numB x.data.toList k n)) ∧ Src w' ps pat x (k + n) ∧ But2 pat pat w w' := by
  have HB : Hid (Src w ps pat x k) := B
  clear B
  go_enter Tryz.func38, Tryz.ntmps38
  go_wp2_with fail
  go_loopw [5, 7] (fun v t wr => ∃ m : Nat, m ≤ n ∧ t = .int .i64 m ∧ v = .int .i64 (numB x.data.toList k m) ∧ Src wr ps pat x (k + m) ∧ But2 pat pat w wr) (fun _ t _ => n - (intOf t).toNat)
  case atStart => exact ⟨0, by omega, rfl, rfl, HB.out, rfl, fun _ _ _ => rfl, rfl, rfl, rfl⟩
  case round =>
    obtain ⟨m, hm, rfl, rfl, hB, hK⟩ := hrel
    by_cases hlt : m < n
    · have hb := hB.b
      have ha := hB.at'
      have haf := hB.atf
      have hne := hB.ne
      have HBr : Hid (Src wr ps pat x (k + m)) := hB
      have HKr : Hid (But2 pat pat w wr) := hK
      have hl := numB_lt x.data.toList k m
      have hi : (k + m : Int) < x.size := by omega
      have hj : k + m < x.size := by omega
      clear hB hK
      go_wp2_with fail
      have hl2 : numB x.data.toList k m < 4294967296 := by
        have : 256 ^ m ≤ 256 ^ 3 := Nat.pow_le_pow_right (by decide) (by omega)
        have e : (256 : Nat) ^ 3 = 16777216 := by decide
        omega
      refine ⟨⟨m + 1, by omega, by go_num, ?_, ?_, HKr.out.step1 _⟩, by simp [intOf]; omega⟩
      · rw [or_byte _ _ hl2 (by exact x[k + m].toNat_lt)]
        rw [show numB x.data.toList k (m + 1) = 256 * numB x.data.toList k m + (x.data.toList.getD (k + m) 0).toNat from rfl, getD_byte x (k + m) hj]
      · have := HBr.out.step
        rw [Int.natCast_add] at this
        exact this
    · obtain rfl : m = n := by omega
      have HBr : Hid (Src wr ps pat x (k + m)) := hB
      have HKr : Hid (But2 pat pat w wr) := hK
      clear hB hK
      go_wp2_with fail
      go_ret
      exact ⟨rfl, HBr.out, HKr.out⟩

/-- a packet of bytes. -/
abbrev N (x : ByteArray) (k m : Nat) : Int := (numB x.data.toList k m : Nat)
theorem src_new (x : ByteArray) (w : World) : Src ((w.alloc (.cells #[.string x] 9)).alloc (.cells #[.int .i64 0] 3)) w.heap.size (w.heap.size + 1) x 0 where
  b := by rw [World.cell?_alloc_lt _ _ ⟨w.heap.size, 0, none⟩ (by simp), World.cell?_alloc_at _ _ _ _ rfl]; rfl
  at' := by rw [World.cell?_alloc_at _ _ _ _ (by simp)]; rfl
  atf := by rw [World.frozen?_alloc_at _ _ _ _ (by simp)]
  ne := by omega
theorem Src.below {w w' : World} {ps pat k : Nat} {x : ByteArray} (B : Src w ps pat x k) (h : Below w.heap.size w w') : Src w' ps pat x k :=
  ⟨below_keeps h B.b, below_keeps h B.at', by rw [below_frozen h B.at']; exact B.atf, B.ne⟩

theorem decode_len (x : ByteArray) (hx : x.size ≠ 14) (s : Nat → Addr) (w : World) (S : Sents w s) :
    Calls Tryz.prog 11 #[.string x] w fun e w' => e = .returned (.tuple #[pkt 0 0 0 0 0 0, errV s 1]) ∧ Below w.heap.size w w' := by
  have hn : ((x.size : Int) != 14) = true := by rw [bne_iff_ne]; omega
  have d0 := S.c0
  have hlt := block_lt d0
  clear S
  unfold errV
  go_enter Tryz.func11, Tryz.ntmps11
  go_wp2_with fail
  go_region
  all_goals go_wp2_with fail
  all_goals exact bodyPost_ret (v := .tuple #[pkt 0 0 0 0 0 0, .iface 164 (.pointer (some (s 0)))]) (by simp [results, Tryz.results11, go_sem]) rfl ⟨rfl, by repeat (first | exact Below.refl _ _ | refine Below.drew ?_ | refine Below.alloc ?_ (Nat.le_refl _) _)⟩

/-- six numbers in a block of the call's own. -/
structure Six (w : World) (b : Nat) (f : Nat → Int) : Prop where
  c : ∀ j, j < 6 → w.cell? ⟨b, j, none⟩ = some (.int .i64 (f j))
  cf : ∀ j, j < 6 → w.frozen? ⟨b, j, none⟩ = false
theorem Six.below {w w' : World} {b : Nat} {f : Nat → Int} (k : Six w b f) (h : Below w.heap.size w w') : Six w' b f :=
  ⟨fun j hj => below_keeps h (k.c j hj), fun j hj => by rw [below_frozen h (k.c j hj)]; exact k.cf j hj⟩
theorem Six.but2 {w w' : World} {b x y : Nat} {f : Nat → Int} (k : Six w b f) (h : But2 x y w w') (h1 : b ≠ x) (h2 : b ≠ y) : Six w' b f :=
  ⟨fun j hj => (h.cell (a := ⟨b, j, none⟩) h1 h2).trans (k.c j hj), fun j hj => by
    rw [World.frozen?_of_block (w := w) (h.2.1 b h1 h2)]; exact k.cf j hj⟩
def upd (f : Nat → Int) (i : Nat) (v : Int) (j : Nat) : Int := if j = i then v else f j
theorem Six.set {w : World} {b i : Nat} {f : Nat → Int} (k : Six w b f) (hi : i < 6) (v : Int) : Six (w.setCell ⟨b, i, none⟩ (.int .i64 v)) b (upd f i v) :=
  ⟨fun j hj => by
    by_cases e : j = i
    · subst e; rw [World.cell?_setCell_same _ _ _ (u := .int .i64 (f j)) (k.c j hj)]; simp [upd]
    · rw [World.cell?_setCell_other _ _ _ _ (by simp <;> omega), k.c j hj]; simp [upd, e],
   fun j hj => by rw [World.frozen?_setCell]; exact k.cf j hj⟩
theorem Six.other {w : World} {b p i : Nat} {f : Nat → Int} (k : Six w b f) (hp : p ≠ b) (v : Value) : Six (w.setCell ⟨p, i, none⟩ v) b f :=
  ⟨fun j hj => by rw [World.cell?_setCell_other _ _ _ _ (by simp <;> omega)]; exact k.c j hj, fun j hj => by rw [World.frozen?_setCell]; exact k.cf j hj⟩
theorem Src.other {w : World} {ps pat k p i : Nat} {x : ByteArray} (B : Src w ps pat x k) (h1 : p ≠ ps) (h2 : p ≠ pat) (v : Value) : Src (w.setCell ⟨p, i, none⟩ v) ps pat x k :=
  ⟨by rw [World.cell?_setCell_other _ _ _ _ (by simp <;> omega)]; exact B.b, by rw [World.cell?_setCell_other _ _ _ _ (by simp <;> omega)]; exact B.at', by rw [World.frozen?_setCell]; exact B.atf, B.ne⟩
theorem six_new (w : World) (t : TypeId) : Six (w.alloc (.cells #[.int .i64 0, .int .i64 0, .int .i64 0, .int .i64 0, .int .i64 0, .int .i64 0] t)) w.heap.size (fun _ => 0) :=
  ⟨fun j hj => by
    rw [World.cell?_alloc_at _ _ _ _ rfl]
    match j, hj with
    | 0, _ | 1, _ | 2, _ | 3, _ | 4, _ | 5, _ => rfl,
   fun j hj => by rw [World.frozen?_alloc_at _ _ _ _ rfl]⟩
/-- all that a decoding has in hand. -/
structure Dec (w0 w : World) (x : ByteArray) (f : Nat → Int) (k : Nat) : Prop where
  r : Six w w0.heap.size (fun _ => 0)
  p : Six w (w0.heap.size + 1) f
  s : Src w (w0.heap.size + 1 + 1) (w0.heap.size + 1 + 1 + 1) x k
  b : Below w0.heap.size w0 w
theorem Dec.but2 {w0 w w' : World} {x : ByteArray} {f : Nat → Int} {k k' : Nat} (d : Dec w0 w x f k) (h : But2 (w0.heap.size + 1 + 1 + 1) (w0.heap.size + 1 + 1 + 1) w w') (hs : Src w' (w0.heap.size + 1 + 1) (w0.heap.size + 1 + 1 + 1) x k') : Dec w0 w' x f k' :=
  ⟨d.r.but2 h (by omega) (by omega), d.p.but2 h (by omega) (by omega), hs, d.b.trans (h.below (by omega) (by omega))⟩
theorem Dec.set {w0 w : World} {x : ByteArray} {f : Nat → Int} {k i : Nat} (d : Dec w0 w x f k) (hi : i < 6) (v : Int) : Dec w0 (w.setCell ⟨w0.heap.size + 1, i, none⟩ (.int .i64 v)) x (upd f i v) k :=
  ⟨d.r.other (by omega) _, d.p.set hi v, d.s.other (by omega) (by omega) _, d.b.setCell (by simp) _⟩
theorem Dec.below {w0 w w' : World} {x : ByteArray} {f : Nat → Int} {k : Nat} (d : Dec w0 w x f k) (h : Below w.heap.size w w') : Dec w0 w' x f k :=
  ⟨d.r.below h, d.p.below h, d.s.below h, d.b.trans (h.mono d.b.size)⟩
theorem dec_new (x : ByteArray) (w : World) (t t1 t2 t3 : TypeId) (h2 : t2 = 9) (h3 : t3 = 3) : Dec w ((((w.alloc (.cells #[.int .i64 0, .int .i64 0, .int .i64 0, .int .i64 0, .int .i64 0, .int .i64 0] t)).alloc (.cells #[.int .i64 0, .int .i64 0, .int .i64 0, .int .i64 0, .int .i64 0, .int .i64 0] t1)).alloc (.cells #[.string x] t2)).alloc (.cells #[.int .i64 0] t3)) x (fun _ => 0) 0 := by
  subst h2 h3
  have b1 : ∀ (v : World) (o : Obj), Below v.heap.size v (v.alloc o) := fun v o => (Below.refl _ _).alloc (Nat.le_refl _) _
  refine ⟨((((six_new w t).below (b1 _ _)).below (b1 _ _)).below (b1 _ _)), ?_, ?_, below_all (below_all (below_all (b1 _ _) (b1 _ _)) (b1 _ _)) (b1 _ _)⟩
  · have := ((six_new (w.alloc (.cells #[.int .i64 0, .int .i64 0, .int .i64 0, .int .i64 0, .int .i64 0, .int .i64 0] t)) t1).below (b1 _ (.cells #[.string x] 9))).below (b1 _ (.cells #[.int .i64 0] 3))
    simpa using this
  · have := src_new x ((w.alloc (.cells #[.int .i64 0, .int .i64 0, .int .i64 0, .int .i64 0, .int .i64 0, .int .i64 0] t)).alloc (.cells #[.int .i64 0, .int .i64 0, .int .i64 0, .int .i64 0, .int .i64 0, .int .i64 0] t1))
    simpa using this
end Go.Proofs.YtlogpnanfamjeaaGreatDoor
