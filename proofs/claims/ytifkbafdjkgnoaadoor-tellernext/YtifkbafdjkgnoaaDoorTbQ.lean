/-
  Acts that came in, in memory.
-/
import Derived.Test.YtifkbafdjkgnoaaDoorTbD
namespace Go.Proofs.YtifkbafdjkgnoaaDoor
open Go.RowKit

structure Ac where
  ki : ByteArray
  sl : Int
  f : Ce
instance : Inhabited Ac := ⟨⟨.empty, 0, noC⟩⟩
def acC (a : Ac) : List Value := [.string a.ki, .int .i64 a.sl, .int .i64 a.f.pr, .int .i64 a.f.ia, .int .i64 a.f.ip, .int .i64 a.f.fa, .int .i64 a.f.fp, .int .i64 a.f.po, .int .i64 a.f.st, .int .i64 a.f.un]
/-- an act at a place. -/
structure AcAt (w : World) (b o : Nat) (a : Ac) : Prop where
  c0 : w.cell? ⟨b, o, none⟩ = some (.string a.ki)
  c1 : w.cell? ⟨b, o + 1, none⟩ = some (.int .i64 a.sl)
  c2 : w.cell? ⟨b, o + 2, none⟩ = some (.int .i64 a.f.pr)
  c3 : w.cell? ⟨b, o + 3, none⟩ = some (.int .i64 a.f.ia)
  c4 : w.cell? ⟨b, o + 4, none⟩ = some (.int .i64 a.f.ip)
  c5 : w.cell? ⟨b, o + 5, none⟩ = some (.int .i64 a.f.fa)
  c6 : w.cell? ⟨b, o + 6, none⟩ = some (.int .i64 a.f.fp)
  c7 : w.cell? ⟨b, o + 7, none⟩ = some (.int .i64 a.f.po)
  c8 : w.cell? ⟨b, o + 8, none⟩ = some (.int .i64 a.f.st)
  c9 : w.cell? ⟨b, o + 9, none⟩ = some (.int .i64 a.f.un)
theorem AcAt.below {w w' : World} {b o : Nat} {a : Ac} (h : AcAt w b o a) (hb : Below w.heap.size w w') : AcAt w' b o a :=
  ⟨tk hb h.c0, tk hb h.c1, tk hb h.c2, tk hb h.c3, tk hb h.c4, tk hb h.c5, tk hb h.c6, tk hb h.c7, tk hb h.c8, tk hb h.c9⟩
theorem AcAt.chg {w w' : World} {b o g : Nat} {a : Ac} (h : AcAt w b o a) (hb : Chg g w w') (hn : b ≠ g) : AcAt w' b o a :=
  ⟨hb.keeps hn h.c0, hb.keeps hn h.c1, hb.keeps hn h.c2, hb.keeps hn h.c3, hb.keeps hn h.c4, hb.keeps hn h.c5, hb.keeps hn h.c6, hb.keeps hn h.c7, hb.keeps hn h.c8, hb.keeps hn h.c9⟩
theorem acAt_new (w : World) (a : Ac) (t : TypeId) : AcAt (w.alloc (.cells #[.string a.ki, .int .i64 a.sl, .int .i64 a.f.pr, .int .i64 a.f.ia, .int .i64 a.f.ip, .int .i64 a.f.fa, .int .i64 a.f.fp, .int .i64 a.f.po, .int .i64 a.f.st, .int .i64 a.f.un] t)) w.heap.size 0 a :=
  ⟨(nw _ _ _ _).trans rfl, (nw _ _ _ _).trans rfl, (nw _ _ _ _).trans rfl, (nw _ _ _ _).trans rfl, (nw _ _ _ _).trans rfl, (nw _ _ _ _).trans rfl, (nw _ _ _ _).trans rfl, (nw _ _ _ _).trans rfl, (nw _ _ _ _).trans rfl, (nw _ _ _ _).trans rfl⟩
def ActsIn (w : World) (v : Value) (l : List Ac) : Prop := ∃ (p : Option Addr) (cap : Nat), v = .slice p l.length cap ∧ ∀ (i : Nat) a, l[i]? = some a → ∃ b o, p = some ⟨b, o, none⟩ ∧ AcAt w b (o + i * 10) a
end Go.Proofs.YtifkbafdjkgnoaaDoor
