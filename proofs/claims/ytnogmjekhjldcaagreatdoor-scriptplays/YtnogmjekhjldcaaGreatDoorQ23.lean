/-
  What the claimed theorem reaches, part Q23.
-/
import Derived.Lib.ItoaNum
import Derived.Lib.AtoiAll
import Derived.Test.YtnogmjekhjldcaaGreatDoorQ01
namespace Go.Proofs.YtnogmjekhjldcaaGreatDoor
open Go Go.Proofs.Tryz
set_option maxRecDepth 100000
set_option maxHeartbeats 8000000
theorem oC:∀(k u:Nat),1<=k->u < 10 ^ k->(Lib.decDigits u).length<=k
 | 0,_,h,_=>by omega
 | 1,u,_,h=>by rw[Lib.decDigits,dif_pos (by simpa using h)];simp
 | k+2,u,_,h=>by
  rw[Lib.decDigits];split
  ·simp
  ·have:=oC (k+1) (u / 10) om (by rw[Nat.pow_succ]at h;omega);simp;omega
theorem Jh (u:Nat):1<=(Lib.decDigits u).length:=by
 rw[Lib.decDigits];split <;> simp
theorem G5:∀(u:Nat) (c:UInt8),c ∈ Lib.decDigits u->48<=c.toNat/\c.toNat<=57:=by
 intro u;induction u using Nat.strongRecOn with
 | _ u ih =>
  intro c a;rw[Lib.decDigits]at a;split at a
  ·rename_i h;rw[jA]at a;subst a;rw[Ol (by show 48+u < 256;omega)];omega
  ·rename_i h;rw[lU]at a;rcases a with a | a
   ·exact ih (u / 10) om c a
   ·rw[jA]at a;subst a;rw[Ol (by show 48+u % 10 < 256;omega)];omega
theorem oD {n:Int} (h:0<=n):Lib.itoa n=Lib.decDigits n.toNat:=by unfold Lib.itoa;rw[ak om]
theorem eu {n:Int} (h:0<=n) (a:n < 10000000):(Lib.itoa n).length<=7:=by
 rw[oD h];exact oC 7 _ om om
end Go.Proofs.YtnogmjekhjldcaaGreatDoor
