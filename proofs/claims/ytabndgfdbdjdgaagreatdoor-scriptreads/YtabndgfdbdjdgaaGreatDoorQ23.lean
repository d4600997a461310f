/-
  What the claimed theorem reaches, part Q23.
-/
import Derived.Lib.ItoaNum
import Derived.Lib.AtoiAll
import Derived.Test.YtabndgfdbdjdgaaGreatDoorQ00
namespace Go.Proofs.YtabndgfdbdjdgaaGreatDoor
open Go
set_option maxRecDepth 100000
set_option maxHeartbeats 8000000
theorem dec_len:∀(k u:Nat),1<=k->u < 10 ^ k->(Lib.decDigits u).length<=k
 | 0,_,h,_=>by omega
 | 1,u,_,h=>by rw[Lib.decDigits,dif_pos (by simpa using h)];simp
 | k+2,u,_,h=>by
  rw[Lib.decDigits]
  split
  ·simp
  ·have:=dec_len (k+1) (u / 10) (by omega) (by rw[Nat.pow_succ]at h;omega)
   simp;omega
theorem dec_pos (u:Nat):1<=(Lib.decDigits u).length:=by
 rw[Lib.decDigits];split <;> simp
theorem dec_digit:∀(u:Nat) (c:UInt8),c ∈ Lib.decDigits u->48<=c.toNat/\c.toNat<=57:=by
 intro u
 induction u using Nat.strongRecOn with
 | _ u ih =>
  intro c hc
  rw[Lib.decDigits]at hc
  split at hc
  ·rename_i h
   rw[List.mem_singleton]at hc;subst hc
   rw[UInt8.toNat_ofNat_of_lt' (by show 48+u < 256;omega)];omega
  ·rename_i h
   rw[List.mem_append]at hc
   rcases hc with hc | hc
   ·exact ih (u / 10) (by omega) c hc
   ·rw[List.mem_singleton]at hc;subst hc
    rw[UInt8.toNat_ofNat_of_lt' (by show 48+u % 10 < 256;omega)];omega
theorem itoa_nn {n:Int} (h:0<=n):Lib.itoa n=Lib.decDigits n.toNat:=by unfold Lib.itoa;rw[if_neg (by omega)]
theorem itoa_len {n:Int} (h:0<=n) (h2:n < 10000000):(Lib.itoa n).length<=7:=by
 rw[itoa_nn h];exact dec_len 7 _ (by omega) (by omega)
end Go.Proofs.YtabndgfdbdjdgaaGreatDoor
