/-
  What the claimed theorem reaches, part Q09.
-/
import Derived.WalkKit
import Derived.Test.YtdpmeoflgpaljaaGreatDoorQ00
namespace Go.Proofs.YtdpmeoflgpaljaaGreatDoor
open Go Go.RowKit
set_option maxRecDepth 100000
set_option maxHeartbeats 8000000
def hasB (fl k:Int):Bool:=bits BinOp.and IntKind.i64 fl k==k
theorem and_nat (n:Nat):(n % 4=(n &&& 3))/\((n &&& 3) &&& 2=(n &&& 2))/\((n &&& 3) &&& 1=(n &&& 1)):=by
 refine⟨(Nat.and_two_pow_sub_one_eq_mod n 2).symm,?_,?_⟩
 ·rw[Nat.and_assoc];rfl
 ·rw[Nat.and_assoc];rfl
theorem bits_small (x k:Int) (m:Nat) (hk:(BitVec.ofInt 64 k).toNat=m):bits BinOp.and IntKind.i64 x k=IntKind.i64.wrap (((BitVec.ofInt 64 x).toNat &&& m:Nat):Int):=by
 show IntKind.i64.wrap ((BitVec.ofInt 64 x &&& BitVec.ofInt 64 k).toNat:Int)=_
 rw[BitVec.toNat_and,hk]
theorem and3 (x:Int):hasB x 3=(hasB x 1 && hasB x 2):=by
 unfold hasB
 rw[bits_small x 3 3 (by decide),bits_small x 1 1 (by decide),bits_small x 2 2 (by decide)]
 generalize (BitVec.ofInt 64 x).toNat=n
 obtain⟨h1,h2,h3⟩:=and_nat n
 rw[<- h2,<- h3,<- h1]
 have h4:n % 4 < 4:=Nat.mod_lt _ (by omega)
 generalize n % 4=m at h4
 match m,h4 with
 | 0,_=>decide
 | 1,_=>decide
 | 2,_=>decide
 | 3,_=>decide
def nxtS (pr st fl:Int) (ou:Bool):Int :=
 if pr=2 then (if hasB fl 8=true then 0 else if hasB fl 4=true then 3 else if st=1/\ou=false/\hasB fl 3=true then 2 else st) else st
def nxtG (pr fl:Int):Bool:=decide (pr=2) && hasB fl 8
def bgnS (pr fl:Int):Int:=if (pr=1\/pr=2)/\0<=fl/\fl<=15 then (if pr=1 then 2 else if fl=1 then 1 else 0) else 0
def bgnE (pr fl:Int):Nat:=if (pr=1\/pr=2)/\0<=fl/\fl<=15 then (if pr=1 then 0 else if fl=1 then 0 else 9) else 2
def stay (pr st:Int):Int:=if pr=1 then 60 else if pr=2 then (if st=1 then 10 else if st=2 then 100 else if st=3 then 5 else 0) else 0
end Go.Proofs.YtdpmeoflgpaljaaGreatDoor
