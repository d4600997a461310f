/-
  What the claimed theorem reaches, part Q08.
-/
import Derived.WalkKit
import Derived.Test.YtnogmjekhjldcaaGreatDoorQ01
namespace Go.Proofs.YtnogmjekhjldcaaGreatDoor
open Go Go.RowKit Go.Proofs.Tryz
set_option maxRecDepth 100000
set_option maxHeartbeats 8000000
def hasB (a k:Int):Bool:=bits BinOp.and IntKind.i64 a k==k
theorem acF (n:Nat):(n % 4=(n &&& 3))/\((n &&& 3) &&& 2=(n &&& 2))/\((n &&& 3) &&& 1=(n &&& 1)):=by
 refine⟨(Nat.and_two_pow_sub_one_eq_mod n 2).symm,?_,?_⟩
 ·rw[Nat.and_assoc];rfl
 ·rw[Nat.and_assoc];rfl
theorem wM (x k:Int) (m:Nat) (a:(BitVec.ofInt 64 k).toNat=m):bits BinOp.and IntKind.i64 x k=IntKind.i64.wrap (((BitVec.ofInt 64 x).toNat &&& m:Nat):Int):=by
 show IntKind.i64.wrap ((BitVec.ofInt 64 x &&& BitVec.ofInt 64 k).toNat:Int)=_;rw[BitVec.toNat_and,a]
theorem ag8 (x:Int):hasB x 3=(hasB x 1 && hasB x 2):=by
 unfold hasB;rw[wM x 3 3 dC,wM x 1 1 dC,wM x 2 2 dC];generalize (BitVec.ofInt 64 x).toNat=n;obtain⟨e,f,h⟩:=acF n;rw[<- f,<- h,<- e];have a:n % 4 < 4:=TQ _ om;generalize n % 4=m at a;match m,a with
 | 0,_=>decide
 | 1,_=>decide
 | 2,_=>decide
 | 3,_=>decide
def xR (e st a:Int) (ou:Bool):Int :=
 if e=2 then (if hasB a 8=true then 0 else if hasB a 4=true then 3 else if st=1/\ou=false/\hasB a 3=true then 2 else st) else st
def wO (a e:Int):Bool:=decide (a=2) && hasB e 8
def kL (a e:Int):Int:=if (a=1\/a=2)/\0<=e/\e<=15 then (if a=1 then 2 else if e=1 then 1 else 0) else 0
def kX (a e:Int):Nat:=if (a=1\/a=2)/\0<=e/\e<=15 then (if a=1 then 0 else if e=1 then 0 else 9) else 2
def stay (a st:Int):Int:=if a=1 then 60 else if a=2 then (if st=1 then 10 else if st=2 then 100 else if st=3 then 5 else 0) else 0
end Go.Proofs.YtnogmjekhjldcaaGreatDoor
