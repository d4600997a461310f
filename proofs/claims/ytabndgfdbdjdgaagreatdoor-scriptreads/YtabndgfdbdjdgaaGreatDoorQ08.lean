/-
  What the claimed theorem reaches, part Q08.
-/
import Derived.WalkKit
import Derived.Test.YtabndgfdbdjdgaaGreatDoorQ00
namespace Go.Proofs.YtabndgfdbdjdgaaGreatDoor
open Go Go.RowKit
set_option maxRecDepth 100000
set_option maxHeartbeats 8000000
def hasB (fl k:Int):Bool:=bits BinOp.and IntKind.i64 fl k==k
def nxtS (pr st fl:Int) (ou:Bool):Int :=
 if pr=2 then (if hasB fl 8=true then 0 else if hasB fl 4=true then 3 else if st=1/\ou=false/\hasB fl 3=true then 2 else st) else st
def nxtG (pr fl:Int):Bool:=decide (pr=2) && hasB fl 8
def bgnS (pr fl:Int):Int:=if (pr=1\/pr=2)/\0<=fl/\fl<=15 then (if pr=1 then 2 else if fl=1 then 1 else 0) else 0
def bgnE (pr fl:Int):Nat:=if (pr=1\/pr=2)/\0<=fl/\fl<=15 then (if pr=1 then 0 else if fl=1 then 0 else 9) else 2
def stay (pr st:Int):Int:=if pr=1 then 60 else if pr=2 then (if st=1 then 10 else if st=2 then 100 else if st=3 then 5 else 0) else 0
end Go.Proofs.YtabndgfdbdjdgaaGreatDoor
