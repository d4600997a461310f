/-
  What the claimed theorem reaches, part Q41.
-/
import Derived.Test.YtnogmjekhjldcaaGreatDoorRows
import Derived.LaidLaws
import Derived.LaidHandle
import Derived.LaidSub
import Derived.RowKitTokens
import Derived.Test.YtnogmjekhjldcaaGreatDoorQ00
namespace Go.Proofs.YtnogmjekhjldcaaGreatDoor
open Go.RowKit Go.ChangeShapes Go.WideShapes Go.Proofs.Tryz
set_option maxRecDepth 100000
set_option maxHeartbeats 8000000
def E5 (x:String×List UInt8):String×DataW Unit:=(x.1,.iface "*errors.errorString" (.ptr (.agg [.lit (.string x.2)])))
def Ak:List (String×List UInt8):=[
 ("twinrampart/api.ErrText",[116,119,105,110,114,97,109,112,97,114,116,58,32,116,101,120,116]),
 ("twinrampart/api.ErrBound",[116,119,105,110,114,97,109,112,97,114,116,58,32,98,111,117,110,100]),
 ("twinrampart/api.ErrShape",[116,119,105,110,114,97,109,112,97,114,116,58,32,115,104,97,112,101]),
 ("twinrampart/api.ErrNone",[116,119,105,110,114,97,109,112,97,114,116,58,32,110,111,110,101]),
 ("twinrampart/api.ErrExist",[116,119,105,110,114,97,109,112,97,114,116,58,32,101,120,105,115,116]),
 ("twinrampart/api.ErrFull",[116,119,105,110,114,97,109,112,97,114,116,58,32,102,117,108,108]),
 ("twinrampart/api.ErrOff",[116,119,105,110,114,97,109,112,97,114,116,58,32,111,102,102]),
 ("twinrampart/api.ErrDeny",[116,119,105,110,114,97,109,112,97,114,116,58,32,100,101,110,121]),
 ("twinrampart/api.ErrState",[116,119,105,110,114,97,109,112,97,114,116,58,32,115,116,97,116,101]),
 ("twinrampart/api.ErrOld",[116,119,105,110,114,97,109,112,97,114,116,58,32,111,108,100]),
 ("twinrampart/api.ErrHeld",[116,119,105,110,114,97,109,112,97,114,116,58,32,104,101,108,100])]
def QW (x:String×DataW Unit):Bool:=(Ak.map (·.1)).contains x.1
theorem Tryz.Tj : prog.cellsOf 361=1:=by kernel_rfl
theorem Tryz.cellsS : prog.cellsOf 9=1:=by kernel_rfl
theorem Tryz.star:("*errors.errorString":String) = "*" ++ "errors.errorString":=by decide
theorem Tryz.aeD (u:TypeId) (h : prog.typeName? 3 u=some "*errors.errorString"):u = 359 :=
 typeName_ptr_named (nm := "errors.errorString") (by rw[<- Tryz.star];kernel_rfl) kr dC u (by rw[<- Tryz.star];exact h)
end Go.Proofs.YtnogmjekhjldcaaGreatDoor
