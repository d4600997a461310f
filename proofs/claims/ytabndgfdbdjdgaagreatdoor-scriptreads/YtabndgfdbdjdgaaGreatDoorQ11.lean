/-
  What the claimed theorem reaches, part Q11.
-/
import Derived.Test.YtabndgfdbdjdgaaGreatDoorQ07
import Derived.Test.YtabndgfdbdjdgaaGreatDoorQ00
namespace Go.Proofs.YtabndgfdbdjdgaaGreatDoor
open Go.RowKit
set_option maxRecDepth 100000
set_option maxHeartbeats 8000000
theorem get_ok (b:Nat) (low:Int) (T:Tb) (j:Nat) (w:World) (t:Tab w b low T) (hj:j < 32) :
  Calls Tryz.prog 223 #[.pointer (some (b,0)),j] w fun e w'=>e=.returned (.tuple #[cellV j (T j),.nilIface])/\Below w w w':=by
 have HT:Hid (Tab w b low T):=t
 have hbl:=t.lt
 clear t
 have h0:(0:Int)<=(j:Int):=by omega
 have h1:(j:Int) < 32:=by omega
 have hd:(decide (0<=(j:Int)) && decide ((j:Int) < 32))=true:=by rw[decide_eq_true h0,decide_eq_true h1];rfl
 unfold cellV
 generalize hc:T j=c
 have z0:=HT.at' (k:=0) hj (by omega)
 have z1:=HT.at' (k:=1) hj (by omega)
 have a0:=HT.at' (k:=2) hj (by omega)
 have a1:=HT.at' (k:=3) hj (by omega)
 have a2:=HT.at' (k:=4) hj (by omega)
 have a3:=HT.at' (k:=5) hj (by omega)
 have a4:=HT.at' (k:=6) hj (by omega)
 have a5:=HT.at' (k:=7) hj (by omega)
 have a6:=HT.at' (k:=8) hj (by omega)
 have a7:=HT.at' (k:=9) hj (by omega)
 rw[hc]at z0 z1 a0 a1 a2 a3 a4 a5 a6 a7
 simp only[Ce.get,Nat.add_zero]at z0 z1 a0 a1 a2 a3 a4 a5 a6 a7
 clear hc
 go_enter Tryz.func223,Tryz.ntmps223
 go_wp2_with fail
 refine(isSlot_any j _).mono ?_
 rintro e w1 ⟨rfl,rfl⟩
 rw[hd]
 go_wp2_with fail
 exact bodyPost_ret (v:=.tuple #[.agg #[j,c.ve,c.pr,c.ia,c.ip,c.fa,c.fp,c.po,c.st,c.un],.nilIface]) (by simp[results,Tryz.results223,go_sem]) rfl ⟨rfl,(Below.refl _ _).alloc (Nat.le_refl _) _⟩
end Go.Proofs.YtabndgfdbdjdgaaGreatDoor
