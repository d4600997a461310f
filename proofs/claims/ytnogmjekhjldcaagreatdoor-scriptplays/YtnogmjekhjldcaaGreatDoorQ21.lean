/-
  What the claimed theorem reaches, part Q21.
-/
import Derived.Test.YtnogmjekhjldcaaGreatDoorQ05
namespace Go.Proofs.YtnogmjekhjldcaaGreatDoor
open Go.RowKit Go.Lib Go.Proofs.Tryz
set_option maxRecDepth 100000
set_option maxHeartbeats 8000000
def kU (B:List UInt8) (k:Nat):List UInt8:=(B.drop (20 * k)).take 17
theorem uN {B:List UInt8} (h:B.length=64) (k:Nat) (a:k < 2):(kU B k).length=17:=by simp[kU,h];omega
theorem Ad {B:List UInt8} (h:B.length=64) (k:Nat) (a:k < 2):kU B k=slotL B k++[oW B k]:=by
 unfold kU slotL oW;rw[Tz (by rw[JF];omega),List.getElem_drop,qj,fD om];rfl
theorem zx (T:List UInt8) (a:Nat):qB ((T.drop a).take 4) 0 4=qB T a 4:=by
 have e:∀i,i < 4->((T.drop a).take 4).getD (0+i) 0=T.getD (a+i) 0:=fun i f=>by
  rw[fE,qj,qj,kG,aj f,JE]
 simp only[qB];rw[e 0 om,e 1 om,e 2 om,e 3 om]
theorem Eh (L:List UInt8) (v:UInt8) (a:Nat) (h:a+4<=L.length):qB (L++[v]) a 4=qB L a 4:=by
 have e:∀i,i < 4->(L++[v]).getD (a+i) 0=L.getD (a+i) 0:=fun i f=>by
  rw[qj,qj,qW om]
 simp only[qB];rw[e 0 om,e 1 om,e 2 om,e 3 om]
theorem afh {B:List UInt8} (h:B.length=64) (k:Nat) (a:k < 2):aX B k=⟨qB (kU B k) 0 4,qB (kU B k) 4 4,qB (kU B k) 8 4⟩:=by
 have e:=yS h k a;unfold aX Ip;rw[Ad h k a,Eh _ _ _ om,Eh _ _ _ om,Eh _ _ _ om]
theorem Bo (T:List UInt8) (a b:Nat):(stB T).extract a b=stB ((T.drop a).take (b - a)):=by
 apply jB;apply Ci;simp[stB,ByteArray.data_extract]
theorem afi {B:List UInt8} (h:B.length=64) (k:Nat) (f:k < 2):bC B k=((stB (img (aX B k)++[165])).toList==(stB (kU B k)).toList && decide (1<=(aX B k).n) && (aX B k).n % 2==k):=by
 have e:((stB (img (aX B k)++[165])).toList==(stB (kU B k)).toList)=(oW B k==165 && slotL B k==img (aX B k)):=by
  have i:∀L:List UInt8,(stB L).toList=L:=fun L=>by rw[af5];rfl
  rw[i,i,Ad h k f,acf,xI,JG,xI,xI];constructor
  ·intro j;have:=List.append_inj j (by rw[eG,yS h k f]);exact⟨by simpa using this.2.symm,this.1.symm⟩
  ·rintro⟨a,b⟩;rw[a,<- b]
 rw[e];rfl
theorem afj {B:List UInt8} (k:Nat) (l:k < 2):aW B (k+1)=if bC B k=true/\¬(aX B k).n < (aW B k).n then aX B k else aW B k:=by
 rw[aW];by_cases a:bC B k=true
 ·have m:=oO a;have i:(aW B k).n≠(aX B k).n:=by
   have e:k=0\/k=1:=by omega
   rcases e with rfl | rfl
   ·show(0:Nat)≠_;omega
   ·have j:=oO (B:=B) (k:=0);rw[aW];split
    ·rename_i h;have:=j h.1;omega
    ·show(0:Nat)≠_;omega
  by_cases f:(aW B k).n < (aX B k).n
  ·rw[aj ⟨a,f⟩,aj ⟨a,by omega⟩]
  ·rw[ak (fun h=>f h.2),ak (fun h=>f (by have:=h.2;omega))]
 ·rw[ak (fun h=>a h.1),ak (fun h=>a h.1)]
end Go.Proofs.YtnogmjekhjldcaaGreatDoor
